/-
  The document's disk: Torn, New, Read.
-/
import Derived.Test.YtmhojkbnfiknpaaR2
namespace Go.Proofs.Ytmhojkbnfiknpaa
set_option linter.unusedVariables false
set_option linter.unusedSimpArgs false
open Go.RowKit

theorem lay_zero (old new : List UInt8) : lay old new 0 = old := by simp [lay]

theorem lay_set {old new : List UInt8} (ho : old.length = 128) (hn : new.length = 128) (i : Nat) (hi : i < 128) : (lay old new i).set i (new[i]'(by omega)) = lay old new (i + 1) := by
  unfold lay
  rw [List.set_append_right _ _ (by rw [List.length_take]; omega), List.length_take, Nat.min_eq_left (by omega), Nat.sub_self]
  rw [List.take_succ_eq_append_getElem (by omega), List.append_assoc]
  congr 1
  rw [List.drop_eq_getElem_cons (show i < old.length by omega)]
  rfl

structure TornAt (w wr : World) (old new : List UInt8) (k : Nat) : Prop where
  a : wr.heap[w.heap.size]? = some (.cells ((lay old new k).map bv).toArray 33 (0, 0))
  b : wr.heap[w.heap.size + 1]? = some (.cells (new.map bv).toArray 33 (0, 0))
  c : wr.heap[w.heap.size + 2]? = some (.cells (z128.map bv).toArray 33 (0, 0))
  fr : Nw w wr

theorem torn_start (w : World) (old new : List UInt8) : TornAt w (((w.alloc (.cells (old.map bv).toArray 33)).alloc (.cells (new.map bv).toArray 33)).alloc (.cells (z128.map bv).toArray 33)) old new 0 := by
  have h2 : ((w.alloc (.cells (old.map bv).toArray 33)).alloc (.cells (new.map bv).toArray 33)).heap.size = w.heap.size + 2 := by simp
  refine ⟨?_, ?_, ?_, (((Fr.refl _ w).alloc _).alloc _).alloc _⟩
  · rw [lay_zero, Below.heap_alloc _ _ _ (by omega)]; exact heap_alloc2_old w _ _
  · rw [Below.heap_alloc _ _ _ (by omega)]; exact heap_alloc2_new w _ _
  · have := heap_alloc_new ((w.alloc (.cells (old.map bv).toArray 33)).alloc (.cells (new.map bv).toArray 33)) (.cells (z128.map bv).toArray 33)
    rwa [h2] at this

set_option maxRecDepth 20000 in
set_option maxHeartbeats 1600000 in
theorem c_torn (old new : List UInt8) (cut : Int) (w : World) (ho : old.length = 128) (hn : new.length = 128) :
    Calls Try.prog 30 #[sec old, sec new, .int .i64 cut] w fun e w' => e = .returned (sec (lay old new (clamp cut 128).toNat)) ∧ Nw w w' := by
  have hs := torn_start w old new
  have hal3 : Try.prog.arrayLen 33 = 128 := by kernel_rfl
  obtain ⟨c, hc, hc8⟩ : ∃ c : Nat, clamp cut 128 = (c : Int) ∧ c ≤ 128 := ⟨(clamp cut 128).toNat, by have := clamp_range cut 128 (by omega); omega, by have := clamp_range cut 128 (by omega); omega⟩
  have hcl : ∀ i : Nat, i < 128 → ((i : Int) < cut ↔ i < c) := fun i hi => by unfold clamp at hc; omega
  rw [hc, Int.toNat_natCast]
  clear hc
  have hz1 : (w.alloc (.cells (old.map bv).toArray 33)).heap.size = w.heap.size + 1 := by simp
  have hz2 : ((w.alloc (.cells (old.map bv).toArray 33)).alloc (.cells (new.map bv).toArray 33)).heap.size = w.heap.size + 2 := by simp
  generalize hW : ((w.alloc (.cells (old.map bv).toArray 33)).alloc (.cells (new.map bv).toArray 33)).alloc (.cells (z128.map bv).toArray 33) = W at *
  have hW : Hid (((w.alloc (.cells (old.map bv).toArray 33)).alloc (.cells (new.map bv).toArray 33)).alloc (.cells (z128.map bv).toArray 33) = W) := hW
  go_enter Try.func30, Try.ntmps30
  go_wp2_with (first
    | (refine wpList_box_agg rfl 33 (.tmp 0) rfl (sec old) _ rfl rfl ?_)
    | (refine wpList_box_agg rfl 33 (.tmp 1) rfl (sec new) _ rfl rfl ?_; rw [hz1])
    | (refine wpList_alloc_agg rfl 33 rfl _ Try.zero33 ?_; rw [hz2, hW.out]))
  go_loopw [7] (fun i wr => ∃ k : Nat, k ≤ 128 ∧ i = .int .i64 k ∧ TornAt w wr old new (min k c)) (fun i _ => 128 - (intOf i).toNat)
  case atStart => exact ⟨0, by omega, rfl, by rw [Nat.zero_min]; exact hs⟩
  case round =>
    obtain ⟨k, hk, rfl, ht⟩ := hrel
    clear hs hW hz1 hz2
    by_cases hlt : k < 128
    · have hkI : (k : Int) < 128 := by omega
      have hll : (lay old new (min k c)).length = 128 := lay_length ho hn (by omega)
      by_cases hkc : k < c
      · have hcI : (k : Int) < cut := (hcl k hlt).2 hkc
        have e1 : min k c = k := by omega
        have e2 : min (k + 1) c = k + 1 := by omega
        rw [e1] at ht hll
        have hc1 : wr.cell? ⟨w.heap.size + 1, k, none⟩ = some (bv (new[k]'(by omega))) := cell_blk ht.b (by simp [hn, hlt])
        have hc0 : wr.cell? ⟨w.heap.size, k, none⟩ = some (bv ((lay old new k)[k]'(by omega))) := cell_blk ht.a (by simp [hll, hlt])
        have hf0 : wr.frozen? ⟨w.heap.size, k, none⟩ = false := free_blk ht.a
        have hnx : TornAt w (wr.setCell ⟨w.heap.size, k, none⟩ (bv (new[k]'(by omega)))) old new (min (k + 1) c) := by
          rw [e2]
          refine ⟨?_, ?_, ?_, ht.fr.setCell (p := ⟨w.heap.size, k, none⟩) (.inr (Nat.le_refl _)) _⟩
          · rw [blk_setCell ht.a, ← lay_set ho hn k hlt]; simp
          · rw [Below.heap_setCell _ _ _ _ (by simp)]; exact ht.b
          · rw [Below.heap_setCell _ _ _ _ (by simp)]; exact ht.c
        unfold bv at hc1 hc0 hnx
        generalize new[k]'(by omega) = y at *
        generalize (lay old new k)[k]'(by omega) = x at *
        clear ht e1 e2
        go_wp2
        go_roundw
        case rel => exact ⟨k + 1, by omega, by go_num, hnx⟩
        case measure => simp [intOf]; omega
      · have hcI : ¬ (k : Int) < cut := fun h => hkc ((hcl k hlt).1 h)
        have e1 : min k c = min (k + 1) c := by omega
        rw [e1] at ht
        clear e1
        go_wp2
        go_roundw
        case rel => exact ⟨k + 1, by omega, by go_num, ht⟩
        case measure => simp [intOf]; omega
    · have e1 : min k c = c := by omega
      rw [e1] at ht
      clear e1
      have hll : (lay old new c).length = 128 := lay_length ho hn hc8
      have hr := range_all ht.a
      have hres := ht.c
      have hfin : Nw w (wr.setRow (w.heap.size + 2) ((lay old new c).map bv).toArray) := ht.fr.setRow (.inr (by omega)) _
      have hrow := range_all (setRow_heap wr (w.heap.size + 2) _ ((lay old new c).map bv).toArray 33 _ hres)
      clear ht hcl
      generalize hL : lay old new c = L at *
      have hL : Hid (lay old new c = L) := hL
      go_wp2_with (first
        | (refine wpList_load_as rfl 33 _ rfl w.heap.size 0 rfl (sec L) _ rfl hr Try.row33 (size33 hll) ?_)
        | (refine wpList_store_all rfl 33 _ _ rfl (w.heap.size + 2) rfl (sec L) rfl _ rfl _ 33 hres (sec_fit hll) (bv_oneCell _) (size33 hll) ?_))
      refine bodyPost_ret (results_cell1 rfl _ (w.heap.size + 2) _ _ rfl rfl hrow Try.row33 (size33 hll)) rfl ?_
      exact ⟨by rw [hL.out]; rfl, hfin⟩

/-! ### New -/
theorem info33 : ∃ i, Try.prog.info? 33 = some i ∧ i.zero = some (sec z128) ∧ i.size = 128 ∧ i.bytes = 128 := by
  have := Try.info33
  cases hq : Try.prog.info? 33 with
  | none => rw [hq] at this; cases this
  | some i => rw [hq] at this; exact ⟨i, rfl, by simpa using this⟩

set_option maxHeartbeats 1600000 in
theorem c_rnew (n : Int) (w : World) : Calls Try.prog 11 #[.int .i64 n] w fun e w' => ∃ vs vp, e = .returned (rval vs vp (newDk n)) ∧ RefG (fun b => w.heap.size ≤ b) w' vs vp (newDk n) ∧ Nw w w' := by
  obtain ⟨i0, hi, hiz, his, hib⟩ := info33
  obtain ⟨z, hz⟩ : ∃ z : Int, z = clamp n 1024 := ⟨_, rfl⟩
  have hzr := clamp_range n 1024 (by omega)
  rw [← hz] at hzr
  have hst : (newDk n).st = List.replicate z.toNat z128 := by simp [newDk, hz]
  have hmk : ∀ w : World, (Instr.makeSlice 27 (.int .i64 z) (.int .i64 z)).run Try.prog w = .ok (.slice (some ⟨w.heap.size, 0, none⟩) z.toNat z.toNat) (w.alloc (.cells (flat (List.replicate z.toNat z128)).toArray 33)) := fun w => by
    have hr := run_make (P := Try.prog) w 27 33 i0 (sec z128) Try.underlying27 hi hiz .i64 .i64 z z (by omega) (by omega) (by rw [hib]; omega) (by omega)
    rw [his, made_flat] at hr
    exact hr
  clear hi hiz his hib
  have hW1 := heap_alloc_new w (.cells #[.slice none 0 0, .slice none 0 0, .int .i64 0, .bool false] 30)
  have hres : ((w.alloc (.cells #[.slice none 0 0, .slice none 0 0, .int .i64 0, .bool false] 30)).alloc (.cells (flat (List.replicate z.toNat z128)).toArray 33)).heap[w.heap.size]? = some (.cells #[.slice none 0 0, .slice none 0 0, .int .i64 0, .bool false] 30 (0, 0)) := heap_alloc2_old w _ _
  have hrow : ((w.alloc (.cells #[.slice none 0 0, .slice none 0 0, .int .i64 0, .bool false] 30)).alloc (.cells (flat (List.replicate z.toNat z128)).toArray 33)).heap[w.heap.size + 1]? = some (.cells (flat (List.replicate z.toNat z128)).toArray 33 (0, 0)) := heap_alloc2_new w _ _
  have hfr : Nw w ((w.alloc (.cells #[.slice none 0 0, .slice none 0 0, .int .i64 0, .bool false] 30)).alloc (.cells (flat (List.replicate z.toNat z128)).toArray 33)) := ((Fr.refl _ w).alloc _).alloc _
  have hz1 : (w.alloc (.cells #[.slice none 0 0, .slice none 0 0, .int .i64 0, .bool false] 30)).heap.size = w.heap.size + 1 := by simp
  have hmk1 := hmk (w.alloc (.cells #[.slice none 0 0, .slice none 0 0, .int .i64 0, .bool false] 30))
  rw [hz1] at hmk1
  clear hmk
  generalize hWa : w.alloc (.cells #[.slice none 0 0, .slice none 0 0, .int .i64 0, .bool false] 30) = Wa at *
  have hWa : Hid (w.alloc (.cells #[.slice none 0 0, .slice none 0 0, .int .i64 0, .bool false] 30) = Wa) := hWa
  generalize Wa.alloc (.cells (flat (List.replicate z.toNat z128)).toArray 33) = Wb at *
  have hlen : (newDk n).st.length = z.toNat := by rw [hst, List.length_replicate]
  have hfin : Nw w (Wb.setRow w.heap.size (rcells (.slice (some ⟨w.heap.size + 1, 0, none⟩) z.toNat z.toNat) (.slice none 0 0) (newDk n)).toArray) := hfr.setRow (.inr (Nat.le_refl _)) _
  have hrr := range_all (setRow_heap Wb w.heap.size _ (rcells (.slice (some ⟨w.heap.size + 1, 0, none⟩) z.toNat z.toNat) (.slice none 0 0) (newDk n)).toArray 30 _ hres)
  have hG : RefG (fun b => w.heap.size ≤ b) (Wb.setRow w.heap.size (rcells (.slice (some ⟨w.heap.size + 1, 0, none⟩) z.toNat z.toNat) (.slice none 0 0) (newDk n)).toArray) (.slice (some ⟨w.heap.size + 1, 0, none⟩) z.toNat z.toNat) (.slice none 0 0) (newDk n) := by
    refine ⟨?_, ⟨none, 0, rfl, ⟨Nat.le_refl _, Nat.zero_le _⟩, fun _ => rfl, fun i c h => by simp [newDk, pcells] at h⟩, newDk_ok n⟩
    rw [hlen, hst]
    refine ⟨_, z.toNat, rfl, ⟨Nat.le_refl _, by unfold maxLen; omega⟩, fun h => by simp at h, fun i c hc => ⟨w.heap.size + 1, 0, rfl, by omega, ?_⟩⟩
    rw [Nat.zero_add]
    refine cell_blk (cs := (flat (List.replicate z.toNat z128)).toArray) (t := 33) (fr := (0, 0)) ?_ (by simpa using hc)
    rw [setRow_other _ _ _ _ (by omega)]; exact hrow
  have hone : ∀ u ∈ rcells (.slice (some ⟨w.heap.size + 1, 0, none⟩) z.toNat z.toNat) (.slice none 0 0) (newDk n), u.oneCell' = true := r_oneCell
  have hval : rval (.slice (some ⟨w.heap.size + 1, 0, none⟩) z.toNat z.toNat) (.slice none 0 0) (newDk n) = .agg #[.slice (some ⟨w.heap.size + 1, 0, none⟩) z.toNat z.toNat, .slice none 0 0, .int .i64 (-1), .bool false] := rfl
  have hval : Hid (rval (.slice (some ⟨w.heap.size + 1, 0, none⟩) z.toNat z.toNat) (.slice none 0 0) (newDk n) = .agg #[.slice (some ⟨w.heap.size + 1, 0, none⟩) z.toNat z.toNat, .slice none 0 0, .int .i64 (-1), .bool false]) := hval
  generalize newDk n = D at *
  clear hst hlen hfr hrow hW1
  have hfinish : ∀ (V : Nat), V = z.toNat → True := fun _ _ => trivial
  clear hfinish
  by_cases hn0 : n < 0
  · have e : z = 0 := by rw [hz]; unfold clamp; omega
    subst e
    clear hz
    go_enter Try.func11, Try.ntmps11
    go_wp2_with (first
      | (refine wpList_alloc_agg rfl 30 rfl _ Try.zero30 ?_; rw [hWa.out])
      | (refine wpList_store_all rfl 30 _ _ rfl w.heap.size rfl _ hval.out.symm _ rfl _ 30 hres res_fit hone Try.size30 ?_))
    refine bodyPost_ret (results_cell1 rfl _ w.heap.size _ _ rfl rfl hrr Try.row30 Try.size30) rfl ?_
    exact ⟨_, _, rfl, hG, hfin⟩
  · by_cases hn1 : 1024 < n
    · have e : z = 1024 := by rw [hz]; unfold clamp; omega
      subst e
      clear hz
      go_enter Try.func11, Try.ntmps11
      go_wp2_with (first
        | (refine wpList_alloc_agg rfl 30 rfl _ Try.zero30 ?_; rw [hWa.out])
        | (refine wpList_store_all rfl 30 _ _ rfl w.heap.size rfl _ hval.out.symm _ rfl _ 30 hres res_fit hone Try.size30 ?_))
      refine bodyPost_ret (results_cell1 rfl _ w.heap.size _ _ rfl rfl hrr Try.row30 Try.size30) rfl ?_
      exact ⟨_, _, rfl, hG, hfin⟩
    · have e : z = n := by rw [hz]; unfold clamp; omega
      subst e
      clear hz
      go_enter Try.func11, Try.ntmps11
      go_wp2_with (first
        | (refine wpList_alloc_agg rfl 30 rfl _ Try.zero30 ?_; rw [hWa.out])
        | (refine wpList_store_all rfl 30 _ _ rfl w.heap.size rfl _ hval.out.symm _ rfl _ 30 hres res_fit hone Try.size30 ?_))
      refine bodyPost_ret (results_cell1 rfl _ w.heap.size _ _ rfl rfl hrr Try.row30 Try.size30) rfl ?_
      exact ⟨_, _, rfl, hG, hfin⟩
end Go.Proofs.Ytmhojkbnfiknpaa
