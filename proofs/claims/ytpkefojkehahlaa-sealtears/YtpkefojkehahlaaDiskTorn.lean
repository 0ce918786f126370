/-
  The document's Torn.
-/
import Derived.Test.YtpkefojkehahlaaLibSec
namespace Go.Proofs.Ytpkefojkehahlaa
set_option linter.unusedVariables false
set_option linter.unusedSimpArgs false
open Go.RowKit

def clamp (n m : Int) : Int := max 0 (min n m)

theorem clamp_range (n m : Int) (h : 0 ≤ m) : 0 ≤ clamp n m ∧ clamp n m ≤ m := by unfold clamp; omega

theorem lay_zero (old new : List UInt8) : lay old new 0 = old := by simp [lay]

theorem lay_set {old new : List UInt8} (ho : old.length = 128) (hn : new.length = 128) (i : Nat) (hi : i < 128) : (lay old new i).set i (new[i]'(by omega)) = lay old new (i + 1) := by
  unfold lay
  rw [List.set_append_right _ _ (by rw [List.length_take]; omega), List.length_take, Nat.min_eq_left (by omega), Nat.sub_self]
  rw [List.take_succ_eq_append_getElem (by omega), List.append_assoc]
  congr 1
  rw [List.drop_eq_getElem_cons (show i < old.length by omega)]
  rfl

structure TornAt (w wr : World) (old new : List UInt8) (k : Nat) : Prop where
  a : wr.heap[w.heap.size]? = some (.cells ((lay old new k).map bv).toArray 27 (0, 0))
  b : wr.heap[w.heap.size + 1]? = some (.cells (new.map bv).toArray 27 (0, 0))
  c : wr.heap[w.heap.size + 2]? = some (.cells (z128.map bv).toArray 27 (0, 0))
  fr : Nw w wr

theorem torn_start (w : World) (old new : List UInt8) : TornAt w (((w.alloc (.cells (old.map bv).toArray 27)).alloc (.cells (new.map bv).toArray 27)).alloc (.cells (z128.map bv).toArray 27)) old new 0 := by
  have h2 : ((w.alloc (.cells (old.map bv).toArray 27)).alloc (.cells (new.map bv).toArray 27)).heap.size = w.heap.size + 2 := by simp
  refine ⟨?_, ?_, ?_, (((Fr.refl _ w).alloc _).alloc _).alloc _⟩
  · rw [lay_zero, Below.heap_alloc _ _ _ (by omega)]; exact heap_alloc2_old w _ _
  · rw [Below.heap_alloc _ _ _ (by omega)]; exact heap_alloc2_new w _ _
  · have := heap_alloc_new ((w.alloc (.cells (old.map bv).toArray 27)).alloc (.cells (new.map bv).toArray 27)) (.cells (z128.map bv).toArray 27)
    rwa [h2] at this

set_option maxRecDepth 20000 in
set_option maxHeartbeats 1600000 in
theorem c_torn (old new : List UInt8) (cut : Int) (w : World) (ho : old.length = 128) (hn : new.length = 128) :
    Calls Try.prog 14 #[sec old, sec new, .int .i64 cut] w fun e w' => e = .returned (sec (lay old new (clamp cut 128).toNat)) ∧ Nw w w' := by
  have hs := torn_start w old new
  have hal3 : Try.prog.arrayLen 27 = 128 := by kernel_rfl
  obtain ⟨c, hc, hc8⟩ : ∃ c : Nat, clamp cut 128 = (c : Int) ∧ c ≤ 128 := ⟨(clamp cut 128).toNat, by have := clamp_range cut 128 (by omega); omega, by have := clamp_range cut 128 (by omega); omega⟩
  have hcl : ∀ i : Nat, i < 128 → ((i : Int) < cut ↔ i < c) := fun i hi => by unfold clamp at hc; omega
  rw [hc, Int.toNat_natCast]
  clear hc
  have hz1 : (w.alloc (.cells (old.map bv).toArray 27)).heap.size = w.heap.size + 1 := by simp
  have hz2 : ((w.alloc (.cells (old.map bv).toArray 27)).alloc (.cells (new.map bv).toArray 27)).heap.size = w.heap.size + 2 := by simp
  generalize hW : ((w.alloc (.cells (old.map bv).toArray 27)).alloc (.cells (new.map bv).toArray 27)).alloc (.cells (z128.map bv).toArray 27) = W at *
  have hW : Hid (((w.alloc (.cells (old.map bv).toArray 27)).alloc (.cells (new.map bv).toArray 27)).alloc (.cells (z128.map bv).toArray 27) = W) := hW
  go_enter Try.func14, Try.ntmps14
  go_wp2_with (first
    | (refine wpList_box_agg rfl 27 (.tmp 0) rfl (sec old) _ rfl rfl ?_)
    | (refine wpList_box_agg rfl 27 (.tmp 1) rfl (sec new) _ rfl rfl ?_; rw [hz1])
    | (refine wpList_alloc_agg rfl 27 rfl _ Try.zeroS ?_; rw [hz2, hW.out]))
  go_loopw [7] (fun i wr => ∃ k : Nat, k ≤ 128 ∧ i = .int .i64 k ∧ TornAt w wr old new (min k c)) (fun i _ => 128 - (intOf i).toNat)
  case atStart => exact ⟨0, by omega, rfl, by rw [Nat.zero_min]; exact hs⟩
  case round =>
    obtain ⟨k, hk, rfl, ht⟩ := hrel
    clear hs hW hz1 hz2
    by_cases hlt : k < 128
    · have hkI : (k : Int) < 128 := by omega
      have hll : (lay old new (min k c)).length = 128 := lay_length ho hn (by omega)
      by_cases hkc : k < c
      · have hcI : (k : Int) < cut := (hcl k hlt).2 hkc
        have e1 : min k c = k := by omega
        have e2 : min (k + 1) c = k + 1 := by omega
        rw [e1] at ht hll
        have hc1 : wr.cell? ⟨w.heap.size + 1, k, none⟩ = some (bv (new[k]'(by omega))) := cell_blk ht.b (by simp [hn, hlt])
        have hc0 : wr.cell? ⟨w.heap.size, k, none⟩ = some (bv ((lay old new k)[k]'(by omega))) := cell_blk ht.a (by simp [hll, hlt])
        have hf0 : wr.frozen? ⟨w.heap.size, k, none⟩ = false := free_blk ht.a
        have hnx : TornAt w (wr.setCell ⟨w.heap.size, k, none⟩ (bv (new[k]'(by omega)))) old new (min (k + 1) c) := by
          rw [e2]
          refine ⟨?_, ?_, ?_, ht.fr.setCell (p := ⟨w.heap.size, k, none⟩) (.inr (Nat.le_refl _)) _⟩
          · rw [blk_setCell ht.a, ← lay_set ho hn k hlt]; simp
          · rw [Below.heap_setCell _ _ _ _ (by simp)]; exact ht.b
          · rw [Below.heap_setCell _ _ _ _ (by simp)]; exact ht.c
        unfold bv at hc1 hc0 hnx
        generalize new[k]'(by omega) = y at *
        generalize (lay old new k)[k]'(by omega) = x at *
        clear ht e1 e2
        go_wp2
        go_roundw
        case rel => exact ⟨k + 1, by omega, by go_num, hnx⟩
        case measure => simp [intOf]; omega
      · have hcI : ¬ (k : Int) < cut := fun h => hkc ((hcl k hlt).1 h)
        have e1 : min k c = min (k + 1) c := by omega
        rw [e1] at ht
        clear e1
        go_wp2
        go_roundw
        case rel => exact ⟨k + 1, by omega, by go_num, ht⟩
        case measure => simp [intOf]; omega
    · have e1 : min k c = c := by omega
      rw [e1] at ht
      clear e1
      have hll : (lay old new c).length = 128 := lay_length ho hn hc8
      have hr := range_all ht.a
      have hres := ht.c
      have hfin : Nw w (wr.setRow (w.heap.size + 2) ((lay old new c).map bv).toArray) := ht.fr.setRow (.inr (by omega)) _
      have hrow := range_all (setRow_heap wr (w.heap.size + 2) _ ((lay old new c).map bv).toArray 27 _ hres)
      clear ht hcl
      generalize hL : lay old new c = L at *
      have hL : Hid (lay old new c = L) := hL
      go_wp2_with (first
        | (refine wpList_load_as rfl 27 _ rfl w.heap.size 0 rfl (sec L) _ rfl hr Try.rowS (sizeS hll) ?_)
        | (refine wpList_store_all rfl 27 _ _ rfl (w.heap.size + 2) rfl (sec L) rfl _ rfl _ 27 hres (sec_fit hll) (bv_oneCell _) (sizeS hll) ?_))
      refine bodyPost_ret (results_cell1 rfl _ (w.heap.size + 2) _ _ rfl rfl hrow Try.rowS (sizeS hll)) rfl ?_
      exact ⟨by rw [hL.out]; rfl, hfin⟩
end Go.Proofs.Ytpkefojkehahlaa
