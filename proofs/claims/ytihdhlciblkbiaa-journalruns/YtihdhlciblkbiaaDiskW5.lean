/-
  The disk's Flush and Pending.
-/
import Derived.Test.YtihdhlciblkbiaaDiskW4
namespace Go.Proofs.Ytihdhlciblkbiaa
set_option linter.unusedVariables false
set_option linter.unusedSimpArgs false
set_option maxRecDepth 20000
open Go.RowKit

/-- Writes laid onto sectors, in order. -/
def applied (st : List (List UInt8)) (pd : List (Nat × List UInt8)) : List (List UInt8) := pd.foldl (fun st p => st.set p.1 p.2) st

theorem applied_length (st : List (List UInt8)) (pd : List (Nat × List UInt8)) : (applied st pd).length = st.length := by
  unfold applied
  induction pd generalizing st with
  | nil => rfl
  | cons p l ih => rw [List.foldl_cons, ih, List.length_set]

theorem applied_sec {st : List (List UInt8)} {pd : List (Nat × List UInt8)} (h : ∀ s ∈ st, s.length = 128) (hp : ∀ p ∈ pd, p.2.length = 128) : ∀ s ∈ applied st pd, s.length = 128 := by
  unfold applied
  induction pd generalizing st with
  | nil => exact h
  | cons p l ih =>
    rw [List.foldl_cons]
    refine ih (fun s hs => ?_) (fun q hq => hp q (List.mem_cons_of_mem _ hq))
    rcases List.mem_or_eq_of_mem_set hs with h1 | rfl
    · exact h s h1
    · exact hp p List.mem_cons_self

theorem applied_take_succ (st : List (List UInt8)) (pd : List (Nat × List UInt8)) (k : Nat) (h : k < pd.length) : applied st (pd.take (k + 1)) = (applied st (pd.take k)).set pd[k].1 pd[k].2 := by
  unfold applied
  rw [List.take_succ_eq_append_getElem h, List.foldl_append]; rfl

def Dk.flush (D : Dk) : Dk := if D.out then D.spend else { D.spend with st := applied D.st D.pd, pd := [] }
def Dk.ferr (D : Dk) : Int := if D.out then 42 else 0

/-- Other sectors in the disk's row. -/
theorem DiskG.setSt {base : Nat} {w : World} {b g : Nat} {vp : Value} {D : Dk} (h : DiskG base w b g vp D) (st' : List (List UInt8)) (hl : st'.length = D.st.length) (hs : ∀ s ∈ st', s.length = 128) :
    DiskG base (w.setRow g (flat st').toArray) b g vp { D with st := st' } := by
  have hf : Fr (fun k => k = g) w (w.setRow g (flat st').toArray) := (Fr.refl (fun k => k = g) w).setRow (.inl rfl) _
  refine ⟨?_, setRow_heap w g _ _ 55 _ h.st, ?_, h.nbg, h.nb, h.ng, h.bb, h.bg, ⟨hs, ?_, ?_, h.ok.lo, h.ok.hi⟩⟩
  · rw [hf.block b (heap_lt h.obj) h.nbg]
    show _ = some (Obj.cells #[.slice (some ⟨g, 0, none⟩) st'.length st'.length, _, _, _] 67 (0, 0))
    rw [hl]; exact h.obj
  · exact owns_of_block h.pd (fun k e => hf.block k (h.pd.lt k e).2 (fun e' => by subst e'; exact h.ng e))
  · intro p hp
    show p.1 < st'.length ∧ _
    rw [hl]; exact h.ok.wr p hp
  · show st'.length ≤ 1024
    rw [hl]; exact h.ok.n

/-- No write pending any more. -/
theorem DiskG.clearP {base : Nat} {w : World} {b g : Nat} {vp : Value} {D : Dk} (h : DiskG base w b g vp D) : DiskG base (w.setCell ⟨b, 1, none⟩ (.slice none 0 0)) b g (.slice none 0 0) { D with pd := [] } := by
  have hf : Fr (fun k => k = b) w (w.setCell ⟨b, 1, none⟩ (.slice none 0 0)) := (Fr.refl (fun k => k = b) w).setCell (p := ⟨b, 1, none⟩) (.inl rfl) _
  refine ⟨?_, ?_, World.ownsRow_nil _ _ _ _, h.nbg, by simp [Value.ownBlock], by simp [Value.ownBlock], h.bb, h.bg, ⟨h.ok.sec, fun p hp => by simp at hp, h.ok.n, h.ok.lo, h.ok.hi⟩⟩
  · rw [blk_setCell h.obj]; rfl
  · rw [hf.block g (heap_lt h.st) (fun e => h.nbg e.symm)]; exact h.st

theorem own_nil {b g : Nat} {vp : Value} : ∀ k, Own b g (.slice none 0 0) k → Own b g vp k := by
  rintro k (rfl | rfl | h)
  · exact .inl rfl
  · exact .inr (.inl rfl)
  · simp [Value.ownBlock] at h

/-- A variable that holds a write, in a new block. -/
structure VarW (w w' : World) (p : Nat × List UInt8) (t : TypeId) : Prop where
  blk : w'.heap[w.heap.size]? = some (.cells (wcell p).toArray t (0, 0))
  fr : Fr (fun _ => False) w w'

theorem varW (w : World) (C : Array Value) (p : Nat × List UInt8) (t : TypeId) : VarW w ((w.alloc (.cells C t)).setRow w.heap.size (wcell p).toArray) p t :=
  ⟨setRow_heap _ _ _ _ t _ (heap_alloc_new w _), ((Fr.refl _ w).alloc _).setRow (.inr (Nat.le_refl _)) _⟩

theorem VarW.at {w w' : World} {p : Nat × List UInt8} {t : TypeId} (h : VarW w w' p t) : w'.cell? ⟨w.heap.size, 0, none⟩ = some (.int .i64 (p.1 : Int)) ∧ w'.rangeAt w.heap.size 1 (p.2.map bv) := by
  have hr := range_all h.blk
  refine ⟨hr 0 _ rfl, fun j v hv => ?_⟩
  have := hr (j + 1) v (by simpa [wcell] using hv)
  rwa [show 0 + (j + 1) = 1 + j by omega] at this

set_option maxRecDepth 100000 in
theorem Try.zero86 : (Try.prog.info? 86).bind (·.zero) = some (.agg (wcell (0, z128)).toArray) := by kernel_rfl
theorem size86 {p : Nat × List UInt8} (h : p.2.length = 128) : (Try.prog.info? 86).map (·.size) = some (wcell p).length := by rw [wcell_length h]; exact Try.size86
theorem wr_fit {p : Nat × List UInt8} (h : p.2.length = 128) : (wcell p).length = (wcell (0, z128)).length := by rw [wcell_length h, wcell_length z128_length]

set_option maxHeartbeats 1600000 in
theorem c_flush {base : Nat} {b : Nat} {S : Nat → Prop} {D : Dk} (w : World) (h : DiskAt base w b S D) :
    Calls Try.prog 27 #[.pointer (some ⟨b, 0, none⟩)] w fun e w' => e = .returned (.int .i64 D.ferr) ∧ Done base w b S D.flush w' := by
  obtain ⟨g, vp, h, hS⟩ := h
  by_cases ho : D.out = true
  · have e1 : D.ferr = 42 := by unfold Dk.ferr; simp [ho]
    have e2 : D.flush = D.spend := by unfold Dk.flush; simp [ho]
    rw [e1, e2]
    clear e1 e2
    go_enter Try.func27, Try.ntmps27
    go_wp2_with (go_at_call 44; refine (c_spend _ h).mono ?_; rw [ho]; rintro e w2 ⟨rfl, h2, hf2⟩)
    go_ret
    exact ⟨rfl, done_same hS h2 hf2⟩
  · have ho : D.out = false := by simpa using ho
    have e1 : D.ferr = 0 := by unfold Dk.ferr; simp [ho]
    have e2 : D.flush = { D.spend with st := applied D.spend.st D.spend.pd, pd := [] } := by unfold Dk.flush; simp [ho, spend_st D]
    rw [e1, e2]
    clear e1 e2
    go_enter Try.func27, Try.ntmps27
    go_wp2_with (first
      | (go_at_call 44; refine (c_spend _ h).mono ?_; rw [ho]; rintro e w2 ⟨rfl, h2, hf2⟩; generalize hE : D.spend = E at *; have hE : Hid (D.spend = E) := hE; obtain ⟨ao, cap, rfl, hc, hmx, hpd⟩ := h2.pend; obtain ⟨k0, k1, -, -, kf⟩ := h2.cells; have hmx : cap ≤ 9223372036854775807 := hmx))
    clear k0 k1 kf
    go_loopw [16] (fun i wr => ∃ k : Nat, k ≤ E.pd.length ∧ i = .int .i64 k ∧ DiskG base wr b g (.slice ao E.pd.length cap) { E with st := applied E.st (E.pd.take k) } ∧ Fr (Own b g (.slice ao E.pd.length cap)) w2 wr) (fun i _ => E.pd.length - (intOf i).toNat)
    case atStart => exact ⟨0, Nat.zero_le _, rfl, h2, Fr.refl _ _⟩
    case round =>
      obtain ⟨k, hk, rfl, hG, hfr⟩ := hrel
      by_cases hlt : k < E.pd.length
      · obtain ⟨q, rfl, -, -, -, hq4, hq5⟩ := hpd k hlt
        have hrow : wr.rangeAt q (k * 129) (wcell E.pd[k]) := by
          obtain ⟨ao', cap', e, -, -, hp⟩ := hG.pend
          obtain ⟨q', e', hr, -⟩ := hp k hlt
          simp only [Value.slice.injEq] at e
          obtain ⟨e1, -, -⟩ := e
          rw [← e1] at e'
          simp only [Option.some.injEq, Addr.mk.injEq, and_true] at e'
          rw [e']; exact hr
        have H1 : Hid (applied E.st (E.pd.take (k + 1)) = (applied E.st (E.pd.take k)).set E.pd[k].1 E.pd[k].2) := applied_take_succ _ _ _ hlt
        have hsl : (applied E.st (E.pd.take k)).length = E.st.length := applied_length _ _
        generalize hA : applied E.st (E.pd.take k) = A at *
        generalize hp : E.pd[k] = p at *
        clear hpd
        have hin : A.length ≤ 1024 := by have := h2.ok.n; omega
        have hpl : p.1 < A.length := by omega
        have hsec : ∀ s ∈ A, s.length = 128 := hG.ok.sec
        go_wp2_with (first
          | (refine wpList_load_as rfl 86 _ rfl q (k * 129) rfl (wrv p) _ rfl hrow Try.row86 (size86 hq4) ?_)
          | (refine wpList_alloc_agg rfl 86 rfl _ Try.zero86 ?_)
          | (refine wpList_store_all rfl 86 _ _ rfl wr.heap.size rfl (wrv p) rfl _ rfl _ 86 (heap_alloc_new wr _) (wr_fit hq4) (wcell_oneCell _) (size86 hq4) ?_))
        have hv := varW wr (wcell (0, z128)).toArray p 86
        generalize (wr.alloc (.cells (wcell (0, z128)).toArray 86)).setRow wr.heap.size (wcell p).toArray = W at *
        have hGW := hG.keep hv.fr (fun _ _ => id)
        obtain ⟨hv1, hv2⟩ := hv.at
        obtain ⟨c0, -, -, -, -⟩ := hGW.cells
        have hS0 : (fun w' : World => w'.cell? ⟨b, 0, none⟩ = some (.slice (some ⟨g, 0, none⟩) A.length A.length) ∧ w'.cell? ⟨wr.heap.size, 0, none⟩ = some (.int .i64 (p.1 : Int)) ∧ w'.rangeAt wr.heap.size 1 (p.2.map bv)) W.drew :=
          ⟨by rw [World.cell?_drew]; exact c0, by rw [World.cell?_drew]; exact hv1, (World.rangeAt_drew ..).2 hv2⟩
        refine wp_region_ord [] 9 [(0, true), (1, true), (2, true), (3, true), (4, true), (5, true), (6, true), (7, true), (8, true)] (fun w' : World => w'.cell? ⟨b, 0, none⟩ = some (.slice (some ⟨g, 0, none⟩) A.length A.length) ∧ w'.cell? ⟨wr.heap.size, 0, none⟩ = some (.int .i64 (p.1 : Int)) ∧ w'.rangeAt wr.heap.size 1 (p.2.map bv)) (by kernel_rfl) (by kernel_rfl) ?_
        refine ord_quietL _ ?_ rfl hS0 rfl ?_ ?_
        rotate_left
        · rintro w' ⟨hS1, hS2, hS3⟩; go_simp; rfl
        simp only [Act.put, List.setIfInBounds_toArray, List.set_cons_zero, List.set_cons_succ]
        refine ord_quietL _ ?_ rfl hS0 rfl ?_ ?_
        rotate_left
        · rintro w' ⟨hS1, hS2, hS3⟩; go_simp; rfl
        simp only [Act.put, List.setIfInBounds_toArray, List.set_cons_zero, List.set_cons_succ]
        refine ord_quietL _ ?_ rfl hS0 rfl ?_ ?_
        rotate_left
        · rintro w' ⟨hS1, hS2, hS3⟩; go_simp; rfl
        simp only [Act.put, List.setIfInBounds_toArray, List.set_cons_zero, List.set_cons_succ]
        refine ord_quietL _ ?_ rfl hS0 rfl ?_ ?_
        rotate_left
        · rintro w' ⟨hS1, hS2, hS3⟩; go_simp; rfl
        simp only [Act.put, List.setIfInBounds_toArray, List.set_cons_zero, List.set_cons_succ]
        refine ord_quietL _ ?_ rfl hS0 rfl ?_ ?_
        rotate_left
        · rintro w' ⟨hS1, hS2, hS3⟩; go_simp; rfl
        simp only [Act.put, List.setIfInBounds_toArray, List.set_cons_zero, List.set_cons_succ]
        refine ord_quietL _ ?_ rfl hS0 rfl ?_ ?_
        rotate_left
        · rintro w' ⟨hS1, hS2, hS3⟩; go_simp; rfl
        simp only [Act.put, List.setIfInBounds_toArray, List.set_cons_zero, List.set_cons_succ]
        refine ord_quietL _ ?_ rfl hS0 rfl ?_ ?_
        rotate_left
        · rintro w' ⟨hS1, hS2, hS3⟩; go_simp; rfl
        simp only [Act.put, List.setIfInBounds_toArray, List.set_cons_zero, List.set_cons_succ]
        refine ord_quietL _ (sec p.2) rfl hS0 rfl ?_ ?_
        · rintro w' ⟨hS1, hS2, hS3⟩
          exact run_load_quiet 55 _ w' rfl wr.heap.size 1 rfl _ hS3 Try.rowS (sizeS hq4)
        simp only [Act.put, List.setIfInBounds_toArray, List.set_cons_zero, List.set_cons_succ]
        refine ord_quietL _ ?_ rfl hS0 rfl ?_ ?_
        rotate_left
        · rintro w' ⟨hS1, hS2, hS3⟩; go_simp; rfl
        simp only [Act.put, List.setIfInBounds_toArray, List.set_cons_zero, List.set_cons_succ]
        refine ord_tail ?_
        simp only [List.drop_succ_cons, List.drop_zero]
        have hGd : DiskG base W.drew b g (.slice (some ⟨q, 0, none⟩) E.pd.length cap) { E with st := A } := ⟨hGW.obj, hGW.st, hGW.pd.drew, hGW.nbg, hGW.nb, hGW.ng, hGW.bb, hGW.bg, hGW.ok⟩
        have hfd : Fr (Own b g (.slice (some ⟨q, 0, none⟩) E.pd.length cap)) w2 W.drew := (hfr.trans (hv.fr.mono (fun _ => False.elim)) (fun _ hk => .inl hk)).drew
        have hfin := hGd.setSt (A.set p.1 p.2) (by simp) (fun s hs => by
          rcases List.mem_or_eq_of_mem_set hs with h1 | rfl
          · exact hsec s h1
          · exact hq4)
        have hfin2 := hfd.setRow (.inl (.inr (.inl rfl))) (flat (A.set p.1 p.2)).toArray
        refine wpList_store_as rfl 55 _ _ rfl g (p.1 * 128) rfl (sec p.2) rfl _ rfl _ 55 hGd.st (by show p.1 * 128 + (p.2.map bv).length ≤ (flat A).length; rw [List.length_map, hq4, flat_length hsec]; omega) (bv_oneCell _) (sizeS hq4) ?_
        rw [show splice (flat A) (p.1 * 128) (p.2.map bv) = flat (A.set p.1 p.2) from flat_set hsec p.1 hpl p.2 hq4]
        clear hS0 hGd hfd hGW hv hv1 hv2 c0 hrow hsec hG hfr h2 hf2 h hS
        generalize W.drew.setRow g (flat (A.set p.1 p.2)).toArray = W9 at *
        go_wp2
        go_roundw
        case rel => exact ⟨k + 1, by omega, by go_num, by rw [H1.out]; exact hfin, hfin2⟩
        case measure => simp [intOf]; omega
      · have htk : E.pd.take k = E.pd := List.take_of_length_le (by omega)
        rw [htk] at hG
        have hfin := hG.clearP
        have hff : Fr (Own b g (.slice ao E.pd.length cap)) w (wr.setCell ⟨b, 1, none⟩ (.slice none 0 0)) := (hf2.trans hfr (fun _ hk => .inl hk)).setCell (p := ⟨b, 1, none⟩) (.inl (.inl rfl)) _
        have hdone : Done base w b S { E with st := applied E.st E.pd, pd := [] } (wr.setCell ⟨b, 1, none⟩ (.slice none 0 0)) :=
          ⟨_, diskAt_of hfin, hff.mono (fun k hk => (hS k).2 hk), fun k hk => .inl ((hS k).2 (own_nil k hk))⟩
        obtain ⟨-, c1, -, -, cf⟩ := hG.cells
        have cf1 := cf 1
        clear hpd hG hfr h2 hf2 h hfin hff cf
        go_wp2
        go_ret
        exact ⟨rfl, by rw [hE.out]; exact hdone⟩

/-- A number as a cell. -/
def iv (n : Nat) : Value := .int .i64 (n : Int)

/-- The row of numbers, k of them filled in. -/
def partRow (l : List Nat) (k : Nat) : List Value := (l.take k).map iv ++ List.replicate (l.length - k) (Value.int .i64 0)

theorem partRow_set (l : List Nat) (k : Nat) (hk : k < l.length) : (partRow l k).set k (iv l[k]) = partRow l (k + 1) := by
  unfold partRow
  have e : l.length - k = (l.length - (k + 1)) + 1 := by omega
  rw [e, List.replicate_succ, List.set_append_right _ _ (by rw [List.length_map, List.length_take]; omega), List.take_succ_eq_append_getElem hk, List.map_append, List.length_map, List.length_take, Nat.min_eq_left (Nat.le_of_lt hk)]
  simp

theorem partRow_all (l : List Nat) : partRow l l.length = l.map iv := by simp [partRow]
theorem partRow_length (l : List Nat) (k : Nat) (h : k ≤ l.length) : (partRow l k).length = l.length := by simp [partRow]; omega

theorem info3 : ∃ i, Try.prog.info? 3 = some i ∧ i.zero = some (.int .i64 0) ∧ i.size = 1 ∧ i.bytes = 8 := by
  have : (Try.prog.info? 3).map (fun i => (i.zero, i.size, i.bytes)) = some (some (.int .i64 0), 1, 8) := by kernel_rfl
  cases hq : Try.prog.info? 3 with
  | none => rw [hq] at this; cases this
  | some i => rw [hq] at this; exact ⟨i, rfl, by simpa using this⟩

end Go.Proofs.Ytihdhlciblkbiaa
