/-
  The disk's Flush and Pending.
-/
import Derived.Test.YtmhojkbnfiknpaaW4
namespace Go.Proofs.Ytmhojkbnfiknpaa
set_option linter.unusedVariables false
set_option linter.unusedSimpArgs false
open Go.RowKit

/-- Writes laid onto sectors, in order. -/
def applied (st : List (List UInt8)) (pd : List (Nat × List UInt8)) : List (List UInt8) := pd.foldl (fun st p => st.set p.1 p.2) st

theorem applied_length (st : List (List UInt8)) (pd : List (Nat × List UInt8)) : (applied st pd).length = st.length := by
  unfold applied
  induction pd generalizing st with
  | nil => rfl
  | cons p l ih => rw [List.foldl_cons, ih, List.length_set]

theorem applied_sec {st : List (List UInt8)} {pd : List (Nat × List UInt8)} (h : ∀ s ∈ st, s.length = 128) (hp : ∀ p ∈ pd, p.2.length = 128) : ∀ s ∈ applied st pd, s.length = 128 := by
  unfold applied
  induction pd generalizing st with
  | nil => exact h
  | cons p l ih =>
    rw [List.foldl_cons]
    refine ih (fun s hs => ?_) (fun q hq => hp q (List.mem_cons_of_mem _ hq))
    rcases List.mem_or_eq_of_mem_set hs with h1 | rfl
    · exact h s h1
    · exact hp p List.mem_cons_self

theorem applied_take_succ (st : List (List UInt8)) (pd : List (Nat × List UInt8)) (k : Nat) (h : k < pd.length) : applied st (pd.take (k + 1)) = (applied st (pd.take k)).set pd[k].1 pd[k].2 := by
  unfold applied
  rw [List.take_succ_eq_append_getElem h, List.foldl_append]; rfl

def Dk.flush (D : Dk) : Dk := if D.out then D.spend else { D.spend with st := applied D.st D.pd, pd := [] }
def Dk.ferr (D : Dk) : Int := if D.out then 42 else 0

/-- Other sectors in the disk's row. -/
theorem DiskG.setSt {base : Nat} {w : World} {b g : Nat} {vp : Value} {D : Dk} (h : DiskG base w b g vp D) (st' : List (List UInt8)) (hl : st'.length = D.st.length) (hs : ∀ s ∈ st', s.length = 128) :
    DiskG base (w.setRow g (flat st').toArray) b g vp { D with st := st' } := by
  have hf : Fr (fun k => k = g) w (w.setRow g (flat st').toArray) := (Fr.refl (fun k => k = g) w).setRow (.inl rfl) _
  refine ⟨?_, setRow_heap w g _ _ 33 _ h.st, ?_, h.nbg, h.nb, h.ng, h.bb, h.bg, ⟨hs, ?_, ?_, h.ok.lo, h.ok.hi⟩⟩
  · rw [hf.block b (heap_lt h.obj) h.nbg]
    show _ = some (Obj.cells #[.slice (some ⟨g, 0, none⟩) st'.length st'.length, _, _, _] 66 (0, 0))
    rw [hl]; exact h.obj
  · exact owns_of_block h.pd (fun k e => hf.block k (h.pd.lt k e).2 (fun e' => by subst e'; exact h.ng e))
  · intro p hp
    show p.1 < st'.length ∧ _
    rw [hl]; exact h.ok.wr p hp
  · show st'.length ≤ 1024
    rw [hl]; exact h.ok.n

/-- No write pending any more. -/
theorem DiskG.clearP {base : Nat} {w : World} {b g : Nat} {vp : Value} {D : Dk} (h : DiskG base w b g vp D) : DiskG base (w.setCell ⟨b, 1, none⟩ (.slice none 0 0)) b g (.slice none 0 0) { D with pd := [] } := by
  have hf : Fr (fun k => k = b) w (w.setCell ⟨b, 1, none⟩ (.slice none 0 0)) := (Fr.refl (fun k => k = b) w).setCell (p := ⟨b, 1, none⟩) (.inl rfl) _
  refine ⟨?_, ?_, World.ownsRow_nil _ _ _ _, h.nbg, by simp [Value.ownBlock], by simp [Value.ownBlock], h.bb, h.bg, ⟨h.ok.sec, fun p hp => by simp at hp, h.ok.n, h.ok.lo, h.ok.hi⟩⟩
  · rw [blk_setCell h.obj]; rfl
  · rw [hf.block g (heap_lt h.st) (fun e => h.nbg e.symm)]; exact h.st

theorem own_nil {b g : Nat} {vp : Value} : ∀ k, Own b g (.slice none 0 0) k → Own b g vp k := by
  rintro k (rfl | rfl | h)
  · exact .inl rfl
  · exact .inr (.inl rfl)
  · simp [Value.ownBlock] at h

/-- A variable that holds a write, in a new block. -/
structure VarW (w w' : World) (p : Nat × List UInt8) (t : TypeId) : Prop where
  blk : w'.heap[w.heap.size]? = some (.cells (wcell p).toArray t (0, 0))
  fr : Fr (fun _ => False) w w'

theorem varW (w : World) (C : Array Value) (p : Nat × List UInt8) (t : TypeId) : VarW w ((w.alloc (.cells C t)).setRow w.heap.size (wcell p).toArray) p t :=
  ⟨setRow_heap _ _ _ _ t _ (heap_alloc_new w _), ((Fr.refl _ w).alloc _).setRow (.inr (Nat.le_refl _)) _⟩

theorem VarW.at {w w' : World} {p : Nat × List UInt8} {t : TypeId} (h : VarW w w' p t) : w'.cell? ⟨w.heap.size, 0, none⟩ = some (.int .i64 (p.1 : Int)) ∧ w'.rangeAt w.heap.size 1 (p.2.map bv) := by
  have hr := range_all h.blk
  refine ⟨hr 0 _ rfl, fun j v hv => ?_⟩
  have := hr (j + 1) v (by simpa [wcell] using hv)
  rwa [show 0 + (j + 1) = 1 + j by omega] at this

set_option maxRecDepth 100000 in
theorem Try.zero72 : (Try.prog.info? 72).bind (·.zero) = some (.agg (wcell (0, z128)).toArray) := by kernel_rfl
theorem size72 {p : Nat × List UInt8} (h : p.2.length = 128) : (Try.prog.info? 72).map (·.size) = some (wcell p).length := by rw [wcell_length h]; exact Try.size72
theorem wr_fit {p : Nat × List UInt8} (h : p.2.length = 128) : (wcell p).length = (wcell (0, z128)).length := by rw [wcell_length h, wcell_length z128_length]

set_option maxHeartbeats 1600000 in
theorem c_flush {base : Nat} {b : Nat} {S : Nat → Prop} {D : Dk} (w : World) (h : DiskAt base w b S D) :
    Calls Try.prog 23 #[.pointer (some ⟨b, 0, none⟩)] w fun e w' => e = .returned (.int .i64 D.ferr) ∧ Done base w b S D.flush w' := by
  obtain ⟨g, vp, h, hS⟩ := h
  by_cases ho : D.out = true
  · have e1 : D.ferr = 42 := by unfold Dk.ferr; simp [ho]
    have e2 : D.flush = D.spend := by unfold Dk.flush; simp [ho]
    rw [e1, e2]
    clear e1 e2
    go_enter Try.func23, Try.ntmps23
    go_wp2_with (go_at_call 32; refine (c_spend _ h).mono ?_; rw [ho]; rintro e w2 ⟨rfl, h2, hf2⟩)
    go_ret
    exact ⟨rfl, done_same hS h2 hf2⟩
  · have ho : D.out = false := by simpa using ho
    have e1 : D.ferr = 0 := by unfold Dk.ferr; simp [ho]
    have e2 : D.flush = { D.spend with st := applied D.spend.st D.spend.pd, pd := [] } := by unfold Dk.flush; simp [ho, spend_st D]
    rw [e1, e2]
    clear e1 e2
    go_enter Try.func23, Try.ntmps23
    go_wp2_with (first
      | (go_at_call 32; refine (c_spend _ h).mono ?_; rw [ho]; rintro e w2 ⟨rfl, h2, hf2⟩; generalize hE : D.spend = E at *; have hE : Hid (D.spend = E) := hE; obtain ⟨ao, cap, rfl, hc, hmx, hpd⟩ := h2.pend; obtain ⟨k0, k1, -, -, kf⟩ := h2.cells; have hmx : cap ≤ 9223372036854775807 := hmx))
    clear k0 k1 kf
    go_loopw [16] (fun i wr => ∃ k : Nat, k ≤ E.pd.length ∧ i = .int .i64 k ∧ DiskG base wr b g (.slice ao E.pd.length cap) { E with st := applied E.st (E.pd.take k) } ∧ Fr (Own b g (.slice ao E.pd.length cap)) w2 wr) (fun i _ => E.pd.length - (intOf i).toNat)
    case atStart => exact ⟨0, Nat.zero_le _, rfl, h2, Fr.refl _ _⟩
    case round =>
      obtain ⟨k, hk, rfl, hG, hfr⟩ := hrel
      by_cases hlt : k < E.pd.length
      · obtain ⟨q, rfl, -, -, -, hq4, hq5⟩ := hpd k hlt
        have hrow : wr.rangeAt q (k * 129) (wcell E.pd[k]) := by
          obtain ⟨ao', cap', e, -, -, hp⟩ := hG.pend
          obtain ⟨q', e', hr, -⟩ := hp k hlt
          simp only [Value.slice.injEq] at e
          obtain ⟨e1, -, -⟩ := e
          rw [← e1] at e'
          simp only [Option.some.injEq, Addr.mk.injEq, and_true] at e'
          rw [e']; exact hr
        have H1 : Hid (applied E.st (E.pd.take (k + 1)) = (applied E.st (E.pd.take k)).set E.pd[k].1 E.pd[k].2) := applied_take_succ _ _ _ hlt
        have hsl : (applied E.st (E.pd.take k)).length = E.st.length := applied_length _ _
        generalize hA : applied E.st (E.pd.take k) = A at *
        generalize hp : E.pd[k] = p at *
        clear hpd
        have hin : A.length ≤ 1024 := by have := h2.ok.n; omega
        have hpl : p.1 < A.length := by omega
        have hsec : ∀ s ∈ A, s.length = 128 := hG.ok.sec
        go_wp2_with (first
          | (refine wpList_load_as rfl 72 _ rfl q (k * 129) rfl (wrv p) _ rfl hrow Try.row72 (size72 hq4) ?_)
          | (refine wpList_alloc_agg rfl 72 rfl _ Try.zero72 ?_)
          | (refine wpList_store_all rfl 72 _ _ rfl wr.heap.size rfl (wrv p) rfl _ rfl _ 72 (heap_alloc_new wr _) (wr_fit hq4) (wcell_oneCell _) (size72 hq4) ?_))
        have hv := varW wr (wcell (0, z128)).toArray p 72
        generalize (wr.alloc (.cells (wcell (0, z128)).toArray 72)).setRow wr.heap.size (wcell p).toArray = W at *
        have hGW := hG.keep hv.fr (fun _ _ => id)
        obtain ⟨hv1, hv2⟩ := hv.at
        obtain ⟨c0, -, -, -, -⟩ := hGW.cells
        have hS0 : (fun w' : World => w'.cell? ⟨b, 0, none⟩ = some (.slice (some ⟨g, 0, none⟩) A.length A.length) ∧ w'.cell? ⟨wr.heap.size, 0, none⟩ = some (.int .i64 (p.1 : Int)) ∧ w'.rangeAt wr.heap.size 1 (p.2.map bv)) W.drew :=
          ⟨by rw [World.cell?_drew]; exact c0, by rw [World.cell?_drew]; exact hv1, (World.rangeAt_drew ..).2 hv2⟩
        refine wp_region_ord [] 9 [(0, true), (1, true), (2, true), (3, true), (4, true), (5, true), (6, true), (7, true), (8, true)] (fun w' : World => w'.cell? ⟨b, 0, none⟩ = some (.slice (some ⟨g, 0, none⟩) A.length A.length) ∧ w'.cell? ⟨wr.heap.size, 0, none⟩ = some (.int .i64 (p.1 : Int)) ∧ w'.rangeAt wr.heap.size 1 (p.2.map bv)) (by kernel_rfl) (by kernel_rfl) ?_
        refine ord_quietL _ ?_ rfl hS0 rfl ?_ ?_
        rotate_left
        · rintro w' ⟨hS1, hS2, hS3⟩; go_simp; rfl
        simp only [Act.put, List.setIfInBounds_toArray, List.set_cons_zero, List.set_cons_succ]
        refine ord_quietL _ ?_ rfl hS0 rfl ?_ ?_
        rotate_left
        · rintro w' ⟨hS1, hS2, hS3⟩; go_simp; rfl
        simp only [Act.put, List.setIfInBounds_toArray, List.set_cons_zero, List.set_cons_succ]
        refine ord_quietL _ ?_ rfl hS0 rfl ?_ ?_
        rotate_left
        · rintro w' ⟨hS1, hS2, hS3⟩; go_simp; rfl
        simp only [Act.put, List.setIfInBounds_toArray, List.set_cons_zero, List.set_cons_succ]
        refine ord_quietL _ ?_ rfl hS0 rfl ?_ ?_
        rotate_left
        · rintro w' ⟨hS1, hS2, hS3⟩; go_simp; rfl
        simp only [Act.put, List.setIfInBounds_toArray, List.set_cons_zero, List.set_cons_succ]
        refine ord_quietL _ ?_ rfl hS0 rfl ?_ ?_
        rotate_left
        · rintro w' ⟨hS1, hS2, hS3⟩; go_simp; rfl
        simp only [Act.put, List.setIfInBounds_toArray, List.set_cons_zero, List.set_cons_succ]
        refine ord_quietL _ ?_ rfl hS0 rfl ?_ ?_
        rotate_left
        · rintro w' ⟨hS1, hS2, hS3⟩; go_simp; rfl
        simp only [Act.put, List.setIfInBounds_toArray, List.set_cons_zero, List.set_cons_succ]
        refine ord_quietL _ ?_ rfl hS0 rfl ?_ ?_
        rotate_left
        · rintro w' ⟨hS1, hS2, hS3⟩; go_simp; rfl
        simp only [Act.put, List.setIfInBounds_toArray, List.set_cons_zero, List.set_cons_succ]
        refine ord_quietL _ (sec p.2) rfl hS0 rfl ?_ ?_
        · rintro w' ⟨hS1, hS2, hS3⟩
          exact run_load_quiet 33 _ w' rfl wr.heap.size 1 rfl _ hS3 Try.row33 (size33 hq4)
        simp only [Act.put, List.setIfInBounds_toArray, List.set_cons_zero, List.set_cons_succ]
        refine ord_quietL _ ?_ rfl hS0 rfl ?_ ?_
        rotate_left
        · rintro w' ⟨hS1, hS2, hS3⟩; go_simp; rfl
        simp only [Act.put, List.setIfInBounds_toArray, List.set_cons_zero, List.set_cons_succ]
        refine ord_tail ?_
        simp only [List.drop_succ_cons, List.drop_zero]
        have hGd : DiskG base W.drew b g (.slice (some ⟨q, 0, none⟩) E.pd.length cap) { E with st := A } := ⟨hGW.obj, hGW.st, hGW.pd.drew, hGW.nbg, hGW.nb, hGW.ng, hGW.bb, hGW.bg, hGW.ok⟩
        have hfd : Fr (Own b g (.slice (some ⟨q, 0, none⟩) E.pd.length cap)) w2 W.drew := (hfr.trans (hv.fr.mono (fun _ => False.elim)) (fun _ hk => .inl hk)).drew
        have hfin := hGd.setSt (A.set p.1 p.2) (by simp) (fun s hs => by
          rcases List.mem_or_eq_of_mem_set hs with h1 | rfl
          · exact hsec s h1
          · exact hq4)
        have hfin2 := hfd.setRow (.inl (.inr (.inl rfl))) (flat (A.set p.1 p.2)).toArray
        refine wpList_store_as rfl 33 _ _ rfl g (p.1 * 128) rfl (sec p.2) rfl _ rfl _ 33 hGd.st (by show p.1 * 128 + (p.2.map bv).length ≤ (flat A).length; rw [List.length_map, hq4, flat_length hsec]; omega) (bv_oneCell _) (size33 hq4) ?_
        rw [show splice (flat A) (p.1 * 128) (p.2.map bv) = flat (A.set p.1 p.2) from flat_set hsec p.1 hpl p.2 hq4]
        clear hS0 hGd hfd hGW hv hv1 hv2 c0 hrow hsec hG hfr h2 hf2 h hS
        generalize W.drew.setRow g (flat (A.set p.1 p.2)).toArray = W9 at *
        go_wp2
        go_roundw
        case rel => exact ⟨k + 1, by omega, by go_num, by rw [H1.out]; exact hfin, hfin2⟩
        case measure => simp [intOf]; omega
      · have htk : E.pd.take k = E.pd := List.take_of_length_le (by omega)
        rw [htk] at hG
        have hfin := hG.clearP
        have hff : Fr (Own b g (.slice ao E.pd.length cap)) w (wr.setCell ⟨b, 1, none⟩ (.slice none 0 0)) := (hf2.trans hfr (fun _ hk => .inl hk)).setCell (p := ⟨b, 1, none⟩) (.inl (.inl rfl)) _
        have hdone : Done base w b S { E with st := applied E.st E.pd, pd := [] } (wr.setCell ⟨b, 1, none⟩ (.slice none 0 0)) :=
          ⟨_, diskAt_of hfin, hff.mono (fun k hk => (hS k).2 hk), fun k hk => .inl ((hS k).2 (own_nil k hk))⟩
        obtain ⟨-, c1, -, -, cf⟩ := hG.cells
        have cf1 := cf 1
        clear hpd hG hfr h2 hf2 h hfin hff cf
        go_wp2
        go_ret
        exact ⟨rfl, by rw [hE.out]; exact hdone⟩

/-- A number as a cell. -/
def iv (n : Nat) : Value := .int .i64 (n : Int)

/-- The row of numbers, k of them filled in. -/
def partRow (l : List Nat) (k : Nat) : List Value := (l.take k).map iv ++ List.replicate (l.length - k) (Value.int .i64 0)

theorem partRow_set (l : List Nat) (k : Nat) (hk : k < l.length) : (partRow l k).set k (iv l[k]) = partRow l (k + 1) := by
  unfold partRow
  have e : l.length - k = (l.length - (k + 1)) + 1 := by omega
  rw [e, List.replicate_succ, List.set_append_right _ _ (by rw [List.length_map, List.length_take]; omega), List.take_succ_eq_append_getElem hk, List.map_append, List.length_map, List.length_take, Nat.min_eq_left (Nat.le_of_lt hk)]
  simp

theorem partRow_all (l : List Nat) : partRow l l.length = l.map iv := by simp [partRow]
theorem partRow_length (l : List Nat) (k : Nat) (h : k ≤ l.length) : (partRow l k).length = l.length := by simp [partRow]; omega

theorem info3 : ∃ i, Try.prog.info? 3 = some i ∧ i.zero = some (.int .i64 0) ∧ i.size = 1 ∧ i.bytes = 8 := by
  have : (Try.prog.info? 3).map (fun i => (i.zero, i.size, i.bytes)) = some (some (.int .i64 0), 1, 8) := by kernel_rfl
  cases hq : Try.prog.info? 3 with
  | none => rw [hq] at this; cases this
  | some i => rw [hq] at this; exact ⟨i, rfl, by simpa using this⟩

set_option maxHeartbeats 1600000 in
theorem c_pending {base : Nat} {b : Nat} {S : Nat → Prop} {D : Dk} (w : World) (h : DiskAt base w b S D) (hpl : D.pd.length ≤ 1000000) :
    Calls Try.prog 18 #[.pointer (some ⟨b, 0, none⟩)] w fun e w' => e = .returned (.slice (some ⟨w.heap.size, 0, none⟩) D.pd.length D.pd.length) ∧
      w'.heap[w.heap.size]? = some (.cells ((D.pd.map (·.1)).map iv).toArray 3 (0, 0)) ∧ Nw w w' := by
  obtain ⟨g, vp, h, hS⟩ := h
  obtain ⟨i0, hi, hiz, his, hib⟩ := info3
  have hmk : ∀ w : World, (Instr.makeSlice 47 (.int .i64 (D.pd.length : Int)) (.int .i64 (D.pd.length : Int))).run Try.prog w = .ok (.slice (some ⟨w.heap.size, 0, none⟩) D.pd.length D.pd.length) (w.alloc (.cells (partRow (D.pd.map (·.1)) 0).toArray 3)) := fun w => by
    have hr := run_make (P := Try.prog) w 47 3 i0 (.int .i64 0) Try.underlying47 hi hiz .i64 .i64 (D.pd.length : Int) (D.pd.length : Int) (by omega) (by omega) (by rw [hib]; omega) (by omega)
    have e : madeCells (Value.int .i64 0).cells (D.pd.length * 1) = (partRow (D.pd.map (·.1)) 0).toArray := by
      apply Array.toList_inj.1
      rw [show (Value.int .i64 0).cells = #[Value.int .i64 0] from rfl, toList_madeCells_one]
      simp [partRow]
    rw [his, Int.toNat_natCast, e] at hr
    exact hr
  clear hi hiz his hib
  obtain ⟨ao, cap, rfl, hc, hmx, hpd⟩ := h.pend
  have hmx : cap ≤ 9223372036854775807 := hmx
  have hN : w.heap.size ≠ b := fun e => by have := heap_lt h.obj; omega
  obtain ⟨k0, k1, -, -, kf⟩ := h.cells
  have hbl := heap_lt h.obj
  have k1' : ∀ o, (w.alloc o).cell? ⟨b, 1, none⟩ = some (.slice ao D.pd.length cap) := fun o => by rw [World.cell?_alloc_lt _ _ _ hbl]; exact k1
  go_enter Try.func18, Try.ntmps18
  go_wp2
  go_loopw [17] (fun i wr => ∃ k : Nat, k ≤ D.pd.length ∧ i = .int .i64 k ∧ wr.heap[w.heap.size]? = some (.cells (partRow (D.pd.map (·.1)) k).toArray 3 (0, 0)) ∧ Fr (fun _ => False) w wr) (fun i _ => D.pd.length - (intOf i).toNat)
  case atStart => exact ⟨0, Nat.zero_le _, rfl, heap_alloc_new w _, (Fr.refl _ w).alloc _⟩
  case round =>
    obtain ⟨k, hk, rfl, hrow, hfr⟩ := hrel
    clear hmk k1' k0 k1 kf
    by_cases hlt : k < D.pd.length
    · obtain ⟨q, rfl, hq1, -, -, hq4, hq5⟩ := hpd k hlt
      have hql : q < w.heap.size := (h.own_ge q (.inr (.inr rfl))).2
      have hrow2 : wr.rangeAt q (k * 129) (wcell D.pd[k]) := fun j v hv => (World.cell?_of_block (w := w) (a := ⟨q, k * 129 + j, none⟩) (hfr.block q hql id)).trans (hq1 j v hv)
      have H0 : (partRow (D.pd.map (·.1)) k).set k (.int .i64 ((D.pd[k].1 : Nat) : Int)) = partRow (D.pd.map (·.1)) (k + 1) := by
        have := partRow_set (D.pd.map (·.1)) k (by simpa using hlt)
        simpa [iv] using this
      have H1 : Hid ((partRow (D.pd.map (·.1)) k).set k (.int .i64 ((D.pd[k].1 : Nat) : Int)) = partRow (D.pd.map (·.1)) (k + 1)) := H0
      clear H0
      have hrl : (partRow (D.pd.map (·.1)) k).length = D.pd.length := by rw [partRow_length _ _ (by simpa using hk)]; simp
      generalize hp : D.pd[k] = p at *
      generalize partRow (D.pd.map (·.1)) k = R at *
      obtain ⟨R1, hR1⟩ : ∃ R1, R1 = partRow (D.pd.map (·.1)) (k + 1) := ⟨_, rfl⟩
      rw [← hR1] at H1
      have hR1 : Hid (R1 = partRow (D.pd.map (·.1)) (k + 1)) := hR1
      clear hpd hq1 hp
      have hNr := heap_lt hrow
      have hv := varW wr (wcell (0, z128)).toArray p 72
      generalize hWv : (wr.alloc (.cells (wcell (0, z128)).toArray 72)).setRow wr.heap.size (wcell p).toArray = W at *
      have hWv : Hid ((wr.alloc (.cells (wcell (0, z128)).toArray 72)).setRow wr.heap.size (wcell p).toArray = W) := hWv
      obtain ⟨hv1, -⟩ := hv.at
      have hrW : W.heap[w.heap.size]? = some (.cells R.toArray 3 (0, 0)) := by rw [hv.fr.block _ hNr id]; exact hrow
      have hc1 : W.cell? ⟨w.heap.size, k, none⟩ = some (R[k]'(by omega)) := cell_blk hrW (by simp)
      have hz1 : W.frozen? ⟨w.heap.size, k, none⟩ = false := free_blk hrW
      have hkI : (k : Int) < (D.pd.length : Int) := by omega
      generalize R[k]'(by omega) = rk at *
      have hfin : (W.setCell ⟨w.heap.size, k, none⟩ (.int .i64 (p.1 : Int))).heap[w.heap.size]? = some (.cells R1.toArray 3 (0, 0)) := by
        rw [blk_setCell hrW, ← H1.out]; simp
      have hfin2 : Fr (fun _ => False) w (W.setCell ⟨w.heap.size, k, none⟩ (.int .i64 (p.1 : Int))) := (hfr.trans hv.fr (fun _ => False.elim)).setCell (p := ⟨w.heap.size, k, none⟩) (.inr (Nat.le_refl _)) _
      clear h hS hrow hfr hv hrW
      go_wp2_with (first
        | (refine wpList_load_as rfl 72 _ rfl q (k * 129) rfl (wrv p) _ rfl hrow2 Try.row72 (size72 hq4) ?_)
        | (refine wpList_alloc_agg rfl 72 rfl _ Try.zero72 ?_)
        | (refine wpList_store_all rfl 72 _ _ rfl wr.heap.size rfl (wrv p) rfl _ rfl _ 72 (heap_alloc_new wr _) (wr_fit hq4) (wcell_oneCell _) (size72 hq4) ?_; rw [hWv.out]))
      go_roundw
      case rel => exact ⟨k + 1, by omega, by go_num, by rw [← hR1.out]; exact hfin, hfin2⟩
      case measure => simp [intOf]; omega
    · have hkn : k = (D.pd.map (·.1)).length := by simp; omega
      have hrow' : wr.heap[w.heap.size]? = some (.cells ((D.pd.map (·.1)).map iv).toArray 3 (0, 0)) := by
        rw [hrow, hkn, partRow_all]
      have hrow' : Hid (wr.heap[w.heap.size]? = some (.cells ((D.pd.map (·.1)).map iv).toArray 3 (0, 0))) := hrow'
      clear hrow hpd h hkn
      go_wp2
      go_ret
      exact ⟨rfl, hrow'.out, hfr⟩
end Go.Proofs.Ytmhojkbnfiknpaa
