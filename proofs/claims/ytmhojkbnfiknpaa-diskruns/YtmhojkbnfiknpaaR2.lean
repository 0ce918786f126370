/-
  The document's disk: power, New, Break, At, Torn.
-/
import Derived.Test.YtmhojkbnfiknpaaR1
namespace Go.Proofs.Ytmhojkbnfiknpaa
set_option linter.unusedVariables false
set_option linter.unusedSimpArgs false
open Go.RowKit

theorem res_fit {vs vp : Value} {D : Dk} : (rcells vs vp D).length = [Value.slice none 0 0, Value.slice none 0 0, Value.int .i64 0, Value.bool false].length := rfl

set_option maxHeartbeats 1600000 in
theorem c_power {X : Nat → Prop} {vs vp : Value} {D : Dk} (w : World) (h : RefG X w vs vp D) :
    Calls Try.prog 29 #[rval vs vp D] w fun e w' => e = .returned (.tuple #[rval vs vp D.spend, .bool (!D.out)]) ∧ Nw w w' := by
  obtain ⟨so, sc, po, pc, rfl, rfl, -, -, -, -⟩ := h.form
  have hone := r_oneCell (so := so) (po := po) (n := D.st.length) (m := D.pd.length) (sc := sc) (pc := pc) (D := D.spend)
  have lo := h.ok.lo
  have hi := h.ok.hi
  generalize hvs : Value.slice so D.st.length sc = vs at *
  generalize hvp : Value.slice po D.pd.length pc = vp at *
  have hT := two w vs vp D
  generalize hW : (w.alloc (.cells (rcells vs vp D).toArray 30)).alloc (.cells #[.slice none 0 0, .slice none 0 0, .int .i64 0, .bool false] 30) = W at *
  have hW : Hid ((w.alloc (.cells (rcells vs vp D).toArray 30)).alloc (.cells #[.slice none 0 0, .slice none 0 0, .int .i64 0, .bool false] 30) = W) := hW
  obtain ⟨-, -, c2, c3, cf, -⟩ := r_cells hT.var
  have cf2 := cf 2
  have cf3 := cf 3
  have hres := hT.res
  have hvar := hT.var
  have hfr := hT.fr
  have hsz := hT.size
  clear cf hT h hvs hvp
  by_cases ho : D.out = true
  · have hsp := Dk.spend_out ho
    have hv1 : (W.setCell ⟨w.heap.size, 3, none⟩ (.bool true)).heap[w.heap.size]? = some (.cells (rcells vs vp D.spend).toArray 30 (0, 0)) := r_set hvar 3 _ (by rw [hsp]; rfl)
    have hr1 : (W.setCell ⟨w.heap.size, 3, none⟩ (.bool true)).heap[w.heap.size + 1]? = some (.cells #[.slice none 0 0, .slice none 0 0, .int .i64 0, .bool false] 30 (0, 0)) := by rw [Below.heap_setCell _ _ _ _ (by simp)]; exact hres
    have hf1 : Nw w (W.setCell ⟨w.heap.size, 3, none⟩ (.bool true)) := hfr.setCell (p := ⟨w.heap.size, 3, none⟩) (.inr (Nat.le_refl _)) _
    have hr := range_all hv1
    generalize hW1 : W.setCell ⟨w.heap.size, 3, none⟩ (.bool true) = W1 at *
    have hf2 : Nw w (W1.setRow (w.heap.size + 1) (rcells vs vp D.spend).toArray) := hf1.setRow (.inr (by omega)) _
    have hr2 := range_all (setRow_heap W1 (w.heap.size + 1) _ (rcells vs vp D.spend).toArray 30 _ hr1)
    rw [ho]
    have ho' := ho
    unfold Dk.out at ho'
    cases hdd : D.dead with
    | true =>
      rw [hdd] at c3
      clear hsp hv1 hf1 hfr hvar ho' hdd
      go_enter Try.func29, Try.ntmps29
      go_wp2_with (first
        | (refine wpList_box_agg rfl 30 _ rfl (rval vs vp D) _ rfl rfl ?_)
        | (refine wpList_alloc_agg rfl 30 rfl _ Try.zero30 ?_; rw [hW.out])
        | (refine wpList_load_as rfl 30 _ rfl w.heap.size 0 rfl (rval vs vp D.spend) _ rfl hr Try.row30 Try.size30 ?_)
        | (refine wpList_store_all rfl 30 _ _ rfl (w.heap.size + 1) rfl (rval vs vp D.spend) rfl _ rfl _ 30 hr1 res_fit hone Try.size30 ?_))
      refine bodyPost_ret (results_cell2 rfl _ (w.heap.size + 1) _ (rval vs vp D.spend) rfl rfl hr2 Try.row30 Try.size30) rfl ?_
      exact ⟨rfl, hf2⟩
    | false =>
      have hl0 : D.left = 0 := by simpa [hdd] using ho'
      rw [hdd] at c3
      rw [hl0] at c2
      clear hsp hv1 hf1 hfr hvar ho' hdd hl0
      go_enter Try.func29, Try.ntmps29
      go_wp2_with (first
        | (refine wpList_box_agg rfl 30 _ rfl (rval vs vp D) _ rfl rfl ?_)
        | (refine wpList_alloc_agg rfl 30 rfl _ Try.zero30 ?_; rw [hW.out])
        | (refine wpList_load_as rfl 30 _ rfl w.heap.size 0 rfl (rval vs vp D.spend) _ rfl hr Try.row30 Try.size30 ?_)
        | (refine wpList_store_all rfl 30 _ _ rfl (w.heap.size + 1) rfl (rval vs vp D.spend) rfl _ rfl _ 30 hr1 res_fit hone Try.size30 ?_))
      refine bodyPost_ret (results_cell2 rfl _ (w.heap.size + 1) _ (rval vs vp D.spend) rfl rfl hr2 Try.row30 Try.size30) rfl ?_
      exact ⟨rfl, hf2⟩
  · have ho : D.out = false := by simpa using ho
    have hsp := Dk.spend_in ho
    have ho' := ho
    unfold Dk.out at ho'
    simp only [Bool.or_eq_false_iff, beq_eq_false_iff_ne] at ho'
    obtain ⟨hdd, hl0⟩ := ho'
    rw [hdd] at c3
    rw [ho]
    have hl0' : (D.left == 0) = false := by simpa using hl0
    by_cases hp : 0 < D.left
    · have hv1 : (W.setCell ⟨w.heap.size, 2, none⟩ (.int .i64 (D.left - 1))).heap[w.heap.size]? = some (.cells (rcells vs vp D.spend).toArray 30 (0, 0)) := r_set hvar 2 _ (by rw [hsp]; simp only [if_pos hp]; rfl)
      have hr1 : (W.setCell ⟨w.heap.size, 2, none⟩ (.int .i64 (D.left - 1))).heap[w.heap.size + 1]? = some (.cells #[.slice none 0 0, .slice none 0 0, .int .i64 0, .bool false] 30 (0, 0)) := by rw [Below.heap_setCell _ _ _ _ (by simp)]; exact hres
      have hf1 : Nw w (W.setCell ⟨w.heap.size, 2, none⟩ (.int .i64 (D.left - 1))) := hfr.setCell (p := ⟨w.heap.size, 2, none⟩) (.inr (Nat.le_refl _)) _
      have hr := range_all hv1
      generalize hW1 : W.setCell ⟨w.heap.size, 2, none⟩ (.int .i64 (D.left - 1)) = W1 at *
      have hf2 : Nw w (W1.setRow (w.heap.size + 1) (rcells vs vp D.spend).toArray) := hf1.setRow (.inr (by omega)) _
      have hr2 := range_all (setRow_heap W1 (w.heap.size + 1) _ (rcells vs vp D.spend).toArray 30 _ hr1)
      clear hsp hv1 hf1 hfr hvar hdd
      go_enter Try.func29, Try.ntmps29
      go_wp2_with (first
        | (refine wpList_box_agg rfl 30 _ rfl (rval vs vp D) _ rfl rfl ?_)
        | (refine wpList_alloc_agg rfl 30 rfl _ Try.zero30 ?_; rw [hW.out])
        | (refine wpList_load_as rfl 30 _ rfl w.heap.size 0 rfl (rval vs vp D.spend) _ rfl hr Try.row30 Try.size30 ?_)
        | (refine wpList_store_all rfl 30 _ _ rfl (w.heap.size + 1) rfl (rval vs vp D.spend) rfl _ rfl _ 30 hr1 res_fit hone Try.size30 ?_))
      refine bodyPost_ret (results_cell2 rfl _ (w.heap.size + 1) _ (rval vs vp D.spend) rfl rfl hr2 Try.row30 Try.size30) rfl ?_
      exact ⟨rfl, hf2⟩
    · have hsp2 : D.spend = D := by rw [hsp, if_neg hp]
      rw [hsp2] at hone ⊢
      have hr := range_all hvar
      have hf2 : Nw w (W.setRow (w.heap.size + 1) (rcells vs vp D).toArray) := hfr.setRow (.inr (by omega)) _
      have hr2 := range_all (setRow_heap W (w.heap.size + 1) _ (rcells vs vp D).toArray 30 _ hres)
      clear hsp hsp2 hfr hvar hdd
      go_enter Try.func29, Try.ntmps29
      go_wp2_with (first
        | (refine wpList_box_agg rfl 30 _ rfl (rval vs vp D) _ rfl rfl ?_)
        | (refine wpList_alloc_agg rfl 30 rfl _ Try.zero30 ?_; rw [hW.out])
        | (refine wpList_load_as rfl 30 _ rfl w.heap.size 0 rfl (rval vs vp D) _ rfl hr Try.row30 Try.size30 ?_)
        | (refine wpList_store_all rfl 30 _ _ rfl (w.heap.size + 1) rfl (rval vs vp D) rfl _ rfl _ 30 hres res_fit hone Try.size30 ?_))
      refine bodyPost_ret (results_cell2 rfl _ (w.heap.size + 1) _ (rval vs vp D) rfl rfl hr2 Try.row30 Try.size30) rfl ?_
      exact ⟨rfl, hf2⟩

/-! ### Break -/
def Dk.rbrk (D : Dk) (n : Int) : Dk := { D with left := if n < 0 then -1 else n }

theorem RefG.brk {X : Nat → Prop} {w : World} {vs vp : Value} {D : Dk} (h : RefG X w vs vp D) (n : Int) (h2 : n ≤ 9223372036854775807) : RefG X w vs vp (D.rbrk n) :=
  ⟨h.st, h.pd, ⟨h.ok.sec, h.ok.wr, h.ok.n, by show _ ≤ (if n < 0 then (-1 : Int) else n); split <;> omega, by show (if n < 0 then (-1 : Int) else n) ≤ _; split <;> omega⟩⟩

set_option maxHeartbeats 1600000 in
theorem c_rbreak {X : Nat → Prop} {vs vp : Value} {D : Dk} (n : Int) (w : World) (h : RefG X w vs vp D) :
    Calls Try.prog 16 #[rval vs vp D, .int .i64 n] w fun e w' => e = .returned (rval vs vp (D.rbrk n)) ∧ Nw w w' := by
  obtain ⟨so, sc, po, pc, rfl, rfl, -, -, -, -⟩ := h.form
  have hone := r_oneCell (so := so) (po := po) (n := D.st.length) (m := D.pd.length) (sc := sc) (pc := pc) (D := D.rbrk n)
  generalize hvs : Value.slice so D.st.length sc = vs at *
  generalize hvp : Value.slice po D.pd.length pc = vp at *
  have hT := two w vs vp D
  generalize hW : (w.alloc (.cells (rcells vs vp D).toArray 30)).alloc (.cells #[.slice none 0 0, .slice none 0 0, .int .i64 0, .bool false] 30) = W at *
  have hW : Hid ((w.alloc (.cells (rcells vs vp D).toArray 30)).alloc (.cells #[.slice none 0 0, .slice none 0 0, .int .i64 0, .bool false] 30) = W) := hW
  obtain ⟨-, -, c2, -, cf, -⟩ := r_cells hT.var
  have cf2 := cf 2
  have hres := hT.res
  have hvar := hT.var
  have hfr := hT.fr
  have hsz := hT.size
  clear cf hT h hvs hvp
  obtain ⟨z, hz⟩ : ∃ z : Int, z = if n < 0 then -1 else n := ⟨_, rfl⟩
  have hv1 : (W.setCell ⟨w.heap.size, 2, none⟩ (.int .i64 z)).heap[w.heap.size]? = some (.cells (rcells vs vp (D.rbrk n)).toArray 30 (0, 0)) := r_set hvar 2 _ (by rw [hz]; rfl)
  have hr1 : (W.setCell ⟨w.heap.size, 2, none⟩ (.int .i64 z)).heap[w.heap.size + 1]? = some (.cells #[.slice none 0 0, .slice none 0 0, .int .i64 0, .bool false] 30 (0, 0)) := by rw [Below.heap_setCell _ _ _ _ (by simp)]; exact hres
  have hf1 : Nw w (W.setCell ⟨w.heap.size, 2, none⟩ (.int .i64 z)) := hfr.setCell (p := ⟨w.heap.size, 2, none⟩) (.inr (Nat.le_refl _)) _
  have hr := range_all hv1
  have hf2 : Nw w ((W.setCell ⟨w.heap.size, 2, none⟩ (.int .i64 z)).setRow (w.heap.size + 1) (rcells vs vp (D.rbrk n)).toArray) := hf1.setRow (.inr (by omega)) _
  have hr2 := range_all (setRow_heap (W.setCell ⟨w.heap.size, 2, none⟩ (.int .i64 z)) (w.heap.size + 1) _ (rcells vs vp (D.rbrk n)).toArray 30 _ hr1)
  clear hv1 hf1 hfr hvar
  generalize D.rbrk n = D' at *
  by_cases hn : n < 0
  · rw [if_pos hn] at hz
    subst hz
    go_enter Try.func16, Try.ntmps16
    go_wp2_with (first
      | (refine wpList_box_agg rfl 30 _ rfl (rval vs vp D) _ rfl rfl ?_)
      | (refine wpList_alloc_agg rfl 30 rfl _ Try.zero30 ?_; rw [hW.out])
      | (refine wpList_load_as rfl 30 _ rfl w.heap.size 0 rfl (rval vs vp D') _ rfl hr Try.row30 Try.size30 ?_)
      | (refine wpList_store_all rfl 30 _ _ rfl (w.heap.size + 1) rfl (rval vs vp D') rfl _ rfl _ 30 hr1 res_fit hone Try.size30 ?_))
    refine bodyPost_ret (results_cell1 rfl _ (w.heap.size + 1) _ (rval vs vp D') rfl rfl hr2 Try.row30 Try.size30) rfl ?_
    exact ⟨rfl, hf2⟩
  · rw [if_neg hn] at hz
    subst hz
    go_enter Try.func16, Try.ntmps16
    go_wp2_with (first
      | (refine wpList_box_agg rfl 30 _ rfl (rval vs vp D) _ rfl rfl ?_)
      | (refine wpList_alloc_agg rfl 30 rfl _ Try.zero30 ?_; rw [hW.out])
      | (refine wpList_load_as rfl 30 _ rfl w.heap.size 0 rfl (rval vs vp D') _ rfl hr Try.row30 Try.size30 ?_)
      | (refine wpList_store_all rfl 30 _ _ rfl (w.heap.size + 1) rfl (rval vs vp D') rfl _ rfl _ 30 hr1 res_fit hone Try.size30 ?_))
    refine bodyPost_ret (results_cell1 rfl _ (w.heap.size + 1) _ (rval vs vp D') rfl rfl hr2 Try.row30 Try.size30) rfl ?_
    exact ⟨rfl, hf2⟩

/-! ### At -/
theorem RefG.range {X : Nat → Prop} {w : World} {so : Option Addr} {n sc : Nat} {vp : Value} {D : Dk} (h : RefG X w (.slice so n sc) vp D) (hn : n = D.st.length) (i : Int) (hi : D.has i = true) : ∃ b off, so = some ⟨b, off, none⟩ ∧ w.rangeAt b (off + i.toNat * 128) ((D.get i).map bv) := by
  subst hn
  obtain ⟨h0, h1⟩ := Dk.has_lt hi
  have hlt : i.toNat < D.st.length := by omega
  have hg : D.get i = D.st[i.toNat] := by
    unfold Dk.get
    rw [if_pos hi, List.getD_eq_getElem?_getD, List.getElem?_eq_getElem hlt]; rfl
  have hs := h.ok.get i
  have hget : ∀ j, j < 128 → (flat D.st)[i.toNat * 128 + j]? = ((D.get i).map bv)[j]? := fun j hj => by rw [flat_get h.ok.sec i.toNat hlt j hj, ← hg]
  obtain ⟨b, off, e, _, _⟩ := h.st.get (i.toNat * 128 + 0) _ ((hget 0 (by omega)).trans (by rw [List.getElem?_map, List.getElem?_eq_getElem (by omega)]; rfl))
  refine ⟨b, off, e, fun j v hv => ?_⟩
  have hj : j < 128 := by
    have := (List.getElem?_eq_some_iff.1 hv).1
    rwa [List.length_map, hs] at this
  obtain ⟨b', off', e', _, hc⟩ := h.st.get (i.toNat * 128 + j) v ((hget j hj).trans hv)
  rw [e] at e'
  simp only [Option.some.injEq, Addr.mk.injEq, and_true] at e'
  obtain ⟨rfl, rfl⟩ := e'
  rwa [Nat.add_assoc]

/-- The variable of a disk, and that of a sector to be given. -/
structure TwoS (w W : World) (vs vp : Value) (D : Dk) : Prop where
  var : W.heap[w.heap.size]? = some (.cells (rcells vs vp D).toArray 30 (0, 0))
  res : W.heap[w.heap.size + 1]? = some (.cells (z128.map bv).toArray 33 (0, 0))
  fr : Nw w W
  size : W.heap.size = w.heap.size + 2

theorem twoS (w : World) (vs vp : Value) (D : Dk) : TwoS w ((w.alloc (.cells (rcells vs vp D).toArray 30)).alloc (.cells (z128.map bv).toArray 33)) vs vp D :=
  ⟨heap_alloc2_old w _ _, heap_alloc2_new w _ _, ((Fr.refl _ w).alloc _).alloc _, by simp⟩

set_option maxHeartbeats 1600000 in
theorem c_rat {X : Nat → Prop} {vs vp : Value} {D : Dk} (i : Int) (w : World) (h : RefG X w vs vp D) :
    Calls Try.prog 21 #[rval vs vp D, .int .i64 i] w fun e w' => e = .returned (sec (D.get i)) ∧ Nw w w' := by
  obtain ⟨so, sc, po, pc, rfl, rfl, h1, h2, -, -⟩ := h.form
  have hT := twoS w (.slice so D.st.length sc) (.slice po D.pd.length pc) D
  have hlen := h.ok.get i
  have hn := h.ok.n
  generalize hW : (w.alloc (.cells (rcells (.slice so D.st.length sc) (.slice po D.pd.length pc) D).toArray 30)).alloc (.cells (z128.map bv).toArray 33) = W at *
  have hW : Hid ((w.alloc (.cells (rcells (.slice so D.st.length sc) (.slice po D.pd.length pc) D).toArray 30)).alloc (.cells (z128.map bv).toArray 33) = W) := hW
  have hg := h.nw hT.fr
  obtain ⟨-, -, -, -, -, hr0⟩ := r_cells hT.var
  have hsz := hT.size
  by_cases hh : D.has i = true
  · obtain ⟨l0, l1⟩ := Dk.has_lt hh
    go_enter Try.func21, Try.ntmps21
    go_wp2_with (first
      | (refine wpList_box_agg rfl 30 _ rfl (rval (.slice so D.st.length sc) (.slice po D.pd.length pc) D) _ rfl rfl ?_)
      | (refine wpList_alloc_agg rfl 33 rfl _ Try.zero33 ?_; rw [hW.out])
      | (refine wpList_load_as rfl 30 _ rfl w.heap.size 0 rfl (rval (.slice so D.st.length sc) (.slice po D.pd.length pc) D) _ rfl hr0 Try.row30 Try.size30 ?_)
      | (go_at_call 28; refine stop_here ?_))
    unfold Hid
    refine (c_there i _ hg).mono ?_
    rw [hh]
    rintro e w2 ⟨rfl, hf2⟩
    have hg2 := hg.nw hf2
    have hv2 := (hf2.block _ (by omega) id).trans hT.var
    have hs2 := (hf2.block _ (by omega) id).trans hT.res
    obtain ⟨c0, -, -, -, -, -⟩ := r_cells hv2
    obtain ⟨b, off, rfl, hr⟩ := hg2.range rfl i hh
    have hfin : Nw w (w2.setRow (w.heap.size + 1) ((D.get i).map bv).toArray) := (hT.fr.trans hf2 (fun _ => False.elim)).setRow (.inr (by omega)) _
    have hrow := range_all (setRow_heap w2 (w.heap.size + 1) _ ((D.get i).map bv).toArray 33 _ hs2)
    clear hg hg2 hv2 hf2 hT h
    go_wp2_with (first
      | (refine wpList_load_as rfl 33 _ rfl b (off + i.toNat * 128) rfl (sec (D.get i)) _ rfl hr Try.row33 (size33 hlen) ?_)
      | (refine wpList_store_all rfl 33 _ _ rfl (w.heap.size + 1) rfl (sec (D.get i)) rfl _ rfl _ 33 hs2 (sec_fit hlen) (bv_oneCell _) (size33 hlen) ?_))
    refine bodyPost_ret (results_cell1 rfl _ (w.heap.size + 1) _ _ rfl rfl hrow Try.row33 (size33 hlen)) rfl ?_
    exact ⟨rfl, hfin⟩
  · have hh : D.has i = false := by simpa using hh
    rw [Dk.get_out hh]
    go_enter Try.func21, Try.ntmps21
    go_wp2_with (first
      | (refine wpList_box_agg rfl 30 _ rfl (rval (.slice so D.st.length sc) (.slice po D.pd.length pc) D) _ rfl rfl ?_)
      | (refine wpList_alloc_agg rfl 33 rfl _ Try.zero33 ?_; rw [hW.out])
      | (refine wpList_load_as rfl 30 _ rfl w.heap.size 0 rfl (rval (.slice so D.st.length sc) (.slice po D.pd.length pc) D) _ rfl hr0 Try.row30 Try.size30 ?_)
      | (go_at_call 28; refine stop_here ?_))
    unfold Hid
    refine (c_there i _ hg).mono ?_
    rw [hh]
    rintro e w2 ⟨rfl, hf2⟩
    have hs2 := (hf2.block _ (by omega) id).trans hT.res
    have hfin : Nw w (w2.setRow (w.heap.size + 1) (z128.map bv).toArray) := (hT.fr.trans hf2 (fun _ => False.elim)).setRow (.inr (by omega)) _
    have hrow := range_all (setRow_heap w2 (w.heap.size + 1) _ (z128.map bv).toArray 33 _ hs2)
    clear hg hf2 hT h
    go_wp2_with (first
      | (refine wpList_build_as rfl 33 #[] rfl (sec z128) _ rfl Try.built33 ?_)
      | (refine wpList_store_all rfl 33 _ _ rfl (w.heap.size + 1) rfl (sec z128) rfl _ rfl _ 33 hs2 rfl (bv_oneCell _) (size33 z128_length) ?_))
    refine bodyPost_ret (results_cell1 rfl _ (w.heap.size + 1) _ _ rfl rfl hrow Try.row33 (size33 z128_length)) rfl ?_
    exact ⟨rfl, hfin⟩
end Go.Proofs.Ytmhojkbnfiknpaa
