/-
  DiskR1, DiskR2, DiskTorn, DiskR3, DiskR4, DiskR5, DiskR6, DiskR7: in one text.
-/
import Derived.Test.YtihdhlciblkbiaaDiskW7
import Derived.Test.YtihdhlciblkbiaaLibSec
namespace Go.Proofs.Ytihdhlciblkbiaa
set_option linter.unusedVariables false
set_option linter.unusedSimpArgs false
set_option maxRecDepth 20000
open Go.RowKit

theorem Try.row30 : (Try.prog.underlying 30).map TypeDesc.isRow = some true := by kernel_rfl
theorem Try.size30 : (Try.prog.info? 30).map (·.size) = some 4 := by kernel_rfl
theorem Try.zero30 : (Try.prog.info? 30).bind (·.zero) = some (.agg #[.slice none 0 0, .slice none 0 0, .int .i64 0, .bool false]) := by kernel_rfl

/-- The document's disk as a value. -/
def rcells (vs vp : Value) (D : Dk) : List Value := [vs, vp, .int .i64 D.left, .bool D.dead]
def rval (vs vp : Value) (D : Dk) : Value := .agg (rcells vs vp D).toArray

structure RefG (X : Nat → Prop) (w : World) (vs vp : Value) (D : Dk) : Prop where
  st : Slp X w vs D.st.length (flat D.st)
  pd : Slp X w vp D.pd.length (pcells D.pd)
  ok : D.Ok

def RefAt (X : Nat → Prop) (w : World) (v : Value) (D : Dk) : Prop := ∃ vs vp, v = rval vs vp D ∧ RefG X w vs vp D

theorem RefG.keep {X X' : Nat → Prop} {w w' : World} {vs vp : Value} {D : Dk} (h : RefG X w vs vp D) (hX : ∀ b, X b → b < w.heap.size → X' b ∧ w'.heap[b]? = w.heap[b]?) : RefG X' w' vs vp D := ⟨h.st.keepL hX, h.pd.keepL hX, h.ok⟩

theorem RefG.nw {X : Nat → Prop} {w w' : World} {vs vp : Value} {D : Dk} (h : RefG X w vs vp D) (hf : Nw w w') : RefG X w' vs vp D := h.keep (fun b hx hb => ⟨hx, hf.block b hb id⟩)

theorem RefG.spend {X : Nat → Prop} {w : World} {vs vp : Value} {D : Dk} (h : RefG X w vs vp D) : RefG X w vs vp D.spend := by
  refine ⟨by rw [(spend_st D).1]; exact h.st, by rw [(spend_st D).2]; exact h.pd, ?_⟩
  have lo := h.ok.lo
  have hi := h.ok.hi
  refine ⟨by rw [(spend_st D).1]; exact h.ok.sec, by rw [(spend_st D).1, (spend_st D).2]; exact h.ok.wr, by rw [(spend_st D).1]; exact h.ok.n, ?_, ?_⟩
  · unfold Dk.spend; split
    · exact lo
    · show _ ≤ (if 0 < D.left then D.left - 1 else D.left); split <;> omega
  · unfold Dk.spend; split
    · exact hi
    · show (if 0 < D.left then D.left - 1 else D.left) ≤ _; split <;> omega

theorem RefG.form {X : Nat → Prop} {w : World} {vs vp : Value} {D : Dk} (h : RefG X w vs vp D) : ∃ so sc po pc, vs = .slice so D.st.length sc ∧ vp = .slice po D.pd.length pc ∧ D.st.length ≤ sc ∧ sc ≤ 9223372036854775807 ∧ D.pd.length ≤ pc ∧ pc ≤ 9223372036854775807 := by
  obtain ⟨so, sc, h1, h2, h3⟩ := h.st.form
  obtain ⟨po, pc, h4, h5, h6⟩ := h.pd.form
  exact ⟨so, sc, po, pc, h1, h4, h2, h3, h5, h6⟩

/-- A variable that holds the document's disk. -/
structure VarR (w w' : World) (vs vp : Value) (D : Dk) : Prop where
  blk : w'.heap[w.heap.size]? = some (.cells (rcells vs vp D).toArray 30 (0, 0))
  fr : Nw w w'
  size : w'.heap.size = w.heap.size + 1

theorem varR (w : World) (vs vp : Value) (D : Dk) : VarR w (w.alloc (.cells (rcells vs vp D).toArray 30)) vs vp D := ⟨heap_alloc_new w _, (Fr.refl _ w).alloc _, by simp⟩

theorem r_cells {w : World} {N : Nat} {vs vp : Value} {D : Dk} (h : w.heap[N]? = some (.cells (rcells vs vp D).toArray 30 (0, 0))) :
    w.cell? ⟨N, 0, none⟩ = some vs ∧ w.cell? ⟨N, 1, none⟩ = some vp ∧ w.cell? ⟨N, 2, none⟩ = some (.int .i64 D.left) ∧ w.cell? ⟨N, 3, none⟩ = some (.bool D.dead) ∧ (∀ i, w.frozen? ⟨N, i, none⟩ = false) ∧ w.rangeAt N 0 (rcells vs vp D) :=
  ⟨cell_blk h rfl, cell_blk h rfl, cell_blk h rfl, cell_blk h rfl, fun _ => free_blk h, range_all h⟩

theorem c_there {X : Nat → Prop} {vs vp : Value} {D : Dk} (i : Int) (w : World) (h : RefG X w vs vp D) :
    Calls Try.prog 42 #[rval vs vp D, .int .i64 i] w fun e w' => e = .returned (.bool (D.has i)) ∧ Nw w w' := by
  obtain ⟨so, sc, po, pc, rfl, rfl, h1, h2, h3, h4⟩ := h.form
  have hv := varR w (.slice so D.st.length sc) (.slice po D.pd.length pc) D
  generalize hW : w.alloc (.cells (rcells (.slice so D.st.length sc) (.slice po D.pd.length pc) D).toArray 30) = W at *
  have hW : Hid (w.alloc (.cells (rcells (.slice so D.st.length sc) (.slice po D.pd.length pc) D).toArray 30) = W) := hW
  obtain ⟨c0, -, -, -, -, -⟩ := r_cells hv.blk
  have hf := hv.fr
  clear h hv
  unfold Dk.has
  go_enter Try.func42, Try.ntmps42
  by_cases hi : 0 ≤ i
  · go_wp2_with (refine wpList_box_agg rfl 30 _ rfl (rval (.slice so D.st.length sc) (.slice po D.pd.length pc) D) _ rfl rfl ?_; rw [hW.out])
    go_ret
    exact ⟨by simp [hi], hf⟩
  · go_wp2_with (refine wpList_box_agg rfl 30 _ rfl (rval (.slice so D.st.length sc) (.slice po D.pd.length pc) D) _ rfl rfl ?_; rw [hW.out])
    go_ret
    exact ⟨by simp; omega, hf⟩

/-- The two variables of a function that takes and gives a disk. -/
structure Two (w W : World) (vs vp : Value) (D : Dk) : Prop where
  var : W.heap[w.heap.size]? = some (.cells (rcells vs vp D).toArray 30 (0, 0))
  res : W.heap[w.heap.size + 1]? = some (.cells #[.slice none 0 0, .slice none 0 0, .int .i64 0, .bool false] 30 (0, 0))
  fr : Nw w W
  size : W.heap.size = w.heap.size + 2

theorem two (w : World) (vs vp : Value) (D : Dk) : Two w ((w.alloc (.cells (rcells vs vp D).toArray 30)).alloc (.cells #[.slice none 0 0, .slice none 0 0, .int .i64 0, .bool false] 30)) vs vp D :=
  ⟨heap_alloc2_old w _ _, heap_alloc2_new w _ _, ((Fr.refl _ w).alloc _).alloc _, by simp⟩

theorem r_oneCell {so po : Option Addr} {n m sc pc : Nat} {D : Dk} : ∀ u ∈ rcells (.slice so n sc) (.slice po m pc) D, u.oneCell' = true := by
  intro u hu
  simp only [rcells, List.mem_cons, List.not_mem_nil, or_false] at hu
  rcases hu with rfl | rfl | rfl | rfl <;> rfl

/-- A field of it written. -/
theorem r_set {w : World} {N : Nat} {vs vp : Value} {D D' : Dk} (h : w.heap[N]? = some (.cells (rcells vs vp D).toArray 30 (0, 0))) (i : Nat) (v : Value) (he : (rcells vs vp D).set i v = rcells vs vp D') : (w.setCell ⟨N, i, none⟩ v).heap[N]? = some (.cells (rcells vs vp D').toArray 30 (0, 0)) := by
  rw [blk_setCell h, ← he]; simp
end Go.Proofs.Ytihdhlciblkbiaa

namespace Go.Proofs.Ytihdhlciblkbiaa
set_option linter.unusedVariables false
set_option linter.unusedSimpArgs false
set_option maxRecDepth 20000
open Go.RowKit

theorem res_fit {vs vp : Value} {D : Dk} : (rcells vs vp D).length = [Value.slice none 0 0, Value.slice none 0 0, Value.int .i64 0, Value.bool false].length := rfl

set_option maxHeartbeats 1600000 in
theorem c_power {X : Nat → Prop} {vs vp : Value} {D : Dk} (w : World) (h : RefG X w vs vp D) :
    Calls Try.prog 49 #[rval vs vp D] w fun e w' => e = .returned (.tuple #[rval vs vp D.spend, .bool (!D.out)]) ∧ Nw w w' := by
  obtain ⟨so, sc, po, pc, rfl, rfl, -, -, -, -⟩ := h.form
  have hone := r_oneCell (so := so) (po := po) (n := D.st.length) (m := D.pd.length) (sc := sc) (pc := pc) (D := D.spend)
  have lo := h.ok.lo
  have hi := h.ok.hi
  generalize hvs : Value.slice so D.st.length sc = vs at *
  generalize hvp : Value.slice po D.pd.length pc = vp at *
  have hT := two w vs vp D
  generalize hW : (w.alloc (.cells (rcells vs vp D).toArray 30)).alloc (.cells #[.slice none 0 0, .slice none 0 0, .int .i64 0, .bool false] 30) = W at *
  have hW : Hid ((w.alloc (.cells (rcells vs vp D).toArray 30)).alloc (.cells #[.slice none 0 0, .slice none 0 0, .int .i64 0, .bool false] 30) = W) := hW
  obtain ⟨-, -, c2, c3, cf, -⟩ := r_cells hT.var
  have cf2 := cf 2
  have cf3 := cf 3
  have hres := hT.res
  have hvar := hT.var
  have hfr := hT.fr
  have hsz := hT.size
  clear cf hT h hvs hvp
  by_cases ho : D.out = true
  · have hsp := Dk.spend_out ho
    have hv1 : (W.setCell ⟨w.heap.size, 3, none⟩ (.bool true)).heap[w.heap.size]? = some (.cells (rcells vs vp D.spend).toArray 30 (0, 0)) := r_set hvar 3 _ (by rw [hsp]; rfl)
    have hr1 : (W.setCell ⟨w.heap.size, 3, none⟩ (.bool true)).heap[w.heap.size + 1]? = some (.cells #[.slice none 0 0, .slice none 0 0, .int .i64 0, .bool false] 30 (0, 0)) := by rw [Below.heap_setCell _ _ _ _ (by simp)]; exact hres
    have hf1 : Nw w (W.setCell ⟨w.heap.size, 3, none⟩ (.bool true)) := hfr.setCell (p := ⟨w.heap.size, 3, none⟩) (.inr (Nat.le_refl _)) _
    have hr := range_all hv1
    generalize hW1 : W.setCell ⟨w.heap.size, 3, none⟩ (.bool true) = W1 at *
    have hf2 : Nw w (W1.setRow (w.heap.size + 1) (rcells vs vp D.spend).toArray) := hf1.setRow (.inr (by omega)) _
    have hr2 := range_all (setRow_heap W1 (w.heap.size + 1) _ (rcells vs vp D.spend).toArray 30 _ hr1)
    rw [ho]
    have ho' := ho
    unfold Dk.out at ho'
    cases hdd : D.dead with
    | true =>
      rw [hdd] at c3
      clear hsp hv1 hf1 hfr hvar ho' hdd
      go_enter Try.func49, Try.ntmps49
      go_wp2_with (first
        | (refine wpList_box_agg rfl 30 _ rfl (rval vs vp D) _ rfl rfl ?_)
        | (refine wpList_alloc_agg rfl 30 rfl _ Try.zero30 ?_; rw [hW.out])
        | (refine wpList_load_as rfl 30 _ rfl w.heap.size 0 rfl (rval vs vp D.spend) _ rfl hr Try.row30 Try.size30 ?_)
        | (refine wpList_store_all rfl 30 _ _ rfl (w.heap.size + 1) rfl (rval vs vp D.spend) rfl _ rfl _ 30 hr1 res_fit hone Try.size30 ?_))
      refine bodyPost_ret (results_cell2 rfl _ (w.heap.size + 1) _ (rval vs vp D.spend) rfl rfl hr2 Try.row30 Try.size30) rfl ?_
      exact ⟨rfl, hf2⟩
    | false =>
      have hl0 : D.left = 0 := by simpa [hdd] using ho'
      rw [hdd] at c3
      rw [hl0] at c2
      clear hsp hv1 hf1 hfr hvar ho' hdd hl0
      go_enter Try.func49, Try.ntmps49
      go_wp2_with (first
        | (refine wpList_box_agg rfl 30 _ rfl (rval vs vp D) _ rfl rfl ?_)
        | (refine wpList_alloc_agg rfl 30 rfl _ Try.zero30 ?_; rw [hW.out])
        | (refine wpList_load_as rfl 30 _ rfl w.heap.size 0 rfl (rval vs vp D.spend) _ rfl hr Try.row30 Try.size30 ?_)
        | (refine wpList_store_all rfl 30 _ _ rfl (w.heap.size + 1) rfl (rval vs vp D.spend) rfl _ rfl _ 30 hr1 res_fit hone Try.size30 ?_))
      refine bodyPost_ret (results_cell2 rfl _ (w.heap.size + 1) _ (rval vs vp D.spend) rfl rfl hr2 Try.row30 Try.size30) rfl ?_
      exact ⟨rfl, hf2⟩
  · have ho : D.out = false := by simpa using ho
    have hsp := Dk.spend_in ho
    have ho' := ho
    unfold Dk.out at ho'
    simp only [Bool.or_eq_false_iff, beq_eq_false_iff_ne] at ho'
    obtain ⟨hdd, hl0⟩ := ho'
    rw [hdd] at c3
    rw [ho]
    have hl0' : (D.left == 0) = false := by simpa using hl0
    by_cases hp : 0 < D.left
    · have hv1 : (W.setCell ⟨w.heap.size, 2, none⟩ (.int .i64 (D.left - 1))).heap[w.heap.size]? = some (.cells (rcells vs vp D.spend).toArray 30 (0, 0)) := r_set hvar 2 _ (by rw [hsp]; simp only [if_pos hp]; rfl)
      have hr1 : (W.setCell ⟨w.heap.size, 2, none⟩ (.int .i64 (D.left - 1))).heap[w.heap.size + 1]? = some (.cells #[.slice none 0 0, .slice none 0 0, .int .i64 0, .bool false] 30 (0, 0)) := by rw [Below.heap_setCell _ _ _ _ (by simp)]; exact hres
      have hf1 : Nw w (W.setCell ⟨w.heap.size, 2, none⟩ (.int .i64 (D.left - 1))) := hfr.setCell (p := ⟨w.heap.size, 2, none⟩) (.inr (Nat.le_refl _)) _
      have hr := range_all hv1
      generalize hW1 : W.setCell ⟨w.heap.size, 2, none⟩ (.int .i64 (D.left - 1)) = W1 at *
      have hf2 : Nw w (W1.setRow (w.heap.size + 1) (rcells vs vp D.spend).toArray) := hf1.setRow (.inr (by omega)) _
      have hr2 := range_all (setRow_heap W1 (w.heap.size + 1) _ (rcells vs vp D.spend).toArray 30 _ hr1)
      clear hsp hv1 hf1 hfr hvar hdd
      go_enter Try.func49, Try.ntmps49
      go_wp2_with (first
        | (refine wpList_box_agg rfl 30 _ rfl (rval vs vp D) _ rfl rfl ?_)
        | (refine wpList_alloc_agg rfl 30 rfl _ Try.zero30 ?_; rw [hW.out])
        | (refine wpList_load_as rfl 30 _ rfl w.heap.size 0 rfl (rval vs vp D.spend) _ rfl hr Try.row30 Try.size30 ?_)
        | (refine wpList_store_all rfl 30 _ _ rfl (w.heap.size + 1) rfl (rval vs vp D.spend) rfl _ rfl _ 30 hr1 res_fit hone Try.size30 ?_))
      refine bodyPost_ret (results_cell2 rfl _ (w.heap.size + 1) _ (rval vs vp D.spend) rfl rfl hr2 Try.row30 Try.size30) rfl ?_
      exact ⟨rfl, hf2⟩
    · have hsp2 : D.spend = D := by rw [hsp, if_neg hp]
      rw [hsp2] at hone ⊢
      have hr := range_all hvar
      have hf2 : Nw w (W.setRow (w.heap.size + 1) (rcells vs vp D).toArray) := hfr.setRow (.inr (by omega)) _
      have hr2 := range_all (setRow_heap W (w.heap.size + 1) _ (rcells vs vp D).toArray 30 _ hres)
      clear hsp hsp2 hfr hvar hdd
      go_enter Try.func49, Try.ntmps49
      go_wp2_with (first
        | (refine wpList_box_agg rfl 30 _ rfl (rval vs vp D) _ rfl rfl ?_)
        | (refine wpList_alloc_agg rfl 30 rfl _ Try.zero30 ?_; rw [hW.out])
        | (refine wpList_load_as rfl 30 _ rfl w.heap.size 0 rfl (rval vs vp D) _ rfl hr Try.row30 Try.size30 ?_)
        | (refine wpList_store_all rfl 30 _ _ rfl (w.heap.size + 1) rfl (rval vs vp D) rfl _ rfl _ 30 hres res_fit hone Try.size30 ?_))
      refine bodyPost_ret (results_cell2 rfl _ (w.heap.size + 1) _ (rval vs vp D) rfl rfl hr2 Try.row30 Try.size30) rfl ?_
      exact ⟨rfl, hf2⟩

/-! ### Break -/
def Dk.rbrk (D : Dk) (n : Int) : Dk := { D with left := if n < 0 then -1 else n }

theorem RefG.brk {X : Nat → Prop} {w : World} {vs vp : Value} {D : Dk} (h : RefG X w vs vp D) (n : Int) (h2 : n ≤ 9223372036854775807) : RefG X w vs vp (D.rbrk n) :=
  ⟨h.st, h.pd, ⟨h.ok.sec, h.ok.wr, h.ok.n, by show _ ≤ (if n < 0 then (-1 : Int) else n); split <;> omega, by show (if n < 0 then (-1 : Int) else n) ≤ _; split <;> omega⟩⟩

set_option maxHeartbeats 1600000 in
theorem c_rbreak {X : Nat → Prop} {vs vp : Value} {D : Dk} (n : Int) (w : World) (h : RefG X w vs vp D) :
    Calls Try.prog 16 #[rval vs vp D, .int .i64 n] w fun e w' => e = .returned (rval vs vp (D.rbrk n)) ∧ Nw w w' := by
  obtain ⟨so, sc, po, pc, rfl, rfl, -, -, -, -⟩ := h.form
  have hone := r_oneCell (so := so) (po := po) (n := D.st.length) (m := D.pd.length) (sc := sc) (pc := pc) (D := D.rbrk n)
  generalize hvs : Value.slice so D.st.length sc = vs at *
  generalize hvp : Value.slice po D.pd.length pc = vp at *
  have hT := two w vs vp D
  generalize hW : (w.alloc (.cells (rcells vs vp D).toArray 30)).alloc (.cells #[.slice none 0 0, .slice none 0 0, .int .i64 0, .bool false] 30) = W at *
  have hW : Hid ((w.alloc (.cells (rcells vs vp D).toArray 30)).alloc (.cells #[.slice none 0 0, .slice none 0 0, .int .i64 0, .bool false] 30) = W) := hW
  obtain ⟨-, -, c2, -, cf, -⟩ := r_cells hT.var
  have cf2 := cf 2
  have hres := hT.res
  have hvar := hT.var
  have hfr := hT.fr
  have hsz := hT.size
  clear cf hT h hvs hvp
  obtain ⟨z, hz⟩ : ∃ z : Int, z = if n < 0 then -1 else n := ⟨_, rfl⟩
  have hv1 : (W.setCell ⟨w.heap.size, 2, none⟩ (.int .i64 z)).heap[w.heap.size]? = some (.cells (rcells vs vp (D.rbrk n)).toArray 30 (0, 0)) := r_set hvar 2 _ (by rw [hz]; rfl)
  have hr1 : (W.setCell ⟨w.heap.size, 2, none⟩ (.int .i64 z)).heap[w.heap.size + 1]? = some (.cells #[.slice none 0 0, .slice none 0 0, .int .i64 0, .bool false] 30 (0, 0)) := by rw [Below.heap_setCell _ _ _ _ (by simp)]; exact hres
  have hf1 : Nw w (W.setCell ⟨w.heap.size, 2, none⟩ (.int .i64 z)) := hfr.setCell (p := ⟨w.heap.size, 2, none⟩) (.inr (Nat.le_refl _)) _
  have hr := range_all hv1
  have hf2 : Nw w ((W.setCell ⟨w.heap.size, 2, none⟩ (.int .i64 z)).setRow (w.heap.size + 1) (rcells vs vp (D.rbrk n)).toArray) := hf1.setRow (.inr (by omega)) _
  have hr2 := range_all (setRow_heap (W.setCell ⟨w.heap.size, 2, none⟩ (.int .i64 z)) (w.heap.size + 1) _ (rcells vs vp (D.rbrk n)).toArray 30 _ hr1)
  clear hv1 hf1 hfr hvar
  generalize D.rbrk n = D' at *
  by_cases hn : n < 0
  · rw [if_pos hn] at hz
    subst hz
    go_enter Try.func16, Try.ntmps16
    go_wp2_with (first
      | (refine wpList_box_agg rfl 30 _ rfl (rval vs vp D) _ rfl rfl ?_)
      | (refine wpList_alloc_agg rfl 30 rfl _ Try.zero30 ?_; rw [hW.out])
      | (refine wpList_load_as rfl 30 _ rfl w.heap.size 0 rfl (rval vs vp D') _ rfl hr Try.row30 Try.size30 ?_)
      | (refine wpList_store_all rfl 30 _ _ rfl (w.heap.size + 1) rfl (rval vs vp D') rfl _ rfl _ 30 hr1 res_fit hone Try.size30 ?_))
    refine bodyPost_ret (results_cell1 rfl _ (w.heap.size + 1) _ (rval vs vp D') rfl rfl hr2 Try.row30 Try.size30) rfl ?_
    exact ⟨rfl, hf2⟩
  · rw [if_neg hn] at hz
    subst hz
    go_enter Try.func16, Try.ntmps16
    go_wp2_with (first
      | (refine wpList_box_agg rfl 30 _ rfl (rval vs vp D) _ rfl rfl ?_)
      | (refine wpList_alloc_agg rfl 30 rfl _ Try.zero30 ?_; rw [hW.out])
      | (refine wpList_load_as rfl 30 _ rfl w.heap.size 0 rfl (rval vs vp D') _ rfl hr Try.row30 Try.size30 ?_)
      | (refine wpList_store_all rfl 30 _ _ rfl (w.heap.size + 1) rfl (rval vs vp D') rfl _ rfl _ 30 hr1 res_fit hone Try.size30 ?_))
    refine bodyPost_ret (results_cell1 rfl _ (w.heap.size + 1) _ (rval vs vp D') rfl rfl hr2 Try.row30 Try.size30) rfl ?_
    exact ⟨rfl, hf2⟩

/-! ### At -/
theorem RefG.range {X : Nat → Prop} {w : World} {so : Option Addr} {n sc : Nat} {vp : Value} {D : Dk} (h : RefG X w (.slice so n sc) vp D) (hn : n = D.st.length) (i : Int) (hi : D.has i = true) : ∃ b off, so = some ⟨b, off, none⟩ ∧ w.rangeAt b (off + i.toNat * 128) ((D.get i).map bv) := by
  subst hn
  obtain ⟨h0, h1⟩ := Dk.has_lt hi
  have hlt : i.toNat < D.st.length := by omega
  have hg : D.get i = D.st[i.toNat] := by
    unfold Dk.get
    rw [if_pos hi, List.getD_eq_getElem?_getD, List.getElem?_eq_getElem hlt]; rfl
  have hs := h.ok.get i
  have hget : ∀ j, j < 128 → (flat D.st)[i.toNat * 128 + j]? = ((D.get i).map bv)[j]? := fun j hj => by rw [flat_get h.ok.sec i.toNat hlt j hj, ← hg]
  obtain ⟨b, off, e, _, _⟩ := h.st.get (i.toNat * 128 + 0) _ ((hget 0 (by omega)).trans (by rw [List.getElem?_map, List.getElem?_eq_getElem (by omega)]; rfl))
  refine ⟨b, off, e, fun j v hv => ?_⟩
  have hj : j < 128 := by
    have := (List.getElem?_eq_some_iff.1 hv).1
    rwa [List.length_map, hs] at this
  obtain ⟨b', off', e', _, hc⟩ := h.st.get (i.toNat * 128 + j) v ((hget j hj).trans hv)
  rw [e] at e'
  simp only [Option.some.injEq, Addr.mk.injEq, and_true] at e'
  obtain ⟨rfl, rfl⟩ := e'
  rwa [Nat.add_assoc]

/-- The variable of a disk, and that of a sector to be given. -/
structure TwoS (w W : World) (vs vp : Value) (D : Dk) : Prop where
  var : W.heap[w.heap.size]? = some (.cells (rcells vs vp D).toArray 30 (0, 0))
  res : W.heap[w.heap.size + 1]? = some (.cells (z128.map bv).toArray 55 (0, 0))
  fr : Nw w W
  size : W.heap.size = w.heap.size + 2

theorem twoS (w : World) (vs vp : Value) (D : Dk) : TwoS w ((w.alloc (.cells (rcells vs vp D).toArray 30)).alloc (.cells (z128.map bv).toArray 55)) vs vp D :=
  ⟨heap_alloc2_old w _ _, heap_alloc2_new w _ _, ((Fr.refl _ w).alloc _).alloc _, by simp⟩

set_option maxHeartbeats 1600000 in
theorem c_rat {X : Nat → Prop} {vs vp : Value} {D : Dk} (i : Int) (w : World) (h : RefG X w vs vp D) :
    Calls Try.prog 24 #[rval vs vp D, .int .i64 i] w fun e w' => e = .returned (sec (D.get i)) ∧ Nw w w' := by
  obtain ⟨so, sc, po, pc, rfl, rfl, h1, h2, -, -⟩ := h.form
  have hT := twoS w (.slice so D.st.length sc) (.slice po D.pd.length pc) D
  have hlen := h.ok.get i
  have hn := h.ok.n
  generalize hW : (w.alloc (.cells (rcells (.slice so D.st.length sc) (.slice po D.pd.length pc) D).toArray 30)).alloc (.cells (z128.map bv).toArray 55) = W at *
  have hW : Hid ((w.alloc (.cells (rcells (.slice so D.st.length sc) (.slice po D.pd.length pc) D).toArray 30)).alloc (.cells (z128.map bv).toArray 55) = W) := hW
  have hg := h.nw hT.fr
  obtain ⟨-, -, -, -, -, hr0⟩ := r_cells hT.var
  have hsz := hT.size
  by_cases hh : D.has i = true
  · obtain ⟨l0, l1⟩ := Dk.has_lt hh
    go_enter Try.func24, Try.ntmps24
    go_wp2_with (first
      | (refine wpList_box_agg rfl 30 _ rfl (rval (.slice so D.st.length sc) (.slice po D.pd.length pc) D) _ rfl rfl ?_)
      | (refine wpList_alloc_agg rfl 55 rfl _ Try.zeroS ?_; rw [hW.out])
      | (refine wpList_load_as rfl 30 _ rfl w.heap.size 0 rfl (rval (.slice so D.st.length sc) (.slice po D.pd.length pc) D) _ rfl hr0 Try.row30 Try.size30 ?_)
      | (go_at_call 42; refine stop_here ?_))
    unfold Hid
    refine (c_there i _ hg).mono ?_
    rw [hh]
    rintro e w2 ⟨rfl, hf2⟩
    have hg2 := hg.nw hf2
    have hv2 := (hf2.block _ (by omega) id).trans hT.var
    have hs2 := (hf2.block _ (by omega) id).trans hT.res
    obtain ⟨c0, -, -, -, -, -⟩ := r_cells hv2
    obtain ⟨b, off, rfl, hr⟩ := hg2.range rfl i hh
    have hfin : Nw w (w2.setRow (w.heap.size + 1) ((D.get i).map bv).toArray) := (hT.fr.trans hf2 (fun _ => False.elim)).setRow (.inr (by omega)) _
    have hrow := range_all (setRow_heap w2 (w.heap.size + 1) _ ((D.get i).map bv).toArray 55 _ hs2)
    clear hg hg2 hv2 hf2 hT h
    go_wp2_with (first
      | (refine wpList_load_as rfl 55 _ rfl b (off + i.toNat * 128) rfl (sec (D.get i)) _ rfl hr Try.rowS (sizeS hlen) ?_)
      | (refine wpList_store_all rfl 55 _ _ rfl (w.heap.size + 1) rfl (sec (D.get i)) rfl _ rfl _ 55 hs2 (sec_fit hlen) (bv_oneCell _) (sizeS hlen) ?_))
    refine bodyPost_ret (results_cell1 rfl _ (w.heap.size + 1) _ _ rfl rfl hrow Try.rowS (sizeS hlen)) rfl ?_
    exact ⟨rfl, hfin⟩
  · have hh : D.has i = false := by simpa using hh
    rw [Dk.get_out hh]
    go_enter Try.func24, Try.ntmps24
    go_wp2_with (first
      | (refine wpList_box_agg rfl 30 _ rfl (rval (.slice so D.st.length sc) (.slice po D.pd.length pc) D) _ rfl rfl ?_)
      | (refine wpList_alloc_agg rfl 55 rfl _ Try.zeroS ?_; rw [hW.out])
      | (refine wpList_load_as rfl 30 _ rfl w.heap.size 0 rfl (rval (.slice so D.st.length sc) (.slice po D.pd.length pc) D) _ rfl hr0 Try.row30 Try.size30 ?_)
      | (go_at_call 42; refine stop_here ?_))
    unfold Hid
    refine (c_there i _ hg).mono ?_
    rw [hh]
    rintro e w2 ⟨rfl, hf2⟩
    have hs2 := (hf2.block _ (by omega) id).trans hT.res
    have hfin : Nw w (w2.setRow (w.heap.size + 1) (z128.map bv).toArray) := (hT.fr.trans hf2 (fun _ => False.elim)).setRow (.inr (by omega)) _
    have hrow := range_all (setRow_heap w2 (w.heap.size + 1) _ (z128.map bv).toArray 55 _ hs2)
    clear hg hf2 hT h
    go_wp2_with (first
      | (refine wpList_build_as rfl 55 #[] rfl (sec z128) _ rfl Try.builtS ?_)
      | (refine wpList_store_all rfl 55 _ _ rfl (w.heap.size + 1) rfl (sec z128) rfl _ rfl _ 55 hs2 rfl (bv_oneCell _) (sizeS z128_length) ?_))
    refine bodyPost_ret (results_cell1 rfl _ (w.heap.size + 1) _ _ rfl rfl hrow Try.rowS (sizeS z128_length)) rfl ?_
    exact ⟨rfl, hfin⟩
end Go.Proofs.Ytihdhlciblkbiaa

namespace Go.Proofs.Ytihdhlciblkbiaa
set_option linter.unusedVariables false
set_option linter.unusedSimpArgs false
set_option maxRecDepth 20000
open Go.RowKit

theorem lay_zero (old new : List UInt8) : lay old new 0 = old := by simp [lay]

theorem lay_set {old new : List UInt8} (ho : old.length = 128) (hn : new.length = 128) (i : Nat) (hi : i < 128) : (lay old new i).set i (new[i]'(by omega)) = lay old new (i + 1) := by
  unfold lay
  rw [List.set_append_right _ _ (by rw [List.length_take]; omega), List.length_take, Nat.min_eq_left (by omega), Nat.sub_self]
  rw [List.take_succ_eq_append_getElem (by omega), List.append_assoc]
  congr 1
  rw [List.drop_eq_getElem_cons (show i < old.length by omega)]
  rfl

structure TornAt (w wr : World) (old new : List UInt8) (k : Nat) : Prop where
  a : wr.heap[w.heap.size]? = some (.cells ((lay old new k).map bv).toArray 55 (0, 0))
  b : wr.heap[w.heap.size + 1]? = some (.cells (new.map bv).toArray 55 (0, 0))
  c : wr.heap[w.heap.size + 2]? = some (.cells (z128.map bv).toArray 55 (0, 0))
  fr : Nw w wr

theorem torn_start (w : World) (old new : List UInt8) : TornAt w (((w.alloc (.cells (old.map bv).toArray 55)).alloc (.cells (new.map bv).toArray 55)).alloc (.cells (z128.map bv).toArray 55)) old new 0 := by
  have h2 : ((w.alloc (.cells (old.map bv).toArray 55)).alloc (.cells (new.map bv).toArray 55)).heap.size = w.heap.size + 2 := by simp
  refine ⟨?_, ?_, ?_, (((Fr.refl _ w).alloc _).alloc _).alloc _⟩
  · rw [lay_zero, Below.heap_alloc _ _ _ (by omega)]; exact heap_alloc2_old w _ _
  · rw [Below.heap_alloc _ _ _ (by omega)]; exact heap_alloc2_new w _ _
  · have := heap_alloc_new ((w.alloc (.cells (old.map bv).toArray 55)).alloc (.cells (new.map bv).toArray 55)) (.cells (z128.map bv).toArray 55)
    rwa [h2] at this

set_option maxRecDepth 20000 in
set_option maxHeartbeats 1600000 in
theorem c_torn (old new : List UInt8) (cut : Int) (w : World) (ho : old.length = 128) (hn : new.length = 128) :
    Calls Try.prog 36 #[sec old, sec new, .int .i64 cut] w fun e w' => e = .returned (sec (lay old new (clamp cut 128).toNat)) ∧ Nw w w' := by
  have hs := torn_start w old new
  have hal3 : Try.prog.arrayLen 55 = 128 := by kernel_rfl
  obtain ⟨c, hc, hc8⟩ : ∃ c : Nat, clamp cut 128 = (c : Int) ∧ c ≤ 128 := ⟨(clamp cut 128).toNat, by have := clamp_range cut 128 (by omega); omega, by have := clamp_range cut 128 (by omega); omega⟩
  have hcl : ∀ i : Nat, i < 128 → ((i : Int) < cut ↔ i < c) := fun i hi => by unfold clamp at hc; omega
  rw [hc, Int.toNat_natCast]
  clear hc
  have hz1 : (w.alloc (.cells (old.map bv).toArray 55)).heap.size = w.heap.size + 1 := by simp
  have hz2 : ((w.alloc (.cells (old.map bv).toArray 55)).alloc (.cells (new.map bv).toArray 55)).heap.size = w.heap.size + 2 := by simp
  generalize hW : ((w.alloc (.cells (old.map bv).toArray 55)).alloc (.cells (new.map bv).toArray 55)).alloc (.cells (z128.map bv).toArray 55) = W at *
  have hW : Hid (((w.alloc (.cells (old.map bv).toArray 55)).alloc (.cells (new.map bv).toArray 55)).alloc (.cells (z128.map bv).toArray 55) = W) := hW
  go_enter Try.func36, Try.ntmps36
  go_wp2_with (first
    | (refine wpList_box_agg rfl 55 (.tmp 0) rfl (sec old) _ rfl rfl ?_)
    | (refine wpList_box_agg rfl 55 (.tmp 1) rfl (sec new) _ rfl rfl ?_; rw [hz1])
    | (refine wpList_alloc_agg rfl 55 rfl _ Try.zeroS ?_; rw [hz2, hW.out]))
  go_loopw [7] (fun i wr => ∃ k : Nat, k ≤ 128 ∧ i = .int .i64 k ∧ TornAt w wr old new (min k c)) (fun i _ => 128 - (intOf i).toNat)
  case atStart => exact ⟨0, by omega, rfl, by rw [Nat.zero_min]; exact hs⟩
  case round =>
    obtain ⟨k, hk, rfl, ht⟩ := hrel
    clear hs hW hz1 hz2
    by_cases hlt : k < 128
    · have hkI : (k : Int) < 128 := by omega
      have hll : (lay old new (min k c)).length = 128 := lay_length ho hn (by omega)
      by_cases hkc : k < c
      · have hcI : (k : Int) < cut := (hcl k hlt).2 hkc
        have e1 : min k c = k := by omega
        have e2 : min (k + 1) c = k + 1 := by omega
        rw [e1] at ht hll
        have hc1 : wr.cell? ⟨w.heap.size + 1, k, none⟩ = some (bv (new[k]'(by omega))) := cell_blk ht.b (by simp [hn, hlt])
        have hc0 : wr.cell? ⟨w.heap.size, k, none⟩ = some (bv ((lay old new k)[k]'(by omega))) := cell_blk ht.a (by simp [hll, hlt])
        have hf0 : wr.frozen? ⟨w.heap.size, k, none⟩ = false := free_blk ht.a
        have hnx : TornAt w (wr.setCell ⟨w.heap.size, k, none⟩ (bv (new[k]'(by omega)))) old new (min (k + 1) c) := by
          rw [e2]
          refine ⟨?_, ?_, ?_, ht.fr.setCell (p := ⟨w.heap.size, k, none⟩) (.inr (Nat.le_refl _)) _⟩
          · rw [blk_setCell ht.a, ← lay_set ho hn k hlt]; simp
          · rw [Below.heap_setCell _ _ _ _ (by simp)]; exact ht.b
          · rw [Below.heap_setCell _ _ _ _ (by simp)]; exact ht.c
        unfold bv at hc1 hc0 hnx
        generalize new[k]'(by omega) = y at *
        generalize (lay old new k)[k]'(by omega) = x at *
        clear ht e1 e2
        go_wp2
        go_roundw
        case rel => exact ⟨k + 1, by omega, by go_num, hnx⟩
        case measure => simp [intOf]; omega
      · have hcI : ¬ (k : Int) < cut := fun h => hkc ((hcl k hlt).1 h)
        have e1 : min k c = min (k + 1) c := by omega
        rw [e1] at ht
        clear e1
        go_wp2
        go_roundw
        case rel => exact ⟨k + 1, by omega, by go_num, ht⟩
        case measure => simp [intOf]; omega
    · have e1 : min k c = c := by omega
      rw [e1] at ht
      clear e1
      have hll : (lay old new c).length = 128 := lay_length ho hn hc8
      have hr := range_all ht.a
      have hres := ht.c
      have hfin : Nw w (wr.setRow (w.heap.size + 2) ((lay old new c).map bv).toArray) := ht.fr.setRow (.inr (by omega)) _
      have hrow := range_all (setRow_heap wr (w.heap.size + 2) _ ((lay old new c).map bv).toArray 55 _ hres)
      clear ht hcl
      generalize hL : lay old new c = L at *
      have hL : Hid (lay old new c = L) := hL
      go_wp2_with (first
        | (refine wpList_load_as rfl 55 _ rfl w.heap.size 0 rfl (sec L) _ rfl hr Try.rowS (sizeS hll) ?_)
        | (refine wpList_store_all rfl 55 _ _ rfl (w.heap.size + 2) rfl (sec L) rfl _ rfl _ 55 hres (sec_fit hll) (bv_oneCell _) (sizeS hll) ?_))
      refine bodyPost_ret (results_cell1 rfl _ (w.heap.size + 2) _ _ rfl rfl hrow Try.rowS (sizeS hll)) rfl ?_
      exact ⟨by rw [hL.out]; rfl, hfin⟩
end Go.Proofs.Ytihdhlciblkbiaa

namespace Go.Proofs.Ytihdhlciblkbiaa
set_option linter.unusedVariables false
set_option linter.unusedSimpArgs false
set_option maxRecDepth 20000
open Go.RowKit

/-! ### New -/
theorem info55 : ∃ i, Try.prog.info? 55 = some i ∧ i.zero = some (sec z128) ∧ i.size = 128 ∧ i.bytes = 128 := by
  have := Try.info55
  cases hq : Try.prog.info? 55 with
  | none => rw [hq] at this; cases this
  | some i => rw [hq] at this; exact ⟨i, rfl, by simpa using this⟩

set_option maxHeartbeats 1600000 in
theorem c_rnew (n : Int) (w : World) : Calls Try.prog 10 #[.int .i64 n] w fun e w' => ∃ vs vp, e = .returned (rval vs vp (newDk n)) ∧ RefG (fun b => w.heap.size ≤ b) w' vs vp (newDk n) ∧ Nw w w' := by
  obtain ⟨i0, hi, hiz, his, hib⟩ := info55
  obtain ⟨z, hz⟩ : ∃ z : Int, z = clamp n 1024 := ⟨_, rfl⟩
  have hzr := clamp_range n 1024 (by omega)
  rw [← hz] at hzr
  have hst : (newDk n).st = List.replicate z.toNat z128 := by simp [newDk, hz]
  have hmk : ∀ w : World, (Instr.makeSlice 27 (.int .i64 z) (.int .i64 z)).run Try.prog w = .ok (.slice (some ⟨w.heap.size, 0, none⟩) z.toNat z.toNat) (w.alloc (.cells (flat (List.replicate z.toNat z128)).toArray 55)) := fun w => by
    have hr := run_make (P := Try.prog) w 27 55 i0 (sec z128) Try.underlying27 hi hiz .i64 .i64 z z (by omega) (by omega) (by rw [hib]; omega) (by omega)
    rw [his, made_flat] at hr
    exact hr
  clear hi hiz his hib
  have hW1 := heap_alloc_new w (.cells #[.slice none 0 0, .slice none 0 0, .int .i64 0, .bool false] 30)
  have hres : ((w.alloc (.cells #[.slice none 0 0, .slice none 0 0, .int .i64 0, .bool false] 30)).alloc (.cells (flat (List.replicate z.toNat z128)).toArray 55)).heap[w.heap.size]? = some (.cells #[.slice none 0 0, .slice none 0 0, .int .i64 0, .bool false] 30 (0, 0)) := heap_alloc2_old w _ _
  have hrow : ((w.alloc (.cells #[.slice none 0 0, .slice none 0 0, .int .i64 0, .bool false] 30)).alloc (.cells (flat (List.replicate z.toNat z128)).toArray 55)).heap[w.heap.size + 1]? = some (.cells (flat (List.replicate z.toNat z128)).toArray 55 (0, 0)) := heap_alloc2_new w _ _
  have hfr : Nw w ((w.alloc (.cells #[.slice none 0 0, .slice none 0 0, .int .i64 0, .bool false] 30)).alloc (.cells (flat (List.replicate z.toNat z128)).toArray 55)) := ((Fr.refl _ w).alloc _).alloc _
  have hz1 : (w.alloc (.cells #[.slice none 0 0, .slice none 0 0, .int .i64 0, .bool false] 30)).heap.size = w.heap.size + 1 := by simp
  have hmk1 := hmk (w.alloc (.cells #[.slice none 0 0, .slice none 0 0, .int .i64 0, .bool false] 30))
  rw [hz1] at hmk1
  clear hmk
  generalize hWa : w.alloc (.cells #[.slice none 0 0, .slice none 0 0, .int .i64 0, .bool false] 30) = Wa at *
  have hWa : Hid (w.alloc (.cells #[.slice none 0 0, .slice none 0 0, .int .i64 0, .bool false] 30) = Wa) := hWa
  generalize Wa.alloc (.cells (flat (List.replicate z.toNat z128)).toArray 55) = Wb at *
  have hlen : (newDk n).st.length = z.toNat := by rw [hst, List.length_replicate]
  have hfin : Nw w (Wb.setRow w.heap.size (rcells (.slice (some ⟨w.heap.size + 1, 0, none⟩) z.toNat z.toNat) (.slice none 0 0) (newDk n)).toArray) := hfr.setRow (.inr (Nat.le_refl _)) _
  have hrr := range_all (setRow_heap Wb w.heap.size _ (rcells (.slice (some ⟨w.heap.size + 1, 0, none⟩) z.toNat z.toNat) (.slice none 0 0) (newDk n)).toArray 30 _ hres)
  have hG : RefG (fun b => w.heap.size ≤ b) (Wb.setRow w.heap.size (rcells (.slice (some ⟨w.heap.size + 1, 0, none⟩) z.toNat z.toNat) (.slice none 0 0) (newDk n)).toArray) (.slice (some ⟨w.heap.size + 1, 0, none⟩) z.toNat z.toNat) (.slice none 0 0) (newDk n) := by
    refine ⟨?_, ⟨none, 0, rfl, ⟨Nat.le_refl _, Nat.zero_le _⟩, fun _ => rfl, fun i c h => by simp [newDk, pcells] at h⟩, newDk_ok n⟩
    rw [hlen, hst]
    refine ⟨_, z.toNat, rfl, ⟨Nat.le_refl _, by unfold maxLen; omega⟩, fun h => by simp at h, fun i c hc => ⟨w.heap.size + 1, 0, rfl, by omega, ?_⟩⟩
    rw [Nat.zero_add]
    refine cell_blk (cs := (flat (List.replicate z.toNat z128)).toArray) (t := 55) (fr := (0, 0)) ?_ (by simpa using hc)
    rw [setRow_other _ _ _ _ (by omega)]; exact hrow
  have hone : ∀ u ∈ rcells (.slice (some ⟨w.heap.size + 1, 0, none⟩) z.toNat z.toNat) (.slice none 0 0) (newDk n), u.oneCell' = true := r_oneCell
  have hval : rval (.slice (some ⟨w.heap.size + 1, 0, none⟩) z.toNat z.toNat) (.slice none 0 0) (newDk n) = .agg #[.slice (some ⟨w.heap.size + 1, 0, none⟩) z.toNat z.toNat, .slice none 0 0, .int .i64 (-1), .bool false] := rfl
  have hval : Hid (rval (.slice (some ⟨w.heap.size + 1, 0, none⟩) z.toNat z.toNat) (.slice none 0 0) (newDk n) = .agg #[.slice (some ⟨w.heap.size + 1, 0, none⟩) z.toNat z.toNat, .slice none 0 0, .int .i64 (-1), .bool false]) := hval
  generalize newDk n = D at *
  clear hst hlen hfr hrow hW1
  have hfinish : ∀ (V : Nat), V = z.toNat → True := fun _ _ => trivial
  clear hfinish
  by_cases hn0 : n < 0
  · have e : z = 0 := by rw [hz]; unfold clamp; omega
    subst e
    clear hz
    go_enter Try.func10, Try.ntmps10
    go_wp2_with (first
      | (refine wpList_alloc_agg rfl 30 rfl _ Try.zero30 ?_; rw [hWa.out])
      | (refine wpList_store_all rfl 30 _ _ rfl w.heap.size rfl _ hval.out.symm _ rfl _ 30 hres res_fit hone Try.size30 ?_))
    refine bodyPost_ret (results_cell1 rfl _ w.heap.size _ _ rfl rfl hrr Try.row30 Try.size30) rfl ?_
    exact ⟨_, _, rfl, hG, hfin⟩
  · by_cases hn1 : 1024 < n
    · have e : z = 1024 := by rw [hz]; unfold clamp; omega
      subst e
      clear hz
      go_enter Try.func10, Try.ntmps10
      go_wp2_with (first
        | (refine wpList_alloc_agg rfl 30 rfl _ Try.zero30 ?_; rw [hWa.out])
        | (refine wpList_store_all rfl 30 _ _ rfl w.heap.size rfl _ hval.out.symm _ rfl _ 30 hres res_fit hone Try.size30 ?_))
      refine bodyPost_ret (results_cell1 rfl _ w.heap.size _ _ rfl rfl hrr Try.row30 Try.size30) rfl ?_
      exact ⟨_, _, rfl, hG, hfin⟩
    · have e : z = n := by rw [hz]; unfold clamp; omega
      subst e
      clear hz
      go_enter Try.func10, Try.ntmps10
      go_wp2_with (first
        | (refine wpList_alloc_agg rfl 30 rfl _ Try.zero30 ?_; rw [hWa.out])
        | (refine wpList_store_all rfl 30 _ _ rfl w.heap.size rfl _ hval.out.symm _ rfl _ 30 hres res_fit hone Try.size30 ?_))
      refine bodyPost_ret (results_cell1 rfl _ w.heap.size _ _ rfl rfl hrr Try.row30 Try.size30) rfl ?_
      exact ⟨_, _, rfl, hG, hfin⟩
end Go.Proofs.Ytihdhlciblkbiaa

namespace Go.Proofs.Ytihdhlciblkbiaa
set_option linter.unusedVariables false
set_option linter.unusedSimpArgs false
set_option maxRecDepth 20000
open Go.RowKit

def Dk.rerr (D : Dk) (i : Int) : Int := if D.has i = true then 0 else 41

set_option maxRecDepth 100000 in
theorem Try.zero88 : (Try.prog.info? 88).bind (·.zero) = some (.agg (wcell (0, z128)).toArray) := by kernel_rfl
theorem Try.size88 : (Try.prog.info? 88).map (·.size) = some 129 := by kernel_rfl
theorem Try.row88 : (Try.prog.underlying 88).map TypeDesc.isRow = some true := by kernel_rfl
theorem size88 {p : Nat × List UInt8} (h : p.2.length = 128) : (Try.prog.info? 88).map (·.size) = some (wcell p).length := by rw [wcell_length h]; exact Try.size88
theorem info88 : ∃ i, Try.prog.info? 88 = some i ∧ i.zero = some (wrv (0, z128)) ∧ i.size = 129 ∧ i.bytes = 136 := by
  have : (Try.prog.info? 88).map (fun i => (i.zero, i.size, i.bytes)) = some (some (wrv (0, z128)), 129, 136) := by kernel_rfl
  cases hq : Try.prog.info? 88 with
  | none => rw [hq] at this; cases this
  | some i => rw [hq] at this; exact ⟨i, rfl, by simpa using this⟩
set_option maxRecDepth 100000 in
theorem Try.built88 (parts : List (Nat × Value)) : Try.prog.built 88 parts = Instr.fill (fun i => #[(0, 1), (1, 128)][i]?) (wcell (0, z128)).toArray parts := by kernel_rfl
theorem built88 (i : Nat) (s : List UInt8) (hs : s.length = 128) : Try.prog.built 88 [(0, .int .i64 (i : Int)), (1, sec s)] = some (wcell (i, s)).toArray := by
  rw [Try.built88, ← Try.built86]; exact built86 i s hs

/-- Where the pending writes lie. -/
theorem RefG.prange {X : Nat → Prop} {w : World} {vs : Value} {po : Option Addr} {n pc : Nat} {D : Dk} (h : RefG X w vs (.slice po n pc) D) (hn : n = D.pd.length) (k : Nat) (hk : k < D.pd.length) :
    ∃ b off, po = some ⟨b, off, none⟩ ∧ w.rangeAt b (off + k * 129) (wcell D.pd[k]) ∧ D.pd[k].2.length = 128 ∧ D.pd[k].1 < D.st.length := by
  subst hn
  have hw := h.ok.wr D.pd[k] (List.getElem_mem hk)
  have hget : ∀ j, j < 129 → (pcells D.pd)[k * 129 + j]? = (wcell D.pd[k])[j]? := fun j hj => pcells_get (fun p hp => (h.ok.wr p hp).2) k hk j hj
  obtain ⟨b, off, e, _, _⟩ := h.pd.get (k * 129 + 0) _ (hget 0 (by omega))
  refine ⟨b, off, e, fun j v hv => ?_, hw.2, hw.1⟩
  have hj : j < 129 := by
    have := (List.getElem?_eq_some_iff.1 hv).1
    rwa [wcell_length hw.2] at this
  obtain ⟨b', off', e', _, hc⟩ := h.pd.get (k * 129 + j) v ((hget j hj).trans hv)
  rw [e] at e'
  simp only [Option.some.injEq, Addr.mk.injEq, and_true] at e'
  obtain ⟨rfl, rfl⟩ := e'
  rwa [Nat.add_assoc]

def lastN (D : Dk) (i k : Nat) : List UInt8 := (D.pd.take k).foldl (fun s p => if p.1 = i then p.2 else s) (D.st.getD i z128)

theorem lastN_succ (D : Dk) (i k : Nat) (hk : k < D.pd.length) : lastN D i (k + 1) = if D.pd[k].1 = i then D.pd[k].2 else lastN D i k := by
  unfold lastN
  rw [List.take_succ_eq_append_getElem hk, List.foldl_append]; rfl

theorem lastN_length {D : Dk} (h : D.Ok) (i k : Nat) : (lastN D i k).length = 128 := foldl_last_length _ _ _ (h.getD _) (fun p hp => (h.wr p (List.mem_of_mem_take hp)).2)

structure ReadAt (w wr : World) (N V : Nat) (vs vp : Value) (D : Dk) (s : List UInt8) : Prop where
  v : wr.heap[V]? = some (.cells (s.map bv).toArray 55 (0, 0))
  r : wr.heap[N + 1]? = some (.cells (z128.map bv).toArray 55 (0, 0))
  fr : Nw w wr

set_option maxHeartbeats 3200000 in
theorem c_rread {X : Nat → Prop} {vs vp : Value} {D : Dk} (i : Int) (w : World) (h : RefG X w vs vp D) :
    Calls Try.prog 38 #[rval vs vp D, .int .i64 i] w fun e w' => e = .returned (.tuple #[sec (D.read i), .int .i64 (D.rerr i)]) ∧ Nw w w' := by
  obtain ⟨so, sc, po, pc, rfl, rfl, h1, h2, h3, h4⟩ := h.form
  have hT := twoS w (.slice so D.st.length sc) (.slice po D.pd.length pc) D
  have hlen := h.ok.get i
  have hrl := h.ok.read i
  have hn := h.ok.n
  generalize hW : (w.alloc (.cells (rcells (.slice so D.st.length sc) (.slice po D.pd.length pc) D).toArray 30)).alloc (.cells (z128.map bv).toArray 55) = W at *
  have hW : Hid ((w.alloc (.cells (rcells (.slice so D.st.length sc) (.slice po D.pd.length pc) D).toArray 30)).alloc (.cells (z128.map bv).toArray 55) = W) := hW
  have hg := h.nw hT.fr
  obtain ⟨-, -, -, -, -, hr0⟩ := r_cells hT.var
  have hsz := hT.size
  by_cases hh : D.has i = true
  · obtain ⟨l0, l1⟩ := Dk.has_lt hh
    have e1 : D.rerr i = 0 := by unfold Dk.rerr; rw [if_pos hh]
    have e2 : D.read i = lastN D i.toNat D.pd.length := by unfold Dk.read lastN; rw [if_pos hh, List.take_length]; rfl
    have e3 : D.get i = lastN D i.toNat 0 := by unfold Dk.get lastN; rw [if_pos hh]; rfl
    rw [e1, e2]
    rw [e3] at hlen
    go_enter Try.func38, Try.ntmps38
    go_wp2_with (first
      | (refine wpList_box_agg rfl 30 _ rfl (rval (.slice so D.st.length sc) (.slice po D.pd.length pc) D) _ rfl rfl ?_)
      | (refine wpList_alloc_agg rfl 55 rfl _ Try.zeroS ?_; rw [hW.out])
      | (refine wpList_load_as rfl 30 _ rfl w.heap.size 0 rfl (rval (.slice so D.st.length sc) (.slice po D.pd.length pc) D) _ rfl hr0 Try.row30 Try.size30 ?_)
      | (go_at_call 42; refine stop_here ?_))
    unfold Hid
    refine (c_there i _ hg).mono ?_
    rw [hh]
    rintro e w2 ⟨rfl, hf2⟩
    have hg2 := hg.nw hf2
    have hv2 := (hf2.block _ (by omega) id).trans hT.var
    have hs2 := (hf2.block _ (by omega) id).trans hT.res
    obtain ⟨c0, -, -, -, -, -⟩ := r_cells hv2
    obtain ⟨b, off, rfl, hr⟩ := hg2.range rfl i hh
    rw [e3] at hr
    have hsz2 := hf2.size
    have hm := made w2
    have hnew := hm.new
    have hff := hm.fin (lastN D i.toNat 0)
    have hN3 := (hff.block _ (heap_lt hv2) id).trans hv2
    have hst : ReadAt w ((w2.alloc (.cells (z128.map bv).toArray 55)).setRow w2.heap.size ((lastN D i.toNat 0).map bv).toArray) w.heap.size w2.heap.size (.slice (some ⟨b, off, none⟩) D.st.length sc) (.slice po D.pd.length pc) D (lastN D i.toNat 0) :=
      ⟨setRow_heap _ _ _ _ 55 _ hnew, (hff.block _ (by omega) id).trans hs2, (hT.fr.trans hf2 (fun _ => False.elim)).trans hff (fun _ => False.elim)⟩
    obtain ⟨-, c1, -, -, -, -⟩ := r_cells hN3
    generalize hW3 : (w2.alloc (.cells (z128.map bv).toArray 55)).setRow w2.heap.size ((lastN D i.toNat 0).map bv).toArray = W3 at *
    have hW3 : Hid ((w2.alloc (.cells (z128.map bv).toArray 55)).setRow w2.heap.size ((lastN D i.toNat 0).map bv).toArray = W3) := hW3
    clear hg hg2 hv2 hf2 hT e1 e2 e3 hs2 hff hm hN3
    go_wp2_with (first
      | (refine wpList_load_as rfl 55 _ rfl b (off + i.toNat * 128) rfl (sec (lastN D i.toNat 0)) _ rfl hr Try.rowS (sizeS hlen) ?_)
      | (refine wpList_alloc_agg rfl 55 rfl _ Try.zeroS ?_)
      | (refine wpList_store_all rfl 55 _ _ rfl w2.heap.size rfl (sec (lastN D i.toNat 0)) rfl _ rfl _ 55 hnew (sec_fit hlen) (bv_oneCell _) (sizeS hlen) ?_; rw [hW3.out]))
    have hVw : w.heap.size + 2 ≤ w2.heap.size := by omega
    clear hW3 hnew hr c0 c1
    generalize w2.heap.size = V at *
    go_loopw [22] (fun j wr => ∃ k : Nat, k ≤ D.pd.length ∧ j = .int .i64 k ∧ ReadAt w wr w.heap.size V (.slice (some ⟨b, off, none⟩) D.st.length sc) (.slice po D.pd.length pc) D (lastN D i.toNat k)) (fun j _ => D.pd.length - (intOf j).toNat)
    case atStart => exact ⟨0, Nat.zero_le _, rfl, hst⟩
    case round =>
      obtain ⟨k, hk, rfl, hR⟩ := hrel
      clear hst
      have hll := lastN_length h.ok i.toNat k
      by_cases hlt : k < D.pd.length
      · obtain ⟨pb, poff, rfl, hpr, hp4, hp5⟩ := (h.nw hR.fr).prange rfl k hlt
        have H1 : Hid (lastN D i.toNat (k + 1) = if D.pd[k].1 = i.toNat then D.pd[k].2 else lastN D i.toNat k) := lastN_succ D i.toNat k hlt
        generalize D.pd[k] = p at *
        have hv := varW wr (wcell (0, z128)).toArray p 88
        generalize hWv : (wr.alloc (.cells (wcell (0, z128)).toArray 88)).setRow wr.heap.size (wcell p).toArray = W5 at *
        have hWv : Hid ((wr.alloc (.cells (wcell (0, z128)).toArray 88)).setRow wr.heap.size (wcell p).toArray = W5) := hWv
        obtain ⟨d0, d1⟩ := hv.at
        have hR5 : ReadAt w W5 w.heap.size V (.slice (some ⟨b, off, none⟩) D.st.length sc) (.slice (some ⟨pb, poff, none⟩) D.pd.length pc) D (lastN D i.toNat k) := ⟨(hv.fr.block _ (heap_lt hR.v) id).trans hR.v, (hv.fr.block _ (heap_lt hR.r) id).trans hR.r, hR.fr.trans hv.fr (fun _ => False.elim)⟩
        clear hv hR
        by_cases hpi : p.1 = i.toNat
        · have e4 : ((p.1 : Int) == i) = true := by simp; omega
          rw [if_pos hpi] at H1
          have hvb := hR5.v
          have hR6 : ReadAt w (W5.setRow V (p.2.map bv).toArray) w.heap.size V (.slice (some ⟨b, off, none⟩) D.st.length sc) (.slice (some ⟨pb, poff, none⟩) D.pd.length pc) D (lastN D i.toNat (k + 1)) := by
            rw [H1.out]
            exact ⟨setRow_heap _ _ _ _ 55 _ hvb, by rw [setRow_other _ _ _ _ (by omega)]; exact hR5.r, hR5.fr.setRow (.inr (by omega)) _⟩
          clear hR5
          go_wp2_with (first
            | (refine wpList_load_as rfl 88 _ rfl pb (poff + k * 129) rfl (wrv p) _ rfl hpr Try.row88 (size88 hp4) ?_)
            | (refine wpList_alloc_agg rfl 88 rfl _ Try.zero88 ?_)
            | (refine wpList_store_all rfl 88 _ _ rfl wr.heap.size rfl (wrv p) rfl _ rfl _ 88 (heap_alloc_new wr _) (wr_fit hp4) (wcell_oneCell _) (size88 hp4) ?_; rw [hWv.out])
            | (refine wpList_load_as rfl 55 _ rfl wr.heap.size 1 rfl (sec p.2) _ rfl d1 Try.rowS (sizeS hp4) ?_)
            | (refine wpList_store_all rfl 55 _ _ rfl V rfl (sec p.2) rfl _ rfl _ 55 hvb (by rw [List.length_map, List.length_map, hp4, hll]) (bv_oneCell _) (sizeS hp4) ?_))
          go_roundw
          case rel => exact ⟨k + 1, by omega, by go_num, hR6⟩
          case measure => simp [intOf]; omega
        · have e4 : ((p.1 : Int) == i) = false := by simp; omega
          rw [if_neg hpi] at H1
          go_wp2_with (first
            | (refine wpList_load_as rfl 88 _ rfl pb (poff + k * 129) rfl (wrv p) _ rfl hpr Try.row88 (size88 hp4) ?_)
            | (refine wpList_alloc_agg rfl 88 rfl _ Try.zero88 ?_)
            | (refine wpList_store_all rfl 88 _ _ rfl wr.heap.size rfl (wrv p) rfl _ rfl _ 88 (heap_alloc_new wr _) (wr_fit hp4) (wcell_oneCell _) (size88 hp4) ?_; rw [hWv.out]))
          go_roundw
          case rel => exact ⟨k + 1, by omega, by go_num, by rw [H1.out]; exact hR5⟩
          case measure => simp [intOf]; omega
      · have hkn : k = D.pd.length := by omega
        subst hkn
        have hr := range_all hR.v
        have hres := hR.r
        have hfin : Nw w (wr.setRow (w.heap.size + 1) ((lastN D i.toNat D.pd.length).map bv).toArray) := hR.fr.setRow (.inr (by omega)) _
        have hrow := range_all (setRow_heap wr (w.heap.size + 1) _ ((lastN D i.toNat D.pd.length).map bv).toArray 55 _ hres)
        clear hR h
        go_wp2_with (first
          | (refine wpList_load_as rfl 55 _ rfl V 0 rfl (sec (lastN D i.toNat D.pd.length)) _ rfl hr Try.rowS (sizeS hll) ?_)
          | (refine wpList_store_all rfl 55 _ _ rfl (w.heap.size + 1) rfl (sec (lastN D i.toNat D.pd.length)) rfl _ rfl _ 55 hres (sec_fit hll) (bv_oneCell _) (sizeS hll) ?_))
        refine bodyPost_ret (results_cell2 rfl _ (w.heap.size + 1) _ _ rfl rfl hrow Try.rowS (sizeS hll)) rfl ?_
        exact ⟨rfl, hfin⟩
  · have hh : D.has i = false := by simpa using hh
    have e1 : D.rerr i = 41 := by unfold Dk.rerr; simp [hh]
    have e2 : D.read i = z128 := by unfold Dk.read; simp [hh]
    rw [e1, e2]
    go_enter Try.func38, Try.ntmps38
    go_wp2_with (first
      | (refine wpList_box_agg rfl 30 _ rfl (rval (.slice so D.st.length sc) (.slice po D.pd.length pc) D) _ rfl rfl ?_)
      | (refine wpList_alloc_agg rfl 55 rfl _ Try.zeroS ?_; rw [hW.out])
      | (refine wpList_load_as rfl 30 _ rfl w.heap.size 0 rfl (rval (.slice so D.st.length sc) (.slice po D.pd.length pc) D) _ rfl hr0 Try.row30 Try.size30 ?_)
      | (go_at_call 42; refine stop_here ?_))
    unfold Hid
    refine (c_there i _ hg).mono ?_
    rw [hh]
    rintro e w2 ⟨rfl, hf2⟩
    have hs2 := (hf2.block _ (by omega) id).trans hT.res
    have hfin : Nw w (w2.setRow (w.heap.size + 1) (z128.map bv).toArray) := (hT.fr.trans hf2 (fun _ => False.elim)).setRow (.inr (by omega)) _
    have hrow := range_all (setRow_heap w2 (w.heap.size + 1) _ (z128.map bv).toArray 55 _ hs2)
    clear hg hf2 hT h e1 e2
    go_wp2_with (first
      | (refine wpList_build_as rfl 55 #[] rfl (sec z128) _ rfl Try.builtS ?_)
      | (refine wpList_store_all rfl 55 _ _ rfl (w.heap.size + 1) rfl (sec z128) rfl _ rfl _ 55 hs2 rfl (bv_oneCell _) (sizeS z128_length) ?_))
    refine bodyPost_ret (results_cell2 rfl _ (w.heap.size + 1) _ _ rfl rfl hrow Try.rowS (sizeS z128_length)) rfl ?_
    exact ⟨rfl, hfin⟩
end Go.Proofs.Ytihdhlciblkbiaa

namespace Go.Proofs.Ytihdhlciblkbiaa
set_option linter.unusedVariables false
set_option linter.unusedSimpArgs false
set_option maxRecDepth 20000
open Go.RowKit

theorem Slp.toSl {X : Nat → Prop} {w : World} {v : Value} {n : Nat} {cs : List Value} (h : Slp X w v n cs) : Sl w.heap.size w v n cs := by
  obtain ⟨ao, cap, hv, hc, hn, hcs⟩ := h
  refine ⟨ao, cap, hv, hc, hn, fun i c hi => ?_⟩
  obtain ⟨b, off, h1, _, h3⟩ := hcs i c hi
  exact ⟨b, off, h1, World.block_lt_of_cell? w ⟨b, off + i, none⟩ h3, h3⟩

/-- The three variables of Put. -/
structure Three (w W : World) (vs vp : Value) (D : Dk) (s : List UInt8) : Prop where
  var : W.heap[w.heap.size]? = some (.cells (rcells vs vp D).toArray 30 (0, 0))
  sct : W.heap[w.heap.size + 1]? = some (.cells (s.map bv).toArray 55 (0, 0))
  res : W.heap[w.heap.size + 2]? = some (.cells #[.slice none 0 0, .slice none 0 0, .int .i64 0, .bool false] 30 (0, 0))
  fr : Nw w W
  size : w.heap.size + 3 ≤ W.heap.size

theorem three (w : World) (vs vp : Value) (D : Dk) (s : List UInt8) : Three w (((w.alloc (.cells (rcells vs vp D).toArray 30)).alloc (.cells (s.map bv).toArray 55)).alloc (.cells #[.slice none 0 0, .slice none 0 0, .int .i64 0, .bool false] 30)) vs vp D s := by
  have h2 : ((w.alloc (.cells (rcells vs vp D).toArray 30)).alloc (.cells (s.map bv).toArray 55)).heap.size = w.heap.size + 2 := by simp
  refine ⟨?_, ?_, ?_, (((Fr.refl _ w).alloc _).alloc _).alloc _, by simp⟩
  · rw [Below.heap_alloc _ _ _ (by omega)]; exact heap_alloc2_old w _ _
  · rw [Below.heap_alloc _ _ _ (by omega)]; exact heap_alloc2_new w _ _
  · have := heap_alloc_new ((w.alloc (.cells (rcells vs vp D).toArray 30)).alloc (.cells (s.map bv).toArray 55)) (.cells #[.slice none 0 0, .slice none 0 0, .int .i64 0, .bool false] 30)
    rwa [h2] at this

theorem Three.nw {w W W' : World} {vs vp : Value} {D : Dk} {s : List UInt8} (h : Three w W vs vp D s) (hf : Nw W W') : Three w W' vs vp D s :=
  have hz := h.size
  ⟨(hf.block _ (by omega) id).trans h.var, (hf.block _ (by omega) id).trans h.sct, (hf.block _ (by omega) id).trans h.res, h.fr.trans hf (fun _ => False.elim), by have := hf.size; omega⟩

theorem Three.set {w W : World} {vs vp : Value} {D : Dk} {s : List UInt8} (h : Three w W vs vp D s) (vs' vp' : Value) (D' : Dk) : Three w (W.setRow w.heap.size (rcells vs' vp' D').toArray) vs' vp' D' s :=
  ⟨setRow_heap _ _ _ _ 30 _ h.var, by rw [setRow_other _ _ _ _ (by omega)]; exact h.sct, by rw [setRow_other _ _ _ _ (by omega)]; exact h.res, h.fr.setRow (.inr (Nat.le_refl _)) _, by have := h.size; simp [World.setRow]; omega⟩

theorem Three.blk {w W W' : World} {vs vp : Value} {D : Dk} {s : List UInt8} (h : Three w W vs vp D s) (hb : ∀ k, k < W.heap.size → W'.heap[k]? = W.heap[k]?) (h1 : W'.os = W.os) (h2 : W'.tape = W.tape) (h3 : W'.output = W.output) (h4 : W.heap.size ≤ W'.heap.size) : Three w W' vs vp D s :=
  h.nw ⟨h1, h2, h3, h4, fun k hk _ => hb k hk⟩

theorem Three.push {w W : World} {vs vp v8 : Value} {D D' : Dk} {s : List UInt8} (h : Three w W vs vp D s) (hl : D'.left = D.left) (hd : D'.dead = D.dead) : Three w (W.setCell ⟨w.heap.size, 1, none⟩ v8) vs v8 D' s := by
  refine ⟨?_, ?_, ?_, h.fr.setCell (p := ⟨w.heap.size, 1, none⟩) (.inr (Nat.le_refl _)) _, by have := h.size; simp [World.setCell]; omega⟩
  · rw [blk_setCell h.var]; simp [rcells, hl, hd]
  · rw [Below.heap_setCell _ _ _ _ (by simp)]; exact h.sct
  · rw [Below.heap_setCell _ _ _ _ (by simp)]; exact h.res

theorem RefG.widen {X Y : Nat → Prop} {w w' : World} {vs vp : Value} {D : Dk} (h : RefG X w vs vp D) (hf : Nw w w') (hY : ∀ b, X b → Y b) : RefG Y w' vs vp D := h.keep (fun b hx hb => ⟨hY b hx, hf.block b hb id⟩)

set_option maxHeartbeats 3200000 in
theorem c_rput {X : Nat → Prop} {vs vp : Value} {D : Dk} (i : Int) (s : List UInt8) (w : World) (h : RefG X w vs vp D) (hs : s.length = 128) (hpl : D.pd.length ≤ 1000000) :
    Calls Try.prog 31 #[rval vs vp D, .int .i64 i, sec s] w fun e w' => ∃ vs' vp', e = .returned (.tuple #[rval vs' vp' (D.write i s), .int .i64 (D.werr i)]) ∧ RefG (fun b => X b ∨ w.heap.size ≤ b) w' vs' vp' (D.write i s) ∧ Nw w w' := by
  obtain ⟨so, sc, po, pc, rfl, rfl, h1, h2, h3, h4⟩ := h.form
  have hT := three w (.slice so D.st.length sc) (.slice po D.pd.length pc) D s
  have hz1 : (w.alloc (.cells (rcells (.slice so D.st.length sc) (.slice po D.pd.length pc) D).toArray 30)).heap.size = w.heap.size + 1 := by simp
  have hz2 : ((w.alloc (.cells (rcells (.slice so D.st.length sc) (.slice po D.pd.length pc) D).toArray 30)).alloc (.cells (s.map bv).toArray 55)).heap.size = w.heap.size + 2 := by simp
  generalize hW : ((w.alloc (.cells (rcells (.slice so D.st.length sc) (.slice po D.pd.length pc) D).toArray 30)).alloc (.cells (s.map bv).toArray 55)).alloc (.cells #[.slice none 0 0, .slice none 0 0, .int .i64 0, .bool false] 30) = W at *
  have hW : Hid (((w.alloc (.cells (rcells (.slice so D.st.length sc) (.slice po D.pd.length pc) D).toArray 30)).alloc (.cells (s.map bv).toArray 55)).alloc (.cells #[.slice none 0 0, .slice none 0 0, .int .i64 0, .bool false] 30) = W) := hW
  have hg := h.nw hT.fr
  obtain ⟨-, -, -, -, -, hr0⟩ := r_cells hT.var
  have hone := r_oneCell (so := so) (po := po) (n := D.st.length) (m := D.pd.length) (sc := sc) (pc := pc) (D := D)
  have hone2 := r_oneCell (so := so) (po := po) (n := D.st.length) (m := D.pd.length) (sc := sc) (pc := pc) (D := D.spend)
  go_enter Try.func31, Try.ntmps31
  go_wp2_with (first
    | (refine wpList_box_agg rfl 30 _ rfl (rval (.slice so D.st.length sc) (.slice po D.pd.length pc) D) _ rfl rfl ?_)
    | (refine wpList_box_agg rfl 55 _ rfl (sec s) _ rfl rfl ?_; rw [hz1])
    | (refine wpList_alloc_agg rfl 30 rfl _ Try.zero30 ?_; rw [hz2, hW.out])
    | (refine wpList_load_as rfl 30 _ rfl w.heap.size 0 rfl (rval (.slice so D.st.length sc) (.slice po D.pd.length pc) D) _ rfl hr0 Try.row30 Try.size30 ?_)
    | (go_at_call 42; refine stop_here ?_))
  unfold Hid
  refine (c_there i _ hg).mono ?_
  by_cases hh : D.has i = true
  · rw [hh]
    rintro e w2 ⟨rfl, hf2⟩
    obtain ⟨l0, l1⟩ := Dk.has_lt hh
    have hg2 := hg.nw hf2
    have hT2 := hT.nw hf2
    obtain ⟨-, -, -, -, -, hr2⟩ := r_cells hT2.var
    clear hg hT hf2 hr0 hW hz1 hz2
    go_wp2_with (first
      | (refine wpList_load_as rfl 30 _ rfl w.heap.size 0 rfl (rval (.slice so D.st.length sc) (.slice po D.pd.length pc) D) _ rfl hr2 Try.row30 Try.size30 ?_)
      | (go_at_call 49; refine stop_here ?_))
    unfold Hid
    refine (c_power _ hg2).mono ?_
    rintro e w3 ⟨rfl, hf3⟩
    have hT3 := hT2.nw hf3
    have hvar3 := hT3.var
    have hT4 := hT3.set (.slice so D.st.length sc) (.slice po D.pd.length pc) D.spend
    have hres4 := hT4.res
    obtain ⟨-, d1, -, -, df, hr4⟩ := r_cells hT4.var
    have df1 := df 1
    by_cases ho : D.out = true
    · have e1 : D.werr i = 42 := by unfold Dk.werr; simp [hh, ho]
      have e2 : D.write i s = D.spend := by unfold Dk.write; simp [hh, ho]
      have hG : RefG (fun b => X b ∨ w.heap.size ≤ b) ((w3.setRow w.heap.size (rcells (.slice so D.st.length sc) (.slice po D.pd.length pc) D.spend).toArray).setRow (w.heap.size + 2) (rcells (.slice so D.st.length sc) (.slice po D.pd.length pc) D.spend).toArray) (.slice so D.st.length sc) (.slice po D.pd.length pc) D.spend :=
        h.spend.widen (hT4.fr.setRow (.inr (by omega)) _) (fun b hb => .inl hb)
      have hfin : Nw w ((w3.setRow w.heap.size (rcells (.slice so D.st.length sc) (.slice po D.pd.length pc) D.spend).toArray).setRow (w.heap.size + 2) (rcells (.slice so D.st.length sc) (.slice po D.pd.length pc) D.spend).toArray) := hT4.fr.setRow (.inr (by omega)) _
      have hrow := range_all (setRow_heap (w3.setRow w.heap.size (rcells (.slice so D.st.length sc) (.slice po D.pd.length pc) D.spend).toArray) (w.heap.size + 2) _ (rcells (.slice so D.st.length sc) (.slice po D.pd.length pc) D.spend).toArray 30 _ hres4)
      rw [ho]
      have e1 : Hid (D.werr i = 42) := e1
      have e2 : Hid (D.write i s = D.spend) := e2
      clear hT4 hT3 hT2 hg2 h hr2
      generalize hW4 : w3.setRow w.heap.size (rcells (.slice so D.st.length sc) (.slice po D.pd.length pc) D.spend).toArray = W4 at *
      have hW4 : Hid (w3.setRow w.heap.size (rcells (.slice so D.st.length sc) (.slice po D.pd.length pc) D.spend).toArray = W4) := hW4
      go_wp2_with (first
        | (refine wpList_store_all rfl 30 (.tmp 3) _ rfl w.heap.size rfl (rval (.slice so D.st.length sc) (.slice po D.pd.length pc) D.spend) rfl _ rfl _ 30 hvar3 rfl hone2 Try.size30 ?_; rw [hW4.out])
        | (refine wpList_load_as rfl 30 _ rfl w.heap.size 0 rfl (rval (.slice so D.st.length sc) (.slice po D.pd.length pc) D.spend) _ rfl hr4 Try.row30 Try.size30 ?_)
        | (refine wpList_store_all rfl 30 (.tmp 6) _ rfl (w.heap.size + 2) rfl (rval (.slice so D.st.length sc) (.slice po D.pd.length pc) D.spend) rfl _ rfl _ 30 hres4 res_fit hone2 Try.size30 ?_))
      refine bodyPost_ret (results_cell2 rfl _ (w.heap.size + 2) _ (rval (.slice so D.st.length sc) (.slice po D.pd.length pc) D.spend) rfl rfl hrow Try.row30 Try.size30) rfl ?_
      exact ⟨_, _, by rw [e1.out, e2.out]; rfl, by rw [e2.out]; exact hG, hfin⟩
    · have ho : D.out = false := by simpa using ho
      have e1 : D.werr i = 0 := by unfold Dk.werr; simp [hh, ho]
      have e2 : D.write i s = { D.spend with pd := D.pd ++ [(i.toNat, s)] } := by unfold Dk.write; simp [hh, ho]
      rw [ho]
      obtain ⟨k, rfl⟩ : ∃ k : Nat, i = (k : Int) := ⟨i.toNat, by omega⟩
      rw [Int.toNat_natCast] at e2
      have e1 : Hid (D.werr (k : Int) = 0) := e1
      have e2 : Hid (D.write (k : Int) s = { D.spend with pd := D.pd ++ [(k, s)] }) := e2
      have hkl : k < D.st.length := by omega
      have hg4 : RefG X (w3.setRow w.heap.size (rcells (.slice so D.st.length sc) (.slice po D.pd.length pc) D.spend).toArray) (.slice so D.st.length sc) (.slice po D.pd.length pc) D := h.nw hT4.fr
      obtain ⟨j0, hj, hj0, hj1, hj2⟩ := info88
      clear hT3 hT2 hg2 hr2
      generalize hW4 : w3.setRow w.heap.size (rcells (.slice so D.st.length sc) (.slice po D.pd.length pc) D.spend).toArray = W4 at *
      have hW4 : Hid (w3.setRow w.heap.size (rcells (.slice so D.st.length sc) (.slice po D.pd.length pc) D.spend).toArray = W4) := hW4
      have hz4 := hT4.size
      have hT5 := hT4.nw (W' := W4.alloc (.cells #[] 88)) ((Fr.refl _ W4).alloc _)
      have hown5 : (W4.alloc (.cells #[] 88)).ownsRow w.heap.size 88 129 (.slice (some ⟨W4.heap.size, 0, none⟩) 0 0) 0 [] := World.ownsRow_lit W4 #[] 0 (by omega) (by decide) rfl
      have hsl5 : Sl W4.heap.size (W4.alloc (.cells #[] 88)) (.slice po D.pd.length pc) D.pd.length (pcells D.pd) := (hg4.pd.toSl).keep ((Below.refl _ _).alloc (Nat.le_refl _) _)
      have hc5 : (W4.alloc (.cells #[] 88)).cell? ⟨w.heap.size, 1, none⟩ = some (.slice po D.pd.length pc) := (r_cells hT5.var).2.1
      have hz5 : (W4.alloc (.cells #[] 88)).heap.size = W4.heap.size + 1 := by simp
      have hpc : (pcells D.pd).length = D.pd.length * 129 := pcells_length (fun p hp => (h.ok.wr p hp).2)
      have hp1 : ∀ u ∈ pcells D.pd, u.oneCell' = true := fun u hu => by
        unfold pcells at hu
        obtain ⟨l, hl, hu⟩ := List.mem_flatten.1 hu
        obtain ⟨p, _, rfl⟩ := List.mem_map.1 hl
        exact wcell_oneCell p u hu
      generalize hW5 : W4.alloc (.cells #[] 88) = W5 at *
      have hW5 : Hid (W4.alloc (.cells #[] 88) = W5) := hW5
      go_wp2_with (first
        | (refine wpList_store_all rfl 30 (.tmp 3) _ rfl w.heap.size rfl (rval (.slice so D.st.length sc) (.slice po D.pd.length pc) D.spend) rfl _ rfl _ 30 hvar3 rfl hone2 Try.size30 ?_; rw [hW4.out])
        | (refine wpList_buildSlice0 rfl 28 88 rfl Try.underlying28 (by kernel_rfl) ?_; rw [hW5.out])
        | (at_builtin; refine wpList_append_sl _ rfl _ _ 28 rfl w.heap.size 88 j0 _ 129 136 Try.underlying28 hj hj0 hj1 hj2 (by simp [wrv, Value.cells, wcell, z128_length]) (by decide) (.slice (some ⟨W4.heap.size, 0, none⟩) 0 0) 0 [] rfl hown5 W4.heap.size _ D.pd.length _ rfl hsl5 hpc hp1 (by unfold maxLen; omega) (by omega) (by omega) (fun v6 w6 hown6 hg6 hat6 => stop_here ?_)))
      unfold Hid
      simp only [Nat.zero_add, List.nil_append] at hown6
      have hT6 : Three w w6 (.slice so D.st.length sc) (.slice po D.pd.length pc) D.spend s := by
        refine hT4.blk (fun q hq => ?_) (hg6.os.trans ?_) (hg6.tape.trans ?_) (hg6.output.trans ?_) (by have := hg6.size; omega)
        · rw [hg6.block q (by omega) (by simp [Value.ownBlock]; omega), ← hW5.out]
          exact Below.heap_alloc W4 _ q hq
        all_goals (rw [← hW5.out]; rfl)
      have hv6 : ∀ q, v6.ownBlock = some q → W4.heap.size ≤ q := fun q hq => by
        rcases hat6 with e | e
        · rw [e] at hq; simp [Value.ownBlock] at hq; omega
        · rw [e] at hq; simp at hq; omega
      have hz6 := hT6.size
      have hz46 : W4.heap.size ≤ w6.heap.size := by have := hg6.size; omega
      have hr6 := range_all hT6.sct
      have hown7 := hown6.alloc (.cells (wcell (k, s)).toArray 88)
      have hlies := sl_lit w6 (wcell (k, s)).toArray 88 1 (by omega)
      have hz7 : (w6.alloc (.cells (wcell (k, s)).toArray 88)).heap.size = w6.heap.size + 1 := by simp
      obtain ⟨o6, q6, rfl⟩ := owns_form hown6
      generalize hW7 : w6.alloc (.cells (wcell (k, s)).toArray 88) = W7 at *
      have hW7 : Hid (w6.alloc (.cells (wcell (k, s)).toArray 88) = W7) := hW7
      clear hT5 hown5 hsl5 hc5 hg6 hat6 hW5 d1 df df1
      try simp only [Nat.zero_add]
      go_wp2_with (first
        | (refine wpList_load_as rfl 55 _ rfl (w.heap.size + 1) 0 rfl (sec s) _ rfl hr6 Try.rowS (sizeS hs) ?_)
        | (refine wpList_build_as rfl 88 #[(0, .tmp 28), (1, .tmp 29)] rfl (wrv (k, s)) (wcell (k, s)).toArray rfl (by simp only [List.map_cons, List.map_nil, Act.eval]; exact built88 k s hs) ?_)
        | (refine wpList_buildSlice1 rfl 28 88 _ rfl (wrv (k, s)) rfl (wcell (k, s)) rfl Try.underlying28 (size88 hs) (by kernel_rfl) (by rw [wcell_length hs]; omega) (by rw [wcell_length hs]; omega) ?_; rw [hW7.out])
        | (at_builtin; refine wpList_append_sl _ rfl _ _ 28 rfl w.heap.size 88 j0 _ 129 136 Try.underlying28 hj hj0 hj1 hj2 (by simp [wrv, Value.cells, wcell, z128_length]) (by decide) (.slice o6 D.pd.length q6) D.pd.length _ rfl hown7 _ _ 1 _ rfl hlies (by rw [wcell_length hs]) (wcell_oneCell _) (by unfold maxLen; omega) (by omega) (by omega) (fun v8 w8 hown8 hg8 hat8 => stop_here ?_)))
      unfold Hid
      have hT8 : Three w w8 (.slice so D.st.length sc) (.slice po D.pd.length pc) D.spend s := by
        refine ⟨?_, ?_, ?_, ?_, by have := hg8.size; omega⟩
        · rw [hg8.block _ (by omega) (fun e => by have := hv6 _ e.symm; omega), ← hW7.out, Below.heap_alloc w6 _ _ (by omega)]; exact hT6.var
        · rw [hg8.block _ (by omega) (fun e => by have := hv6 _ e.symm; omega), ← hW7.out, Below.heap_alloc w6 _ _ (by omega)]; exact hT6.sct
        · rw [hg8.block _ (by omega) (fun e => by have := hv6 _ e.symm; omega), ← hW7.out, Below.heap_alloc w6 _ _ (by omega)]; exact hT6.res
        · have hf7 : Nw w W7 := by rw [← hW7.out]; exact hT6.fr.alloc _
          exact hf7.grown hg8 (fun q e => .inr (by have := hv6 q e; omega))
      have hT9 := hT8.push (v8 := v8) (D' := { D.spend with pd := D.pd ++ [(k, s)] }) rfl rfl
      have hv8 : ∀ q, v8.ownBlock = some q → W4.heap.size ≤ q := fun q hq => by
        rcases hat8 with e | e
        · exact hv6 q (e ▸ hq)
        · rw [e] at hq; simp at hq; omega
      have hown9 : (w8.setCell ⟨w.heap.size, 1, none⟩ v8).ownsRow w.heap.size 88 129 v8 (D.pd.length + 1) (pcells D.pd ++ wcell (k, s)) := owns_of_block hown8 (fun q hq => Below.heap_setCell _ _ _ _ (by have := hv8 q hq; show q ≠ w.heap.size; omega))
      obtain ⟨-, f1, -, -, ff, -⟩ := r_cells hT8.var
      have ff1 := ff 1
      obtain ⟨-, -, -, -, -, hr9⟩ := r_cells hT9.var
      have hres9 := hT9.res
      obtain ⟨o8, q8, rfl⟩ := owns_form hown8
      have hone9 := r_oneCell (so := so) (po := o8) (n := D.st.length) (m := D.pd.length + 1) (sc := sc) (pc := q8) (D := { D.spend with pd := D.pd ++ [(k, s)] })
      have hfin : Nw w ((w8.setCell ⟨w.heap.size, 1, none⟩ (.slice o8 (D.pd.length + 1) q8)).setRow (w.heap.size + 2) (rcells (.slice so D.st.length sc) (.slice o8 (D.pd.length + 1) q8) { D.spend with pd := D.pd ++ [(k, s)] }).toArray) := hT9.fr.setRow (.inr (by omega)) _
      have hrow := range_all (setRow_heap (w8.setCell ⟨w.heap.size, 1, none⟩ (.slice o8 (D.pd.length + 1) q8)) (w.heap.size + 2) _ (rcells (.slice so D.st.length sc) (.slice o8 (D.pd.length + 1) q8) { D.spend with pd := D.pd ++ [(k, s)] }).toArray 30 _ hres9)
      have hG : RefG (fun b => X b ∨ w.heap.size ≤ b) ((w8.setCell ⟨w.heap.size, 1, none⟩ (.slice o8 (D.pd.length + 1) q8)).setRow (w.heap.size + 2) (rcells (.slice so D.st.length sc) (.slice o8 (D.pd.length + 1) q8) { D.spend with pd := D.pd ++ [(k, s)] }).toArray) (.slice so D.st.length sc) (.slice o8 (D.pd.length + 1) q8) { D.spend with pd := D.pd ++ [(k, s)] } := by
        have hA := h.spend.widen (Y := fun b => X b ∨ w.heap.size ≤ b) hfin (fun b hb => .inl hb)
        refine ⟨hA.st, ?_, ?_⟩
        · have hs9 := slp_of_owns hown9
          show Slp _ _ _ (D.pd ++ [(k, s)]).length (pcells (D.pd ++ [(k, s)]))
          rw [pcells_snoc, List.length_append]
          exact hs9.keepL (fun q hq hl => ⟨.inr (by have := hv8 q hq; omega), by rw [setRow_other _ _ _ _ (by have := hv8 q hq; omega)]⟩)
        · refine ⟨hA.ok.sec, fun p hp => ?_, hA.ok.n, hA.ok.lo, hA.ok.hi⟩
          rcases List.mem_append.1 hp with hp | hp
          · have := hA.ok.wr p (by rw [(spend_st D).2]; exact hp)
            exact this
          · simp at hp; subst hp; exact ⟨by show k < D.spend.st.length; rw [(spend_st D).1]; exact hkl, hs⟩
      clear hT9 hT8 hT6 hown8 hown9 hown7 hlies hg8 hat8 hg4 h hv8 hv6
      generalize hEE : ({ D.spend with pd := D.pd ++ [(k, s)] } : Dk) = EE at *
      generalize hW9 : w8.setCell ⟨w.heap.size, 1, none⟩ (.slice o8 (D.pd.length + 1) q8) = W9 at *
      go_wp2_with (first
        | (refine wpList_load_as rfl 30 _ rfl w.heap.size 0 rfl (rval (.slice so D.st.length sc) (.slice o8 (D.pd.length + 1) q8) EE) _ rfl hr9 Try.row30 Try.size30 ?_)
        | (refine wpList_store_all rfl 30 (.tmp 6) _ rfl (w.heap.size + 2) rfl (rval (.slice so D.st.length sc) (.slice o8 (D.pd.length + 1) q8) EE) rfl _ rfl _ 30 hres9 res_fit hone9 Try.size30 ?_))
      refine bodyPost_ret (results_cell2 rfl _ (w.heap.size + 2) _ (rval (.slice so D.st.length sc) (.slice o8 (D.pd.length + 1) q8) EE) rfl rfl hrow Try.row30 Try.size30) rfl ?_
      exact ⟨_, _, by first | rfl | (rw [e1.out, e2.out, hEE]; rfl) | (rw [e2.out, hEE]; rfl) | (rw [hEE]; rfl), by first | exact hG | (rw [e2.out, hEE]; exact hG) | (rw [hEE]; exact hG), hfin⟩
  · have hh : D.has i = false := by simpa using hh
    rw [hh]
    rintro e w2 ⟨rfl, hf2⟩
    have e1 : D.werr i = 41 := by unfold Dk.werr; simp [hh]
    have e2 : D.write i s = D := by unfold Dk.write; simp [hh]
    have hT2 := hT.nw hf2
    obtain ⟨-, -, -, -, -, hr2⟩ := r_cells hT2.var
    have hres2 := hT2.res
    have hfin : Nw w (w2.setRow (w.heap.size + 2) (rcells (.slice so D.st.length sc) (.slice po D.pd.length pc) D).toArray) := hT2.fr.setRow (.inr (by omega)) _
    have hrow := range_all (setRow_heap w2 (w.heap.size + 2) _ (rcells (.slice so D.st.length sc) (.slice po D.pd.length pc) D).toArray 30 _ hres2)
    have hG := h.widen (Y := fun b => X b ∨ w.heap.size ≤ b) hfin (fun b hb => .inl hb)
    have e1 : Hid (D.werr i = 41) := e1
    have e2 : Hid (D.write i s = D) := e2
    clear hT2 hT hg h hf2
    go_wp2_with (first
      | (refine wpList_load_as rfl 30 _ rfl w.heap.size 0 rfl (rval (.slice so D.st.length sc) (.slice po D.pd.length pc) D) _ rfl hr2 Try.row30 Try.size30 ?_)
      | (refine wpList_store_all rfl 30 (.tmp 6) _ rfl (w.heap.size + 2) rfl (rval (.slice so D.st.length sc) (.slice po D.pd.length pc) D) rfl _ rfl _ 30 hres2 res_fit hone Try.size30 ?_))
    refine bodyPost_ret (results_cell2 rfl _ (w.heap.size + 2) _ (rval (.slice so D.st.length sc) (.slice po D.pd.length pc) D) rfl rfl hrow Try.row30 Try.size30) rfl ?_
    exact ⟨_, _, by rw [e1.out, e2.out]; rfl, by rw [e2.out]; exact hG, hfin⟩
end Go.Proofs.Ytihdhlciblkbiaa

namespace Go.Proofs.Ytihdhlciblkbiaa
set_option linter.unusedVariables false
set_option linter.unusedSimpArgs false
set_option maxRecDepth 20000
open Go.RowKit

theorem take_splice {α : Type} (L cs : List α) (off m : Nat) (h : off + cs.length ≤ m) : (splice L off cs).take m = splice (L.take m) off cs := by
  unfold splice
  rw [List.take_append, List.take_append, List.length_take, List.take_take, List.drop_take]
  rcases Nat.le_total off L.length with hl | hl
  · rw [Nat.min_eq_left hl, List.take_of_length_le (l := cs) (by omega), List.take_take, Nat.min_eq_right (by omega : off ≤ m), Nat.min_eq_left (by omega : off ≤ m)]
    congr 2
    rw [show m - off - cs.length = m - (off + cs.length) by omega]
  · rw [Nat.min_eq_right hl, List.drop_eq_nil_of_le (by omega), List.take_nil, List.take_nil, List.take_of_length_le (l := cs) (by omega), List.take_take]
    congr 1
    · rw [Nat.min_eq_right (by omega : off ≤ m), Nat.min_eq_left (by omega : off ≤ m)]

theorem owns_store {w : World} {base e size n cap g : Nat} {xs : List Value} (h : w.ownsRow base e size (.slice (some ⟨g, 0, none⟩) n cap) n xs) :
    ∃ cur : List Value, w.heap[g]? = some (.cells cur.toArray e (0, 0)) ∧ n * size ≤ cur.length ∧ (∀ (j : Nat) (v : Value), xs[j]? = some v → cur[j]? = some v) ∧ ∀ (off : Nat) (cs : List Value), off + cs.length ≤ n * size → (w.setRow g (splice cur off cs).toArray).ownsRow base e size (.slice (some ⟨g, 0, none⟩) n cap) n (splice xs off cs) := by
  obtain ⟨h1, h2⟩ := h
  rcases h2 with ⟨h0, _⟩ | ⟨g', cap', cur, hv, hb, hg, hn, hm, hs, ht⟩
  · simp at h0
  · simp only [Value.slice.injEq, Option.some.injEq, Addr.mk.injEq, and_true, true_and] at hv
    obtain ⟨rfl, rfl⟩ := hv
    have hle : n * size ≤ cap * size := Nat.mul_le_mul_right _ hn
    refine ⟨cur.toList, hg, by rw [Array.length_toList, hs]; exact hle, fun j v hj => ?_, fun off cs hoff => ⟨?_, .inr ⟨g, cap, (splice cur.toList off cs).toArray, rfl, hb, setRow_heap _ _ _ _ e _ hg, hn, hm, ?_, ?_⟩⟩⟩
    · rw [← ht, List.getElem?_take] at hj
      split at hj
      · exact hj
      · cases hj
    · rw [length_splice _ _ _ (by omega)]; exact h1
    · have e : cur.toList.length = cur.size := Array.length_toList
      rw [List.size_toArray, length_splice _ _ _ (by omega), e]; exact hs
    · rw [List.toList_toArray, take_splice _ _ _ _ hoff, ht]

/-- What the loop over the pending writes keeps. -/
structure RowAt (w wr : World) (vs vp v : Value) (D : Dk) (st : List (List UInt8)) : Prop where
  var : wr.heap[w.heap.size]? = some (.cells (rcells vs vp D).toArray 30 (0, 0))
  res : wr.heap[w.heap.size + 1]? = some (.cells #[.slice none 0 0, .slice none 0 0, .int .i64 0, .bool false] 30 (0, 0))
  own : wr.ownsRow w.heap.size 55 128 v st.length (flat st)
  nv : ∀ q, v.ownBlock = some q → w.heap.size + 2 ≤ q
  fr : Nw w wr

theorem RowAt.nw {w wr wr' : World} {vs vp v : Value} {D : Dk} {st : List (List UInt8)} (h : RowAt w wr vs vp v D st) (hf : Nw wr wr') : RowAt w wr' vs vp v D st :=
  ⟨(hf.block _ (heap_lt h.var) id).trans h.var, (hf.block _ (heap_lt h.res) id).trans h.res, owns_of_block h.own (fun q hq => hf.block q (h.own.lt q hq).2 id), h.nv, h.fr.trans hf (fun _ => False.elim)⟩

theorem RowAt.store {w wr : World} {vs vp : Value} {D : Dk} {st : List (List UInt8)} {g n cap : Nat} (h : RowAt w wr vs vp (.slice (some ⟨g, 0, none⟩) n cap) D st) (hn : n = st.length) (hs : ∀ s ∈ st, s.length = 128) (i : Nat) (hi : i < st.length) (t : List UInt8) (ht : t.length = 128) :
    ∃ cur : List Value, wr.heap[g]? = some (.cells cur.toArray 55 (0, 0)) ∧ i * 128 + (t.map bv).length ≤ cur.length ∧ RowAt w (wr.setRow g (splice cur (i * 128) (t.map bv)).toArray) vs vp (.slice (some ⟨g, 0, none⟩) n cap) D (st.set i t) := by
  subst hn
  obtain ⟨cur, h1, h2, -, h3⟩ := owns_store h.own
  have hg := h.nv g rfl
  have hoff : i * 128 + (t.map bv).length ≤ st.length * 128 := by rw [List.length_map, ht]; omega
  refine ⟨cur, h1, by omega, ⟨?_, ?_, ?_, h.nv, h.fr.setRow (.inr (by omega)) _⟩⟩
  · rw [setRow_other _ _ _ _ (by omega)]; exact h.var
  · rw [setRow_other _ _ _ _ (by omega)]; exact h.res
  · have := h3 (i * 128) (t.map bv) hoff
    rw [flat_set hs i hi t ht] at this
    rw [List.length_set]
    exact this

theorem RowAt.range {w wr : World} {vs vp : Value} {D : Dk} {st : List (List UInt8)} {g n cap : Nat} (h : RowAt w wr vs vp (.slice (some ⟨g, 0, none⟩) n cap) D st) (hn : n = st.length) (hs : ∀ s ∈ st, s.length = 128) (i : Nat) (hi : i < st.length) : wr.rangeAt g (i * 128) (st[i].map bv) := by
  subst hn
  obtain ⟨cur, h1, -, h2, -⟩ := owns_store h.own
  refine range_blk h1 _ _ (fun j v hv => h2 _ _ ?_)
  have hj : j < 128 := by
    have := (List.getElem?_eq_some_iff.1 hv).1
    rwa [List.length_map, hs _ (List.getElem_mem hi)] at this
  rw [flat_get hs i hi j hj]; exact hv

theorem RowAt.form {w wr : World} {vs vp v : Value} {D : Dk} {st : List (List UInt8)} (h : RowAt w wr vs vp v D st) (h0 : 0 < st.length) : ∃ g cap, v = .slice (some ⟨g, 0, none⟩) st.length cap ∧ st.length ≤ cap ∧ cap ≤ 9223372036854775807 := by
  rcases h.own.2 with ⟨_, h1⟩ | ⟨g, cap, cur, rfl, _, _, hn, hm, _⟩
  · omega
  · exact ⟨g, cap, rfl, hn, hm⟩

theorem flat_one {st : List (List UInt8)} : ∀ u ∈ flat st, u.oneCell' = true := by
  intro u hu
  unfold flat at hu
  obtain ⟨l, hl, hu⟩ := List.mem_flatten.1 hu
  obtain ⟨s, _, rfl⟩ := List.mem_map.1 hl
  exact bv_oneCell s u hu

/-- The row behind the append. -/
theorem row_start {w W w6 : World} {vs vp v6 : Value} {D : Dk} {st : List (List UInt8)} (hvar : W.heap[w.heap.size]? = some (.cells (rcells vs vp D).toArray 30 (0, 0))) (hres : W.heap[w.heap.size + 1]? = some (.cells #[.slice none 0 0, .slice none 0 0, .int .i64 0, .bool false] 30 (0, 0))) (hfr : Nw w W)
    (hown : w6.ownsRow w.heap.size 55 128 v6 st.length (flat st)) (hg : (W.alloc (.cells #[] 55)).grownBy w6 (some W.heap.size)) (hat : v6.ownBlock = some W.heap.size ∨ v6.ownBlock = some (W.alloc (.cells #[] 55)).heap.size) : RowAt w w6 vs vp v6 D st := by
  have hz := heap_lt hres
  have hb : ∀ q, q < W.heap.size → w6.heap[q]? = W.heap[q]? := fun q hq => (hg.block q (by simp; omega) (by simp; omega)).trans (Below.heap_alloc W _ q hq)
  refine ⟨(hb _ (by omega)).trans hvar, (hb _ (by omega)).trans hres, hown, fun q hq => ?_, ?_⟩
  · rcases hat with e | e
    · rw [e] at hq; simp at hq; omega
    · rw [e] at hq; simp at hq; omega
  · exact (hfr.alloc _).grown hg (fun q e => .inr (by simp at e; omega))

set_option maxHeartbeats 3200000 in
theorem c_rflush {X : Nat → Prop} {vs vp : Value} {D : Dk} (w : World) (h : RefG X w vs vp D) :
    Calls Try.prog 32 #[rval vs vp D] w fun e w' => ∃ vs' vp', e = .returned (.tuple #[rval vs' vp' D.flush, .int .i64 D.ferr]) ∧ RefG (fun b => X b ∨ w.heap.size ≤ b) w' vs' vp' D.flush ∧ Nw w w' := by
  obtain ⟨so, sc, po, pc, rfl, rfl, h1, h2, h3, h4⟩ := h.form
  have hT := two w (.slice so D.st.length sc) (.slice po D.pd.length pc) D
  generalize hW : (w.alloc (.cells (rcells (.slice so D.st.length sc) (.slice po D.pd.length pc) D).toArray 30)).alloc (.cells #[.slice none 0 0, .slice none 0 0, .int .i64 0, .bool false] 30) = W at *
  have hW : Hid ((w.alloc (.cells (rcells (.slice so D.st.length sc) (.slice po D.pd.length pc) D).toArray 30)).alloc (.cells #[.slice none 0 0, .slice none 0 0, .int .i64 0, .bool false] 30) = W) := hW
  have hg := h.nw hT.fr
  obtain ⟨-, -, -, -, -, hr0⟩ := r_cells hT.var
  have hone2 := r_oneCell (so := so) (po := po) (n := D.st.length) (m := D.pd.length) (sc := sc) (pc := pc) (D := D.spend)
  have hsz := hT.size
  go_enter Try.func32, Try.ntmps32
  go_wp2_with (first
    | (refine wpList_box_agg rfl 30 _ rfl (rval (.slice so D.st.length sc) (.slice po D.pd.length pc) D) _ rfl rfl ?_)
    | (refine wpList_alloc_agg rfl 30 rfl _ Try.zero30 ?_; rw [hW.out])
    | (refine wpList_load_as rfl 30 _ rfl w.heap.size 0 rfl (rval (.slice so D.st.length sc) (.slice po D.pd.length pc) D) _ rfl hr0 Try.row30 Try.size30 ?_)
    | (go_at_call 49; refine stop_here ?_))
  unfold Hid
  refine (c_power _ hg).mono ?_
  rintro e w3 ⟨rfl, hf3⟩
  have hvar3 := (hf3.block _ (by omega) id).trans hT.var
  have hvar4 : (w3.setRow w.heap.size (rcells (.slice so D.st.length sc) (.slice po D.pd.length pc) D.spend).toArray).heap[w.heap.size]? = some (.cells (rcells (.slice so D.st.length sc) (.slice po D.pd.length pc) D.spend).toArray 30 (0, 0)) := setRow_heap _ _ _ _ 30 _ hvar3
  have hres4 : (w3.setRow w.heap.size (rcells (.slice so D.st.length sc) (.slice po D.pd.length pc) D.spend).toArray).heap[w.heap.size + 1]? = some (.cells #[.slice none 0 0, .slice none 0 0, .int .i64 0, .bool false] 30 (0, 0)) := by rw [setRow_other _ _ _ _ (by omega)]; exact (hf3.block _ (by omega) id).trans hT.res
  have hfr4 : Nw w (w3.setRow w.heap.size (rcells (.slice so D.st.length sc) (.slice po D.pd.length pc) D.spend).toArray) := (hT.fr.trans hf3 (fun _ => False.elim)).setRow (.inr (Nat.le_refl _)) _
  clear hg hT hf3 hr0 hW hsz
  generalize hW4 : w3.setRow w.heap.size (rcells (.slice so D.st.length sc) (.slice po D.pd.length pc) D.spend).toArray = W4 at *
  have hW4 : Hid (w3.setRow w.heap.size (rcells (.slice so D.st.length sc) (.slice po D.pd.length pc) D.spend).toArray = W4) := hW4
  obtain ⟨d0, d1, -, -, df, hr4⟩ := r_cells hvar4
  by_cases ho : D.out = true
  · have e1 : Hid (D.ferr = 42) := by unfold Hid Dk.ferr; simp [ho]
    have e2 : Hid (D.flush = D.spend) := by unfold Hid Dk.flush; simp [ho]
    have hfin : Nw w (W4.setRow (w.heap.size + 1) (rcells (.slice so D.st.length sc) (.slice po D.pd.length pc) D.spend).toArray) := hfr4.setRow (.inr (by omega)) _
    have hG := h.spend.widen (Y := fun b => X b ∨ w.heap.size ≤ b) hfin (fun b hb => .inl hb)
    have hrow := range_all (setRow_heap W4 (w.heap.size + 1) _ (rcells (.slice so D.st.length sc) (.slice po D.pd.length pc) D.spend).toArray 30 _ hres4)
    rw [ho]
    clear h hvar4 hfr4
    go_wp2_with (first
      | (refine wpList_store_all rfl 30 (.tmp 1) _ rfl w.heap.size rfl (rval (.slice so D.st.length sc) (.slice po D.pd.length pc) D.spend) rfl _ rfl _ 30 hvar3 rfl hone2 Try.size30 ?_; rw [hW4.out])
      | (refine wpList_load_as rfl 30 _ rfl w.heap.size 0 rfl (rval (.slice so D.st.length sc) (.slice po D.pd.length pc) D.spend) _ rfl hr4 Try.row30 Try.size30 ?_)
      | (refine wpList_store_all rfl 30 (.tmp 2) _ rfl (w.heap.size + 1) rfl (rval (.slice so D.st.length sc) (.slice po D.pd.length pc) D.spend) rfl _ rfl _ 30 hres4 res_fit hone2 Try.size30 ?_))
    refine bodyPost_ret (results_cell2 rfl _ (w.heap.size + 1) _ (rval (.slice so D.st.length sc) (.slice po D.pd.length pc) D.spend) rfl rfl hrow Try.row30 Try.size30) rfl ?_
    exact ⟨_, _, by rw [e1.out, e2.out]; rfl, by rw [e2.out]; exact hG, hfin⟩
  · have ho : D.out = false := by simpa using ho
    have e1 : Hid (D.ferr = 0) := by unfold Hid Dk.ferr; simp [ho]
    have e2 : Hid (D.flush = { D.spend with st := applied D.st D.pd, pd := [] }) := by unfold Hid Dk.flush; simp [ho]
    obtain ⟨j0, hj, hj0, hj1, hj2⟩ := info55
    have hg4 := h.nw hfr4
    have hn := h.ok.n
    have hz4 := heap_lt hres4
    have hown5 : (W4.alloc (.cells #[] 55)).ownsRow w.heap.size 55 128 (.slice (some ⟨W4.heap.size, 0, none⟩) 0 0) 0 [] := World.ownsRow_lit W4 #[] 0 (by omega) (by decide) rfl
    have hsl5 : Sl W4.heap.size (W4.alloc (.cells #[] 55)) (.slice so D.st.length sc) D.st.length (flat D.st) := (hg4.st.toSl).keep ((Below.refl _ _).alloc (Nat.le_refl _) _)
    have hc5 : (W4.alloc (.cells #[] 55)).cell? ⟨w.heap.size, 0, none⟩ = some (.slice so D.st.length sc) := by rw [World.cell?_alloc_lt _ _ _ (by show w.heap.size < _; omega)]; exact d0
    have hz5 : (W4.alloc (.cells #[] 55)).heap.size = W4.heap.size + 1 := by simp
    generalize hW5 : W4.alloc (.cells #[] 55) = W5 at *
    have hW5 : Hid (W4.alloc (.cells #[] 55) = W5) := hW5
    rw [ho]
    go_wp2_with (first
      | (refine wpList_store_all rfl 30 (.tmp 1) _ rfl w.heap.size rfl (rval (.slice so D.st.length sc) (.slice po D.pd.length pc) D.spend) rfl _ rfl _ 30 hvar3 rfl hone2 Try.size30 ?_; rw [hW4.out])
      | (refine wpList_buildSlice0 rfl 27 55 rfl Try.underlying27 (by kernel_rfl) ?_; rw [hW5.out])
      | (at_builtin; refine wpList_append_sl _ rfl _ _ 27 rfl w.heap.size 55 j0 _ 128 128 Try.underlying27 hj hj0 hj1 hj2 (by rw [show (sec z128).cells.size = (z128.map bv).length from rfl, List.length_map, z128_length]) (by decide) (.slice (some ⟨W4.heap.size, 0, none⟩) 0 0) 0 [] rfl hown5 W4.heap.size _ D.st.length _ rfl hsl5 (flat_length h.ok.sec) flat_one (by unfold maxLen; omega) (by omega) (by omega) (fun v6 w6 hown6 hg6 hat6 => stop_here ?_)))
    unfold Hid
    simp only [Nat.zero_add, List.nil_append] at hown6
    have hR : RowAt w w6 (.slice so D.st.length sc) (.slice po D.pd.length pc) v6 D.spend D.st := row_start hvar4 hres4 hfr4 hown6 (by rw [hW5.out]; exact hg6) (by rw [hW5.out]; exact hat6)
    obtain ⟨-, f1, -, -, -, -⟩ := r_cells hR.var
    obtain ⟨o6, q6, hv6⟩ := owns_form hown6
    subst hv6
    clear hown5 hsl5 hc5 hg6 hat6 hW5 hown6 hg4 d0 d1 df hvar4 hres4 hfr4 hvar3 hr4
    go_wp2
    go_loopw [23] (fun j wr => ∃ k : Nat, k ≤ D.pd.length ∧ j = .int .i64 k ∧ RowAt w wr (.slice so D.st.length sc) (.slice po D.pd.length pc) (.slice o6 D.st.length q6) D.spend (applied D.st (D.pd.take k))) (fun j _ => D.pd.length - (intOf j).toNat)
    case atStart => exact ⟨0, Nat.zero_le _, rfl, hR⟩
    case round =>
      obtain ⟨k, hk, rfl, hRk⟩ := hrel
      clear hR
      have hal : (applied D.st (D.pd.take k)).length = D.st.length := applied_length _ _
      have has : ∀ s ∈ applied D.st (D.pd.take k), s.length = 128 := applied_sec h.ok.sec (fun p hp => (h.ok.wr p (List.mem_of_mem_take hp)).2)
      by_cases hlt : k < D.pd.length
      · obtain ⟨pb, poff, hpo, hpr, hp4, hp5⟩ := (h.nw hRk.fr).prange rfl k hlt
        subst hpo
        have H1 : Hid (applied D.st (D.pd.take (k + 1)) = (applied D.st (D.pd.take k)).set D.pd[k].1 D.pd[k].2) := applied_take_succ _ _ _ hlt
        generalize hAA : applied D.st (D.pd.take k) = AA at *
        generalize D.pd[k] = p at *
        obtain ⟨g, cap, hgf, hgc, hgm⟩ := hRk.form (by omega)
        simp only [Value.slice.injEq] at hgf
        obtain ⟨e6, -, e7⟩ := hgf
        subst e6
        subst e7
        have hv := varW wr (wcell (0, z128)).toArray p 88
        generalize hWv : (wr.alloc (.cells (wcell (0, z128)).toArray 88)).setRow wr.heap.size (wcell p).toArray = Wv at *
        have hWv : Hid ((wr.alloc (.cells (wcell (0, z128)).toArray 88)).setRow wr.heap.size (wcell p).toArray = Wv) := hWv
        obtain ⟨c0, c1⟩ := hv.at
        have hRv := hRk.nw hv.fr
        obtain ⟨cur, hcur, hcl, hRn⟩ := hRv.store hal.symm has p.1 (by omega) p.2 hp4
        have hpI : (p.1 : Int) < (D.st.length : Int) := by omega
        clear hRv hv hRk
        go_wp2_with (first
          | (refine wpList_load_as rfl 88 _ rfl pb (poff + k * 129) rfl (wrv p) _ rfl hpr Try.row88 (size88 hp4) ?_)
          | (refine wpList_alloc_agg rfl 88 rfl _ Try.zero88 ?_)
          | (refine wpList_store_all rfl 88 _ _ rfl wr.heap.size rfl (wrv p) rfl _ rfl _ 88 (heap_alloc_new wr _) (wr_fit hp4) (wcell_oneCell _) (size88 hp4) ?_; rw [hWv.out])
          | (refine wpList_load_as rfl 55 _ rfl wr.heap.size 1 rfl (sec p.2) _ rfl c1 Try.rowS (sizeS hp4) ?_)
          | (refine wpList_store_as rfl 55 _ _ rfl g (p.1 * 128) rfl (sec p.2) rfl _ rfl _ 55 hcur hcl (bv_oneCell _) (sizeS hp4) ?_))
        go_roundw
        case rel => exact ⟨k + 1, by omega, by go_num, by rw [H1.out]; exact hRn⟩
        case measure => simp [intOf]; omega
      · have hkn : D.pd.take k = D.pd := List.take_of_length_le (by omega)
        rw [hkn] at hRk hal has
        obtain ⟨c0, c1, -, -, cf, -⟩ := r_cells hRk.var
        have cf0 := cf 0
        have cf1 := cf 1
        have hnv := hRk.nv
        have hv1 : ((wr.setCell ⟨w.heap.size, 0, none⟩ (.slice o6 D.st.length q6)).setCell ⟨w.heap.size, 1, none⟩ (.slice none 0 0)).heap[w.heap.size]? = some (.cells (rcells (.slice o6 D.st.length q6) (.slice none 0 0) { D.spend with st := applied D.st D.pd, pd := [] }).toArray 30 (0, 0)) := by
          rw [blk_setCell (blk_setCell hRk.var)]; simp [rcells]
        have hr1 : ((wr.setCell ⟨w.heap.size, 0, none⟩ (.slice o6 D.st.length q6)).setCell ⟨w.heap.size, 1, none⟩ (.slice none 0 0)).heap[w.heap.size + 1]? = some (.cells #[.slice none 0 0, .slice none 0 0, .int .i64 0, .bool false] 30 (0, 0)) := by
          rw [Below.heap_setCell _ _ _ _ (by simp), Below.heap_setCell _ _ _ _ (by simp)]; exact hRk.res
        have hf1 : Nw w ((wr.setCell ⟨w.heap.size, 0, none⟩ (.slice o6 D.st.length q6)).setCell ⟨w.heap.size, 1, none⟩ (.slice none 0 0)) := (hRk.fr.setCell (p := ⟨w.heap.size, 0, none⟩) (.inr (Nat.le_refl _)) _).setCell (p := ⟨w.heap.size, 1, none⟩) (.inr (Nat.le_refl _)) _
        have hrr := range_all hv1
        have hone3 := r_oneCell (so := o6) (po := none) (n := D.st.length) (m := 0) (sc := q6) (pc := 0) (D := { D.spend with st := applied D.st D.pd, pd := [] })
        have hfin : Nw w (((wr.setCell ⟨w.heap.size, 0, none⟩ (.slice o6 D.st.length q6)).setCell ⟨w.heap.size, 1, none⟩ (.slice none 0 0)).setRow (w.heap.size + 1) (rcells (.slice o6 D.st.length q6) (.slice none 0 0) { D.spend with st := applied D.st D.pd, pd := [] }).toArray) := hf1.setRow (.inr (by omega)) _
        have hrow := range_all (setRow_heap ((wr.setCell ⟨w.heap.size, 0, none⟩ (.slice o6 D.st.length q6)).setCell ⟨w.heap.size, 1, none⟩ (.slice none 0 0)) (w.heap.size + 1) _ (rcells (.slice o6 D.st.length q6) (.slice none 0 0) { D.spend with st := applied D.st D.pd, pd := [] }).toArray 30 _ hr1)
        have hG : RefG (fun b => X b ∨ w.heap.size ≤ b) (((wr.setCell ⟨w.heap.size, 0, none⟩ (.slice o6 D.st.length q6)).setCell ⟨w.heap.size, 1, none⟩ (.slice none 0 0)).setRow (w.heap.size + 1) (rcells (.slice o6 D.st.length q6) (.slice none 0 0) { D.spend with st := applied D.st D.pd, pd := [] }).toArray) (.slice o6 D.st.length q6) (.slice none 0 0) { D.spend with st := applied D.st D.pd, pd := [] } := by
          refine ⟨?_, ⟨none, 0, rfl, ⟨Nat.le_refl _, Nat.zero_le _⟩, fun _ => rfl, fun i c hi => by simp [pcells] at hi⟩, ⟨has, fun p hp => by simp at hp, by show (applied D.st D.pd).length ≤ _; omega, h.spend.ok.lo, h.spend.ok.hi⟩⟩
          show Slp _ _ _ (applied D.st D.pd).length (flat (applied D.st D.pd))
          have hs9 := slp_of_owns hRk.own
          refine hs9.keepL (fun q hq hl => ?_)
          have := hnv q hq
          exact ⟨.inr (by omega), by rw [setRow_other _ _ _ _ (by omega), Below.heap_setCell _ _ _ _ (by show q ≠ w.heap.size; omega), Below.heap_setCell _ _ _ _ (by show q ≠ w.heap.size; omega)]⟩
        clear hRk h hv1 hf1 hnv cf hal has
        generalize hEE : ({ D.spend with st := applied D.st D.pd, pd := [] } : Dk) = EE at *
        go_wp2_with (first
          | (refine wpList_load_as rfl 30 _ rfl w.heap.size 0 rfl (rval (.slice o6 D.st.length q6) (.slice none 0 0) EE) _ rfl hrr Try.row30 Try.size30 ?_)
          | (refine wpList_store_all rfl 30 (.tmp 2) _ rfl (w.heap.size + 1) rfl (rval (.slice o6 D.st.length q6) (.slice none 0 0) EE) rfl _ rfl _ 30 hr1 res_fit hone3 Try.size30 ?_))
        refine bodyPost_ret (results_cell2 rfl _ (w.heap.size + 1) _ (rval (.slice o6 D.st.length q6) (.slice none 0 0) EE) rfl rfl hrow Try.row30 Try.size30) rfl ?_
        exact ⟨_, _, by first | rfl | (rw [e1.out, e2.out]; rfl) | (rw [e1.out, e2.out, hEE]; rfl), by first | (rw [e2.out]; exact hG) | (rw [e2.out, hEE]; exact hG), hfin⟩
end Go.Proofs.Ytihdhlciblkbiaa

namespace Go.Proofs.Ytihdhlciblkbiaa
set_option linter.unusedVariables false
set_option linter.unusedSimpArgs false
set_option maxRecDepth 20000
open Go.RowKit

theorem lay_all {old new : List UInt8} (h1 : old.length = 128) (h2 : new.length = 128) : lay old new 128 = new := by
  unfold lay
  rw [List.take_of_length_le (by omega), List.drop_eq_nil_of_le (by omega), List.append_nil]

theorem crash_torn {st : List (List UInt8)} {pd : List (Nat × List UInt8)} {keep : List Bool} {torn cut : Int} {k : Nat} (hk : k < pd.length) (ht : (k : Int) = torn) (A : List (List UInt8)) (hA : crashN st pd (size1 keep torn cut) k = A) (hp : pd[k].1 < A.length) :
    crashN st pd (size1 keep torn cut) (k + 1) = A.set pd[k].1 (lay A[pd[k].1] pd[k].2 (clamp cut 128).toNat) := by
  rw [crashN_succ st pd _ k hk A hA hp]
  unfold size1
  rw [if_pos ht]

theorem crash_keep {st : List (List UInt8)} {pd : List (Nat × List UInt8)} {keep : List Bool} {torn cut : Int} {k : Nat} (hk : k < pd.length) (ht : (k : Int) ≠ torn) (A : List (List UInt8)) (hA : crashN st pd (size1 keep torn cut) k = A) (hp : pd[k].1 < A.length) (hs : A[pd[k].1].length = 128) (hd : pd[k].2.length = 128) (hkk : keep.getD k false = true) :
    crashN st pd (size1 keep torn cut) (k + 1) = A.set pd[k].1 pd[k].2 := by
  rw [crashN_succ st pd _ k hk A hA hp]
  unfold size1
  rw [if_neg ht, if_pos hkk, lay_all hs hd]

theorem crash_not {st : List (List UInt8)} {pd : List (Nat × List UInt8)} {keep : List Bool} {torn cut : Int} {k : Nat} (hk : k < pd.length) (ht : (k : Int) ≠ torn) (A : List (List UInt8)) (hA : crashN st pd (size1 keep torn cut) k = A) (hp : pd[k].1 < A.length) (hkk : keep.getD k false = false) :
    crashN st pd (size1 keep torn cut) (k + 1) = A := by
  rw [crashN_succ st pd _ k hk A hA hp]
  unfold size1
  rw [if_neg ht, hkk, if_neg (by simp), lay_zero, List.set_getElem_self]

theorem crashN_all {st : List (List UInt8)} {pd : List (Nat × List UInt8)} {sz : Nat → Nat} (h : ∀ s ∈ st, s.length = 128) (hp : ∀ p ∈ pd, p.2.length = 128) (hs : ∀ n, sz n ≤ 128) : ∀ N, ∀ s ∈ crashN st pd sz N, s.length = 128 := by
  intro N
  induction N with
  | zero => exact h
  | succ N ih =>
    intro s hm
    rw [crashN] at hm
    rcases List.mem_or_eq_of_mem_set hm with h1 | rfl
    · exact ih s h1
    · refine lay_length ?_ ?_ (hs N)
      · rw [List.getD_eq_getElem?_getD]
        cases hq : (crashN st pd sz N)[(pd.getD N (0, z128)).1]? with
        | none => exact z128_length
        | some t => exact ih t (List.mem_of_getElem? hq)
      · rw [List.getD_eq_getElem?_getD]
        cases hq : pd[N]? with
        | none => exact z128_length
        | some p => exact hp p (List.mem_of_getElem? hq)

set_option maxHeartbeats 6400000 in
theorem c_rcrash {X : Nat → Prop} {vs vp : Value} {D : Dk} (kv : Value) (keep : List Bool) (torn cut : Int) (w : World) (h : RefG X w vs vp D) (hk : Slp (fun _ => True) w kv keep.length (keep.map Value.bool)) :
    Calls Try.prog 18 #[rval vs vp D, kv, .int .i64 torn, .int .i64 cut] w fun e w' => ∃ vs' vp', e = .returned (rval vs' vp' (D.crash keep torn cut)) ∧ RefG (fun b => X b ∨ w.heap.size ≤ b) w' vs' vp' (D.crash keep torn cut) ∧ Nw w w' := by
  obtain ⟨so, sc, po, pc, rfl, rfl, h1, h2, h3, h4⟩ := h.form
  obtain ⟨ko, kc, rfl, hkc, hkm⟩ := hk.form
  have hT := two w (.slice so D.st.length sc) (.slice po D.pd.length pc) D
  generalize hW : (w.alloc (.cells (rcells (.slice so D.st.length sc) (.slice po D.pd.length pc) D).toArray 30)).alloc (.cells #[.slice none 0 0, .slice none 0 0, .int .i64 0, .bool false] 30) = W4 at *
  have hW : Hid ((w.alloc (.cells (rcells (.slice so D.st.length sc) (.slice po D.pd.length pc) D).toArray 30)).alloc (.cells #[.slice none 0 0, .slice none 0 0, .int .i64 0, .bool false] 30) = W4) := hW
  have hg4 := h.nw hT.fr
  have hvar4 := hT.var
  have hres4 := hT.res
  have hfr4 := hT.fr
  obtain ⟨d0, -, -, -, -, -⟩ := r_cells hvar4
  obtain ⟨j0, hj, hj0, hj1, hj2⟩ := info55
  have hn := h.ok.n
  have hz4 := heap_lt hres4
  have hown5 : (W4.alloc (.cells #[] 55)).ownsRow w.heap.size 55 128 (.slice (some ⟨W4.heap.size, 0, none⟩) 0 0) 0 [] := World.ownsRow_lit W4 #[] 0 (by omega) (by decide) rfl
  have hsl5 : Sl W4.heap.size (W4.alloc (.cells #[] 55)) (.slice so D.st.length sc) D.st.length (flat D.st) := (hg4.st.toSl).keep ((Below.refl _ _).alloc (Nat.le_refl _) _)
  have hc5 : (W4.alloc (.cells #[] 55)).cell? ⟨w.heap.size, 0, none⟩ = some (.slice so D.st.length sc) := by rw [World.cell?_alloc_lt _ _ _ (by show w.heap.size < _; omega)]; exact d0
  have hz5 : (W4.alloc (.cells #[] 55)).heap.size = W4.heap.size + 1 := by simp
  generalize hW5 : W4.alloc (.cells #[] 55) = W5 at *
  have hW5 : Hid (W4.alloc (.cells #[] 55) = W5) := hW5
  clear hT d0
  go_enter Try.func18, Try.ntmps18
  go_wp2_with (first
    | (refine wpList_box_agg rfl 30 _ rfl (rval (.slice so D.st.length sc) (.slice po D.pd.length pc) D) _ rfl rfl ?_)
    | (refine wpList_alloc_agg rfl 30 rfl _ Try.zero30 ?_; rw [hW.out])
    | (refine wpList_buildSlice0 rfl 27 55 rfl Try.underlying27 (by kernel_rfl) ?_; rw [hW5.out])
    | (at_builtin; refine wpList_append_sl _ rfl _ _ 27 rfl w.heap.size 55 j0 _ 128 128 Try.underlying27 hj hj0 hj1 hj2 (by rw [show (sec z128).cells.size = (z128.map bv).length from rfl, List.length_map, z128_length]) (by decide) (.slice (some ⟨W4.heap.size, 0, none⟩) 0 0) 0 [] rfl hown5 W4.heap.size _ D.st.length _ rfl hsl5 (flat_length h.ok.sec) flat_one (by unfold maxLen; omega) (by omega) (by omega) (fun v6 w6 hown6 hg6 hat6 => stop_here ?_)))
  unfold Hid
  simp only [Nat.zero_add, List.nil_append] at hown6
  have hR : RowAt w w6 (.slice so D.st.length sc) (.slice po D.pd.length pc) v6 D D.st := row_start hvar4 hres4 hfr4 hown6 (by rw [hW5.out]; exact hg6) (by rw [hW5.out]; exact hat6)
  obtain ⟨-, f1, -, -, -, -⟩ := r_cells hR.var
  obtain ⟨o6, q6, hv6⟩ := owns_form hown6
  subst hv6
  clear hown5 hsl5 hc5 hg6 hat6 hW5 hown6 hg4 hvar4 hres4 hfr4 hW
  go_wp2
  go_loopw [19] (fun j wr => ∃ k : Nat, k ≤ D.pd.length ∧ j = .int .i64 k ∧ RowAt w wr (.slice so D.st.length sc) (.slice po D.pd.length pc) (.slice o6 D.st.length q6) D (crashN D.st D.pd (size1 keep torn cut) k)) (fun j _ => D.pd.length - (intOf j).toNat)
  case atStart => exact ⟨0, Nat.zero_le _, rfl, hR⟩
  case round =>
    obtain ⟨k, hkl, rfl, hRk⟩ := hrel
    clear hR
    have hal : (crashN D.st D.pd (size1 keep torn cut) k).length = D.st.length := crashN_length _ _ _ _
    have has : ∀ s ∈ crashN D.st D.pd (size1 keep torn cut) k, s.length = 128 := crashN_all h.ok.sec (fun p hp => (h.ok.wr p hp).2) (size1_le keep torn cut) k
    by_cases hlt : k < D.pd.length
    · obtain ⟨pb, poff, hpo, hpr, hp4, hp5⟩ := (h.nw hRk.fr).prange rfl k hlt
      subst hpo
      have hpA : D.pd[k].1 < (crashN D.st D.pd (size1 keep torn cut) k).length := by omega
      have hsA := has _ (List.getElem_mem hpA)
      have HT : (k : Int) = torn → Hid (crashN D.st D.pd (size1 keep torn cut) (k + 1) = (crashN D.st D.pd (size1 keep torn cut) k).set D.pd[k].1 (lay ((crashN D.st D.pd (size1 keep torn cut) k)[D.pd[k].1]'hpA) D.pd[k].2 (clamp cut 128).toNat)) := fun ht => crash_torn hlt ht _ rfl hpA
      have HK : (k : Int) ≠ torn → keep.getD k false = true → Hid (crashN D.st D.pd (size1 keep torn cut) (k + 1) = (crashN D.st D.pd (size1 keep torn cut) k).set D.pd[k].1 D.pd[k].2) := fun ht hkk => crash_keep hlt ht _ rfl hpA hsA hp4 hkk
      have HN : (k : Int) ≠ torn → keep.getD k false = false → Hid (crashN D.st D.pd (size1 keep torn cut) (k + 1) = crashN D.st D.pd (size1 keep torn cut) k) := fun ht hkk => crash_not hlt ht _ rfl hpA hkk
      generalize hAA : crashN D.st D.pd (size1 keep torn cut) k = AA at *
      generalize D.pd[k] = p at *
      obtain ⟨g, cap, hgf, hgc, hgm⟩ := hRk.form (by omega)
      simp only [Value.slice.injEq] at hgf
      obtain ⟨e6, -, e7⟩ := hgf
      subst e6
      subst e7
      have hv := varW wr (wcell (0, z128)).toArray p 88
      generalize hWv : (wr.alloc (.cells (wcell (0, z128)).toArray 88)).setRow wr.heap.size (wcell p).toArray = Wv at *
      have hWv : Hid ((wr.alloc (.cells (wcell (0, z128)).toArray 88)).setRow wr.heap.size (wcell p).toArray = Wv) := hWv
      obtain ⟨c0, c1⟩ := hv.at
      have hRv := hRk.nw hv.fr
      have hkv : Slp (fun _ => True) Wv (.slice ko keep.length kc) keep.length (keep.map Value.bool) := hk.keepL (fun b _ hb => ⟨trivial, hRv.fr.block b hb id⟩)
      have hpI : (p.1 : Int) < (D.st.length : Int) := by omega
      have hMl : wr.heap.size < Wv.heap.size := heap_lt hv.blk
      clear hv hRk
      by_cases ht : (k : Int) = torn
      · have H1 := HT ht
        have e1 : ((k : Int) == torn) = true := by simpa using ht
        clear HT HK HN hkv
        have hro := hRv.range hal.symm has p.1 hpA
        generalize (AA[p.1]'hpA) = old at *
        clear ht
        have hQ : (fun w' : World => w'.cell? ⟨wr.heap.size, 0, none⟩ = some (.int .i64 (p.1 : Int)) ∧ w'.rangeAt wr.heap.size 1 (p.2.map bv) ∧ w'.rangeAt g (p.1 * 128) (old.map bv)) Wv.drew := ⟨by rw [World.cell?_drew]; exact c0, (World.rangeAt_drew ..).2 c1, (World.rangeAt_drew ..).2 hro⟩
        have hRd := hRv.nw (wr' := Wv.drew) (Fr.refl (fun _ => False) Wv).drew
        go_wp2_with (first
          | (refine wpList_load_as rfl 88 _ rfl pb (poff + k * 129) rfl (wrv p) _ rfl hpr Try.row88 (size88 hp4) ?_)
          | (refine wpList_alloc_agg rfl 88 rfl _ Try.zero88 ?_)
          | (refine wpList_store_all rfl 88 _ _ rfl wr.heap.size rfl (wrv p) rfl _ rfl _ 88 (heap_alloc_new wr _) (wr_fit hp4) (wcell_oneCell _) (size88 hp4) ?_; rw [hWv.out]))
        refine wp_region_ord [] 12 [(0, true), (1, true), (2, true), (3, true), (4, true), (5, true), (6, true), (7, true), (8, true), (9, true), (10, true), (11, false)] (fun w' : World => w'.cell? ⟨wr.heap.size, 0, none⟩ = some (.int .i64 (p.1 : Int)) ∧ w'.rangeAt wr.heap.size 1 (p.2.map bv) ∧ w'.rangeAt g (p.1 * 128) (old.map bv)) (by kernel_rfl) (by kernel_rfl) ?_
        refine ord_quietL _ ?_ rfl hQ rfl ?_ ?_
        rotate_left
        · rintro w' ⟨hQ1, hQ2, hQ3⟩; go_simp; rfl
        simp only [Act.put, List.setIfInBounds_toArray, List.set_cons_zero, List.set_cons_succ]
        refine ord_quietL _ ?_ rfl hQ rfl ?_ ?_
        rotate_left
        · rintro w' ⟨hQ1, hQ2, hQ3⟩; go_simp; rfl
        simp only [Act.put, List.setIfInBounds_toArray, List.set_cons_zero, List.set_cons_succ]
        refine ord_quietL _ ?_ rfl hQ rfl ?_ ?_
        rotate_left
        · rintro w' ⟨hQ1, hQ2, hQ3⟩; go_simp; rfl
        simp only [Act.put, List.setIfInBounds_toArray, List.set_cons_zero, List.set_cons_succ]
        refine ord_quietL _ ?_ rfl hQ rfl ?_ ?_
        rotate_left
        · rintro w' ⟨hQ1, hQ2, hQ3⟩; go_simp; rfl
        simp only [Act.put, List.setIfInBounds_toArray, List.set_cons_zero, List.set_cons_succ]
        refine ord_quietL _ ?_ rfl hQ rfl ?_ ?_
        rotate_left
        · rintro w' ⟨hQ1, hQ2, hQ3⟩; go_simp; rfl
        simp only [Act.put, List.setIfInBounds_toArray, List.set_cons_zero, List.set_cons_succ]
        refine ord_quietL _ ?_ rfl hQ rfl ?_ ?_
        rotate_left
        · rintro w' ⟨hQ1, hQ2, hQ3⟩; go_simp; rfl
        simp only [Act.put, List.setIfInBounds_toArray, List.set_cons_zero, List.set_cons_succ]
        refine ord_quietL _ ?_ rfl hQ rfl ?_ ?_
        rotate_left
        · rintro w' ⟨hQ1, hQ2, hQ3⟩; go_simp; rfl
        simp only [Act.put, List.setIfInBounds_toArray, List.set_cons_zero, List.set_cons_succ]
        refine ord_quietL _ (sec old) rfl hQ rfl ?_ ?_
        · rintro w' ⟨hQ1, hQ2, hQ3⟩
          exact run_load_quiet 55 _ w' rfl g (p.1 * 128) rfl _ hQ3 Try.rowS (sizeS hsA)
        simp only [Act.put, List.setIfInBounds_toArray, List.set_cons_zero, List.set_cons_succ]
        refine ord_quietL _ ?_ rfl hQ rfl ?_ ?_
        rotate_left
        · rintro w' ⟨hQ1, hQ2, hQ3⟩; go_simp; rfl
        simp only [Act.put, List.setIfInBounds_toArray, List.set_cons_zero, List.set_cons_succ]
        refine ord_quietL _ (sec p.2) rfl hQ rfl ?_ ?_
        · rintro w' ⟨hQ1, hQ2, hQ3⟩
          exact run_load_quiet 55 _ w' rfl wr.heap.size 1 rfl _ hQ2 Try.rowS (sizeS hp4)
        simp only [Act.put, List.setIfInBounds_toArray, List.set_cons_zero, List.set_cons_succ]
        refine ord_quietL _ ?_ rfl hQ rfl ?_ ?_
        rotate_left
        · rintro w' ⟨hQ1, hQ2, hQ3⟩; go_simp; rfl
        simp only [Act.put, List.setIfInBounds_toArray, List.set_cons_zero, List.set_cons_succ]
        refine ord_actL _ rfl (fun K1 hK1 => ?_)
        go_wp2_with (go_at_call 36; refine stop_here ?_)
        unfold Hid
        refine (c_torn old p.2 cut _ hsA hp4).mono ?_
        have hlen : (lay old p.2 (clamp cut 128).toNat).length = 128 := lay_length hsA hp4 (by have := clamp_range cut 128 (by omega); omega)
        generalize lay old p.2 (clamp cut 128).toNat = L at *
        rintro e w7 ⟨rfl, hf7⟩
        have hR7 := hRd.nw hf7
        have hQ7 : (fun w' : World => w'.cell? ⟨wr.heap.size, 0, none⟩ = some (.int .i64 (p.1 : Int)) ∧ w'.rangeAt wr.heap.size 1 (p.2.map bv) ∧ w'.rangeAt g (p.1 * 128) (old.map bv)) w7 := by
          refine ⟨?_, fun j v hv => ?_, fun j v hv => ?_⟩
          · exact (World.cell?_of_block (w := Wv.drew) (a := ⟨wr.heap.size, 0, none⟩) (hf7.block _ hMl id)).trans hQ.1
          · exact (World.cell?_of_block (w := Wv.drew) (a := ⟨wr.heap.size, 1 + j, none⟩) (hf7.block _ hMl id)).trans (hQ.2.1 j v hv)
          · have := hQ.2.2 j v hv
            exact (World.cell?_of_block (w := Wv.drew) (a := ⟨g, p.1 * 128 + j, none⟩) (hf7.block _ (World.block_lt_of_cell? Wv.drew ⟨g, p.1 * 128 + j, none⟩ this) id)).trans this
        obtain ⟨cur, hcur, hcl, hRn⟩ := hR7.store hal.symm has p.1 hpA L hlen
        go_wp2
        refine hK1 _ _ hQ7 ?_
        refine ord_tail ?_
        simp only [List.drop_succ_cons, List.drop_zero]
        clear hK1 hQ7 hQ hRd hR7 hRv hf7
        go_wp2_with (refine wpList_store_as rfl 55 _ _ rfl g (p.1 * 128) rfl (sec L) rfl _ rfl _ 55 hcur hcl (bv_oneCell _) (sizeS hlen) ?_)
        go_roundw
        case rel => exact ⟨k + 1, by omega, by go_num, by rw [H1.out]; exact hRn⟩
        case measure => simp [intOf]; omega
      · have e1 : ((k : Int) == torn) = false := by simpa using ht
        by_cases hkk : k < keep.length
        · obtain ⟨kb, koff, hko, -, hkcell⟩ := hkv.get k (.bool keep[k]) (by simp [hkk])
          subst hko
          have hkI : (k : Int) < (keep.length : Int) := by omega
          have hgd : keep.getD k false = keep[k] := by rw [List.getD_eq_getElem?_getD, List.getElem?_eq_getElem hkk]; rfl
          cases hkb : keep[k] with
          | true =>
            have H1 := HK ht (by rw [hgd, hkb])
            rw [hkb] at hkcell
            clear HT HK HN hgd hkb hkv
            obtain ⟨cur, hcur, hcl, hRn⟩ := hRv.store hal.symm has p.1 hpA p.2 hp4
            clear hRv
            go_wp2_with (first
              | (refine wpList_load_as rfl 88 _ rfl pb (poff + k * 129) rfl (wrv p) _ rfl hpr Try.row88 (size88 hp4) ?_)
              | (refine wpList_alloc_agg rfl 88 rfl _ Try.zero88 ?_)
              | (refine wpList_store_all rfl 88 _ _ rfl wr.heap.size rfl (wrv p) rfl _ rfl _ 88 (heap_alloc_new wr _) (wr_fit hp4) (wcell_oneCell _) (size88 hp4) ?_; rw [hWv.out])
              | (refine wpList_load_as rfl 55 _ rfl wr.heap.size 1 rfl (sec p.2) _ rfl c1 Try.rowS (sizeS hp4) ?_)
              | (refine wpList_store_as rfl 55 _ _ rfl g (p.1 * 128) rfl (sec p.2) rfl _ rfl _ 55 hcur hcl (bv_oneCell _) (sizeS hp4) ?_))
            go_roundw
            case rel => exact ⟨k + 1, by omega, by go_num, by rw [H1.out]; exact hRn⟩
            case measure => simp [intOf]; omega
          | false =>
            have H1 := HN ht (by rw [hgd, hkb])
            rw [hkb] at hkcell
            clear HT HK HN hgd hkb hkv
            go_wp2_with (first
              | (refine wpList_load_as rfl 88 _ rfl pb (poff + k * 129) rfl (wrv p) _ rfl hpr Try.row88 (size88 hp4) ?_)
              | (refine wpList_alloc_agg rfl 88 rfl _ Try.zero88 ?_)
              | (refine wpList_store_all rfl 88 _ _ rfl wr.heap.size rfl (wrv p) rfl _ rfl _ 88 (heap_alloc_new wr _) (wr_fit hp4) (wcell_oneCell _) (size88 hp4) ?_; rw [hWv.out]))
            go_roundw
            case rel => exact ⟨k + 1, by omega, by go_num, by rw [H1.out]; exact hRv⟩
            case measure => simp [intOf]; omega
        · have hkI : ¬ (k : Int) < (keep.length : Int) := by omega
          have H1 := HN ht (by rw [List.getD_eq_getElem?_getD, List.getElem?_eq_none (by omega)]; rfl)
          clear HT HK HN hkv
          go_wp2_with (first
            | (refine wpList_load_as rfl 88 _ rfl pb (poff + k * 129) rfl (wrv p) _ rfl hpr Try.row88 (size88 hp4) ?_)
            | (refine wpList_alloc_agg rfl 88 rfl _ Try.zero88 ?_)
            | (refine wpList_store_all rfl 88 _ _ rfl wr.heap.size rfl (wrv p) rfl _ rfl _ 88 (heap_alloc_new wr _) (wr_fit hp4) (wcell_oneCell _) (size88 hp4) ?_; rw [hWv.out]))
          go_roundw
          case rel => exact ⟨k + 1, by omega, by go_num, by rw [H1.out]; exact hRv⟩
          case measure => simp [intOf]; omega
    · have hkn : k = D.pd.length := by omega
      subst hkn
      have hres := hRk.res
      have hnv := hRk.nv
      have hCs : (D.crash keep torn cut).st = crashN D.st D.pd (size1 keep torn cut) D.pd.length := rfl
      have hfin : Nw w (wr.setRow (w.heap.size + 1) (rcells (.slice o6 D.st.length q6) (.slice none 0 0) (D.crash keep torn cut)).toArray) := hRk.fr.setRow (.inr (by omega)) _
      have hrow := range_all (setRow_heap wr (w.heap.size + 1) _ (rcells (.slice o6 D.st.length q6) (.slice none 0 0) (D.crash keep torn cut)).toArray 30 _ hres)
      have hone3 := r_oneCell (so := o6) (po := none) (n := D.st.length) (m := 0) (sc := q6) (pc := 0) (D := D.crash keep torn cut)
      have hG : RefG (fun b => X b ∨ w.heap.size ≤ b) (wr.setRow (w.heap.size + 1) (rcells (.slice o6 D.st.length q6) (.slice none 0 0) (D.crash keep torn cut)).toArray) (.slice o6 D.st.length q6) (.slice none 0 0) (D.crash keep torn cut) := by
        refine ⟨?_, ⟨none, 0, rfl, ⟨Nat.le_refl _, Nat.zero_le _⟩, fun _ => rfl, fun i c hi => by simp [Dk.crash, pcells] at hi⟩, ⟨has, fun p hp => by simp [Dk.crash] at hp, by rw [hCs]; omega, by simp [Dk.crash], by simp [Dk.crash]⟩⟩
        have hs9 := slp_of_owns hRk.own
        rw [hCs]
        refine hs9.keepL (fun q hq hl => ?_)
        have := hnv q hq
        exact ⟨.inr (by omega), by rw [setRow_other _ _ _ _ (by omega)]⟩
      have hval : rval (.slice o6 D.st.length q6) (.slice none 0 0) (D.crash keep torn cut) = .agg #[.slice o6 D.st.length q6, .slice none 0 0, .int .i64 (-1), .bool false] := rfl
      have hval : Hid (rval (.slice o6 D.st.length q6) (.slice none 0 0) (D.crash keep torn cut) = .agg #[.slice o6 D.st.length q6, .slice none 0 0, .int .i64 (-1), .bool false]) := hval
      clear hRk hnv hal has hCs
      generalize hEE : D.crash keep torn cut = EE at *
      go_wp2_with (refine wpList_store_all rfl 30 _ _ rfl (w.heap.size + 1) rfl _ hval.out.symm _ rfl _ 30 hres res_fit hone3 Try.size30 ?_)
      refine bodyPost_ret (results_cell1 rfl _ (w.heap.size + 1) _ (rval (.slice o6 D.st.length q6) (.slice none 0 0) EE) rfl rfl hrow Try.row30 Try.size30) rfl ?_
      exact ⟨_, _, by first | rfl | (rw [hEE]), by first | exact hG | (rw [hEE]; exact hG), hfin⟩
end Go.Proofs.Ytihdhlciblkbiaa
