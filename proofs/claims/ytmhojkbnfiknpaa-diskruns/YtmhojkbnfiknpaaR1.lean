/-
  The document's disk: its small functions.
-/
import Derived.Test.YtmhojkbnfiknpaaDo
namespace Go.Proofs.Ytmhojkbnfiknpaa
set_option linter.unusedVariables false
set_option linter.unusedSimpArgs false
open Go.RowKit

theorem Try.row30 : (Try.prog.underlying 30).map TypeDesc.isRow = some true := by kernel_rfl
theorem Try.size30 : (Try.prog.info? 30).map (·.size) = some 4 := by kernel_rfl
theorem Try.zero30 : (Try.prog.info? 30).bind (·.zero) = some (.agg #[.slice none 0 0, .slice none 0 0, .int .i64 0, .bool false]) := by kernel_rfl

/-- The document's disk as a value. -/
def rcells (vs vp : Value) (D : Dk) : List Value := [vs, vp, .int .i64 D.left, .bool D.dead]
def rval (vs vp : Value) (D : Dk) : Value := .agg (rcells vs vp D).toArray

structure RefG (X : Nat → Prop) (w : World) (vs vp : Value) (D : Dk) : Prop where
  st : Slp X w vs D.st.length (flat D.st)
  pd : Slp X w vp D.pd.length (pcells D.pd)
  ok : D.Ok

def RefAt (X : Nat → Prop) (w : World) (v : Value) (D : Dk) : Prop := ∃ vs vp, v = rval vs vp D ∧ RefG X w vs vp D

theorem RefG.keep {X X' : Nat → Prop} {w w' : World} {vs vp : Value} {D : Dk} (h : RefG X w vs vp D) (hX : ∀ b, X b → b < w.heap.size → X' b ∧ w'.heap[b]? = w.heap[b]?) : RefG X' w' vs vp D := ⟨h.st.keep hX, h.pd.keep hX, h.ok⟩

theorem RefG.nw {X : Nat → Prop} {w w' : World} {vs vp : Value} {D : Dk} (h : RefG X w vs vp D) (hf : Nw w w') : RefG X w' vs vp D := h.keep (fun b hx hb => ⟨hx, hf.block b hb id⟩)

theorem RefG.spend {X : Nat → Prop} {w : World} {vs vp : Value} {D : Dk} (h : RefG X w vs vp D) : RefG X w vs vp D.spend := by
  refine ⟨by rw [(spend_st D).1]; exact h.st, by rw [(spend_st D).2]; exact h.pd, ?_⟩
  have lo := h.ok.lo
  have hi := h.ok.hi
  refine ⟨by rw [(spend_st D).1]; exact h.ok.sec, by rw [(spend_st D).1, (spend_st D).2]; exact h.ok.wr, by rw [(spend_st D).1]; exact h.ok.n, ?_, ?_⟩
  · unfold Dk.spend; split
    · exact lo
    · show _ ≤ (if 0 < D.left then D.left - 1 else D.left); split <;> omega
  · unfold Dk.spend; split
    · exact hi
    · show (if 0 < D.left then D.left - 1 else D.left) ≤ _; split <;> omega

theorem RefG.form {X : Nat → Prop} {w : World} {vs vp : Value} {D : Dk} (h : RefG X w vs vp D) : ∃ so sc po pc, vs = .slice so D.st.length sc ∧ vp = .slice po D.pd.length pc ∧ D.st.length ≤ sc ∧ sc ≤ 9223372036854775807 ∧ D.pd.length ≤ pc ∧ pc ≤ 9223372036854775807 := by
  obtain ⟨so, sc, h1, h2, h3⟩ := h.st.form
  obtain ⟨po, pc, h4, h5, h6⟩ := h.pd.form
  exact ⟨so, sc, po, pc, h1, h4, h2, h3, h5, h6⟩

/-- A variable that holds the document's disk. -/
structure VarR (w w' : World) (vs vp : Value) (D : Dk) : Prop where
  blk : w'.heap[w.heap.size]? = some (.cells (rcells vs vp D).toArray 30 (0, 0))
  fr : Nw w w'
  size : w'.heap.size = w.heap.size + 1

theorem varR (w : World) (vs vp : Value) (D : Dk) : VarR w (w.alloc (.cells (rcells vs vp D).toArray 30)) vs vp D := ⟨heap_alloc_new w _, (Fr.refl _ w).alloc _, by simp⟩

theorem r_cells {w : World} {N : Nat} {vs vp : Value} {D : Dk} (h : w.heap[N]? = some (.cells (rcells vs vp D).toArray 30 (0, 0))) :
    w.cell? ⟨N, 0, none⟩ = some vs ∧ w.cell? ⟨N, 1, none⟩ = some vp ∧ w.cell? ⟨N, 2, none⟩ = some (.int .i64 D.left) ∧ w.cell? ⟨N, 3, none⟩ = some (.bool D.dead) ∧ (∀ i, w.frozen? ⟨N, i, none⟩ = false) ∧ w.rangeAt N 0 (rcells vs vp D) :=
  ⟨cell_blk h rfl, cell_blk h rfl, cell_blk h rfl, cell_blk h rfl, fun _ => free_blk h, range_all h⟩

theorem c_there {X : Nat → Prop} {vs vp : Value} {D : Dk} (i : Int) (w : World) (h : RefG X w vs vp D) :
    Calls Try.prog 28 #[rval vs vp D, .int .i64 i] w fun e w' => e = .returned (.bool (D.has i)) ∧ Nw w w' := by
  obtain ⟨so, sc, po, pc, rfl, rfl, h1, h2, h3, h4⟩ := h.form
  have hv := varR w (.slice so D.st.length sc) (.slice po D.pd.length pc) D
  generalize hW : w.alloc (.cells (rcells (.slice so D.st.length sc) (.slice po D.pd.length pc) D).toArray 30) = W at *
  have hW : Hid (w.alloc (.cells (rcells (.slice so D.st.length sc) (.slice po D.pd.length pc) D).toArray 30) = W) := hW
  obtain ⟨c0, -, -, -, -, -⟩ := r_cells hv.blk
  have hf := hv.fr
  clear h hv
  unfold Dk.has
  go_enter Try.func28, Try.ntmps28
  by_cases hi : 0 ≤ i
  · go_wp2_with (refine wpList_box_agg rfl 30 _ rfl (rval (.slice so D.st.length sc) (.slice po D.pd.length pc) D) _ rfl rfl ?_; rw [hW.out])
    go_ret
    exact ⟨by simp [hi], hf⟩
  · go_wp2_with (refine wpList_box_agg rfl 30 _ rfl (rval (.slice so D.st.length sc) (.slice po D.pd.length pc) D) _ rfl rfl ?_; rw [hW.out])
    go_ret
    exact ⟨by simp; omega, hf⟩

/-- The two variables of a function that takes and gives a disk. -/
structure Two (w W : World) (vs vp : Value) (D : Dk) : Prop where
  var : W.heap[w.heap.size]? = some (.cells (rcells vs vp D).toArray 30 (0, 0))
  res : W.heap[w.heap.size + 1]? = some (.cells #[.slice none 0 0, .slice none 0 0, .int .i64 0, .bool false] 30 (0, 0))
  fr : Nw w W
  size : W.heap.size = w.heap.size + 2

theorem two (w : World) (vs vp : Value) (D : Dk) : Two w ((w.alloc (.cells (rcells vs vp D).toArray 30)).alloc (.cells #[.slice none 0 0, .slice none 0 0, .int .i64 0, .bool false] 30)) vs vp D :=
  ⟨heap_alloc2_old w _ _, heap_alloc2_new w _ _, ((Fr.refl _ w).alloc _).alloc _, by simp⟩

theorem r_oneCell {so po : Option Addr} {n m sc pc : Nat} {D : Dk} : ∀ u ∈ rcells (.slice so n sc) (.slice po m pc) D, u.oneCell' = true := by
  intro u hu
  simp only [rcells, List.mem_cons, List.not_mem_nil, or_false] at hu
  rcases hu with rfl | rfl | rfl | rfl <;> rfl

/-- A field of it written. -/
theorem r_set {w : World} {N : Nat} {vs vp : Value} {D D' : Dk} (h : w.heap[N]? = some (.cells (rcells vs vp D).toArray 30 (0, 0))) (i : Nat) (v : Value) (he : (rcells vs vp D).set i v = rcells vs vp D') : (w.setCell ⟨N, i, none⟩ v).heap[N]? = some (.cells (rcells vs vp D').toArray 30 (0, 0)) := by
  rw [blk_setCell h, ← he]; simp
end Go.Proofs.Ytmhojkbnfiknpaa
