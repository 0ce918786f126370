/-
  What the laws lean on: an act's variable; what is read behind a write and a flush.
-/
import Derived.Test.YtmhojkbnfiknpaaOpen
namespace Go.Proofs.Ytmhojkbnfiknpaa
set_option linter.unusedVariables false
set_option linter.unusedSimpArgs false
open Go.RowKit

set_option maxRecDepth 100000 in
theorem Try.zero36 : (Try.prog.info? 36).bind (·.zero) = some (.agg (acell ⟨0, 0, 0, z128, [], .slice none 0 0⟩).toArray) := by kernel_rfl
theorem Try.size36 : (Try.prog.info? 36).map (·.size) = some 132 := by kernel_rfl
theorem Try.row36 : (Try.prog.underlying 36).map TypeDesc.isRow = some true := by kernel_rfl
def zact : Actt := ⟨0, 0, 0, z128, [], .slice none 0 0⟩
theorem size36 {a : Actt} (h : a.data.length = 128) : (Try.prog.info? 36).map (·.size) = some (acell a).length := by rw [acell_length h]; exact Try.size36
theorem act_fit {a : Actt} (h : a.data.length = 128) : (acell a).length = (acell zact).length := by rw [acell_length h, acell_length (show zact.data.length = 128 from z128_length)]
theorem acell_oneCell {a : Actt} {K : Nat} {w : World} (h : a.Ok K w) : ∀ u ∈ acell a, u.oneCell' = true := by
  obtain ⟨ao, cap, hv, _⟩ := h.s
  intro u hu
  simp only [acell, List.cons_append, List.nil_append, List.mem_cons, List.mem_append, List.mem_singleton, List.not_mem_nil, or_false] at hu
  rcases hu with rfl | rfl | rfl | hu | rfl
  · rfl
  · rfl
  · rfl
  · exact bv_oneCell _ u hu
  · rw [hv]; rfl

/-- A variable that holds an act, in a new block. -/
structure VarA (w w' : World) (a : Actt) : Prop where
  blk : w'.heap[w.heap.size]? = some (.cells (acell a).toArray 36 (0, 0))
  fr : Fr (fun _ => False) w w'

theorem varA (w : World) (C : Array Value) (a : Actt) : VarA w ((w.alloc (.cells C 36)).setRow w.heap.size (acell a).toArray) a :=
  ⟨setRow_heap _ _ _ _ 36 _ (heap_alloc_new w _), ((Fr.refl _ w).alloc _).setRow (.inr (Nat.le_refl _)) _⟩

theorem act_cells {w : World} {N : Nat} {a : Actt} (h : w.heap[N]? = some (.cells (acell a).toArray 36 (0, 0))) (hd : a.data.length = 128) :
    w.cell? ⟨N, 0, none⟩ = some (.int .i64 a.kind) ∧ w.cell? ⟨N, 1, none⟩ = some (.int .i64 a.place) ∧ w.cell? ⟨N, 2, none⟩ = some (.int .i64 a.cut) ∧ w.rangeAt N 3 (a.data.map bv) ∧ w.cell? ⟨N, 131, none⟩ = some a.kv ∧ w.rangeAt N 0 (acell a) := by
  have hr := range_all h
  have h131 : (acell a)[131]? = some a.kv := by
    unfold acell
    rw [List.getElem?_append_right (by simp [hd])]
    simp [hd]
  refine ⟨hr 0 _ rfl, hr 1 _ rfl, hr 2 _ rfl, fun j v hv => ?_, by have := hr 131 _ h131; simpa using this, hr⟩
  have := hr (j + 3) v (by
    have hj : j < a.data.length := by have := (List.getElem?_eq_some_iff.1 hv).1; simpa using this
    unfold acell
    rw [List.getElem?_append_left (by simp; omega)]
    simpa using hv)
  rwa [show 0 + (j + 3) = 3 + j by omega] at this

/-! ### What is read -/
theorem last_spend (D : Dk) (a : Nat) : D.spend.last a = D.last a := by
  unfold Dk.last
  rw [(spend_st D).1, (spend_st D).2]

theorem last_push (D : Dk) (a i : Nat) (s : List UInt8) : ({ D with pd := D.pd ++ [(i, s)] } : Dk).last a = if i = a then s else D.last a := by
  unfold Dk.last
  simp only [List.foldl_append, List.foldl_cons, List.foldl_nil]

theorem last_write (D : Dk) (a : Nat) (i : Int) (s : List UInt8) : (D.write i s).last a = if D.werr i = 0 ∧ i = (a : Int) then s else D.last a := by
  unfold Dk.write Dk.werr
  by_cases hh : D.has i = true
  · obtain ⟨h0, h1⟩ := Dk.has_lt hh
    by_cases ho : D.out = true
    · simp [hh, ho, last_spend]
    · have ho : D.out = false := by simpa using ho
      simp only [hh, ho, if_true, Bool.false_eq_true, if_false, true_and]
      have e := last_push D.spend a i.toNat s
      rw [(spend_st D).2, last_spend] at e
      rw [e]
      by_cases hi : i = (a : Int)
      · rw [if_pos hi, if_pos (by omega)]
      · rw [if_neg hi, if_neg (by omega)]
  · have hh : D.has i = false := by simpa using hh
    simp [hh]

theorem applied_get (pd : List (Nat × List UInt8)) (a : Nat) : ∀ (st : List (List UInt8)), a < st.length → (applied st pd).getD a z128 = pd.foldl (fun s p => if p.1 = a then p.2 else s) (st.getD a z128) := by
  unfold applied
  induction pd with
  | nil => intro st _; rfl
  | cons p l ih =>
    intro st ha
    rw [List.foldl_cons, List.foldl_cons, ih _ (by simpa using ha)]
    congr 1
    rw [List.getD_eq_getElem?_getD, List.getElem?_set]
    by_cases h : p.1 = a
    · subst h; simp [ha]
    · simp only [h, if_false, List.getD_eq_getElem?_getD]

theorem last_flush (D : Dk) (a : Nat) (ha : a < D.st.length) : D.flush.last a = D.last a := by
  unfold Dk.flush
  by_cases ho : D.out = true
  · simp [ho, last_spend]
  · have ho : D.out = false := by simpa using ho
    simp only [ho, Bool.false_eq_true, if_false]
    unfold Dk.last
    simp only [List.foldl_nil]
    exact applied_get D.pd a D.st ha

theorem write_len (D : Dk) (i : Int) (s : List UInt8) : (D.write i s).st.length = D.st.length ∧ (D.write i s).pd.length ≤ D.pd.length + 1 := by
  unfold Dk.write
  split
  · split
    · rw [(spend_st D).1, (spend_st D).2]; exact ⟨rfl, by omega⟩
    · simp [(spend_st D).1]
  · exact ⟨rfl, by omega⟩

theorem flush_len (D : Dk) : D.flush.st.length = D.st.length ∧ D.flush.pd.length ≤ D.pd.length := by
  unfold Dk.flush
  split
  · rw [(spend_st D).1, (spend_st D).2]; exact ⟨rfl, by omega⟩
  · simp [applied_length]

/-- What a method of the disk leaves of another block. -/
theorem Done.other {base : Nat} {w w' : World} {b : Nat} {S : Nat → Prop} {D' : Dk} (h : Done base w b S D' w') : ∃ S', DiskAt base w' b S' D' ∧ w.heap.size ≤ w'.heap.size ∧ ∀ N, N < w.heap.size → ¬ S N → w'.heap[N]? = w.heap[N]? ∧ ¬ S' N := by
  obtain ⟨S', hd, hf, hn⟩ := h
  refine ⟨S', hd, hf.size, fun N hN hS => ⟨hf.block N hN hS, fun hs => ?_⟩⟩
  rcases hn N hs with h1 | h1
  · exact hS h1
  · omega

theorem nw_below {w w' : World} (h : Nw w w') : Below w.heap.size w w' := h.below (Nat.le_refl _) (fun _ => False.elim)
end Go.Proofs.Ytmhojkbnfiknpaa
