/-
  Arguments opened: lists of texts, bools, pairs, as they came in.
-/
import Derived.Test.YtihdhlciblkbiaaLibOpen
import Derived.Test.YtihdhlciblkbiaaCrcW2
import Derived.Deep.Slices
import Derived.ProofKit
import Derived.OpenShut
import Derived.SizedLaws
namespace Go.Proofs.Ytihdhlciblkbiaa
set_option linter.unusedVariables false
set_option linter.unusedSimpArgs false
set_option maxRecDepth 20000
open Go.RowKit Go.ChangeShapes Go.WideShapes Go.Deep

theorem Try.bytesB : Try.prog.bytesOf 37 = 24 := by kernel_rfl

/-- Parts that came in. -/
theorem open_parts {H : Type} {enc : TypeId × Value → H} {W : World} {fuel : Nat} {v : Value} {d : DataW H} {p : List MemPlace}
    (h : DataW.trod enc Try.prog W 0 (fun _ => true) true fuel 51 [v] = some (d, p)) (hw : ∀ n ∈ d.weights Try.prog 51, n ≤ reachBytes) :
    ∃ ps : List (List UInt8), Parts W.heap.size W v ps ∧ ps.length ≤ 140737488351232 ∧ ps.flatten.length ≤ Rows.uptoBulk d := by
  rcases open_slice1 Try.underlying51 Try.cells37 h with ⟨hcs, _⟩ | ⟨a, len, cap, m, n, V, D, Pl, hcs, _, hl, hm, hmm, hx, hall⟩
  · simp only [List.cons.injEq, and_true] at hcs
    subst hcs
    exact ⟨[], Parts.nil _ _, by simp, by simp⟩
  · simp only [List.cons.injEq, and_true] at hcs
    subst hcs
    simp only [if_true] at hmm
    subst hmm
    simp only [Prod.mk.injEq] at hx
    obtain ⟨rfl, _⟩ := hx
    have hwl := hw ((((List.range len).map D).length + ((List.range (m - len)).map fun j => D (len + j)).length) * 24) (by simp [DataW.weights, Try.underlying51, Try.bytesB])
    have each : ∀ i, i < len → ∃ x : List UInt8, Sl W.heap.size W (V i) x.length (x.map bv) ∧ x.length ≤ 140737488351232 ∧ x.length + 1 ≤ Rows.uptoBulk (D i) := by
      intro i hi
      obtain ⟨_, h1⟩ := hall i (by omega)
      exact open_bytes h1 (fun q hq => hw q (by
        simp only [DataW.weights, Try.underlying51, List.mem_cons, List.mem_append]
        exact .inr (.inl (weightsAll_mem (List.mem_map.2 ⟨i, List.mem_range.2 hi, rfl⟩) hq))))
    obtain ⟨F, hF⟩ := choose_lt each
    refine ⟨(List.range len).map F, ?_, ?_, ?_⟩
    · refine ⟨some a, m, by simp, by simp; omega, fun i f hi => ?_⟩
      have hil : i < len := by
        have := (List.getElem?_eq_some_iff.1 hi).1
        simpa using this
      have hf : F i = f := by
        rw [List.getElem?_map, List.getElem?_range hil] at hi
        simpa using hi
      subst hf
      obtain ⟨hc0, _⟩ := hall i (by omega)
      obtain ⟨hs, hb, _⟩ := hF i hil
      have ha : a = ⟨a.block, a.off, none⟩ := by
        obtain ⟨hc00, _⟩ := hall 0 (by omega)
        have e : a.add 0 = a := by simp [Addr.add]
        rw [e] at hc00
        exact plain_of_cell hc00
      rw [ha, add_plain] at hc0
      exact ⟨a.block, a.off, V i, by rw [← ha], World.block_lt_of_cell? W ⟨a.block, a.off + i, none⟩ hc0, hc0, hs, by omega⟩
    · simp only [List.length_map, List.length_range] at hwl ⊢
      unfold reachBytes at hwl
      omega
    · simp only [Rows.uptoBulk]
      have : ∀ l : List Nat, (∀ i ∈ l, i < len) → ((l.map F).flatten).length ≤ Rows.uptoBulkAll (l.map D) := by
        intro l
        induction l with
        | nil => intro _; simp
        | cons i l ih =>
          intro hi
          have h1 := ih (fun j hj => hi j (List.mem_cons_of_mem _ hj))
          obtain ⟨_, _, h2⟩ := hF i (hi i List.mem_cons_self)
          simp only [List.map_cons, List.flatten_cons, List.length_append, Rows.uptoBulkAll]
          omega
      have := this (List.range len) (fun i hi => List.mem_range.1 hi)
      omega
end Go.Proofs.Ytihdhlciblkbiaa
