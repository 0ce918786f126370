/-
  Arguments opened: a label within a struct that came in.
-/
import Derived.Test.YtppfcdnhmieejaaLabS
namespace Go.Proofs.Ytppfcdnhmieejaa
set_option linter.unusedVariables false
set_option linter.unusedSimpArgs false
set_option maxRecDepth 20000
open Go.RowKit Go.ChangeShapes Go.WideShapes Go.Deep

/-- A label's cells. -/
theorem open_label0 {H : Type} {enc : TypeId × Value → H} {W : World} {fuel : Nat} {b0 b1 : Value} {d : DataW H} {p : List MemPlace}
    (h : DataW.trod enc Try.prog W 0 (fun _ => true) true fuel 26 [b0, b1] = some (d, p)) (hw : ∀ n ∈ d.weights Try.prog 26, n ≤ reachBytes) :
    ∃ (z : Int) (xs : List Cat), b0 = .int .i64 z ∧ CSl (fun b => b < W.heap.size) W b1 xs ∧ xs.length ≤ 8796093021952 ∧ xs.length + 1 ≤ Rows.uptoBulk d := by
  obtain ⟨xs, k, hk, hxy, _, hxl, hf⟩ := DataW.trod_struct Try.underlying26 h
  obtain ⟨y0, y1, rfl⟩ : ∃ y0 y1, xs = [y0, y1] := by
    match xs, hxl with
    | [y0, y1], _ => exact ⟨y0, y1, rfl⟩
  have g0 : DataW.trod enc Try.prog W 0 (fun _ => true) true k 3 (([b0, b1].drop 0).take (Try.prog.cellsOf 3)) = some y0 := hf 0 _ rfl
  have g1 : DataW.trod enc Try.prog W 0 (fun _ => true) true k 24 (([b0, b1].drop 1).take (Try.prog.cellsOf 24)) = some y1 := hf 1 _ rfl
  rw [Try.cellsInt] at g0
  rw [Try.cellsCs] at g1
  obtain ⟨z0, e0, _, wf0⟩ := DataW.trod_int Try.underlying3 g0
  have q0 : b0 = .int .i64 z0 := (List.cons.inj (show [b0] = [Value.int .i64 z0] from e0)).1
  subst q0
  have g1 : DataW.trod enc Try.prog W 0 (fun _ => true) true k 24 [b1] = some (y1.1, y1.2) := g1
  simp only [Prod.mk.injEq] at hxy
  have hd : d = .agg [y0.1, y1.1] := by simpa using hxy.1
  obtain ⟨xs, k1, k2, k3⟩ := open_cats g1 (fun n hn => hw n (by
    rw [hd]
    simp [DataW.weights, Try.underlying26, DataW.weightsEach, hn]))
  refine ⟨z0, xs, rfl, k1, k2, ?_⟩
  rw [hd]
  simp only [Rows.uptoBulk, Rows.uptoBulkAll]
  omega
end Go.Proofs.Ytppfcdnhmieejaa
