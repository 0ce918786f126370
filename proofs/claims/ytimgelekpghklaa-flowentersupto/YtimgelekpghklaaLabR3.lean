/-
  The document's Copy and Leq.
-/
import Derived.Test.YtimgelekpghklaaLabR2
namespace Go.Proofs.Ytimgelekpghklaa
set_option linter.unusedVariables false
set_option linter.unusedSimpArgs false
set_option maxRecDepth 20000
open Go.RowKit

/-- A label laid into a result's variable. -/
theorem store_lab {w W w2 : World} {d : Int} {B : Nat} {u : Value} {ys : List Cat} (hnw : Nw w W) (hZ : W.heap[B]? = some (.cells #[.int .i64 0, .slice none 0 0] 24 (0, 0))) (hB : w.heap.size ≤ B) (q1 : CSl (fun b => W.heap.size ≤ b) w2 u ys) (q5 : Nw W w2) :
    CSl (fun b => w.heap.size ≤ b) ((w2.setCell ⟨B, 0, none⟩ (.int .i64 d)).setCell ⟨B, 1, none⟩ u) u ys ∧ Nw w ((w2.setCell ⟨B, 0, none⟩ (.int .i64 d)).setCell ⟨B, 1, none⟩ u) ∧ ((w2.setCell ⟨B, 0, none⟩ (.int .i64 d)).setCell ⟨B, 1, none⟩ u).rangeAt B 0 [.int .i64 d, u] ∧ w2.cell? ⟨B, 0, none⟩ = some (.int .i64 0) ∧ w2.cell? ⟨B, 1, none⟩ = some (.slice none 0 0) ∧ ∀ k, w2.frozen? ⟨B, k, none⟩ = false := by
  have hZ2 := (q5.block _ (heap_lt hZ) (fun h => h)).trans hZ
  have hlt := heap_lt hZ
  have hsz := hnw.size
  have hR6 : ((w2.setCell ⟨B, 0, none⟩ (.int .i64 d)).setCell ⟨B, 1, none⟩ u).heap[B]? = some (.cells #[.int .i64 d, u] 24 (0, 0)) := by
    rw [blk_setCell (blk_setCell hZ2)]; rfl
  have hf6 : Fr (fun k => k = B) w2 ((w2.setCell ⟨B, 0, none⟩ (.int .i64 d)).setCell ⟨B, 1, none⟩ u) := ((Fr.refl (fun k => k = B) w2).setCell (p := ⟨B, 0, none⟩) (.inl rfl) _).setCell (p := ⟨B, 1, none⟩) (.inl rfl) _
  exact ⟨q1.keep hf6 (fun b hb _ h => by omega) (fun b hb _ => by omega), Fr.trans (nw_trans hnw q5) hf6 (fun k hk => .inr (by omega)), range_all (C := [.int .i64 d, u]) hR6, cell_blk hZ2 rfl, cell_blk hZ2 rfl, fun k => free_blk hZ2⟩

end Go.Proofs.Ytimgelekpghklaa
