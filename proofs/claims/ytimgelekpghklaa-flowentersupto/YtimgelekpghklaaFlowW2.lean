/-
  Package flow: Clears.
-/
import Derived.Test.YtimgelekpghklaaFlowW1
import Derived.Test.YtimgelekpghklaaLabD7
import Derived.Test.YtimgelekpghklaaLibGrow2
namespace Go.Proofs.Ytimgelekpghklaa
set_option linter.unusedVariables false
set_option linter.unusedSimpArgs false
set_option maxRecDepth 20000
open Go.RowKit

/-- A label raised, one joined, and a variable, in whatever order. -/
def FClr (W : World) (D E : Int) (f g : Int → Int) (n m : Nat) : Nat → Value → Nat → Nat → World → Prop
  | 4 => fun v lo hi w => ∃ u ys, v = labV D u ∧ CSl (fun b => lo ≤ b ∧ b < hi) w u ys ∧ (∀ id, lev D ys id = f id) ∧ ys.length ≤ n
  | 5 => fun v lo hi w => ∃ u ys, v = labV E u ∧ CSl (fun b => lo ≤ b ∧ b < hi) w u ys ∧ (∀ id, lev E ys id = g id) ∧ ys.length ≤ m
  | 6 => fun v lo hi w => v = .pointer (some ⟨lo, 0, none⟩) ∧ lo < hi ∧ W.heap.size ≤ lo ∧ w.heap[lo]? = some (.cells #[.int .i64 0, .slice none 0 0] 24 (0, 0))
  | _ => fun _ _ _ _ => True

end Go.Proofs.Ytimgelekpghklaa
