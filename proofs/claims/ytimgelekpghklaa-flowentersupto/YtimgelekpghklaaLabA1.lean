/-
  The chapter's example.
-/
import Derived.Test.YtimgelekpghklaaLabD8
namespace Go.Proofs.Ytimgelekpghklaa
set_option linter.unusedVariables false
set_option linter.unusedSimpArgs false
set_option maxRecDepth 20000
open Go.RowKit

theorem lev_one {u : List Cat} {d a b : Int} (h : ∀ id, lev d u id = lev d [(a, b)] id) : lev d u a = b ∧ ∀ id, id ≠ a → lev d u id = d := by
  refine ⟨by rw [h]; simp [lev], fun id hid => ?_⟩
  rw [h]
  have : ¬ a = id := fun e => hid e.symm
  simp [lev, this]

theorem csl_lit (w : World) (a b : Int) (t : TypeId) : CSl (fun _ => True) (w.alloc (.cells #[.int .u64 a, .int .i64 b] t)) (.slice (some ⟨w.heap.size, 0, none⟩) 1 1) [(a, b)] := by
  have h := sl_lit w #[.int .u64 a, .int .i64 b] t 1 (by omega)
  obtain ⟨ao, cap, hv, hc, hn, hcs⟩ := h
  exact ⟨ao, cap, hv, hc, hn, fun i c hi => by
    obtain ⟨b, off, h1, _, h3⟩ := hcs i c hi
    exact ⟨b, off, h1, trivial, h3⟩⟩

end Go.Proofs.Ytimgelekpghklaa
