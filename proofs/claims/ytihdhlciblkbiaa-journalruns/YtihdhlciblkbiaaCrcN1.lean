/-
  The chapter's example, walked.
-/
import Derived.Test.YtihdhlciblkbiaaCrcW2
import Derived.Lib.SlBytesConst
namespace Go.Proofs.Ytihdhlciblkbiaa
set_option linter.unusedVariables false
set_option linter.unusedSimpArgs false
set_option maxRecDepth 20000
open Go.RowKit

def exB : List UInt8 := [49, 50, 51, 52, 53, 54, 55, 56, 57]

theorem ex_sum : tn (crcSum [exB]) = 3421780262 := by rw [show crcSum [exB] = 0xCBF43926#32 from by decide +kernel]; rfl
theorem ex_none : tn (crcSum []) = 0 := rfl
theorem ex_nil : tn (crcSum [[]]) = 0 := by rw [show crcSum [[]] = 0#32 from by decide +kernel]; rfl

theorem sl_cells (w : World) (cs : Array Value) (t n : Nat) (fz : Nat × Nat) (hn : n ≤ 1000000000) : Sl (w.heap.size + 1) (w.alloc (.cells cs t fz)) (.slice (some ⟨w.heap.size, 0, none⟩) n n) n cs.toList := by
  refine ⟨_, n, rfl, ⟨Nat.le_refl _, by unfold maxLen; omega⟩, fun h => by simp at h, fun i c hi => ⟨w.heap.size, 0, rfl, Nat.lt_succ_self _, ?_⟩⟩
  rw [Nat.zero_add, cell_of_row _ w.heap.size i cs t fz (heap_alloc_new w _)]
  simpa using hi

/-- One part, laid by the call. -/
theorem parts_one {K n : Nat} {w : World} {v : Value} {xs : List UInt8} (t : TypeId) (h : Sl K w v xs.length (xs.map bv)) (hK : K ≤ w.heap.size) (hl : xs.length ≤ 140737488355328) (hn : w.heap.size = n) :
    Parts (n + 1) (w.alloc (.cells #[v] t)) (.slice (some ⟨n, 0, none⟩) 1 1) [xs] := by
  subst hn
  refine ⟨_, 1, rfl, Nat.le_refl _, fun i x hi => ?_⟩
  match i, hi with
  | 0, hi =>
    simp only [List.getElem?_cons_zero, Option.some.injEq] at hi
    subst hi
    refine ⟨w.heap.size, 0, v, rfl, Nat.lt_succ_self _, ?_, (h.keep ((Below.refl _ _).alloc hK _)).mono (by omega), hl⟩
    rw [cell_of_row _ w.heap.size 0 #[v] t (0, 0) (heap_alloc_new w _)]
    rfl
  | i + 1, hi => simp at hi

end Go.Proofs.Ytihdhlciblkbiaa
