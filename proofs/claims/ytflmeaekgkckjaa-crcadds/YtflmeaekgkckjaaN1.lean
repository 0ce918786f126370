/-
  The chapter's example, walked.
-/
import Derived.Test.YtflmeaekgkckjaaW2
import Derived.Lib.SlBytesConst
namespace Go.Proofs.Ytflmeaekgkckjaa
set_option linter.unusedVariables false
set_option linter.unusedSimpArgs false
open Go.RowKit

def exB : List UInt8 := [49, 50, 51, 52, 53, 54, 55, 56, 57]

theorem ex_sum : tn (crcSum [exB]) = 3421780262 := by rw [show crcSum [exB] = 0xCBF43926#32 from by decide +kernel]; rfl
theorem ex_none : tn (crcSum []) = 0 := rfl
theorem ex_nil : tn (crcSum [[]]) = 0 := by rw [show crcSum [[]] = 0#32 from by decide +kernel]; rfl

theorem sl_cells (w : World) (cs : Array Value) (t n : Nat) (fz : Nat × Nat) (hn : n ≤ 1000000000) : Sl (w.heap.size + 1) (w.alloc (.cells cs t fz)) (.slice (some ⟨w.heap.size, 0, none⟩) n n) n cs.toList := by
  refine ⟨_, n, rfl, ⟨Nat.le_refl _, by unfold maxLen; omega⟩, fun h => by simp at h, fun i c hi => ⟨w.heap.size, 0, rfl, Nat.lt_succ_self _, ?_⟩⟩
  rw [Nat.zero_add, cell_of_row _ w.heap.size i cs t fz (heap_alloc_new w _)]
  simpa using hi

/-- One part, laid by the call. -/
theorem parts_one {K n : Nat} {w : World} {v : Value} {xs : List UInt8} (t : TypeId) (h : Sl K w v xs.length (xs.map bv)) (hK : K ≤ w.heap.size) (hl : xs.length ≤ 140737488355328) (hn : w.heap.size = n) :
    Parts (n + 1) (w.alloc (.cells #[v] t)) (.slice (some ⟨n, 0, none⟩) 1 1) [xs] := by
  subst hn
  refine ⟨_, 1, rfl, Nat.le_refl _, fun i x hi => ?_⟩
  match i, hi with
  | 0, hi =>
    simp only [List.getElem?_cons_zero, Option.some.injEq] at hi
    subst hi
    refine ⟨w.heap.size, 0, v, rfl, Nat.lt_succ_self _, ?_, (h.keep ((Below.refl _ _).alloc hK _)).mono (by omega), hl⟩
    rw [cell_of_row _ w.heap.size 0 #[v] t (0, 0) (heap_alloc_new w _)]
    rfl
  | i + 1, hi => simp at hi

set_option maxHeartbeats 1600000 in
theorem c_names (w : World) : Calls Try.prog 3 #[] w fun e w' => e = .returned (.bool true) ∧ Below w.heap.size w w' := by
  have kc := fun (w : World) (C : Array Value) (n c : Nat) => Lib.run_convert_bytes_const (P := Try.prog) w 24 5 C n c Try.underlying24 Try.underlying5
  go_enter Try.func3, Try.ntmps3
  go_wp2_with fail
  have h9 : Sl (w.heap.size + 1) (w.alloc (.cells #[.int .u8 49, .int .u8 50, .int .u8 51, .int .u8 52, .int .u8 53, .int .u8 54, .int .u8 55, .int .u8 56, .int .u8 57] 5 (9, 10))) (.slice (some ⟨w.heap.size, 0, none⟩) 9 9) exB.length (exB.map bv) := sl_cells w _ 5 9 (9, 10) (by omega)
  refine (c_sum _ _ [exB] _ (parts_one 24 h9 (by simp) (by simp [exB]) (by simp)) (by simp)).mono ?_
  rintro e w1 ⟨rfl, rfl⟩
  rw [ex_sum]
  clear h9
  go_wp2_with fail
  refine (c_sum 0 _ [] _ (Parts.nil _ _) (by simp)).mono ?_
  rintro e w1 ⟨rfl, rfl⟩
  rw [ex_none]
  go_wp2_with fail
  refine (c_sum _ _ [[]] _ (parts_one 24 (Sl.nil 0 _) (Nat.zero_le _) (by simp) (by simp)) (by simp)).mono ?_
  rintro e w1 ⟨rfl, rfl⟩
  rw [ex_nil]
  go_wp2
  go_ret
  exact ⟨rfl, (((Below.refl _ _).alloc (Nat.le_refl _) _).alloc (by simp) _).alloc (by simp; omega) _⟩
end Go.Proofs.Ytflmeaekgkckjaa
