/-
  Package tree: joined.
-/
import Derived.Test.YtnljfhjindenpabTreeP9
import Derived.Test.YtnljfhjindenpabLibFork
namespace Go.Proofs.Ytnljfhjindenpab
set_option linter.unusedVariables false
set_option linter.unusedSimpArgs false
set_option maxRecDepth 20000
open Go.RowKit

theorem Try.sizeBr3 : (Try.prog.info? 119).map (·.size) = some 3 := by kernel_rfl
theorem Try.infoBr : (Try.prog.info? 119).map (fun i => (i.zero, i.size, i.bytes)) = some (some (.agg #[.int .i64 0, .int .i64 0, .pointer none]), 3, 24) := by kernel_rfl

theorem run_sizeBr (w : World) : (sizeOf 119).run Try.prog w = .ok 3 w := by
  have := Try.sizeBr3
  cases hq : Try.prog.info? 119 with
  | none => rw [hq] at this; cases this
  | some i =>
    rw [hq] at this
    simp only [Option.map_some, Option.some.injEq] at this
    simp [sizeOf, typeInfo, hq, this]

/-- Branches cut at their beginning. -/
theorem run_fromB (ao : Option Addr) (n cap l : Nat) (hl : l ≤ n) (w : World) : (Instr.sliceAt 117 (.slice ao n cap) (some (.int .i64 (l : Int))) none none).run Try.prog w = .ok (sliced ao l n cap 3) w := by
  have he : Try.prog.elem 117 = 119 := by kernel_rfl
  have hu : Try.prog.underlying 117 = some (.slice (Try.prog.elem 117)) := by rw [he]; exact Try.underlying117
  rw [run_sliceAt_slice w _ _ _ _ _ hu, run_slice_l w _ _ _ _ hu .i64 (l : Int) (by omega) (by omega), he, run_sizeBr]
  simp [Result.andThen]

/-- Branches cut at their end. -/
theorem run_uptoB (ao : Option Addr) (n cap h : Nat) (hh : h ≤ cap) (w : World) : (Instr.sliceAt 117 (.slice ao n cap) none (some (.int .i64 (h : Int))) none).run Try.prog w = .ok (.slice ao h cap) w := by
  have he : Try.prog.elem 117 = 119 := by kernel_rfl
  have hu : Try.prog.underlying 117 = some (.slice (Try.prog.elem 117)) := by rw [he]; exact Try.underlying117
  rw [run_sliceAt_slice w _ _ _ _ _ hu, run_slice_h w _ _ _ _ hu .i64 (h : Int) (by omega) (by omega), he, run_sizeBr]
  simp only [Result.andThen, sliced, Int.toNat_natCast, Nat.zero_mul, Nat.sub_zero]
  congr 2
  split
  · rfl
  · cases ao with
    | none => rfl
    | some a => simp [Addr.add]
end Go.Proofs.Ytnljfhjindenpab
