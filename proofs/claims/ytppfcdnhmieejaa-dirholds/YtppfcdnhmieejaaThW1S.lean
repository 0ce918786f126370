/-
  Same: what isn't a list.
-/
import Derived.Laws.StructEq
import Derived.ChangeKeysEq
import Derived.Test.YtppfcdnhmieejaaThMS
namespace Go.Proofs.Ytppfcdnhmieejaa
set_option linter.unusedVariables false
set_option linter.unusedSimpArgs false
set_option maxRecDepth 20000
open Go.RowKit

def rgC (t : Th) : List Value := [.int .u64 t.r0, .int .u64 t.r1, .int .u64 t.r2, .int .u64 t.r3]
def slC (t : Th) : List Value := [.int .u64 t.s0, .int .u64 t.s1, .int .u64 t.s2, .int .u64 t.s3, .int .u64 t.s4, .int .u64 t.s5, .int .u64 t.s6, .int .u64 t.s7]
def rgV (t : Th) : Value := .agg (rgC t).toArray
def slV (t : Th) : Value := .agg (slC t).toArray
theorem Try.cells64 : Try.prog.cellsOf 23 = 1 := by kernel_rfl
theorem Try.cellsSlot : Try.prog.cellsOf 31 = 2 := by kernel_rfl

theorem eq4 (d : Nat) (a0 a1 a2 a3 b0 b1 b2 b3 : Int) (w : World) :
    (Op.equalIn (d + 2) 29 (.agg #[.int .u64 a0, .int .u64 a1, .int .u64 a2, .int .u64 a3]) (.agg #[.int .u64 b0, .int .u64 b1, .int .u64 b2, .int .u64 b3])).run Try.prog w = .ok (a0 == b0 && (a1 == b1 && (a2 == b2 && a3 == b3))) w := by
  obtain ⟨i, hi⟩ := info_of_underlying (P := Try.prog) Try.underlying23
  rw [run_equalIn_array w (d + 1) _ _ Try.underlying29 hi, Try.cells64, show List.range 4 = [0, 1, 2, 3] from rfl]
  simp [go_sem, Op.eqItems]
  by_cases h0 : a0 = b0 <;> by_cases h1 : a1 = b1 <;> by_cases h2 : a2 = b2 <;> by_cases h3 : a3 = b3 <;> simp [h0, h1, h2, h3]

theorem eq8 (d : Nat) (a0 a1 a2 a3 a4 a5 a6 a7 b0 b1 b2 b3 b4 b5 b6 b7 : Int) (w : World) :
    (Op.equalIn (d + 3) 32 (.agg #[.int .u64 a0, .int .u64 a1, .int .u64 a2, .int .u64 a3, .int .u64 a4, .int .u64 a5, .int .u64 a6, .int .u64 a7]) (.agg #[.int .u64 b0, .int .u64 b1, .int .u64 b2, .int .u64 b3, .int .u64 b4, .int .u64 b5, .int .u64 b6, .int .u64 b7])).run Try.prog w
      = .ok ((a0 == b0 && a1 == b1) && ((a2 == b2 && a3 == b3) && ((a4 == b4 && a5 == b5) && (a6 == b6 && a7 == b7)))) w := by
  obtain ⟨i, hi⟩ := info_of_underlying (P := Try.prog) Try.underlying31
  rw [run_equalIn_array w (d + 2) _ _ Try.underlying32 hi, Try.cellsSlot, show List.range 4 = [0, 1, 2, 3] from rfl]
  simp [go_sem, Op.eqItems]
  by_cases h0 : a0 = b0
  · by_cases h1 : a1 = b1
    · by_cases h2 : a2 = b2
      · by_cases h3 : a3 = b3
        · by_cases h4 : a4 = b4
          · by_cases h5 : a5 = b5
            · by_cases h6 : a6 = b6
              · by_cases h7 : a7 = b7 <;> simp [h0, h1, h2, h3, h4, h5, h6, h7]
              · simp [h0, h1, h2, h3, h4, h5, h6]
            · simp [h0, h1, h2, h3, h4, h5]
          · simp [h0, h1, h2, h3, h4]
        · simp [h0, h1, h2, h3]
      · simp [h0, h1, h2]
    · simp [h0, h1]
  · simp [h0]

def e4 (t u : Th) : Bool := t.r0 == u.r0 && (t.r1 == u.r1 && (t.r2 == u.r2 && t.r3 == u.r3))
def e8 (t u : Th) : Bool := (t.s0 == u.s0 && t.s1 == u.s1) && ((t.s2 == u.s2 && t.s3 == u.s3) && ((t.s4 == u.s4 && t.s5 == u.s5) && (t.s6 == u.s6 && t.s7 == u.s7)))
def eFl (t u : Th) : Bool := t.id == u.id && (t.kind == u.kind && (t.quota == u.quota && (t.df == u.df && (t.cdf == u.cdf && (t.next == u.next && (e4 t u && (t.minted == u.minted && (t.boot == u.boot && (t.halted == u.halted && (t.value == u.value && e8 t u))))))))))

theorem eFl_iff (t u : Th) : eFl t u = true ↔ flC t = flC u := by simp [eFl, e4, e8, flC, and_assoc]

end Go.Proofs.Ytppfcdnhmieejaa
