/-
  The chapter's example; a variable that holds a sector.
-/
import Derived.Test.YtihdhlciblkbiaaSealW4
import Derived.Lib.SlBytesConst
namespace Go.Proofs.Ytihdhlciblkbiaa
set_option linter.unusedVariables false
set_option linter.unusedSimpArgs false
set_option maxRecDepth 20000
open Go.RowKit

/-- The world behind 's, .. := ..': a new variable that holds the sector. -/
def putS (w : World) (L : List UInt8) : World := (w.alloc (.cells (z128.map bv).toArray 55)).setRow w.heap.size (L.map bv).toArray

theorem putS_blk (w : World) (L : List UInt8) : (putS w L).heap[w.heap.size]? = some (.cells (L.map bv).toArray 55 (0, 0)) := setRow_heap _ _ _ _ 55 _ (made w).new
theorem putS_below (w : World) (L : List UInt8) : Below w.heap.size w (putS w L) := ((made w).fin L).below (Nat.le_refl _) (fun _ => False.elim)

/-- A block that stays. -/
theorem keep_blk {w w' : World} {g : Nat} {o : Obj} (h : w.heap[g]? = some o) (hb : Below w.heap.size w w') : w'.heap[g]? = some o := (hb.block g (heap_lt h)).trans h

def exH : List UInt8 := [104, 105]
def exS : List UInt8 := mkS 7 exH
theorem exS_length : exS.length = 128 := mkS_length _ _
theorem ex_ok : okS 7 exH := by decide
theorem ex_open : openS exS = some (7, exH) := by
  unfold exS mkS
  rw [if_pos ex_ok]
  exact openS_seal (by decide) ex_ok
theorem ex_E : mkE 7 exH = 0 := by unfold mkE; rw [if_pos ex_ok]
theorem ex_M : oM exS = 7 := by unfold oM; rw [ex_open]; rfl
theorem ex_B : oB exS = exH := by unfold oB; rw [ex_open]; rfl
theorem ex_7 : exS[7]? = some 7 := by decide +kernel
theorem ex_9 : exS[9]? = some 2 := by decide +kernel
theorem ex_10 : exS[10]? = some 104 := by decide +kernel
theorem ex_127 : exS[127]? = some 7 := by decide +kernel

theorem sec_cell {w : World} {g : Nat} {s : List UInt8} {i : Nat} {x : UInt8} (h : w.heap[g]? = some (.cells (s.map bv).toArray 55 (0, 0))) (hx : s[i]? = some x) : w.cell? ⟨g, i, none⟩ = some (.int .u8 (x.toNat : Int)) :=
  cell_blk h (by simp [hx, bv])

end Go.Proofs.Ytihdhlciblkbiaa
