/-
  Same: the program's.
-/
import Derived.Test.YtppfcdnhmieejaaThW1S
import Derived.Test.YtppfcdnhmieejaaThW2S
namespace Go.Proofs.Ytppfcdnhmieejaa
set_option linter.unusedVariables false
set_option linter.unusedSimpArgs false
set_option maxRecDepth 20000
open Go.RowKit

section
variable {o : Oper} {a : Act}
theorem run_load_th {t : Th} {uL uC uK uD : Value} (x : Operand) (w : World) (ho : o.op = .load 34 x) (b : Nat) (hx : a.eval x = .pointer (some ⟨b, 0, none⟩)) (hA : w.heap[b]? = some (.cells (thC t uL uC uK uD).toArray 34 (0, 0))) :
    (execOp a.eval o).run Try.prog w = .ok (.value (thV t uL uC uK uD)) w := run_load_quiet _ x w ho b 0 hx _ (range_all hA) Try.rowT Try.sizeT
theorem range_rg {t : Th} {uL uC uK uD : Value} {w : World} {b : Nat} (hA : w.heap[b]? = some (.cells (thC t uL uC uK uD).toArray 34 (0, 0))) : w.rangeAt b 10 (rgC t) := range_blk hA 10 _ (fun j v hj => by rcases j with _ | _ | _ | _ | j <;> first | exact hj | (simp [rgC] at hj; done))
theorem range_sl {t : Th} {uL uC uK uD : Value} {w : World} {b : Nat} (hA : w.heap[b]? = some (.cells (thC t uL uC uK uD).toArray 34 (0, 0))) : w.rangeAt b 18 (slC t) := range_blk hA 18 _ (fun j v hj => by rcases j with _ | _ | _ | _ | _ | _ | _ | _ | j <;> first | exact hj | (simp [slC] at hj; done))
theorem run_load_rg {t : Th} {uL uC uK uD : Value} (x : Operand) (w : World) (ho : o.op = .load 29 x) (b : Nat) (hx : a.eval x = .pointer (some ⟨b, 10, none⟩)) (hA : w.heap[b]? = some (.cells (thC t uL uC uK uD).toArray 34 (0, 0))) :
    (execOp a.eval o).run Try.prog w = .ok (.value (rgV t)) w := run_load_quiet _ x w ho b 10 hx _ (range_rg hA) Try.row4 Try.size4
theorem run_load_sl {t : Th} {uL uC uK uD : Value} (x : Operand) (w : World) (ho : o.op = .load 32 x) (b : Nat) (hx : a.eval x = .pointer (some ⟨b, 18, none⟩)) (hA : w.heap[b]? = some (.cells (thC t uL uC uK uD).toArray 34 (0, 0))) :
    (execOp a.eval o).run Try.prog w = .ok (.value (slV t)) w := run_load_quiet _ x w ho b 18 hx _ (range_sl hA) Try.row8 Try.size8
end

theorem fl_inj {t s : Th} (h : flC t = flC s) (h1 : t.cats = s.cats) (h2 : t.ccats = s.ccats) (h3 : t.links = s.links) (h4 : t.data = s.data) : t = s := by
  cases t; cases s
  simp only [flC, List.cons.injEq, Value.int.injEq, Value.bool.injEq, true_and, and_true] at h
  simp only at h1 h2 h3 h4
  simp_all
theorem same_of {t s : Th} (h : eFl t s = true) (h1 : t.cats = s.cats) (h2 : t.ccats = s.ccats) (h3 : t.links = s.links) (h4 : t.data = s.data) : t = s := fl_inj ((eFl_iff t s).1 h) h1 h2 h3 h4

end Go.Proofs.Ytppfcdnhmieejaa
