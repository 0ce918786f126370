/-
  Copy: the program's, the document's.
-/
import Derived.Test.YtghlilncdfiojaaThC1S
import Derived.Test.YtghlilncdfiojaaLabS
namespace Go.Proofs.Ytghlilncdfiojaa
set_option linter.unusedVariables false
set_option linter.unusedSimpArgs false
set_option maxRecDepth 20000
open Go.RowKit

theorem th_one (t:Th) (a b c d:Value) (ha:a.oneCell' = true) (hb:b.oneCell' = true) (hc:c.oneCell' = true) (hd:d.oneCell' = true):∀ v ∈ thC t a b c d,v.oneCell' = true:=by
 simp only [thC,List.mem_cons,List.not_mem_nil,or_false,forall_eq_or_imp,forall_eq]
 exact ⟨rfl,rfl,rfl,ha,rfl,hb,rfl,rfl,hc,hd,rfl,rfl,rfl,rfl,rfl,rfl,rfl,rfl,rfl,rfl,rfl,rfl,rfl,rfl,rfl,rfl⟩

end Go.Proofs.Ytghlilncdfiojaa
