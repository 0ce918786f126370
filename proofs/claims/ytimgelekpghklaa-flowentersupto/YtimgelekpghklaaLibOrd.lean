/-
  The same steps over a region that is written out as a list. It names nothing of the program.
-/
import Derived.Test.YtimgelekpghklaaLibLex
namespace Go.Proofs.Ytimgelekpghklaa
set_option linter.unusedVariables false
set_option linter.unusedSimpArgs false
set_option maxRecDepth 20000
section
variable {P : Program} {l : List Oper} {S : World → Prop} {Q : Exit → Act → World → Prop}

theorem ord_quietL {T : Act → World → Prop} {i : Nat} {r : List (Nat × Bool)} {a : Act} {w : World} (oi : Oper) (v : Value) (ho : l[i]? = some oi) (hS : S w)
    (hw : Region.wanted oi (yielded l.toArray a.tmps) = true) (hy : ∀ w, S w → (execOp a.eval oi).run P w = .ok (.value v) w) (h : wpOrd P l.toArray Q S T r (a.put oi.dst v) w) : wpOrd P l.toArray Q S T ((i, true) :: r) a w :=
  ord_quiet oi v (by simpa using ho) hS hw hy h

theorem ord_skipL {T : Act → World → Prop} {i : Nat} {r : List (Nat × Bool)} {a : Act} {w : World} (oi : Oper) (ho : l[i]? = some oi) (hS : S w)
    (hw : Region.wanted oi (yielded l.toArray a.tmps) = false) (h : wpOrd P l.toArray Q S T r (a.put oi.dst undef) w) : wpOrd P l.toArray Q S T ((i, true) :: r) a w :=
  ord_skip oi (by simpa using ho) hS hw h

theorem ord_actL {T : Act → World → Prop} {i : Nat} {r : List (Nat × Bool)} {a : Act} {w : World} (oi : Oper) (ho : l[i]? = some oi)
    (h : ∀ K : Act → World → Prop, (∀ a' w', S w' → wpOrd P l.toArray Q S T r a' w' → K a' w') → wpList P l.toArray (Exit.then K Q) [oi] a w) : wpOrd P l.toArray Q S T ((i, false) :: r) a w :=
  ord_act oi (by simpa using ho) h
end
end Go.Proofs.Ytimgelekpghklaa
