/-
  Arguments opened: a thing that came in.
-/
import Derived.Deep.Slices
import Derived.ProofKit
import Derived.OpenShut
import Derived.SizedLaws
import Derived.Laws.IdiomArrays
import Derived.Test.YtghlilncdfiojaaThMS
import Derived.Test.YtghlilncdfiojaaLabS
import Derived.Test.YtghlilncdfiojaaLibS
namespace Go.Proofs.Ytghlilncdfiojaa
set_option linter.unusedVariables false
set_option linter.unusedSimpArgs false
set_option maxRecDepth 20000
open Go.RowKit Go.ChangeShapes Go.WideShapes Go.Deep

theorem Try.cellsBy:Try.prog.cellsOf 5 = 1:=by kernel_rfl
theorem Try.bytesBy:Try.prog.bytesOf 5 = 1:=by kernel_rfl

theorem open_bytes {H:Type} {enc:TypeId × Value→H} {W:World} {fuel:Nat} {v:Value} {d:DataW H} {p:List MemPlace}
  (h:DataW.trod enc Try.prog W 0 (fun _=>true) true fuel 28 [v] = some (d,p)) (hw:∀ n ∈ d.weights Try.prog 28,n ≤ reachBytes):∃ xs:List UInt8,Sl W.heap.size W v xs.length (xs.map bv)∧xs.length ≤ 140737488351232∧xs.length + 1 ≤ Rows.uptoBulk d:=by
 obtain ⟨xs,h1,h2,_,h3,_⟩:=open_rows (0:UInt8) (fun x=>[bv x]) 1 1 (fun _=>True) (fun _=>0) Try.underlying28 Try.cellsBy Try.bytesBy (by decide) (fun _=>rfl) h hw (fun k cs dd pp hk hl _=>by
  obtain ⟨z,rfl,_,wf⟩:=DataW.trod_int Try.underlying5 hk
  have hz:0 ≤ z∧z < 256:=by
   simp [Lit.wf,IntKind.min,IntKind.max,IntKind.signed,IntKind.bits] at wf
   omega
  refine ⟨UInt8.ofNat z.toNat,?_,trivial,Nat.zero_le _⟩
  show [Value.int .u8 z] = [Value.int .u8 _]
  congr 2
  simp
  omega)
 refine ⟨xs,?_,by unfold reachBytes at h2;omega,h3⟩
 have e:∀ l:List UInt8,l.flatMap (fun x=>[bv x]) = l.map bv:=fun l=>by induction l with | nil=>rfl | cons x l ih=>rw [List.flatMap_cons,ih];rfl
 rw [e] at h1
 exact h1

end Go.Proofs.Ytghlilncdfiojaa
