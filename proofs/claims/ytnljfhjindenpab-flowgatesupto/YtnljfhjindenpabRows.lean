/-
  No cell of these rows narrows 'for every input' (looked for: loops, veiled, ifaces, maps, wideKeys, modest, calm, conditions, laid).
  DERIVED. THE GIVEN ROWS OF THIS SEAT. 4 by the template 'for every input the law returns true; each argument reads behind the call as it read before'; 0 by the template 'total and deterministic' (their statements: YtnljfhjindenpabTotals.lean).
  GIVEN WITH THE SEED: the statements are not yours to turn. If you find one false, say at which input.
  Laid BY PROGRAM, IN A SANDBOX (cutbox-rows.mjs): the forced cells as the released guide's own fill.sh prints them over the translation c4e28693ca05053d… (all of the seat's roots in one cut). By AI agents, Wed Nov 11 2026. No macro, syntax, notation, axiom, sorry.
-/
import Derived.Test.YtnljfhjindenpabChecked
import GoSem.Claim
import GoSem.ClaimJoined
import GoSem.ClaimMapViews
import Derived.JoinedTies
import Derived.KernelRfl
namespace Go.Proofs.Ytnljfhjindenpab
/- THE CELL 'sum', in the pinned program and in every row, IS THE sha256 OF THE DUMP (.gsa) THAT YtnljfhjindenpabProg.lean LOADS. Nothing in Lean hashes anything: it is a label: what it is worth is what the hold of that sum in a sandbox is worth. -/
noncomputable def Try.pinned : Pinned := { name := "ytnljfhjindenpab", sum := "c4e28693ca05053d6041711eab6fe68478b885d8a11174d44e119cbc0055ac02", checked := Try.checked }
namespace Rows
def none {H : Type} : Left H := { results := [], args := [] }

/-- 'baileylaw10.FlowOwner': WHATEVER THE INPUT: true; the input reads as it did. -/
def flowOwnerSpec : ChangeSpec := { name := "flowOwner", fn := fun _ => fun
  | [d1, d2, d3] => { results := [.lit (.bool true)], args := [d1, d2, d3] }
  | _ => none }
def flowOwnerRow : OpenClaim := { program := "ytnljfhjindenpab", sum := "c4e28693ca05053d6041711eab6fe68478b885d8a11174d44e119cbc0055ac02", func := "bailey/baileylaw10.FlowOwner", spec := "flowOwner", inPlace := ["slices.overlaps[bailey/api.Cat]"], unfollowed := true, recurses := true, apart := false }
def FlowOwnerSaid : Prop := flowOwnerRow.holds Try.pinned (OpenSpec.ofChange flowOwnerSpec)

/-- ITS FALSE NEIGHBOUR: 'it returns false'. Refute it at one input. -/
def flowOwnerWrong : ChangeSpec := { name := "flowOwner", fn := fun _ => fun
  | [d1, d2, d3] => { results := [.lit (.bool false)], args := [d1, d2, d3] }
  | _ => none }
def FlowOwnerWrongFalsely : Prop := flowOwnerRow.holds Try.pinned (OpenSpec.ofChange flowOwnerWrong)

/-- 'baileylaw10.FlowGates': WHATEVER THE INPUT: true; the input reads as it did. -/
def flowGatesSpec : ChangeSpec := { name := "flowGates", fn := fun _ => fun
  | [d1, d2, d3] => { results := [.lit (.bool true)], args := [d1, d2, d3] }
  | _ => none }
def flowGatesRow : OpenClaim := { program := "ytnljfhjindenpab", sum := "c4e28693ca05053d6041711eab6fe68478b885d8a11174d44e119cbc0055ac02", func := "bailey/baileylaw10.FlowGates", spec := "flowGates", unfollowed := true, recurses := true, apart := false }
def FlowGatesSaid : Prop := flowGatesRow.holds Try.pinned (OpenSpec.ofChange flowGatesSpec)

/-- ITS FALSE NEIGHBOUR: 'it returns false'. Refute it at one input. -/
def flowGatesWrong : ChangeSpec := { name := "flowGates", fn := fun _ => fun
  | [d1, d2, d3] => { results := [.lit (.bool false)], args := [d1, d2, d3] }
  | _ => none }
def FlowGatesWrongFalsely : Prop := flowGatesRow.holds Try.pinned (OpenSpec.ofChange flowGatesWrong)

/-- 'baileylaw08.TreeShapes': WHATEVER THE INPUT: true; the input reads as it did. -/
def treeShapesSpec : ChangeSpec := { name := "treeShapes", fn := fun _ => fun
  | [d] => { results := [.lit (.bool true)], args := [d] }
  | _ => none }
def treeShapesRow : OpenClaim := { program := "ytnljfhjindenpab", sum := "c4e28693ca05053d6041711eab6fe68478b885d8a11174d44e119cbc0055ac02", func := "bailey/baileylaw08.TreeShapes", spec := "treeShapes", unfollowed := true, recurses := true, apart := false }
def TreeShapesSaid : Prop := treeShapesRow.holds Try.pinned (OpenSpec.ofChange treeShapesSpec)

/-- ITS FALSE NEIGHBOUR: 'it returns false'. Refute it at one input. -/
def treeShapesWrong : ChangeSpec := { name := "treeShapes", fn := fun _ => fun
  | [d] => { results := [.lit (.bool false)], args := [d] }
  | _ => none }
def TreeShapesWrongFalsely : Prop := treeShapesRow.holds Try.pinned (OpenSpec.ofChange treeShapesWrong)

/-- 'baileylaw08.TreeReads': WHATEVER THE INPUT: true; the input reads as it did. -/
def treeReadsSpec : ChangeSpec := { name := "treeReads", fn := fun _ => fun
  | [d1, d2] => { results := [.lit (.bool true)], args := [d1, d2] }
  | _ => none }
def treeReadsRow : OpenClaim := { program := "ytnljfhjindenpab", sum := "c4e28693ca05053d6041711eab6fe68478b885d8a11174d44e119cbc0055ac02", func := "bailey/baileylaw08.TreeReads", spec := "treeReads", unfollowed := true, recurses := true, apart := false }
def TreeReadsSaid : Prop := treeReadsRow.holds Try.pinned (OpenSpec.ofChange treeReadsSpec)

/-- ITS FALSE NEIGHBOUR: 'it returns false'. Refute it at one input. -/
def treeReadsWrong : ChangeSpec := { name := "treeReads", fn := fun _ => fun
  | [d1, d2] => { results := [.lit (.bool false)], args := [d1, d2] }
  | _ => none }
def TreeReadsWrongFalsely : Prop := treeReadsRow.holds Try.pinned (OpenSpec.ofChange treeReadsWrong)

/- THE SECOND FORM. 'bulk': how many values and letters a reading holds, each counted each time it is reached (what is shared counts as often as it is met; a slice's spare places count too). A statement '..UptoSaid' is the law's where the arguments, and the package variables that the reading takes, are together of bulk at most 1048576: NARROWER than '..Said'. Prove '..Said' where nothing that the law and all that it calls make is longer than what came in: it says more and counts as full. Else prove '..UptoSaid'. A law counts once. -/
mutual
def uptoBulk {H : Type} : DataW H → Nat
  | .lit (.string bytes) => bytes.length + 1
  | .lit _ => 1
  | .nil => 1
  | .ptr d => uptoBulk d + 1
  | .slice elems spare => uptoBulkAll elems + uptoBulkAll spare + 1
  | .agg parts => uptoBulkAll parts + 1
  | .iface _ d => uptoBulk d + 1
  | .map entries => uptoBulkEntries entries + 1
  | .held _ => 1
def uptoBulkAll {H : Type} : List (DataW H) → Nat
  | [] => 0
  | d :: r => uptoBulk d + uptoBulkAll r
def uptoBulkEntries {H : Type} : List (Lit × DataW H) → Nat
  | [] => 0
  | x :: r => uptoBulkEntry x + uptoBulkEntries r
def uptoBulkEntry {H : Type} : Lit × DataW H → Nat
  | (.string bytes, d) => bytes.length + uptoBulk d + 1
  | (_, d) => uptoBulk d + 1
 end
def uptoSmall : (H : Type) → List (DataW H) → Bool := fun _ ds => decide (uptoBulkAll ds ≤ 1048576)
def OpenSpec.upto (s : _root_.Go.ChangeSpec) : _root_.Go.OpenSpec := { _root_.Go.OpenSpec.ofChange s with cond := some uptoSmall }

/-- 'baileylaw10.FlowOwner', WHERE WHAT IT READS IS OF BULK AT MOST 1048576: true; the input reads as it did. -/
def flowOwnerUptoRow : OpenClaim := { program := "ytnljfhjindenpab", sum := "c4e28693ca05053d6041711eab6fe68478b885d8a11174d44e119cbc0055ac02", func := "bailey/baileylaw10.FlowOwner", spec := "flowOwner", inPlace := ["slices.overlaps[bailey/api.Cat]"], unfollowed := true, recurses := true, apart := false, narrowed := true }
def FlowOwnerUptoSaid : Prop := flowOwnerUptoRow.holds Try.pinned (OpenSpec.upto flowOwnerSpec)

/-- 'baileylaw10.FlowGates', WHERE WHAT IT READS IS OF BULK AT MOST 1048576: true; the input reads as it did. -/
def flowGatesUptoRow : OpenClaim := { program := "ytnljfhjindenpab", sum := "c4e28693ca05053d6041711eab6fe68478b885d8a11174d44e119cbc0055ac02", func := "bailey/baileylaw10.FlowGates", spec := "flowGates", unfollowed := true, recurses := true, apart := false, narrowed := true }
def FlowGatesUptoSaid : Prop := flowGatesUptoRow.holds Try.pinned (OpenSpec.upto flowGatesSpec)

/-- 'baileylaw08.TreeShapes', WHERE WHAT IT READS IS OF BULK AT MOST 1048576: true; the input reads as it did. -/
def treeShapesUptoRow : OpenClaim := { program := "ytnljfhjindenpab", sum := "c4e28693ca05053d6041711eab6fe68478b885d8a11174d44e119cbc0055ac02", func := "bailey/baileylaw08.TreeShapes", spec := "treeShapes", unfollowed := true, recurses := true, apart := false, narrowed := true }
def TreeShapesUptoSaid : Prop := treeShapesUptoRow.holds Try.pinned (OpenSpec.upto treeShapesSpec)

/-- 'baileylaw08.TreeReads', WHERE WHAT IT READS IS OF BULK AT MOST 1048576: true; the input reads as it did. -/
def treeReadsUptoRow : OpenClaim := { program := "ytnljfhjindenpab", sum := "c4e28693ca05053d6041711eab6fe68478b885d8a11174d44e119cbc0055ac02", func := "bailey/baileylaw08.TreeReads", spec := "treeReads", unfollowed := true, recurses := true, apart := false, narrowed := true }
def TreeReadsUptoSaid : Prop := treeReadsUptoRow.holds Try.pinned (OpenSpec.upto treeReadsSpec)

end Rows
end Go.Proofs.Ytnljfhjindenpab
