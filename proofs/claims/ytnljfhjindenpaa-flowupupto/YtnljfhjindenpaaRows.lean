/-
  No cell of these rows narrows 'for every input' (looked for: loops, veiled, ifaces, maps, wideKeys, modest, calm, conditions, laid).
  DERIVED. THE GIVEN ROWS OF THIS SEAT. 6 by the template 'for every input the law returns true; each argument reads behind the call as it read before'; 0 by the template 'total and deterministic' (their statements: YtnljfhjindenpaaTotals.lean).
  GIVEN WITH THE SEED: the statements are not yours to turn. If you find one false, say at which input.
  Laid BY PROGRAM, IN A SANDBOX (cutbox-rows.mjs): the forced cells as the released guide's own fill.sh prints them over the translation edce256269b38dbf… (all of the seat's roots in one cut). By AI agents, Wed Nov 11 2026. No macro, syntax, notation, axiom, sorry.
-/
import Derived.Test.YtnljfhjindenpaaChecked
import GoSem.Claim
import GoSem.ClaimJoined
import GoSem.ClaimMapViews
import Derived.JoinedTies
import Derived.KernelRfl
namespace Go.Proofs.Ytnljfhjindenpaa
/- THE CELL 'sum', in the pinned program and in every row, IS THE sha256 OF THE DUMP (.gsa) THAT YtnljfhjindenpaaProg.lean LOADS. Nothing in Lean hashes anything: it is a label: what it is worth is what the hold of that sum in a sandbox is worth. -/
noncomputable def Try.pinned : Pinned := { name := "ytnljfhjindenpaa", sum := "edce256269b38dbffcda651968c9cf7d7a118074a75c724ef735269717527cde", checked := Try.checked }
namespace Rows
def none {H : Type} : Left H := { results := [], args := [] }

/-- 'baileylaw09.LabelMerges': WHATEVER THE INPUT: true; the input reads as it did. -/
def labelMergesSpec : ChangeSpec := { name := "labelMerges", fn := fun _ => fun
  | [d1, d2, d3] => { results := [.lit (.bool true)], args := [d1, d2, d3] }
  | _ => none }
def labelMergesRow : OpenClaim := { program := "ytnljfhjindenpaa", sum := "edce256269b38dbffcda651968c9cf7d7a118074a75c724ef735269717527cde", func := "bailey/baileylaw09.LabelMerges", spec := "labelMerges", inPlace := ["slices.overlaps[bailey/api.Cat]"], unfollowed := true, recurses := true, apart := false }
def LabelMergesSaid : Prop := labelMergesRow.holds Try.pinned (OpenSpec.ofChange labelMergesSpec)

/-- ITS FALSE NEIGHBOUR: 'it returns false'. Refute it at one input. -/
def labelMergesWrong : ChangeSpec := { name := "labelMerges", fn := fun _ => fun
  | [d1, d2, d3] => { results := [.lit (.bool false)], args := [d1, d2, d3] }
  | _ => none }
def LabelMergesWrongFalsely : Prop := labelMergesRow.holds Try.pinned (OpenSpec.ofChange labelMergesWrong)

/-- 'baileylaw09.LabelOwns': WHATEVER THE INPUT: true; the input reads as it did. -/
def labelOwnsSpec : ChangeSpec := { name := "labelOwns", fn := fun _ => fun
  | [d1, d2, d3] => { results := [.lit (.bool true)], args := [d1, d2, d3] }
  | _ => none }
def labelOwnsRow : OpenClaim := { program := "ytnljfhjindenpaa", sum := "edce256269b38dbffcda651968c9cf7d7a118074a75c724ef735269717527cde", func := "bailey/baileylaw09.LabelOwns", spec := "labelOwns", inPlace := ["slices.overlaps[bailey/api.Cat]"], unfollowed := true, recurses := true, apart := false }
def LabelOwnsSaid : Prop := labelOwnsRow.holds Try.pinned (OpenSpec.ofChange labelOwnsSpec)

/-- ITS FALSE NEIGHBOUR: 'it returns false'. Refute it at one input. -/
def labelOwnsWrong : ChangeSpec := { name := "labelOwns", fn := fun _ => fun
  | [d1, d2, d3] => { results := [.lit (.bool false)], args := [d1, d2, d3] }
  | _ => none }
def LabelOwnsWrongFalsely : Prop := labelOwnsRow.holds Try.pinned (OpenSpec.ofChange labelOwnsWrong)

/-- 'baileylaw10.FlowReads': WHATEVER THE INPUT: true; the input reads as it did. -/
def flowReadsSpec : ChangeSpec := { name := "flowReads", fn := fun _ => fun
  | [d1, d2] => { results := [.lit (.bool true)], args := [d1, d2] }
  | _ => none }
def flowReadsRow : OpenClaim := { program := "ytnljfhjindenpaa", sum := "edce256269b38dbffcda651968c9cf7d7a118074a75c724ef735269717527cde", func := "bailey/baileylaw10.FlowReads", spec := "flowReads", unfollowed := true, recurses := true, apart := false }
def FlowReadsSaid : Prop := flowReadsRow.holds Try.pinned (OpenSpec.ofChange flowReadsSpec)

/-- ITS FALSE NEIGHBOUR: 'it returns false'. Refute it at one input. -/
def flowReadsWrong : ChangeSpec := { name := "flowReads", fn := fun _ => fun
  | [d1, d2] => { results := [.lit (.bool false)], args := [d1, d2] }
  | _ => none }
def FlowReadsWrongFalsely : Prop := flowReadsRow.holds Try.pinned (OpenSpec.ofChange flowReadsWrong)

/-- 'baileylaw10.FlowMakes': WHATEVER THE INPUT: true; the input reads as it did. -/
def flowMakesSpec : ChangeSpec := { name := "flowMakes", fn := fun _ => fun
  | [d1, d2, d3] => { results := [.lit (.bool true)], args := [d1, d2, d3] }
  | _ => none }
def flowMakesRow : OpenClaim := { program := "ytnljfhjindenpaa", sum := "edce256269b38dbffcda651968c9cf7d7a118074a75c724ef735269717527cde", func := "bailey/baileylaw10.FlowMakes", spec := "flowMakes", unfollowed := true, recurses := true, apart := false }
def FlowMakesSaid : Prop := flowMakesRow.holds Try.pinned (OpenSpec.ofChange flowMakesSpec)

/-- ITS FALSE NEIGHBOUR: 'it returns false'. Refute it at one input. -/
def flowMakesWrong : ChangeSpec := { name := "flowMakes", fn := fun _ => fun
  | [d1, d2, d3] => { results := [.lit (.bool false)], args := [d1, d2, d3] }
  | _ => none }
def FlowMakesWrongFalsely : Prop := flowMakesRow.holds Try.pinned (OpenSpec.ofChange flowMakesWrong)

/-- 'baileylaw10.FlowTurns': WHATEVER THE INPUT: true; the input reads as it did. -/
def flowTurnsSpec : ChangeSpec := { name := "flowTurns", fn := fun _ => fun
  | [d1, d2] => { results := [.lit (.bool true)], args := [d1, d2] }
  | _ => none }
def flowTurnsRow : OpenClaim := { program := "ytnljfhjindenpaa", sum := "edce256269b38dbffcda651968c9cf7d7a118074a75c724ef735269717527cde", func := "bailey/baileylaw10.FlowTurns", spec := "flowTurns", unfollowed := true, recurses := true, apart := false }
def FlowTurnsSaid : Prop := flowTurnsRow.holds Try.pinned (OpenSpec.ofChange flowTurnsSpec)

/-- ITS FALSE NEIGHBOUR: 'it returns false'. Refute it at one input. -/
def flowTurnsWrong : ChangeSpec := { name := "flowTurns", fn := fun _ => fun
  | [d1, d2] => { results := [.lit (.bool false)], args := [d1, d2] }
  | _ => none }
def FlowTurnsWrongFalsely : Prop := flowTurnsRow.holds Try.pinned (OpenSpec.ofChange flowTurnsWrong)

/-- 'baileylaw10.FlowUp': WHATEVER THE INPUT: true; the input reads as it did. -/
def flowUpSpec : ChangeSpec := { name := "flowUp", fn := fun _ => fun
  | [d1, d2, d3] => { results := [.lit (.bool true)], args := [d1, d2, d3] }
  | _ => none }
def flowUpRow : OpenClaim := { program := "ytnljfhjindenpaa", sum := "edce256269b38dbffcda651968c9cf7d7a118074a75c724ef735269717527cde", func := "bailey/baileylaw10.FlowUp", spec := "flowUp", unfollowed := true, recurses := true, apart := false }
def FlowUpSaid : Prop := flowUpRow.holds Try.pinned (OpenSpec.ofChange flowUpSpec)

/-- ITS FALSE NEIGHBOUR: 'it returns false'. Refute it at one input. -/
def flowUpWrong : ChangeSpec := { name := "flowUp", fn := fun _ => fun
  | [d1, d2, d3] => { results := [.lit (.bool false)], args := [d1, d2, d3] }
  | _ => none }
def FlowUpWrongFalsely : Prop := flowUpRow.holds Try.pinned (OpenSpec.ofChange flowUpWrong)

/- THE SECOND FORM. 'bulk': how many values and letters a reading holds, each counted each time it is reached (what is shared counts as often as it is met; a slice's spare places count too). A statement '..UptoSaid' is the law's where the arguments, and the package variables that the reading takes, are together of bulk at most 1048576: NARROWER than '..Said'. Prove '..Said' where nothing that the law and all that it calls make is longer than what came in: it says more and counts as full. Else prove '..UptoSaid'. A law counts once. -/
mutual
def uptoBulk {H : Type} : DataW H → Nat
  | .lit (.string bytes) => bytes.length + 1
  | .lit _ => 1
  | .nil => 1
  | .ptr d => uptoBulk d + 1
  | .slice elems spare => uptoBulkAll elems + uptoBulkAll spare + 1
  | .agg parts => uptoBulkAll parts + 1
  | .iface _ d => uptoBulk d + 1
  | .map entries => uptoBulkEntries entries + 1
  | .held _ => 1
def uptoBulkAll {H : Type} : List (DataW H) → Nat
  | [] => 0
  | d :: r => uptoBulk d + uptoBulkAll r
def uptoBulkEntries {H : Type} : List (Lit × DataW H) → Nat
  | [] => 0
  | x :: r => uptoBulkEntry x + uptoBulkEntries r
def uptoBulkEntry {H : Type} : Lit × DataW H → Nat
  | (.string bytes, d) => bytes.length + uptoBulk d + 1
  | (_, d) => uptoBulk d + 1
 end
def uptoSmall : (H : Type) → List (DataW H) → Bool := fun _ ds => decide (uptoBulkAll ds ≤ 1048576)
def OpenSpec.upto (s : _root_.Go.ChangeSpec) : _root_.Go.OpenSpec := { _root_.Go.OpenSpec.ofChange s with cond := some uptoSmall }

/-- 'baileylaw09.LabelMerges', WHERE WHAT IT READS IS OF BULK AT MOST 1048576: true; the input reads as it did. -/
def labelMergesUptoRow : OpenClaim := { program := "ytnljfhjindenpaa", sum := "edce256269b38dbffcda651968c9cf7d7a118074a75c724ef735269717527cde", func := "bailey/baileylaw09.LabelMerges", spec := "labelMerges", inPlace := ["slices.overlaps[bailey/api.Cat]"], unfollowed := true, recurses := true, apart := false, narrowed := true }
def LabelMergesUptoSaid : Prop := labelMergesUptoRow.holds Try.pinned (OpenSpec.upto labelMergesSpec)

/-- 'baileylaw09.LabelOwns', WHERE WHAT IT READS IS OF BULK AT MOST 1048576: true; the input reads as it did. -/
def labelOwnsUptoRow : OpenClaim := { program := "ytnljfhjindenpaa", sum := "edce256269b38dbffcda651968c9cf7d7a118074a75c724ef735269717527cde", func := "bailey/baileylaw09.LabelOwns", spec := "labelOwns", inPlace := ["slices.overlaps[bailey/api.Cat]"], unfollowed := true, recurses := true, apart := false, narrowed := true }
def LabelOwnsUptoSaid : Prop := labelOwnsUptoRow.holds Try.pinned (OpenSpec.upto labelOwnsSpec)

/-- 'baileylaw10.FlowReads', WHERE WHAT IT READS IS OF BULK AT MOST 1048576: true; the input reads as it did. -/
def flowReadsUptoRow : OpenClaim := { program := "ytnljfhjindenpaa", sum := "edce256269b38dbffcda651968c9cf7d7a118074a75c724ef735269717527cde", func := "bailey/baileylaw10.FlowReads", spec := "flowReads", unfollowed := true, recurses := true, apart := false, narrowed := true }
def FlowReadsUptoSaid : Prop := flowReadsUptoRow.holds Try.pinned (OpenSpec.upto flowReadsSpec)

/-- 'baileylaw10.FlowMakes', WHERE WHAT IT READS IS OF BULK AT MOST 1048576: true; the input reads as it did. -/
def flowMakesUptoRow : OpenClaim := { program := "ytnljfhjindenpaa", sum := "edce256269b38dbffcda651968c9cf7d7a118074a75c724ef735269717527cde", func := "bailey/baileylaw10.FlowMakes", spec := "flowMakes", unfollowed := true, recurses := true, apart := false, narrowed := true }
def FlowMakesUptoSaid : Prop := flowMakesUptoRow.holds Try.pinned (OpenSpec.upto flowMakesSpec)

/-- 'baileylaw10.FlowTurns', WHERE WHAT IT READS IS OF BULK AT MOST 1048576: true; the input reads as it did. -/
def flowTurnsUptoRow : OpenClaim := { program := "ytnljfhjindenpaa", sum := "edce256269b38dbffcda651968c9cf7d7a118074a75c724ef735269717527cde", func := "bailey/baileylaw10.FlowTurns", spec := "flowTurns", unfollowed := true, recurses := true, apart := false, narrowed := true }
def FlowTurnsUptoSaid : Prop := flowTurnsUptoRow.holds Try.pinned (OpenSpec.upto flowTurnsSpec)

/-- 'baileylaw10.FlowUp', WHERE WHAT IT READS IS OF BULK AT MOST 1048576: true; the input reads as it did. -/
def flowUpUptoRow : OpenClaim := { program := "ytnljfhjindenpaa", sum := "edce256269b38dbffcda651968c9cf7d7a118074a75c724ef735269717527cde", func := "bailey/baileylaw10.FlowUp", spec := "flowUp", unfollowed := true, recurses := true, apart := false, narrowed := true }
def FlowUpUptoSaid : Prop := flowUpUptoRow.holds Try.pinned (OpenSpec.upto flowUpSpec)

end Rows
end Go.Proofs.Ytnljfhjindenpaa
