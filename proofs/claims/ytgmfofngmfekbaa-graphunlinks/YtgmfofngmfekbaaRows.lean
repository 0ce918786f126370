/-
  No cell of these rows narrows 'for every input' (looked for: loops, veiled, ifaces, maps, wideKeys, modest, calm, conditions, laid).
  DERIVED. THE GIVEN ROWS OF THIS SEAT. 5 by the template 'for every input the law returns true; each argument reads behind the call as it read before'; 0 by the template 'total and deterministic' (their statements: YtgmfofngmfekbaaTotals.lean).
  GIVEN WITH THE SEED: the statements are not yours to turn. If you find one false, say at which input.
  Laid BY PROGRAM, IN A SANDBOX (cutbox-rows.mjs): the forced cells as the released guide's own fill.sh prints them over the translation 217e4bf5b6287ddf… (all of the seat's roots in one cut). By AI agents, Wed Nov 11 2026. No macro, syntax, notation, axiom, sorry.
-/
import Derived.Test.YtgmfofngmfekbaaChecked
import GoSem.Claim
import GoSem.ClaimJoined
import GoSem.ClaimMapViews
import Derived.JoinedTies
import Derived.KernelRfl
namespace Go.Proofs.Ytgmfofngmfekbaa
/- THE CELL 'sum', in the pinned program and in every row, IS THE sha256 OF THE DUMP (.gsa) THAT YtgmfofngmfekbaaProg.lean LOADS. Nothing in Lean hashes anything: it is a label: what it is worth is what the hold of that sum in a sandbox is worth. -/
noncomputable def Try.pinned : Pinned := { name := "ytgmfofngmfekbaa", sum := "217e4bf5b6287ddf568fea8fcd067018bcfaa55d749bf0d3bd483098ee55eaa5", checked := Try.checked }
namespace Rows
def none {H : Type} : Left H := { results := [], args := [] }

/-- 'baileylaw13.GraphFinds': WHATEVER THE INPUT: true; the input reads as it did. -/
def graphFindsSpec : ChangeSpec := { name := "graphFinds", fn := fun _ => fun
  | [d1, d2, d3] => { results := [.lit (.bool true)], args := [d1, d2, d3] }
  | _ => none }
def graphFindsRow : OpenClaim := { program := "ytgmfofngmfekbaa", sum := "217e4bf5b6287ddf568fea8fcd067018bcfaa55d749bf0d3bd483098ee55eaa5", func := "bailey/baileylaw13.GraphFinds", spec := "graphFinds", inPlace := ["math.Float64frombits", "slices.overlaps[bailey/api.Thing]"], unfollowed := true, recurses := true, apart := false }
def GraphFindsSaid : Prop := graphFindsRow.holds Try.pinned (OpenSpec.ofChange graphFindsSpec)

/-- ITS FALSE NEIGHBOUR: 'it returns false'. Refute it at one input. -/
def graphFindsWrong : ChangeSpec := { name := "graphFinds", fn := fun _ => fun
  | [d1, d2, d3] => { results := [.lit (.bool false)], args := [d1, d2, d3] }
  | _ => none }
def GraphFindsWrongFalsely : Prop := graphFindsRow.holds Try.pinned (OpenSpec.ofChange graphFindsWrong)

/-- 'baileylaw13.GraphUnlinks': WHATEVER THE INPUT: true; the input reads as it did. -/
def graphUnlinksSpec : ChangeSpec := { name := "graphUnlinks", fn := fun _ => fun
  | [d1, d2, d3] => { results := [.lit (.bool true)], args := [d1, d2, d3] }
  | _ => none }
def graphUnlinksRow : OpenClaim := { program := "ytgmfofngmfekbaa", sum := "217e4bf5b6287ddf568fea8fcd067018bcfaa55d749bf0d3bd483098ee55eaa5", func := "bailey/baileylaw13.GraphUnlinks", spec := "graphUnlinks", inPlace := ["math.Float64frombits"], unfollowed := true, recurses := true, apart := false }
def GraphUnlinksSaid : Prop := graphUnlinksRow.holds Try.pinned (OpenSpec.ofChange graphUnlinksSpec)

/-- ITS FALSE NEIGHBOUR: 'it returns false'. Refute it at one input. -/
def graphUnlinksWrong : ChangeSpec := { name := "graphUnlinks", fn := fun _ => fun
  | [d1, d2, d3] => { results := [.lit (.bool false)], args := [d1, d2, d3] }
  | _ => none }
def GraphUnlinksWrongFalsely : Prop := graphUnlinksRow.holds Try.pinned (OpenSpec.ofChange graphUnlinksWrong)

/-- 'baileylaw13.GraphMends': WHATEVER THE INPUT: true; the input reads as it did. -/
def graphMendsSpec : ChangeSpec := { name := "graphMends", fn := fun _ => fun
  | [d] => { results := [.lit (.bool true)], args := [d] }
  | _ => none }
def graphMendsRow : OpenClaim := { program := "ytgmfofngmfekbaa", sum := "217e4bf5b6287ddf568fea8fcd067018bcfaa55d749bf0d3bd483098ee55eaa5", func := "bailey/baileylaw13.GraphMends", spec := "graphMends", inPlace := ["math.Float64frombits"], unfollowed := true, recurses := true, apart := false }
def GraphMendsSaid : Prop := graphMendsRow.holds Try.pinned (OpenSpec.ofChange graphMendsSpec)

/-- ITS FALSE NEIGHBOUR: 'it returns false'. Refute it at one input. -/
def graphMendsWrong : ChangeSpec := { name := "graphMends", fn := fun _ => fun
  | [d] => { results := [.lit (.bool false)], args := [d] }
  | _ => none }
def GraphMendsWrongFalsely : Prop := graphMendsRow.holds Try.pinned (OpenSpec.ofChange graphMendsWrong)

/-- 'baileylaw13.GraphKeeps': WHATEVER THE INPUT: true; the input reads as it did. -/
def graphKeepsSpec : ChangeSpec := { name := "graphKeeps", fn := fun _ => fun
  | [d1, d2, d3] => { results := [.lit (.bool true)], args := [d1, d2, d3] }
  | _ => none }
def graphKeepsRow : OpenClaim := { program := "ytgmfofngmfekbaa", sum := "217e4bf5b6287ddf568fea8fcd067018bcfaa55d749bf0d3bd483098ee55eaa5", func := "bailey/baileylaw13.GraphKeeps", spec := "graphKeeps", inPlace := ["math.Float64frombits"], unfollowed := true, recurses := true, apart := false }
def GraphKeepsSaid : Prop := graphKeepsRow.holds Try.pinned (OpenSpec.ofChange graphKeepsSpec)

/-- ITS FALSE NEIGHBOUR: 'it returns false'. Refute it at one input. -/
def graphKeepsWrong : ChangeSpec := { name := "graphKeeps", fn := fun _ => fun
  | [d1, d2, d3] => { results := [.lit (.bool false)], args := [d1, d2, d3] }
  | _ => none }
def GraphKeepsWrongFalsely : Prop := graphKeepsRow.holds Try.pinned (OpenSpec.ofChange graphKeepsWrong)

/-- 'baileylaw13.GraphPuts': WHATEVER THE INPUT: true; the input reads as it did. -/
def graphPutsSpec : ChangeSpec := { name := "graphPuts", fn := fun _ => fun
  | [d1, d2, d3] => { results := [.lit (.bool true)], args := [d1, d2, d3] }
  | _ => none }
def graphPutsRow : OpenClaim := { program := "ytgmfofngmfekbaa", sum := "217e4bf5b6287ddf568fea8fcd067018bcfaa55d749bf0d3bd483098ee55eaa5", func := "bailey/baileylaw13.GraphPuts", spec := "graphPuts", inPlace := ["math.Float64frombits", "slices.overlaps[bailey/api.Thing]"], unfollowed := true, recurses := true, apart := false }
def GraphPutsSaid : Prop := graphPutsRow.holds Try.pinned (OpenSpec.ofChange graphPutsSpec)

/-- ITS FALSE NEIGHBOUR: 'it returns false'. Refute it at one input. -/
def graphPutsWrong : ChangeSpec := { name := "graphPuts", fn := fun _ => fun
  | [d1, d2, d3] => { results := [.lit (.bool false)], args := [d1, d2, d3] }
  | _ => none }
def GraphPutsWrongFalsely : Prop := graphPutsRow.holds Try.pinned (OpenSpec.ofChange graphPutsWrong)

/- THE SECOND FORM. 'bulk': how many values and letters a reading holds, each counted each time it is reached (what is shared counts as often as it is met; a slice's spare places count too). A statement '..UptoSaid' is the law's where the arguments, and the package variables that the reading takes, are together of bulk at most 1048576: NARROWER than '..Said'. Prove '..Said' where nothing that the law and all that it calls make is longer than what came in: it says more and counts as full. Else prove '..UptoSaid'. A law counts once. -/
mutual
def uptoBulk {H : Type} : DataW H → Nat
  | .lit (.string bytes) => bytes.length + 1
  | .lit _ => 1
  | .nil => 1
  | .ptr d => uptoBulk d + 1
  | .slice elems spare => uptoBulkAll elems + uptoBulkAll spare + 1
  | .agg parts => uptoBulkAll parts + 1
  | .iface _ d => uptoBulk d + 1
  | .map entries => uptoBulkEntries entries + 1
  | .held _ => 1
def uptoBulkAll {H : Type} : List (DataW H) → Nat
  | [] => 0
  | d :: r => uptoBulk d + uptoBulkAll r
def uptoBulkEntries {H : Type} : List (Lit × DataW H) → Nat
  | [] => 0
  | x :: r => uptoBulkEntry x + uptoBulkEntries r
def uptoBulkEntry {H : Type} : Lit × DataW H → Nat
  | (.string bytes, d) => bytes.length + uptoBulk d + 1
  | (_, d) => uptoBulk d + 1
 end
def uptoSmall : (H : Type) → List (DataW H) → Bool := fun _ ds => decide (uptoBulkAll ds ≤ 1048576)
def OpenSpec.upto (s : _root_.Go.ChangeSpec) : _root_.Go.OpenSpec := { _root_.Go.OpenSpec.ofChange s with cond := some uptoSmall }

/-- 'baileylaw13.GraphFinds', WHERE WHAT IT READS IS OF BULK AT MOST 1048576: true; the input reads as it did. -/
def graphFindsUptoRow : OpenClaim := { program := "ytgmfofngmfekbaa", sum := "217e4bf5b6287ddf568fea8fcd067018bcfaa55d749bf0d3bd483098ee55eaa5", func := "bailey/baileylaw13.GraphFinds", spec := "graphFinds", inPlace := ["math.Float64frombits", "slices.overlaps[bailey/api.Thing]"], unfollowed := true, recurses := true, apart := false, narrowed := true }
def GraphFindsUptoSaid : Prop := graphFindsUptoRow.holds Try.pinned (OpenSpec.upto graphFindsSpec)

/-- 'baileylaw13.GraphUnlinks', WHERE WHAT IT READS IS OF BULK AT MOST 1048576: true; the input reads as it did. -/
def graphUnlinksUptoRow : OpenClaim := { program := "ytgmfofngmfekbaa", sum := "217e4bf5b6287ddf568fea8fcd067018bcfaa55d749bf0d3bd483098ee55eaa5", func := "bailey/baileylaw13.GraphUnlinks", spec := "graphUnlinks", inPlace := ["math.Float64frombits"], unfollowed := true, recurses := true, apart := false, narrowed := true }
def GraphUnlinksUptoSaid : Prop := graphUnlinksUptoRow.holds Try.pinned (OpenSpec.upto graphUnlinksSpec)

/-- 'baileylaw13.GraphMends', WHERE WHAT IT READS IS OF BULK AT MOST 1048576: true; the input reads as it did. -/
def graphMendsUptoRow : OpenClaim := { program := "ytgmfofngmfekbaa", sum := "217e4bf5b6287ddf568fea8fcd067018bcfaa55d749bf0d3bd483098ee55eaa5", func := "bailey/baileylaw13.GraphMends", spec := "graphMends", inPlace := ["math.Float64frombits"], unfollowed := true, recurses := true, apart := false, narrowed := true }
def GraphMendsUptoSaid : Prop := graphMendsUptoRow.holds Try.pinned (OpenSpec.upto graphMendsSpec)

/-- 'baileylaw13.GraphKeeps', WHERE WHAT IT READS IS OF BULK AT MOST 1048576: true; the input reads as it did. -/
def graphKeepsUptoRow : OpenClaim := { program := "ytgmfofngmfekbaa", sum := "217e4bf5b6287ddf568fea8fcd067018bcfaa55d749bf0d3bd483098ee55eaa5", func := "bailey/baileylaw13.GraphKeeps", spec := "graphKeeps", inPlace := ["math.Float64frombits"], unfollowed := true, recurses := true, apart := false, narrowed := true }
def GraphKeepsUptoSaid : Prop := graphKeepsUptoRow.holds Try.pinned (OpenSpec.upto graphKeepsSpec)

/-- 'baileylaw13.GraphPuts', WHERE WHAT IT READS IS OF BULK AT MOST 1048576: true; the input reads as it did. -/
def graphPutsUptoRow : OpenClaim := { program := "ytgmfofngmfekbaa", sum := "217e4bf5b6287ddf568fea8fcd067018bcfaa55d749bf0d3bd483098ee55eaa5", func := "bailey/baileylaw13.GraphPuts", spec := "graphPuts", inPlace := ["math.Float64frombits", "slices.overlaps[bailey/api.Thing]"], unfollowed := true, recurses := true, apart := false, narrowed := true }
def GraphPutsUptoSaid : Prop := graphPutsUptoRow.holds Try.pinned (OpenSpec.upto graphPutsSpec)

end Rows
end Go.Proofs.Ytgmfofngmfekbaa
