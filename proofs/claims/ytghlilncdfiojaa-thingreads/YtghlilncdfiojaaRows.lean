/-
  No cell of these rows narrows 'for every input' (looked for: loops, veiled, ifaces, maps, wideKeys, modest, calm, conditions, laid).
  DERIVED. THE GIVEN ROWS OF THIS SEAT. 6 by the template 'for every input the law returns true; each argument reads behind the call as it read before'; 0 by the template 'total and deterministic' (their statements: YtghlilncdfiojaaTotals.lean).
  GIVEN WITH THE SEED: the statements are not yours to turn. If you find one false, say at which input.
  Laid BY PROGRAM, IN A SANDBOX (cutbox-rows.mjs): the forced cells as the released guide's own fill.sh prints them over the translation ca77b7236e98c4f0… (all of the seat's roots in one cut). By AI agents, Wed Nov 11 2026. No macro, syntax, notation, axiom, sorry.
-/
import Derived.Test.YtghlilncdfiojaaChecked
import GoSem.Claim
import GoSem.ClaimJoined
import GoSem.ClaimMapViews
import Derived.JoinedTies
import Derived.KernelRfl
namespace Go.Proofs.Ytghlilncdfiojaa
/- THE CELL 'sum', in the pinned program and in every row, IS THE sha256 OF THE DUMP (.gsa) THAT YtghlilncdfiojaaProg.lean LOADS. Nothing in Lean hashes anything: it is a label: what it is worth is what the hold of that sum in a sandbox is worth. -/
noncomputable def Try.pinned : Pinned := { name := "ytghlilncdfiojaa", sum := "ca77b7236e98c4f0119f927d7fef0960a7f978410d50a9517cf5a10776c3a8c5", checked := Try.checked }
namespace Rows
def none {H : Type} : Left H := { results := [], args := [] }

/-- 'baileylaw11.ThingNames': WHATEVER THE INPUT: true; the input reads as it did. -/
def thingNamesSpec : ChangeSpec := { name := "thingNames", fn := fun _ => fun
  | [] => { results := [.lit (.bool true)], args := [] }
  | _ => none }
def thingNamesRow : OpenClaim := { program := "ytghlilncdfiojaa", sum := "ca77b7236e98c4f0119f927d7fef0960a7f978410d50a9517cf5a10776c3a8c5", func := "bailey/baileylaw11.ThingNames", spec := "thingNames", inPlace := ["math.Float64frombits", "internal/abi.NoEscape", "internal/bytealg.MakeNoZero"], unfollowed := true, recurses := true, apart := false }
def ThingNamesSaid : Prop := thingNamesRow.holds Try.pinned (OpenSpec.ofChange thingNamesSpec)

/-- ITS FALSE NEIGHBOUR: 'it returns false'. Refute it at one input. -/
def thingNamesWrong : ChangeSpec := { name := "thingNames", fn := fun _ => fun
  | [] => { results := [.lit (.bool false)], args := [] }
  | _ => none }
def ThingNamesWrongFalsely : Prop := thingNamesRow.holds Try.pinned (OpenSpec.ofChange thingNamesWrong)

/-- 'baileylaw11.ThingRights': WHATEVER THE INPUT: true; the input reads as it did. -/
def thingRightsSpec : ChangeSpec := { name := "thingRights", fn := fun _ => fun
  | [d1, d2] => { results := [.lit (.bool true)], args := [d1, d2] }
  | _ => none }
def thingRightsRow : OpenClaim := { program := "ytghlilncdfiojaa", sum := "ca77b7236e98c4f0119f927d7fef0960a7f978410d50a9517cf5a10776c3a8c5", func := "bailey/baileylaw11.ThingRights", spec := "thingRights", inPlace := ["math.Float64frombits", "internal/abi.NoEscape", "internal/bytealg.MakeNoZero"], unfollowed := true, recurses := true, apart := false }
def ThingRightsSaid : Prop := thingRightsRow.holds Try.pinned (OpenSpec.ofChange thingRightsSpec)

/-- ITS FALSE NEIGHBOUR: 'it returns false'. Refute it at one input. -/
def thingRightsWrong : ChangeSpec := { name := "thingRights", fn := fun _ => fun
  | [d1, d2] => { results := [.lit (.bool false)], args := [d1, d2] }
  | _ => none }
def ThingRightsWrongFalsely : Prop := thingRightsRow.holds Try.pinned (OpenSpec.ofChange thingRightsWrong)

/-- 'baileylaw11.ThingImages': WHATEVER THE INPUT: true; the input reads as it did. -/
def thingImagesSpec : ChangeSpec := { name := "thingImages", fn := fun _ => fun
  | [d] => { results := [.lit (.bool true)], args := [d] }
  | _ => none }
def thingImagesRow : OpenClaim := { program := "ytghlilncdfiojaa", sum := "ca77b7236e98c4f0119f927d7fef0960a7f978410d50a9517cf5a10776c3a8c5", func := "bailey/baileylaw11.ThingImages", spec := "thingImages", inPlace := ["math.Float64frombits", "internal/abi.NoEscape", "internal/bytealg.MakeNoZero"], unfollowed := true, recurses := true, apart := false }
def ThingImagesSaid : Prop := thingImagesRow.holds Try.pinned (OpenSpec.ofChange thingImagesSpec)

/-- ITS FALSE NEIGHBOUR: 'it returns false'. Refute it at one input. -/
def thingImagesWrong : ChangeSpec := { name := "thingImages", fn := fun _ => fun
  | [d] => { results := [.lit (.bool false)], args := [d] }
  | _ => none }
def ThingImagesWrongFalsely : Prop := thingImagesRow.holds Try.pinned (OpenSpec.ofChange thingImagesWrong)

/-- 'baileylaw11.ThingReads': WHATEVER THE INPUT: true; the input reads as it did. -/
def thingReadsSpec : ChangeSpec := { name := "thingReads", fn := fun _ => fun
  | [d] => { results := [.lit (.bool true)], args := [d] }
  | _ => none }
def thingReadsRow : OpenClaim := { program := "ytghlilncdfiojaa", sum := "ca77b7236e98c4f0119f927d7fef0960a7f978410d50a9517cf5a10776c3a8c5", func := "bailey/baileylaw11.ThingReads", spec := "thingReads", inPlace := ["internal/abi.NoEscape", "internal/bytealg.MakeNoZero", "math.Float64frombits"], unfollowed := true, recurses := true, apart := false }
def ThingReadsSaid : Prop := thingReadsRow.holds Try.pinned (OpenSpec.ofChange thingReadsSpec)

/-- ITS FALSE NEIGHBOUR: 'it returns false'. Refute it at one input. -/
def thingReadsWrong : ChangeSpec := { name := "thingReads", fn := fun _ => fun
  | [d] => { results := [.lit (.bool false)], args := [d] }
  | _ => none }
def ThingReadsWrongFalsely : Prop := thingReadsRow.holds Try.pinned (OpenSpec.ofChange thingReadsWrong)

/-- 'baileylaw11.ThingBack': WHATEVER THE INPUT: true; the input reads as it did. -/
def thingBackSpec : ChangeSpec := { name := "thingBack", fn := fun _ => fun
  | [d1, d2] => { results := [.lit (.bool true)], args := [d1, d2] }
  | _ => none }
def thingBackRow : OpenClaim := { program := "ytghlilncdfiojaa", sum := "ca77b7236e98c4f0119f927d7fef0960a7f978410d50a9517cf5a10776c3a8c5", func := "bailey/baileylaw11.ThingBack", spec := "thingBack", inPlace := ["math.Float64frombits", "internal/abi.NoEscape", "internal/bytealg.MakeNoZero"], unfollowed := true, recurses := true, apart := false }
def ThingBackSaid : Prop := thingBackRow.holds Try.pinned (OpenSpec.ofChange thingBackSpec)

/-- ITS FALSE NEIGHBOUR: 'it returns false'. Refute it at one input. -/
def thingBackWrong : ChangeSpec := { name := "thingBack", fn := fun _ => fun
  | [d1, d2] => { results := [.lit (.bool false)], args := [d1, d2] }
  | _ => none }
def ThingBackWrongFalsely : Prop := thingBackRow.holds Try.pinned (OpenSpec.ofChange thingBackWrong)

/-- 'baileylaw11.ThingApart': WHATEVER THE INPUT: true; the input reads as it did. -/
def thingApartSpec : ChangeSpec := { name := "thingApart", fn := fun _ => fun
  | [d1, d2] => { results := [.lit (.bool true)], args := [d1, d2] }
  | _ => none }
def thingApartRow : OpenClaim := { program := "ytghlilncdfiojaa", sum := "ca77b7236e98c4f0119f927d7fef0960a7f978410d50a9517cf5a10776c3a8c5", func := "bailey/baileylaw11.ThingApart", spec := "thingApart", inPlace := ["math.Float64frombits", "internal/abi.NoEscape", "internal/bytealg.MakeNoZero"], unfollowed := true, recurses := true, apart := false }
def ThingApartSaid : Prop := thingApartRow.holds Try.pinned (OpenSpec.ofChange thingApartSpec)

/-- ITS FALSE NEIGHBOUR: 'it returns false'. Refute it at one input. -/
def thingApartWrong : ChangeSpec := { name := "thingApart", fn := fun _ => fun
  | [d1, d2] => { results := [.lit (.bool false)], args := [d1, d2] }
  | _ => none }
def ThingApartWrongFalsely : Prop := thingApartRow.holds Try.pinned (OpenSpec.ofChange thingApartWrong)

/- THE SECOND FORM. 'bulk': how many values and letters a reading holds, each counted each time it is reached (what is shared counts as often as it is met; a slice's spare places count too). A statement '..UptoSaid' is the law's where the arguments, and the package variables that the reading takes, are together of bulk at most 1048576: NARROWER than '..Said'. Prove '..Said' where nothing that the law and all that it calls make is longer than what came in: it says more and counts as full. Else prove '..UptoSaid'. A law counts once. -/
mutual
def uptoBulk {H : Type} : DataW H → Nat
  | .lit (.string bytes) => bytes.length + 1
  | .lit _ => 1
  | .nil => 1
  | .ptr d => uptoBulk d + 1
  | .slice elems spare => uptoBulkAll elems + uptoBulkAll spare + 1
  | .agg parts => uptoBulkAll parts + 1
  | .iface _ d => uptoBulk d + 1
  | .map entries => uptoBulkEntries entries + 1
  | .held _ => 1
def uptoBulkAll {H : Type} : List (DataW H) → Nat
  | [] => 0
  | d :: r => uptoBulk d + uptoBulkAll r
def uptoBulkEntries {H : Type} : List (Lit × DataW H) → Nat
  | [] => 0
  | x :: r => uptoBulkEntry x + uptoBulkEntries r
def uptoBulkEntry {H : Type} : Lit × DataW H → Nat
  | (.string bytes, d) => bytes.length + uptoBulk d + 1
  | (_, d) => uptoBulk d + 1
 end
def uptoSmall : (H : Type) → List (DataW H) → Bool := fun _ ds => decide (uptoBulkAll ds ≤ 1048576)
def OpenSpec.upto (s : _root_.Go.ChangeSpec) : _root_.Go.OpenSpec := { _root_.Go.OpenSpec.ofChange s with cond := some uptoSmall }

/-- 'baileylaw11.ThingNames', WHERE WHAT IT READS IS OF BULK AT MOST 1048576: true; the input reads as it did. -/
def thingNamesUptoRow : OpenClaim := { program := "ytghlilncdfiojaa", sum := "ca77b7236e98c4f0119f927d7fef0960a7f978410d50a9517cf5a10776c3a8c5", func := "bailey/baileylaw11.ThingNames", spec := "thingNames", inPlace := ["math.Float64frombits", "internal/abi.NoEscape", "internal/bytealg.MakeNoZero"], unfollowed := true, recurses := true, apart := false, narrowed := true }
def ThingNamesUptoSaid : Prop := thingNamesUptoRow.holds Try.pinned (OpenSpec.upto thingNamesSpec)

/-- 'baileylaw11.ThingRights', WHERE WHAT IT READS IS OF BULK AT MOST 1048576: true; the input reads as it did. -/
def thingRightsUptoRow : OpenClaim := { program := "ytghlilncdfiojaa", sum := "ca77b7236e98c4f0119f927d7fef0960a7f978410d50a9517cf5a10776c3a8c5", func := "bailey/baileylaw11.ThingRights", spec := "thingRights", inPlace := ["math.Float64frombits", "internal/abi.NoEscape", "internal/bytealg.MakeNoZero"], unfollowed := true, recurses := true, apart := false, narrowed := true }
def ThingRightsUptoSaid : Prop := thingRightsUptoRow.holds Try.pinned (OpenSpec.upto thingRightsSpec)

/-- 'baileylaw11.ThingImages', WHERE WHAT IT READS IS OF BULK AT MOST 1048576: true; the input reads as it did. -/
def thingImagesUptoRow : OpenClaim := { program := "ytghlilncdfiojaa", sum := "ca77b7236e98c4f0119f927d7fef0960a7f978410d50a9517cf5a10776c3a8c5", func := "bailey/baileylaw11.ThingImages", spec := "thingImages", inPlace := ["math.Float64frombits", "internal/abi.NoEscape", "internal/bytealg.MakeNoZero"], unfollowed := true, recurses := true, apart := false, narrowed := true }
def ThingImagesUptoSaid : Prop := thingImagesUptoRow.holds Try.pinned (OpenSpec.upto thingImagesSpec)

/-- 'baileylaw11.ThingReads', WHERE WHAT IT READS IS OF BULK AT MOST 1048576: true; the input reads as it did. -/
def thingReadsUptoRow : OpenClaim := { program := "ytghlilncdfiojaa", sum := "ca77b7236e98c4f0119f927d7fef0960a7f978410d50a9517cf5a10776c3a8c5", func := "bailey/baileylaw11.ThingReads", spec := "thingReads", inPlace := ["internal/abi.NoEscape", "internal/bytealg.MakeNoZero", "math.Float64frombits"], unfollowed := true, recurses := true, apart := false, narrowed := true }
def ThingReadsUptoSaid : Prop := thingReadsUptoRow.holds Try.pinned (OpenSpec.upto thingReadsSpec)

/-- 'baileylaw11.ThingBack', WHERE WHAT IT READS IS OF BULK AT MOST 1048576: true; the input reads as it did. -/
def thingBackUptoRow : OpenClaim := { program := "ytghlilncdfiojaa", sum := "ca77b7236e98c4f0119f927d7fef0960a7f978410d50a9517cf5a10776c3a8c5", func := "bailey/baileylaw11.ThingBack", spec := "thingBack", inPlace := ["math.Float64frombits", "internal/abi.NoEscape", "internal/bytealg.MakeNoZero"], unfollowed := true, recurses := true, apart := false, narrowed := true }
def ThingBackUptoSaid : Prop := thingBackUptoRow.holds Try.pinned (OpenSpec.upto thingBackSpec)

/-- 'baileylaw11.ThingApart', WHERE WHAT IT READS IS OF BULK AT MOST 1048576: true; the input reads as it did. -/
def thingApartUptoRow : OpenClaim := { program := "ytghlilncdfiojaa", sum := "ca77b7236e98c4f0119f927d7fef0960a7f978410d50a9517cf5a10776c3a8c5", func := "bailey/baileylaw11.ThingApart", spec := "thingApart", inPlace := ["math.Float64frombits", "internal/abi.NoEscape", "internal/bytealg.MakeNoZero"], unfollowed := true, recurses := true, apart := false, narrowed := true }
def ThingApartUptoSaid : Prop := thingApartUptoRow.holds Try.pinned (OpenSpec.upto thingApartSpec)

end Rows
end Go.Proofs.Ytghlilncdfiojaa
