/-
  CodecNames returns true: the error and the limit have their numbers, nothing is packed as nothing, and a byte that is too many is refused.
  Conditions: none; the statement is the given one, for every input.
-/
import Derived.Test.YtfnokdgfbhlccaaRows
import Derived.Test.YtfnokdgfbhlccaaL0
import Derived.WalkKit
import Derived.ProofKit
import Derived.OpenShut
import Derived.ShutString
import Derived.ChangeOld
import Derived.Below
import Derived.SizedLaws
namespace Go.Proofs.Ytfnokdgfbhlccaa.codecNames
open Go.ChangeShapes Go.WideShapes Go.ChangeAt Go.RowKit
open Go.ChangeMaps (open_string shut_string)
set_option linter.unusedVariables false
set_option linter.unusedSimpArgs false

theorem own : ownKnob Try.prog.godebug = none := by kernel_rfl
theorem laidOut : laidOutB Try.prog = true := by kernel_rfl

theorem e1 : pack [] [] = some [] := rfl
theorem e2 : unpack [] [0] = none := rfl

set_option maxHeartbeats 1600000 in
/-- The law's own walk. -/
theorem walk (w : World)  :
    Calls Try.prog 3 #[] w fun e w' => e = .returned (.bool true) ∧ Below w.heap.size w w' := by
  go_enter Try.func3, Try.ntmps3
  go_wp2_with fail
  refine (c_packN _ 0 _ [] _ (by decide) (by decide) (FieldsAt.nil _ _) (Nat.zero_le _)).mono ?_
  rintro e w1 ⟨v1, rfl, hs1, hb1⟩
  rw [show (ByteArray.data ⟨#[]⟩).toList = [] from rfl, e1] at hs1 ⊢
  obtain ⟨ao, cap, rfl⟩ := sl_form hs1
  go_wp2_with fail
  refine (c_unpackN _ _ _ [0] _ (by decide) (sl_lit w1 #[.int .u8 0] 5 1 (by omega)) (by simp)).mono ?_
  rintro e w2 ⟨v2, rfl, hs2, hb2⟩
  rw [show (ByteArray.data ⟨#[]⟩).toList = [] from rfl, e2]
  have hb3 : Below w.heap.size w w2 := below_cut hb1 (((Below.refl _ _).alloc (Nat.le_refl _) _).trans (hb2.mono (by simp)))
  clear hs1 hs2 hb1 hb2
  go_wp2_with (go_at_call 11; refine (c_alive _).mono ?_; rintro e w3 ⟨rfl, hb4⟩)
  go_ret
  exact ⟨rfl, below_cut hb3 hb4⟩

set_option maxRecDepth 100000 in
theorem lifted (os : Os) (started : os.Started) (H : Type) (enc : TypeId × Value → H) :
    ReturnsInHanded {} Try.checked os 3 .any (Rows.codecNamesSpec.pre6 enc Try.prog Try.f3 Rows.codecNamesRow.domain false) (Rows.codecNamesSpec.post enc Try.prog Try.f3 false true false false) := by
  refine returnsInHanded_of_change_sized (C := Try.checked) own started (by kernel_rfl) Try.func3
    (ChangeSpec.witness6 (enc := enc) (C := Try.checked) false ⟨#[], #[], []⟩ 8 (by kernel_rfl) (by kernel_rfl) (by kernel_rfl) (by kernel_rfl)) ?_
  intro W base args ds gs before hval0 hW hcnd hsz0 _
  have hval : ∀ (j : Nat) t v, Try.f3.params[j]? = some t → args[j]? = some v → Value.okWide Try.prog W .any base t v := hval0
  have hsz : (DataW.weightsEach Try.prog (Try.f3.params.toList ++ Rows.codecNamesSpec.plain.varTypes Try.prog) (ds ++ gs)).all (· ≤ reachBytes) = true := hsz0
  have hW' := hW
  obtain ⟨p, q, hA0, hV, rfl, hfz, hnd⟩ := hW
  have hA : DataW.TrodAll enc Try.prog W 0 (fun _ => true) true Try.f3.params.toList args.toList ds p := hA0
  rw [Try.params3] at hA hval hsz
  obtain ⟨rfl, rfl, rfl⟩ := trodAll_none hA
  obtain ⟨rfl, rfl⟩ := trodVars_none hV
  clear hA0 hval0
  refine (walk W ).mono fun e W' ⟨he, bel⟩ => ?_
  subst he
  exact ⟨_, rfl, _, _, _, [], _, [], hW', trodAll_mk1 (shut_bool Try.underlying4 _), rfl, rfl, bel.frame _, fun h => by cases h⟩

theorem over : Rows.codecNamesRow.holds Try.pinned (OpenSpec.ofChange Rows.codecNamesSpec) :=
  OpenClaim.holds_of_wide 3 Try.f3 rfl rfl rfl rfl rfl rfl rfl ⟨rfl, rfl, rfl, rfl, rfl⟩ rfl rfl rfl rfl rfl (by kernel_rfl) Try.func3 (by kernel_rfl)
    (of_decide_eq_true (by kernel_rfl)) (by unfold Func.isWrapper; first | (rw [if_pos (by decide +kernel)]; kernel_rfl) | (rw [if_neg (by decide +kernel)]; exact ⟨rfl, rfl⟩))
    (fun os started H enc _ => lifted os started H enc)
end Go.Proofs.Ytfnokdgfbhlccaa.codecNames
namespace Go.Proofs.Ytfnokdgfbhlccaa
/-- The given statement. -/
theorem codecNames_holds : Rows.CodecNamesSaid := codecNames.over
end Go.Proofs.Ytfnokdgfbhlccaa
