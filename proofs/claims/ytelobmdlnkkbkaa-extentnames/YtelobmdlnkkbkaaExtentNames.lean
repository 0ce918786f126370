/-
  ExtentNames returns true: the chapter's example is answered as it says, the errors have their numbers, and all is free in the beginning.
  Conditions: none; the statement is the given one, for every input.
-/
import Derived.Test.YtelobmdlnkkbkaaRows
import Derived.Test.YtelobmdlnkkbkaaExtA1
import Derived.WalkKit
import Derived.ProofKit
import Derived.OpenShut
import Derived.ShutString
import Derived.ChangeOld
import Derived.Below
import Derived.SizedLaws
namespace Go.Proofs.Ytelobmdlnkkbkaa.extentNames
open Go.ChangeShapes Go.WideShapes Go.ChangeAt Go.RowKit
open Go.ChangeMaps (open_string shut_string)
set_option linter.unusedVariables false
set_option linter.unusedSimpArgs false

theorem own : ownKnob Try.prog.godebug = none := by kernel_rfl
theorem laidOut : laidOutB Try.prog = true := by kernel_rfl

set_option maxHeartbeats 1600000 in
/-- The law's own walk. -/
theorem walk (w : World)  :
    Calls Try.prog 3 #[] w fun e w' => e = .returned (.bool true) ∧ Below w.heap.size w w' := by
  have e1 : (newX 2000).count 0 = 1024 := by rw [show newX 2000 = List.replicate 1024 0 from rfl, List.count_replicate_self]
  have e2 : runs 0 (newX 0) = [] := by decide
  go_enter Try.func3, Try.ntmps3
  go_wp2_with (go_at_call 8; refine (c_alive _).mono ?_; rintro e w1 ⟨rfl, hn1⟩; refine stop_here ?_)
  unfold Hid
  go_wp2_with (go_at_call 9; refine (c_new 2000 _).mono ?_; rintro e w2 ⟨b, g, rfl, h2, hn2, hb, hg⟩; refine stop_here ?_)
  unfold Hid
  have a2 := c_count _ h2
  rw [e1] at a2
  go_wp2_with (go_at_call 10; refine a2.mono ?_; rintro e w3 ⟨rfl, rfl⟩; refine stop_here ?_)
  unfold Hid
  go_wp2_with (go_at_call 9; refine (c_new 0 _).mono ?_; rintro e w4 ⟨b, g, rfl, h4, hn4, hb, hg⟩; refine stop_here ?_)
  unfold Hid
  have a4 := c_list _ h4
  rw [e2] at a4
  go_wp2_with (go_at_call 11; refine a4.mono ?_; rintro e w5 ⟨v, rfl, hr, hn5⟩; refine stop_here ?_)
  unfold Hid
  obtain ⟨ao, cap, rfl⟩ := owns_form hr
  simp only [List.length_nil]
  have hfin := below_of_nw (nw_trans (nw_trans (nw_trans hn1 hn2) hn4) hn5)
  clear hr
  go_wp2
  go_ret
  exact ⟨rfl, hfin⟩

set_option maxRecDepth 100000 in
theorem lifted (os : Os) (started : os.Started) (H : Type) (enc : TypeId × Value → H) :
    ReturnsInHanded {} Try.checked os 3 .any (Rows.extentNamesSpec.pre6 enc Try.prog Try.f3 Rows.extentNamesRow.domain false) (Rows.extentNamesSpec.post enc Try.prog Try.f3 false true false false) := by
  refine returnsInHanded_of_change_sized (C := Try.checked) own started (by kernel_rfl) Try.func3
    (ChangeSpec.witness6 (enc := enc) (C := Try.checked) false ⟨#[], #[], []⟩ 8 (by kernel_rfl) (by kernel_rfl) (by kernel_rfl) (by kernel_rfl)) ?_
  intro W base args ds gs before hval0 hW hcnd hsz0 _
  have hval : ∀ (j : Nat) t v, Try.f3.params[j]? = some t → args[j]? = some v → Value.okWide Try.prog W .any base t v := hval0
  have hsz : (DataW.weightsEach Try.prog (Try.f3.params.toList ++ Rows.extentNamesSpec.plain.varTypes Try.prog) (ds ++ gs)).all (· ≤ reachBytes) = true := hsz0
  have hW' := hW
  obtain ⟨p, q, hA0, hV, rfl, hfz, hnd⟩ := hW
  have hA : DataW.TrodAll enc Try.prog W 0 (fun _ => true) true Try.f3.params.toList args.toList ds p := hA0
  rw [Try.params3] at hA hval hsz
  obtain ⟨rfl, rfl, rfl⟩ := trodAll_none hA
  obtain ⟨rfl, rfl⟩ := trodVars_none hV
  clear hA0 hval0
  refine (walk W ).mono fun e W' ⟨he, bel⟩ => ?_
  subst he
  exact ⟨_, rfl, _, _, _, [], _, [], hW', trodAll_mk1 (shut_bool Try.underlying4 _), rfl, rfl, bel.frame _, fun h => by cases h⟩

theorem over : Rows.extentNamesRow.holds Try.pinned (OpenSpec.ofChange Rows.extentNamesSpec) :=
  OpenClaim.holds_of_wide 3 Try.f3 rfl rfl rfl rfl rfl rfl rfl ⟨rfl, rfl, rfl, rfl, rfl⟩ rfl rfl rfl rfl rfl (by kernel_rfl) Try.func3 (by kernel_rfl)
    (of_decide_eq_true (by kernel_rfl)) (by unfold Func.isWrapper; first | (rw [if_pos (by decide +kernel)]; kernel_rfl) | (rw [if_neg (by decide +kernel)]; exact ⟨rfl, rfl⟩))
    (fun os started H enc _ => lifted os started H enc)
end Go.Proofs.Ytelobmdlnkkbkaa.extentNames
namespace Go.Proofs.Ytelobmdlnkkbkaa
/-- The given statement. -/
theorem extentNames_holds : Rows.ExtentNamesSaid := extentNames.over
end Go.Proofs.Ytelobmdlnkkbkaa
