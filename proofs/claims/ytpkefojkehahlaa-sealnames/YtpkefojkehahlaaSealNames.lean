/-
  SealNames returns true: the error and the limit have their numbers, and zeros are no seal.
  Conditions: none; the statement is the given one, for every input.
-/
import Derived.Test.YtpkefojkehahlaaRows
import Derived.Test.YtpkefojkehahlaaSealA1
import Derived.WalkKit
import Derived.ProofKit
import Derived.OpenShut
import Derived.ShutString
import Derived.ChangeOld
import Derived.Below
import Derived.SizedLaws
namespace Go.Proofs.Ytpkefojkehahlaa.sealNames
open Go.ChangeShapes Go.WideShapes Go.ChangeAt Go.RowKit
open Go.ChangeMaps (open_string shut_string)
set_option linter.unusedVariables false
set_option linter.unusedSimpArgs false

theorem own : ownKnob Try.prog.godebug = none := by kernel_rfl
theorem laidOut : laidOutB Try.prog = true := by kernel_rfl

/-- The law's own walk. -/
theorem walk (w : World)  :
    Calls Try.prog 3 #[] w fun e w' => e = .returned (.bool true) ∧ Below w.heap.size w w' := by
  have hmd0 := made
  go_enter Try.func3, Try.ntmps3
  go_wp2_with (first
    | (refine wpList_build_as rfl 27 #[] rfl (sec z128) _ rfl Try.builtS ?_)
    | (go_at_call 9; refine stop_here ?_))
  unfold Hid
  refine (c_open z128 _ z128_length).mono ?_
  rintro e w1 ⟨v1, rfl, hs1, hb1⟩
  rw [openS_zero]
  obtain ⟨ao, cap, rfl⟩ := sl_form hs1
  clear hs1
  go_wp2_with (go_at_call 10; refine stop_here ?_)
  unfold Hid
  refine (c_make 0 0 [] _ _ (by decide) (Sl.nil _ _) (Nat.zero_le _) (by decide)).mono ?_
  rw [show mkS 0 [] = z128 from rfl, show mkE 0 [] = 51 from rfl]
  rintro e w2 ⟨rfl, hb2⟩
  have hmd := made w2
  have hb3 := putS_below w2 z128
  have hW : Hid ((w2.alloc (.cells (z128.map bv).toArray 27)).setRow w2.heap.size (z128.map bv).toArray = putS w2 z128) := rfl
  have hbA : Below w.heap.size w (putS w2 z128) := (hb1.trans (hb2.mono hb1.size)).trans (hb3.mono (by have := hb1.size; have := hb2.size; omega))
  clear hb1 hb2 hb3
  go_wp2_with (first
    | (refine wpList_alloc_agg rfl 27 rfl _ Try.zeroS ?_)
    | (refine wpList_store_all rfl 27 _ _ rfl w2.heap.size rfl (sec z128) rfl _ rfl _ 27 hmd.new rfl (bv_oneCell _) (sizeS z128_length) ?_; rw [hW.out])
    | (go_at_call 11; refine stop_here ?_))
  unfold Hid
  refine (c_alive _).mono ?_
  rintro e w4 ⟨rfl, hb4⟩
  have hbB := hbA.trans (hb4.mono hbA.size)
  clear hb4 hbA hW
  go_wp2
  go_ret
  exact ⟨rfl, hbB⟩

set_option maxRecDepth 100000 in
theorem lifted (os : Os) (started : os.Started) (H : Type) (enc : TypeId × Value → H) :
    ReturnsInHanded {} Try.checked os 3 .any (Rows.sealNamesSpec.pre6 enc Try.prog Try.f3 Rows.sealNamesRow.domain false) (Rows.sealNamesSpec.post enc Try.prog Try.f3 false true false false) := by
  refine returnsInHanded_of_change_sized (C := Try.checked) own started (by kernel_rfl) Try.func3
    (ChangeSpec.witness6 (enc := enc) (C := Try.checked) false ⟨#[], #[], []⟩ 8 (by kernel_rfl) (by kernel_rfl) (by kernel_rfl) (by kernel_rfl)) ?_
  intro W base args ds gs before hval0 hW hcnd hsz0 _
  have hval : ∀ (j : Nat) t v, Try.f3.params[j]? = some t → args[j]? = some v → Value.okWide Try.prog W .any base t v := hval0
  have hsz : (DataW.weightsEach Try.prog (Try.f3.params.toList ++ Rows.sealNamesSpec.plain.varTypes Try.prog) (ds ++ gs)).all (· ≤ reachBytes) = true := hsz0
  have hW' := hW
  obtain ⟨p, q, hA0, hV, rfl, hfz, hnd⟩ := hW
  have hA : DataW.TrodAll enc Try.prog W 0 (fun _ => true) true Try.f3.params.toList args.toList ds p := hA0
  rw [Try.params3] at hA hval hsz
  obtain ⟨rfl, rfl, rfl⟩ := trodAll_none hA
  obtain ⟨rfl, rfl⟩ := trodVars_none hV
  clear hA0 hval0
  refine (walk W ).mono fun e W' ⟨he, bel⟩ => ?_
  subst he
  exact ⟨_, rfl, _, _, _, [], _, [], hW', trodAll_mk1 (shut_bool Try.underlying4 _), rfl, rfl, bel.frame _, fun h => by cases h⟩

theorem over : Rows.sealNamesRow.holds Try.pinned (OpenSpec.ofChange Rows.sealNamesSpec) :=
  OpenClaim.holds_of_wide 3 Try.f3 rfl rfl rfl rfl rfl rfl rfl ⟨rfl, rfl, rfl, rfl, rfl⟩ rfl rfl rfl rfl rfl (by kernel_rfl) Try.func3 (by kernel_rfl)
    (of_decide_eq_true (by kernel_rfl)) (by unfold Func.isWrapper; first | (rw [if_pos (by decide +kernel)]; kernel_rfl) | (rw [if_neg (by decide +kernel)]; exact ⟨rfl, rfl⟩))
    (fun os started H enc _ => lifted os started H enc)
end Go.Proofs.Ytpkefojkehahlaa.sealNames
namespace Go.Proofs.Ytpkefojkehahlaa
/-- The given statement. -/
theorem sealNames_holds : Rows.SealNamesSaid := sealNames.over
end Go.Proofs.Ytpkefojkehahlaa
