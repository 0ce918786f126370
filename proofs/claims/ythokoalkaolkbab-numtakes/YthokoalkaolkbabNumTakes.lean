/-
  NumTakes returns true for all bits: taking away is adding with the sign turned, and comparing tells 1 just if the one stands ahead.
  Conditions: none; the statement is the given one, for every input. The frame is the kit's own shell; the walk and what it leans on are ours.
-/
import Derived.Test.YthokoalkaolkbabRows
import Derived.Test.YthokoalkaolkbabDo
import Derived.Test.YthokoalkaolkbabPlain2
import Derived.WalkSpells
import Derived.WalkLawsBesides
import Derived.WalkKit
import Derived.ProofKit
import Derived.OpenShut
namespace Go.Proofs.Ythokoalkaolkbab.numTakes
open Go.ChangeShapes Go.WideShapes Go.ChangeAt Go.RowKit
set_option linter.unusedVariables false

theorem own : ownKnob Try.prog.godebug = none := by kernel_rfl

theorem walk (a0 : Int) (a1 : Int) (w0 : (Lit.int .u64 a0).wf = true) (w1 : (Lit.int .u64 a1).wf = true) (w : World) :
    Calls Try.prog 4 #[.int .u64 a0, .int .u64 a1] w fun e w' => e = .returned (.bool true) ∧ Grown w w' := by
  have h0 := (wf_u64 w1).1
  have h1 := (wf_u64 w1).2
  have k1 : doV 3 4611686018427387904 4607182418800017408 = 4607182418800017408 := by decide +kernel
  have k2 : bits .xor .u64 a1 9223372036854775808 = ((Op.negFloat .f64 a1.toNat : Nat) : Int) := by
    obtain ⟨n, rfl⟩ := Int.eq_ofNat_of_zero_le h0
    rw [show (9223372036854775808 : Int) = ((9223372036854775808 : Nat) : Int) from rfl, bits_xor_u64_nat n 9223372036854775808 (by omega) (by decide)]
    rfl
  have k3 : doV 2 a0 ((Op.negFloat .f64 a1.toNat : Nat) : Int) = doV 3 a0 a1 := by
    rw [do_add, do_sub, Int.toNat_natCast, sub_flip (by omega)]
  have k4 := do_nan (op := 4) (by decide) (by decide) a1
  have k5 : kindR (9221120237041090561 : Int).toNat = 5 := by decide +kernel
  have k6 : kindR 9221120237041090561 = 5 := by decide +kernel
  have k7 := do_less a0 a1
  cases l : lessV a0 a1
  · rw [l] at k7
    go_enter Try.func4, Try.ntmps4
    go_wp2_with (first | (go_at_call 5; refine (c_do _ _ _ _).mono ?_; rintro _ _ ⟨rfl, hg⟩) | (go_at_call 7; refine (c_less _ _ _).mono ?_; rintro _ _ ⟨rfl, rfl⟩) | (go_at_call 8; refine (c_kind _ _).mono ?_; rintro _ _ ⟨rfl, rfl⟩))
    go_ret
    refine ⟨rfl, ?_⟩
    repeat (first | assumption | refine grown_trans (by assumption) ?_)
  · rw [l] at k7
    go_enter Try.func4, Try.ntmps4
    go_wp2_with (first | (go_at_call 5; refine (c_do _ _ _ _).mono ?_; rintro _ _ ⟨rfl, hg⟩) | (go_at_call 7; refine (c_less _ _ _).mono ?_; rintro _ _ ⟨rfl, rfl⟩) | (go_at_call 8; refine (c_kind _ _).mono ?_; rintro _ _ ⟨rfl, rfl⟩))
    go_ret
    refine ⟨rfl, ?_⟩
    repeat (first | assumption | refine grown_trans (by assumption) ?_)

set_option maxRecDepth 100000 in
theorem lifted (os : Os) (started : os.Started) (H : Type) (enc : TypeId × Value → H) :
    ReturnsInHanded {} Try.checked os 4 .any (Rows.numTakesSpec.pre6 enc Try.prog Try.f4 Rows.numTakesRow.domain false) (Rows.numTakesSpec.post enc Try.prog Try.f4 false true false false) := by
  refine returnsInHanded_of_change (C := Try.checked) own started (by kernel_rfl) Try.func4
    (ChangeSpec.witness6 (enc := enc) (C := Try.checked) false ⟨#[], #[.int .u64 0, .int .u64 0], []⟩ 8 (by kernel_rfl) (by kernel_rfl) (by kernel_rfl) (by kernel_rfl)) ?_
  intro W base args ds gs before hval0 hW hcnd _
  have hval : ∀ (j : Nat) t v, Try.f4.params[j]? = some t → args[j]? = some v → Value.okWide Try.prog W .any base t v := hval0
  have hW' := hW
  obtain ⟨p, q, hA0, hV, rfl, hfz, hnd⟩ := hW
  have hA : DataW.TrodAll enc Try.prog W 0 (fun _ => true) true Try.f4.params.toList args.toList ds p := hA0
  rw [Try.params4] at hA hval
  obtain ⟨v0, vs0, d0, ds0, p0, q0, hargs, rfl, rfl, h0, r0⟩ := trodAll_cons hA
  obtain ⟨v1, vs1, d1, ds1, p1, q1, rfl, rfl, rfl, h1, r1⟩ := trodAll_cons r0
  obtain ⟨rfl, rfl, rfl⟩ := trodAll_nil r1
  obtain rfl : args = #[v0, v1] := by cases args; simp_all
  obtain ⟨rfl, rfl⟩ := trodVars_none hV
  obtain ⟨a0, rfl, rfl, rfl, w0⟩ := open_int Try.underlying22 (hval 0 22 v0 rfl rfl) h0
  obtain ⟨a1, rfl, rfl, rfl, w1⟩ := open_int Try.underlying22 (hval 1 22 v1 rfl rfl) h1
  clear hA0 hval0
  simp only [List.append_nil] at hW'
  refine (walk a0 a1 w0 w1 W).mono fun e W' ⟨he, hg⟩ => ?_
  subst he
  exact ⟨_, rfl, post_of_same (pa := []) (pv := []) hW' (fun _ _ _ => (trodAll_cons_mk (shut_bool Try.underlying4 _) trodAll_mk0)) (fun sp _ => (trodAll_cons_mk (shut_int Try.underlying22 w0) (trodAll_cons_mk (shut_int Try.underlying22 w1) trodAll_mk0))) (fun _ _ => rfl) rfl
    (hg.frame _) hg.2.1 (ok_one (by kernel_rfl) rfl (okWide_bool_mk Try.underlying4 _))⟩

theorem over : Rows.numTakesRow.holds Try.pinned (OpenSpec.ofChange Rows.numTakesSpec) :=
  OpenClaim.holds_of_wide 4 Try.f4 rfl rfl rfl rfl rfl rfl rfl ⟨rfl, rfl, rfl, rfl, rfl⟩ rfl rfl rfl rfl rfl (by kernel_rfl) Try.func4 (by kernel_rfl)
    (of_decide_eq_true (by kernel_rfl)) (by unfold Func.isWrapper; first | (rw [if_pos (by decide +kernel)]; kernel_rfl) | (rw [if_neg (by decide +kernel)]; exact ⟨rfl, rfl⟩))
    (fun os started H enc _ => lifted os started H enc)

end Go.Proofs.Ythokoalkaolkbab.numTakes
namespace Go.Proofs.Ythokoalkaolkbab
/-- The given statement. -/
theorem numTakes_holds : Rows.NumTakesSaid := numTakes.over
end Go.Proofs.Ythokoalkaolkbab
