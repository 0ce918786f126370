/-
  NumTotal returns true for all bits: Less is one order of all, and Key says the same.
  Conditions: none; the statement is the given one, for every input. The frame is the kit's own shell; the walk and what it leans on are ours.
-/
import Derived.Test.YthokoalkaolkbaaRows
import Derived.Test.YthokoalkaolkbaaRefs
import Derived.WalkSpells
import Derived.WalkLawsBesides
import Derived.WalkKit
import Derived.ProofKit
import Derived.OpenShut
namespace Go.Proofs.Ythokoalkaolkbaa.numTotal
open Go.ChangeShapes Go.WideShapes Go.ChangeAt Go.RowKit
set_option linter.unusedVariables false

theorem own : ownKnob Try.prog.godebug = none := by kernel_rfl

theorem tot (a b c : Int) (ha : 0 ≤ a) (ha' : a < 18446744073709551616) (hb : 0 ≤ b) (hb' : b < 18446744073709551616) (hc : 0 ≤ c) (hc' : c < 18446744073709551616) :
    (lessV a b = true ∧ lessV b a = false ∧ (canonV a == canonV b) = false ∧ (keyV a == keyV b) = false ∧ (lessV b c = false ∨ lessV a c = true))
    ∨ (lessV a b = false ∧ lessV b a = true ∧ (canonV a == canonV b) = false ∧ (keyV a == keyV b) = false)
    ∨ (lessV a b = false ∧ lessV b a = false ∧ (canonV a == canonV b) = true ∧ (keyV a == keyV b) = true) := by
  have k := key_canon ha ha' hb hb'
  rw [less_key ha ha' hb hb', less_key hb hb' ha ha', less_key hb hb' hc hc', less_key ha ha' hc hc']
  simp only [decide_eq_true_eq, decide_eq_false_iff_not, beq_eq_false_iff_ne, beq_iff_eq]
  generalize keyV a = x at *
  generalize keyV b = y at *
  generalize keyV c = z at *
  omega

theorem walk (a0 : Int) (a1 : Int) (a2 : Int) (w0 : (Lit.int .u64 a0).wf = true) (w1 : (Lit.int .u64 a1).wf = true) (w2 : (Lit.int .u64 a2).wf = true) (w : World) :
    Calls Try.prog 8 #[.int .u64 a0, .int .u64 a1, .int .u64 a2] w fun e w' => e = .returned (.bool true) ∧ Grown w w' := by
  have h0 : 0 ≤ a0 := (wf_u64 w0).1
  have h1 : a0 < 18446744073709551616 := (wf_u64 w0).2
  have g0 : 0 ≤ a1 := (wf_u64 w1).1
  have g1 : a1 < 18446744073709551616 := (wf_u64 w1).2
  have k : lessV 0 4607182418800017408 = true := by decide +kernel
  have k' : lessV 4607182418800017408 4607182418800017408 = false := by decide +kernel
  have t := tot a0 a1 a2 h0 h1 g0 g1 (wf_u64 w2).1 (wf_u64 w2).2
  rcases t with ⟨t1, t2, t3, t4, t5 | t5⟩ | ⟨t1, t2, t3, t4⟩ | ⟨t1, t2, t3, t4⟩
  · go_enter Try.func8, Try.ntmps8
    go_wp2_with (first | (go_at_call 15; refine (c_less _ _ _).mono ?_; rintro _ _ ⟨rfl, rfl⟩) | (go_at_call 10; refine (c_canon _ _).mono ?_; rintro _ _ ⟨rfl, rfl⟩) | (go_at_call 16; refine (c_key _ (by assumption) (by assumption) _).mono ?_; rintro _ _ ⟨rfl, rfl⟩))
    go_ret
    exact ⟨rfl, Grown.refl _⟩
  · go_enter Try.func8, Try.ntmps8
    go_wp2_with (first | (go_at_call 15; refine (c_less _ _ _).mono ?_; rintro _ _ ⟨rfl, rfl⟩) | (go_at_call 10; refine (c_canon _ _).mono ?_; rintro _ _ ⟨rfl, rfl⟩) | (go_at_call 16; refine (c_key _ (by assumption) (by assumption) _).mono ?_; rintro _ _ ⟨rfl, rfl⟩))
    all_goals (go_ret; exact ⟨rfl, Grown.refl _⟩)
  · go_enter Try.func8, Try.ntmps8
    go_wp2_with (first | (go_at_call 15; refine (c_less _ _ _).mono ?_; rintro _ _ ⟨rfl, rfl⟩) | (go_at_call 10; refine (c_canon _ _).mono ?_; rintro _ _ ⟨rfl, rfl⟩) | (go_at_call 16; refine (c_key _ (by assumption) (by assumption) _).mono ?_; rintro _ _ ⟨rfl, rfl⟩))
    go_ret
    exact ⟨rfl, Grown.refl _⟩
  · go_enter Try.func8, Try.ntmps8
    go_wp2_with (first | (go_at_call 15; refine (c_less _ _ _).mono ?_; rintro _ _ ⟨rfl, rfl⟩) | (go_at_call 10; refine (c_canon _ _).mono ?_; rintro _ _ ⟨rfl, rfl⟩) | (go_at_call 16; refine (c_key _ (by assumption) (by assumption) _).mono ?_; rintro _ _ ⟨rfl, rfl⟩))
    go_ret
    exact ⟨rfl, Grown.refl _⟩

set_option maxRecDepth 100000 in
theorem lifted (os : Os) (started : os.Started) (H : Type) (enc : TypeId × Value → H) :
    ReturnsInHanded {} Try.checked os 8 .any (Rows.numTotalSpec.pre6 enc Try.prog Try.f8 Rows.numTotalRow.domain false) (Rows.numTotalSpec.post enc Try.prog Try.f8 false true false false) := by
  refine returnsInHanded_of_change (C := Try.checked) own started (by kernel_rfl) Try.func8
    (ChangeSpec.witness6 (enc := enc) (C := Try.checked) false ⟨#[], #[.int .u64 0, .int .u64 0, .int .u64 0], []⟩ 8 (by kernel_rfl) (by kernel_rfl) (by kernel_rfl) (by kernel_rfl)) ?_
  intro W base args ds gs before hval0 hW hcnd _
  have hval : ∀ (j : Nat) t v, Try.f8.params[j]? = some t → args[j]? = some v → Value.okWide Try.prog W .any base t v := hval0
  have hW' := hW
  obtain ⟨p, q, hA0, hV, rfl, hfz, hnd⟩ := hW
  have hA : DataW.TrodAll enc Try.prog W 0 (fun _ => true) true Try.f8.params.toList args.toList ds p := hA0
  rw [Try.params8] at hA hval
  obtain ⟨v0, vs0, d0, ds0, p0, q0, hargs, rfl, rfl, h0, r0⟩ := trodAll_cons hA
  obtain ⟨v1, vs1, d1, ds1, p1, q1, rfl, rfl, rfl, h1, r1⟩ := trodAll_cons r0
  obtain ⟨v2, vs2, d2, ds2, p2, q2, rfl, rfl, rfl, h2, r2⟩ := trodAll_cons r1
  obtain ⟨rfl, rfl, rfl⟩ := trodAll_nil r2
  obtain rfl : args = #[v0, v1, v2] := by cases args; simp_all
  obtain ⟨rfl, rfl⟩ := trodVars_none hV
  obtain ⟨a0, rfl, rfl, rfl, w0⟩ := open_int Try.underlying22 (hval 0 22 v0 rfl rfl) h0
  obtain ⟨a1, rfl, rfl, rfl, w1⟩ := open_int Try.underlying22 (hval 1 22 v1 rfl rfl) h1
  obtain ⟨a2, rfl, rfl, rfl, w2⟩ := open_int Try.underlying22 (hval 2 22 v2 rfl rfl) h2
  clear hA0 hval0
  simp only [List.append_nil] at hW'
  refine (walk a0 a1 a2 w0 w1 w2 W).mono fun e W' ⟨he, hg⟩ => ?_
  subst he
  exact ⟨_, rfl, post_of_same (pa := []) (pv := []) hW' (fun _ _ _ => (trodAll_cons_mk (shut_bool Try.underlying4 _) trodAll_mk0)) (fun sp _ => (trodAll_cons_mk (shut_int Try.underlying22 w0) (trodAll_cons_mk (shut_int Try.underlying22 w1) (trodAll_cons_mk (shut_int Try.underlying22 w2) trodAll_mk0)))) (fun _ _ => rfl) rfl
    (hg.frame _) hg.2.1 (ok_one (by kernel_rfl) rfl (okWide_bool_mk Try.underlying4 _))⟩

theorem over : Rows.numTotalRow.holds Try.pinned (OpenSpec.ofChange Rows.numTotalSpec) :=
  OpenClaim.holds_of_wide 8 Try.f8 rfl rfl rfl rfl rfl rfl rfl ⟨rfl, rfl, rfl, rfl, rfl⟩ rfl rfl rfl rfl rfl (by kernel_rfl) Try.func8 (by kernel_rfl)
    (of_decide_eq_true (by kernel_rfl)) (by unfold Func.isWrapper; first | (rw [if_pos (by decide +kernel)]; kernel_rfl) | (rw [if_neg (by decide +kernel)]; exact ⟨rfl, rfl⟩))
    (fun os started H enc _ => lifted os started H enc)

end Go.Proofs.Ythokoalkaolkbaa.numTotal
namespace Go.Proofs.Ythokoalkaolkbaa
/-- The given statement. -/
theorem numTotal_holds : Rows.NumTotalSaid := numTotal.over
end Go.Proofs.Ythokoalkaolkbaa
