/-
  NumEdges always returns true: what isn't finite does as IEEE 754 says.
  Conditions: none; the statement is the given one, for every input. The frame is the kit's own shell; the walk and what it leans on are ours.
-/
import Derived.Test.YthokoalkaolkbaaRows
import Derived.Test.YthokoalkaolkbaaDo
import Derived.Test.YthokoalkaolkbaaPlain2
import Derived.WalkSpells
import Derived.WalkLawsBesides
import Derived.WalkKit
import Derived.ProofKit
import Derived.OpenShut
namespace Go.Proofs.Ythokoalkaolkbaa.numEdges
open Go.ChangeShapes Go.WideShapes Go.ChangeAt Go.RowKit
set_option linter.unusedVariables false

theorem own : ownKnob Try.prog.godebug = none := by kernel_rfl

/-- The six numbers that are tried. -/
def six : Value := .agg #[.int .u64 0, .int .u64 9223372036854775808, .int .u64 4607182418800017408, .int .u64 9218868437227405312, .int .u64 18442240474082181120, .int .u64 9221120237041090561]
theorem at0 (w : World) : (Instr.index 30 six (.int .i64 0)).run Try.prog w = .ok (.int .u64 0) w := by kernel_rfl
theorem at1 (w : World) : (Instr.index 30 six (.int .i64 1)).run Try.prog w = .ok (.int .u64 9223372036854775808) w := by kernel_rfl
theorem at2 (w : World) : (Instr.index 30 six (.int .i64 2)).run Try.prog w = .ok (.int .u64 4607182418800017408) w := by kernel_rfl
theorem at3 (w : World) : (Instr.index 30 six (.int .i64 3)).run Try.prog w = .ok (.int .u64 9218868437227405312) w := by kernel_rfl
theorem at4 (w : World) : (Instr.index 30 six (.int .i64 4)).run Try.prog w = .ok (.int .u64 18442240474082181120) w := by kernel_rfl
theorem at5 (w : World) : (Instr.index 30 six (.int .i64 5)).run Try.prog w = .ok (.int .u64 9221120237041090561) w := by kernel_rfl
theorem at_six (j : Nat) (h : j < 6) (w : World) : (Instr.index 30 (.agg #[.int .u64 0, .int .u64 9223372036854775808, .int .u64 4607182418800017408, .int .u64 9218868437227405312, .int .u64 18442240474082181120, .int .u64 9221120237041090561]) (.int .i64 (j : Int))).run Try.prog w = .ok (.int .u64 (([0, 9223372036854775808, 4607182418800017408, 9218868437227405312, 18442240474082181120, 9221120237041090561] : List Int).getD j 0)) w := by
  have c : j = 0 ∨ j = 1 ∨ j = 2 ∨ j = 3 ∨ j = 4 ∨ j = 5 := by omega
  rcases c with rfl | rfl | rfl | rfl | rfl | rfl
  · exact at0 w
  · exact at1 w
  · exact at2 w
  · exact at3 w
  · exact at4 w
  · exact at5 w

theorem walk  (w : World) :
    Calls Try.prog 7 #[] w fun e w' => e = .returned (.bool true) ∧ Grown w w' := by
  have e1 : doV 3 9218868437227405312 9218868437227405312 = 9221120237041090561 := by decide +kernel
  have e2 : doV 4 0 9218868437227405312 = 9221120237041090561 := by decide +kernel
  have e3 : doV 5 0 9223372036854775808 = 9221120237041090561 := by decide +kernel
  have e4 : doV 5 9218868437227405312 9218868437227405312 = 9221120237041090561 := by decide +kernel
  have e5 : doV 5 4607182418800017408 9223372036854775808 = 18442240474082181120 := by decide +kernel
  have e6 : doV 5 4607182418800017408 0 = 9218868437227405312 := by decide +kernel
  have e7 : doV 2 9223372036854775808 0 = 0 := by decide +kernel
  have e8 : doV 2 9223372036854775808 9223372036854775808 = 9223372036854775808 := by decide +kernel
  have e9 : doV 4 9223372036854775808 4607182418800017408 = 9223372036854775808 := by decide +kernel
  have e10 : doV 6 9223372036854775808 0 = 4607182418800017408 := by decide +kernel
  have e11 : doV 6 9218868437227405312 9221120237041090561 = 4607182418800017408 := by decide +kernel
  have e12 : doV 6 9221120237041090561 18442240474082181120 = 0 := by decide +kernel
  go_enter Try.func7, Try.ntmps7
  go_wp2
  go_loopw [1] (fun o wr => ∃ k : Nat, 2 ≤ k ∧ k ≤ 6 ∧ o = .int .i64 k ∧ Grown w wr) (fun o _ => 6 - (intOf o).toNat)
  case atStart => exact ⟨2, by decide, by decide, rfl, Grown.refl _⟩
  case round =>
    obtain ⟨k, hk2, hk6, rfl, hg⟩ := hrel
    by_cases hk5 : (k : Int) ≤ 5
    · clear e1 e2 e3 e4 e5 e6 e7 e8 e9 e10 e11 e12
      go_wp2_with (go_at_call 9; refine (c_do _ _ _ _).mono ?_; rintro _ _ ⟨rfl, hg'⟩)
      go_loopw [11] (fun i wx => ∃ j : Nat, j ≤ 6 ∧ i = .int .i64 j ∧ Grown w wx) (fun i _ => 6 - (intOf i).toNat)
      case atStart => exact ⟨0, by decide, rfl, hg⟩
      case round =>
        obtain ⟨j, hj, rfl, hg1⟩ := hrel
        have d1 := do_nan (op := (k : Int)) (by omega) hk5
        have d2 := do_nan' (op := (k : Int)) (by omega) hk5
        have d3 := fun h => at_six j h
        by_cases hlt : j < 6
        · have d4 := d3 hlt
          clear d3
          go_wp2_with (go_at_call 9; refine (c_do _ _ _ _).mono ?_; rintro _ _ ⟨rfl, hg'⟩)
          go_roundw
          case rel => exact ⟨j + 1, by omega, by go_num, grown_trans hg1 (grown_trans (by assumption) (by assumption))⟩
          case measure => simp [intOf]; omega
        · clear d3
          go_wp2_with (go_at_call 9; refine (c_do _ _ _ _).mono ?_; rintro _ _ ⟨rfl, hg'⟩)
          go_roundw
          case rel => exact ⟨k + 1, by omega, by omega, by go_num, hg1⟩
          case measure => simp [intOf]; omega
    · go_wp2_with (go_at_call 9; refine (c_do _ _ _ _).mono ?_; rintro _ _ ⟨rfl, hg'⟩)
      go_ret
      refine ⟨rfl, ?_⟩
      refine grown_trans hg ?_
      repeat (first | assumption | refine grown_trans (by assumption) ?_)

set_option maxRecDepth 100000 in
theorem lifted (os : Os) (started : os.Started) (H : Type) (enc : TypeId × Value → H) :
    ReturnsInHanded {} Try.checked os 7 .any (Rows.numEdgesSpec.pre6 enc Try.prog Try.f7 Rows.numEdgesRow.domain false) (Rows.numEdgesSpec.post enc Try.prog Try.f7 false true false false) := by
  refine returnsInHanded_of_change (C := Try.checked) own started (by kernel_rfl) Try.func7
    (ChangeSpec.witness6 (enc := enc) (C := Try.checked) false ⟨#[], #[], []⟩ 8 (by kernel_rfl) (by kernel_rfl) (by kernel_rfl) (by kernel_rfl)) ?_
  intro W base args ds gs before hval0 hW hcnd _
  have hval : ∀ (j : Nat) t v, Try.f7.params[j]? = some t → args[j]? = some v → Value.okWide Try.prog W .any base t v := hval0
  have hW' := hW
  obtain ⟨p, q, hA0, hV, rfl, hfz, hnd⟩ := hW
  have hA : DataW.TrodAll enc Try.prog W 0 (fun _ => true) true Try.f7.params.toList args.toList ds p := hA0
  rw [Try.params7] at hA hval
  obtain ⟨rfl, rfl, rfl⟩ := trodAll_none hA
  obtain ⟨rfl, rfl⟩ := trodVars_none hV
  clear hA0 hval0
  simp only [List.append_nil] at hW'
  refine (walk  W).mono fun e W' ⟨he, hg⟩ => ?_
  subst he
  exact ⟨_, rfl, post_of_same (pa := []) (pv := []) hW' (fun _ _ _ => (trodAll_cons_mk (shut_bool Try.underlying4 _) trodAll_mk0)) (fun sp _ => rfl) (fun _ _ => rfl) rfl
    (hg.frame _) hg.2.1 (ok_one (by kernel_rfl) rfl (okWide_bool_mk Try.underlying4 _))⟩

theorem over : Rows.numEdgesRow.holds Try.pinned (OpenSpec.ofChange Rows.numEdgesSpec) :=
  OpenClaim.holds_of_wide 7 Try.f7 rfl rfl rfl rfl rfl rfl rfl ⟨rfl, rfl, rfl, rfl, rfl⟩ rfl rfl rfl rfl rfl (by kernel_rfl) Try.func7 (by kernel_rfl)
    (of_decide_eq_true (by kernel_rfl)) (by unfold Func.isWrapper; first | (rw [if_pos (by decide +kernel)]; kernel_rfl) | (rw [if_neg (by decide +kernel)]; exact ⟨rfl, rfl⟩))
    (fun os started H enc _ => lifted os started H enc)

end Go.Proofs.Ythokoalkaolkbaa.numEdges
namespace Go.Proofs.Ythokoalkaolkbaa
/-- The given statement. -/
theorem numEdges_holds : Rows.NumEdgesSaid := numEdges.over
end Go.Proofs.Ythokoalkaolkbaa
