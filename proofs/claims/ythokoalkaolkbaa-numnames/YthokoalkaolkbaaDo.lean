/-
  What Do hands back, as a plain function of the operation and the bits, in the program and in the document's answer.
-/
import Derived.Test.YthokoalkaolkbaaWalks
namespace Go.Proofs.Ythokoalkaolkbaa
open Go.RowKit

theorem c_do (op a b : Int) (w : World) :
    Calls Try.prog 9 #[.int .i64 op, .int .u64 a, .int .u64 b] w fun e w' => e = .returned (.int .u64 (doV op a b)) ∧ Grown w w' := by
  have k1 := x_from
  unfold doV
  by_cases h1 : op = 1
  · rw [if_pos h1]; subst h1
    go_enter Try.func9, Try.ntmps9
    go_wp2_with (go_at_call 10; refine (c_canon _ _).mono ?_; rintro _ _ ⟨rfl, rfl⟩)
    go_ret
    exact ⟨rfl, Grown.refl _⟩
  rw [if_neg h1]
  by_cases h2 : op = 2
  · rw [if_pos h2]; subst h2; clear h1
    cases h : floatBits .add .f64 a.toNat b.toNat with
    | some r =>
      have k2 := fun t w => run_float_arith (P := Try.prog) w .add t .f64 _ _ r h
      go_enter Try.func9, Try.ntmps9
      go_wp2_with (go_at_call 20; refine (c_canonBits _ _).mono ?_; rintro _ _ ⟨rfl, rfl⟩)
      go_ret
      exact ⟨rfl, Grown.refl _⟩
    | none =>
      have k2 := fun t w => run_float_nan (P := Try.prog) .add (by simp) t _ _ h w
      go_enter Try.func9, Try.ntmps9
      go_wp2_with (go_at_call 20; refine (c_canonBits _ _).mono ?_; rintro _ _ ⟨rfl, rfl⟩)
      go_ret
      exact ⟨congrArg (fun x => Ending.returned (.int .u64 x)) (canon_nan (cut_nan _ _ _).1), Grown.drew (Grown.refl _)⟩
  rw [if_neg h2]
  by_cases h3 : op = 3
  · rw [if_pos h3]; subst h3; clear h1 h2
    cases h : floatBits .sub .f64 a.toNat b.toNat with
    | some r =>
      have k2 := fun t w => run_float_arith (P := Try.prog) w .sub t .f64 _ _ r h
      go_enter Try.func9, Try.ntmps9
      go_wp2_with (go_at_call 20; refine (c_canonBits _ _).mono ?_; rintro _ _ ⟨rfl, rfl⟩)
      go_ret
      exact ⟨rfl, Grown.refl _⟩
    | none =>
      have k2 := fun t w => run_float_nan (P := Try.prog) .sub (by simp) t _ _ h w
      go_enter Try.func9, Try.ntmps9
      go_wp2_with (go_at_call 20; refine (c_canonBits _ _).mono ?_; rintro _ _ ⟨rfl, rfl⟩)
      go_ret
      exact ⟨congrArg (fun x => Ending.returned (.int .u64 x)) (canon_nan (cut_nan _ _ _).1), Grown.drew (Grown.refl _)⟩
  rw [if_neg h3]
  by_cases h4 : op = 4
  · rw [if_pos h4]; subst h4; clear h1 h2 h3
    cases h : floatBits .mul .f64 a.toNat b.toNat with
    | some r =>
      have k2 := fun t w => run_float_arith (P := Try.prog) w .mul t .f64 _ _ r h
      go_enter Try.func9, Try.ntmps9
      go_wp2_with (go_at_call 20; refine (c_canonBits _ _).mono ?_; rintro _ _ ⟨rfl, rfl⟩)
      go_ret
      exact ⟨rfl, Grown.refl _⟩
    | none =>
      have k2 := fun t w => run_float_nan (P := Try.prog) .mul (by simp) t _ _ h w
      go_enter Try.func9, Try.ntmps9
      go_wp2_with (go_at_call 20; refine (c_canonBits _ _).mono ?_; rintro _ _ ⟨rfl, rfl⟩)
      go_ret
      exact ⟨congrArg (fun x => Ending.returned (.int .u64 x)) (canon_nan (cut_nan _ _ _).1), Grown.drew (Grown.refl _)⟩
  rw [if_neg h4]
  by_cases h5 : op = 5
  · rw [if_pos h5]; subst h5; clear h1 h2 h3 h4
    cases h : floatBits .quo .f64 a.toNat b.toNat with
    | some r =>
      have k2 := fun t w => run_float_arith (P := Try.prog) w .quo t .f64 _ _ r h
      go_enter Try.func9, Try.ntmps9
      go_wp2_with (go_at_call 20; refine (c_canonBits _ _).mono ?_; rintro _ _ ⟨rfl, rfl⟩)
      go_ret
      exact ⟨rfl, Grown.refl _⟩
    | none =>
      have k2 := fun t w => run_float_nan (P := Try.prog) .quo (by simp) t _ _ h w
      go_enter Try.func9, Try.ntmps9
      go_wp2_with (go_at_call 20; refine (c_canonBits _ _).mono ?_; rintro _ _ ⟨rfl, rfl⟩)
      go_ret
      exact ⟨congrArg (fun x => Ending.returned (.int .u64 x)) (canon_nan (cut_nan _ _ _).1), Grown.drew (Grown.refl _)⟩
  rw [if_neg h5]
  by_cases h6 : op = 6
  · rw [if_pos h6]; subst h6; clear h1 h2 h3 h4 h5
    go_enter Try.func9, Try.ntmps9
    go_wp2_with (first | (go_at_call 15; refine (c_less _ _ _).mono ?_; rintro _ _ ⟨rfl, rfl⟩) | (go_at_call 21; refine (c_truth _ _).mono ?_; rintro _ _ ⟨rfl, rfl⟩))
    all_goals (go_ret; exact ⟨rfl, Grown.refl _⟩)
  rw [if_neg h6]
  have h1 : (op == 1) = false := by simpa using h1
  have h2 : (op == 2) = false := by simpa using h2
  have h3 : (op == 3) = false := by simpa using h3
  have h4 : (op == 4) = false := by simpa using h4
  have h5 : (op == 5) = false := by simpa using h5
  have h6 : (op == 6) = false := by simpa using h6
  go_enter Try.func9, Try.ntmps9
  go_wp2_with (go_at_call 10; refine (c_canon _ _).mono ?_; rintro _ _ ⟨rfl, rfl⟩)
  go_ret
  exact ⟨rfl, Grown.refl _⟩
end Go.Proofs.Ythokoalkaolkbaa
