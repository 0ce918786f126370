/-
  What the document's answer for Do hands back, as a plain function of the operation and the bits.
-/
import Derived.Test.YthokoalkaolkbaaRefs
namespace Go.Proofs.Ythokoalkaolkbaa
open Go.RowKit

theorem bits_lt {op : BinOp} {x y r : Nat} (h : floatBits op .f64 x y = some r) : (r : Int) < 18446744073709551616 := by
  have := floatBits_wf h
  simp only [Lit.wf, decide_eq_true_eq] at this
  omega

theorem c_rdo (op a b : Int) (a0 : 0 ≤ a) (a1 : a < 18446744073709551616) (b0 : 0 ≤ b) (b1 : b < 18446744073709551616) (w : World) :
    Calls Try.prog 14 #[.int .i64 op, .int .u64 a, .int .u64 b] w fun e w' => e = .returned (.int .u64 (doV op a b)) ∧ Grown w w' := by
  have k1 := x_from
  have k0 := x_bits
  unfold doV
  by_cases h1 : op = 1
  · rw [if_pos h1]; subst h1
    go_enter Try.func14, Try.ntmps14
    go_wp2_with (go_at_call 12; refine (c_rcanon _ (by assumption) (by assumption) _).mono ?_; rintro _ _ ⟨rfl, rfl⟩)
    go_ret
    exact ⟨rfl, Grown.refl _⟩
  rw [if_neg h1]
  by_cases h2 : op = 2
  · rw [if_pos h2]; subst h2; clear h1 a0 a1 b0 b1
    cases h : floatBits .add .f64 a.toNat b.toNat with
    | some r =>
      have k2 := fun w => run_float_arith (P := Try.prog) w .add 32 .f64 _ _ r h
      have k3 := c_rcanon (r : Int) (by omega) (bits_lt h)
      clear h
      go_enter Try.func14, Try.ntmps14
      go_wp2_with (go_at_call 12; refine (k3 _).mono ?_; rintro _ _ ⟨rfl, rfl⟩)
      go_ret
      exact ⟨rfl, Grown.refl _⟩
    | none =>
      have k2 := fun w => run_float_nan (P := Try.prog) .add (by simp) 32 _ _ h w
      have k3 := fun t => c_rcanon ((Question.cut (.nanBits .f64 a.toNat b.toNat) t : Nat) : Int) (by omega) (by have := (cut_nan a.toNat b.toNat t).2; omega)
      clear h
      go_enter Try.func14, Try.ntmps14
      go_wp2_with (go_at_call 12; refine (k3 _ _).mono ?_; rintro _ _ ⟨rfl, rfl⟩)
      go_ret
      exact ⟨congrArg (fun x => Ending.returned (.int .u64 x)) (canon_nan (cut_nan _ _ _).1), Grown.drew (Grown.refl _)⟩
  rw [if_neg h2]
  by_cases h3 : op = 3
  · rw [if_pos h3]; subst h3; clear h1 h2 a0 a1 b0 b1
    cases h : floatBits .sub .f64 a.toNat b.toNat with
    | some r =>
      have k2 := fun w => run_float_arith (P := Try.prog) w .sub 32 .f64 _ _ r h
      have k3 := c_rcanon (r : Int) (by omega) (bits_lt h)
      clear h
      go_enter Try.func14, Try.ntmps14
      go_wp2_with (go_at_call 12; refine (k3 _).mono ?_; rintro _ _ ⟨rfl, rfl⟩)
      go_ret
      exact ⟨rfl, Grown.refl _⟩
    | none =>
      have k2 := fun w => run_float_nan (P := Try.prog) .sub (by simp) 32 _ _ h w
      have k3 := fun t => c_rcanon ((Question.cut (.nanBits .f64 a.toNat b.toNat) t : Nat) : Int) (by omega) (by have := (cut_nan a.toNat b.toNat t).2; omega)
      clear h
      go_enter Try.func14, Try.ntmps14
      go_wp2_with (go_at_call 12; refine (k3 _ _).mono ?_; rintro _ _ ⟨rfl, rfl⟩)
      go_ret
      exact ⟨congrArg (fun x => Ending.returned (.int .u64 x)) (canon_nan (cut_nan _ _ _).1), Grown.drew (Grown.refl _)⟩
  rw [if_neg h3]
  by_cases h4 : op = 4
  · rw [if_pos h4]; subst h4; clear h1 h2 h3 a0 a1 b0 b1
    cases h : floatBits .mul .f64 a.toNat b.toNat with
    | some r =>
      have k2 := fun w => run_float_arith (P := Try.prog) w .mul 32 .f64 _ _ r h
      have k3 := c_rcanon (r : Int) (by omega) (bits_lt h)
      clear h
      go_enter Try.func14, Try.ntmps14
      go_wp2_with (go_at_call 12; refine (k3 _).mono ?_; rintro _ _ ⟨rfl, rfl⟩)
      go_ret
      exact ⟨rfl, Grown.refl _⟩
    | none =>
      have k2 := fun w => run_float_nan (P := Try.prog) .mul (by simp) 32 _ _ h w
      have k3 := fun t => c_rcanon ((Question.cut (.nanBits .f64 a.toNat b.toNat) t : Nat) : Int) (by omega) (by have := (cut_nan a.toNat b.toNat t).2; omega)
      clear h
      go_enter Try.func14, Try.ntmps14
      go_wp2_with (go_at_call 12; refine (k3 _ _).mono ?_; rintro _ _ ⟨rfl, rfl⟩)
      go_ret
      exact ⟨congrArg (fun x => Ending.returned (.int .u64 x)) (canon_nan (cut_nan _ _ _).1), Grown.drew (Grown.refl _)⟩
  rw [if_neg h4]
  by_cases h5 : op = 5
  · rw [if_pos h5]; subst h5; clear h1 h2 h3 h4 a0 a1 b0 b1
    cases h : floatBits .quo .f64 a.toNat b.toNat with
    | some r =>
      have k2 := fun w => run_float_arith (P := Try.prog) w .quo 32 .f64 _ _ r h
      have k3 := c_rcanon (r : Int) (by omega) (bits_lt h)
      clear h
      go_enter Try.func14, Try.ntmps14
      go_wp2_with (go_at_call 12; refine (k3 _).mono ?_; rintro _ _ ⟨rfl, rfl⟩)
      go_ret
      exact ⟨rfl, Grown.refl _⟩
    | none =>
      have k2 := fun w => run_float_nan (P := Try.prog) .quo (by simp) 32 _ _ h w
      have k3 := fun t => c_rcanon ((Question.cut (.nanBits .f64 a.toNat b.toNat) t : Nat) : Int) (by omega) (by have := (cut_nan a.toNat b.toNat t).2; omega)
      clear h
      go_enter Try.func14, Try.ntmps14
      go_wp2_with (go_at_call 12; refine (k3 _ _).mono ?_; rintro _ _ ⟨rfl, rfl⟩)
      go_ret
      exact ⟨congrArg (fun x => Ending.returned (.int .u64 x)) (canon_nan (cut_nan _ _ _).1), Grown.drew (Grown.refl _)⟩
  rw [if_neg h5]
  have h1 : (op == 1) = false := by simpa using h1
  have h2 : (op == 2) = false := by simpa using h2
  have h3 : (op == 3) = false := by simpa using h3
  have h4 : (op == 4) = false := by simpa using h4
  have h5 : (op == 5) = false := by simpa using h5
  by_cases h6 : op = 6
  · rw [if_pos h6]; subst h6; clear h1 h2 h3 h4 h5
    cases l : lessV a b <;>
    · go_enter Try.func14, Try.ntmps14
      go_wp2_with (go_at_call 18; refine (c_rless _ _ (by assumption) (by assumption) (by assumption) (by assumption) _).mono ?_; rintro _ _ ⟨rfl, rfl⟩)
      go_ret
      exact ⟨rfl, Grown.refl _⟩
  rw [if_neg h6]
  have h6 : (op == 6) = false := by simpa using h6
  go_enter Try.func14, Try.ntmps14
  go_wp2_with (go_at_call 12; refine (c_rcanon _ (by assumption) (by assumption) _).mono ?_; rintro _ _ ⟨rfl, rfl⟩)
  go_ret
  exact ⟨rfl, Grown.refl _⟩
end Go.Proofs.Ythokoalkaolkbaa
