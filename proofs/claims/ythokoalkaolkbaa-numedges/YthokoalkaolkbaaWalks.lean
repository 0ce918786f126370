/-
  What each function of package num, and of the document's answer for it, hands back, as a plain function of the bits; the world is as it was, but for draws at what is no number.
-/
import Derived.Test.YthokoalkaolkbaaRows
import Derived.Test.YthokoalkaolkbaaPlain
import Derived.WalkKit
import Derived.WalkSpells
import Derived.WalkLawsBesides
namespace Go.Proofs.Ythokoalkaolkbaa
open Go.RowKit

theorem wf_u64 {a : Int} (h : (Lit.int .u64 a).wf = true) : 0 ≤ a ∧ a < 18446744073709551616 := by
  have e1 : IntKind.u64.min = 0 := rfl
  have e2 : IntKind.u64.max = 18446744073709551615 := rfl
  simp only [Lit.wf, Bool.and_eq_true, decide_eq_true_eq, e1, e2] at h
  omega

theorem grown_trans {u v w : World} (h : Grown u v) (g : Grown v w) : Grown u w :=
  ⟨World.keptBut_trans h.1 g.1, fun a => (g.2.1 a).trans (h.2.1 a), Nat.le_trans h.2.2 g.2.2⟩

theorem x_from (a : Int) (w : World) : (callFunc 19 #[.int .u64 a]).run Try.prog w = .ok (.value (.float .f64 a.toNat)) w := by
  rw [run_callFunc_extern (e := Extern.MathFloatBits.float64frombits) Try.func19 (by kernel_rfl) (by kernel_rfl) (by kernel_rfl) (by kernel_rfl)]
  rfl
theorem x_bits (n : Nat) (w : World) : (callFunc 26 #[.float .f64 n]).run Try.prog w = .ok (.value (.int .u64 n)) w := by
  rw [run_callFunc_extern (e := Extern.MathFloatBits.float64bits) Try.func26 (by kernel_rfl) (by kernel_rfl) (by kernel_rfl) (by kernel_rfl)]
  rfl

theorem c_isNo (n : Nat) (w : World) :
    Calls Try.prog 22 #[.float .f64 n] w fun e w' => e = .returned (.bool (nanB n)) ∧ w = w' := by
  go_enter Try.func22, Try.ntmps22
  go_wp2
  go_ret
  exact ⟨rfl, rfl⟩

theorem c_canon (a : Int) (w : World) :
    Calls Try.prog 10 #[.int .u64 a] w fun e w' => e = .returned (.int .u64 (canonV a)) ∧ w = w' := by
  have k1 := x_from
  unfold canonV
  by_cases h : nanB a.toNat = true
  · go_enter Try.func10, Try.ntmps10
    go_wp2_with (go_at_call 22; refine (c_isNo _ _).mono ?_; rintro e w' ⟨rfl, rfl⟩)
    go_ret
    exact ⟨by simp, rfl⟩
  · go_enter Try.func10, Try.ntmps10
    go_wp2_with (go_at_call 22; refine (c_isNo _ _).mono ?_; rintro e w' ⟨rfl, rfl⟩)
    go_ret
    exact ⟨by simp, rfl⟩

theorem c_sign (n : Nat) (w : World) :
    Calls Try.prog 23 #[.float .f64 n] w fun e w' => e = .returned (.bool (signB n)) ∧ w = w' := by
  have k1 := x_bits
  go_enter Try.func23, Try.ntmps23
  go_wp2
  go_ret
  exact ⟨rfl, rfl⟩

theorem c_less (a b : Int) (w : World) :
    Calls Try.prog 15 #[.int .u64 a, .int .u64 b] w fun e w' => e = .returned (.bool (lessV a b)) ∧ w = w' := by
  have k1 := x_from
  unfold lessV
  by_cases h : nanB a.toNat = true
  · rw [if_pos h]
    go_enter Try.func15, Try.ntmps15
    go_wp2_with (first | (go_at_call 22; refine (c_isNo _ _).mono ?_; rintro e w' ⟨rfl, rfl⟩) | (go_at_call 23; refine (c_sign _ _).mono ?_; rintro e w' ⟨rfl, rfl⟩))
    go_ret
    exact ⟨rfl, rfl⟩
  · rw [if_neg h]
    have h' : nanB a.toNat = false := by simpa using h
    by_cases g : nanB b.toNat = true
    · rw [if_pos g]
      go_enter Try.func15, Try.ntmps15
      go_wp2_with (first | (go_at_call 22; refine (c_isNo _ _).mono ?_; rintro e w' ⟨rfl, rfl⟩) | (go_at_call 23; refine (c_sign _ _).mono ?_; rintro e w' ⟨rfl, rfl⟩))
      go_ret
      exact ⟨rfl, rfl⟩
    · rw [if_neg g]
      have g' : nanB b.toNat = false := by simpa using g
      by_cases e : (FloatKind.f64.format.order a.toNat b.toNat == some .eq) = true
      · rw [if_pos e]
        cases s : signB a.toNat <;>
        · go_enter Try.func15, Try.ntmps15
          go_wp2_with (first | (go_at_call 22; refine (c_isNo _ _).mono ?_; rintro e w' ⟨rfl, rfl⟩) | (go_at_call 23; refine (c_sign _ _).mono ?_; rintro e w' ⟨rfl, rfl⟩))
          go_ret
          exact ⟨by simp, rfl⟩
      · rw [if_neg e]
        have e' : (FloatKind.f64.format.order a.toNat b.toNat == some .eq) = false := by simpa using e
        go_enter Try.func15, Try.ntmps15
        go_wp2_with (first | (go_at_call 22; refine (c_isNo _ _).mono ?_; rintro e w' ⟨rfl, rfl⟩) | (go_at_call 23; refine (c_sign _ _).mono ?_; rintro e w' ⟨rfl, rfl⟩))
        go_ret
        exact ⟨rfl, rfl⟩

theorem and_sign {c : Int} (h0 : 0 ≤ c) (h1 : c < 18446744073709551616) : (bits .and .u64 c 9223372036854775808 == 0) = decide (c < 9223372036854775808) := by
  obtain ⟨n, rfl⟩ := Int.eq_ofNat_of_zero_le h0
  rw [show (9223372036854775808 : Int) = ((9223372036854775808 : Nat) : Int) from rfl, bits_and_u64_nat n 9223372036854775808 (by omega) (by decide)]
  have e : n &&& 9223372036854775808 = (n / 9223372036854775808 % 2) * 9223372036854775808 := by
    apply Nat.eq_of_testBit_eq
    intro i
    rw [show (9223372036854775808 : Nat) = 2 ^ 63 from rfl, Nat.testBit_and, Nat.testBit_two_pow]
    by_cases g : 63 = i
    · subst g
      rw [decide_eq_true rfl, Bool.and_true, Nat.testBit_eq_decide_div_mod_eq]
      rcases Nat.mod_two_eq_zero_or_one (n / 2 ^ 63) with g | g <;> rw [g] <;> decide
    · rw [decide_eq_false g, Bool.and_false]
      rcases Nat.mod_two_eq_zero_or_one (n / 2 ^ 63) with h | h <;> rw [h]
      · rw [Nat.zero_mul, Nat.zero_testBit]
      · rw [Nat.one_mul, Nat.testBit_two_pow, decide_eq_false g]
  rw [e]
  rw [Bool.eq_iff_iff, beq_iff_eq, decide_eq_true_iff]
  omega

theorem not_u64 {c : Int} (h0 : 0 ≤ c) (h1 : c < 18446744073709551616) : bits .xor .u64 IntKind.u64.max c = 18446744073709551615 - c := by
  obtain ⟨n, rfl⟩ := Int.eq_ofNat_of_zero_le h0
  show IntKind.u64.wrap ((BitVec.ofInt 64 IntKind.u64.max ^^^ BitVec.ofInt 64 (n : Int)).toNat : Int) = _
  have e : BitVec.ofInt 64 IntKind.u64.max = BitVec.allOnes 64 := by decide
  rw [e, BitVec.allOnes_xor, BitVec.toNat_not, ofInt_u64 n (by omega), IntKind.wrap_u64]
  omega

theorem c_key (a : Int) (h0 : 0 ≤ a) (h1 : a < 18446744073709551616) (w : World) :
    Calls Try.prog 16 #[.int .u64 a] w fun e w' => e = .returned (.int .u64 (keyV a)) ∧ w = w' := by
  have hb := canonV_bounds h0 h1
  have hs := and_sign hb.1 hb.2
  have hn := not_u64 hb.1 hb.2
  have hw : ∀ n, IntKind.u64.wrap n = n % 18446744073709551616 := IntKind.wrap_u64
  unfold keyV
  generalize hc : canonV a = c at *
  by_cases g : c < 9223372036854775808
  · rw [decide_eq_true g] at hs
    rw [if_pos g]
    have hx : IntKind.u64.wrap (c + 9223372036854775808) = c + 9223372036854775808 := by rw [hw]; omega
    clear hw h0 h1 hb g hn
    go_enter Try.func16, Try.ntmps16
    go_wp2_with (go_at_call 10; refine (c_canon _ _).mono ?_; rintro e w' ⟨rfl, rfl⟩)
    go_ret
    exact ⟨rfl, rfl⟩
  · rw [decide_eq_false g] at hs
    rw [if_neg g]
    clear hw h0 h1 hb g
    go_enter Try.func16, Try.ntmps16
    go_wp2_with (go_at_call 10; refine (c_canon _ _).mono ?_; rintro e w' ⟨rfl, rfl⟩)
    go_ret
    exact ⟨rfl, rfl⟩

theorem unary_negFloat (n : Nat) : Op.unary .neg (.float .f64 n) = pure (.float .f64 (Op.negFloat .f64 n)) := rfl

theorem c_kind (a : Int) (w : World) :
    Calls Try.prog 11 #[.int .u64 a] w fun e w' => e = .returned (.int .i64 (kindR a.toNat)) ∧ w = w' := by
  have k1 := x_from
  have k2 := unary_negFloat
  unfold kindR
  by_cases h : nanB a.toNat = true
  · rw [if_pos h]
    go_enter Try.func11, Try.ntmps11
    go_wp2_with (first | (go_at_call 22; refine (c_isNo _ _).mono ?_; rintro e w' ⟨rfl, rfl⟩) | (go_at_call 23; refine (c_sign _ _).mono ?_; rintro e w' ⟨rfl, rfl⟩) | go_in)
    go_ret
    exact ⟨rfl, rfl⟩
  · rw [if_neg h]
    have h' : nanB a.toNat = false := by simpa using h
    by_cases e : (FloatKind.f64.format.order a.toNat 0 == some .eq) = true
    · rw [if_pos e]
      cases s : signB a.toNat <;>
      · go_enter Try.func11, Try.ntmps11
        go_wp2_with (first | (go_at_call 22; refine (c_isNo _ _).mono ?_; rintro e w' ⟨rfl, rfl⟩) | (go_at_call 23; refine (c_sign _ _).mono ?_; rintro e w' ⟨rfl, rfl⟩) | go_in)
        go_ret
        exact ⟨rfl, rfl⟩
    · rw [if_neg e]
      have e' : (FloatKind.f64.format.order a.toNat 0 == some .eq) = false := by simpa using e
      by_cases f : (FloatKind.f64.format.order a.toNat 9218868437227405311 == some .gt) = true
      · rw [if_pos f]
        go_enter Try.func11, Try.ntmps11
        go_wp2_with (first | (go_at_call 22; refine (c_isNo _ _).mono ?_; rintro e w' ⟨rfl, rfl⟩) | (go_at_call 23; refine (c_sign _ _).mono ?_; rintro e w' ⟨rfl, rfl⟩) | go_in)
        go_ret
        exact ⟨rfl, rfl⟩
      · rw [if_neg f]
        have f' : (FloatKind.f64.format.order a.toNat 9218868437227405311 == some .gt) = false := by simpa using f
        by_cases g : (FloatKind.f64.format.order (Op.negFloat .f64 a.toNat) 9218868437227405311 == some .gt) = true
        · rw [if_pos g]
          go_enter Try.func11, Try.ntmps11
          go_wp2_with (first | (go_at_call 22; refine (c_isNo _ _).mono ?_; rintro e w' ⟨rfl, rfl⟩) | (go_at_call 23; refine (c_sign _ _).mono ?_; rintro e w' ⟨rfl, rfl⟩) | go_in)
          go_ret
          exact ⟨rfl, rfl⟩
        · rw [if_neg g]
          have g' : (FloatKind.f64.format.order (Op.negFloat .f64 a.toNat) 9218868437227405311 == some .gt) = false := by simpa using g
          go_enter Try.func11, Try.ntmps11
          go_wp2_with (first | (go_at_call 22; refine (c_isNo _ _).mono ?_; rintro e w' ⟨rfl, rfl⟩) | (go_at_call 23; refine (c_sign _ _).mono ?_; rintro e w' ⟨rfl, rfl⟩) | go_in)
          go_ret
          exact ⟨rfl, rfl⟩

theorem c_canonBits (n : Nat) (w : World) :
    Calls Try.prog 20 #[.float .f64 n] w fun e w' => e = .returned (.int .u64 (canonV (n : Int))) ∧ w = w' := by
  have k1 := x_bits
  go_enter Try.func20, Try.ntmps20
  go_wp2_with (go_at_call 10; refine (c_canon _ _).mono ?_; rintro e w' ⟨rfl, rfl⟩)
  go_ret
  exact ⟨rfl, rfl⟩

theorem c_truth (b : Bool) (w : World) :
    Calls Try.prog 21 #[.bool b] w fun e w' => e = .returned (.int .u64 (if b = true then 4607182418800017408 else 0)) ∧ w = w' := by
  have k1 := x_bits
  cases b <;>
  · go_enter Try.func21, Try.ntmps21
    go_wp2
    go_ret
    exact ⟨rfl, rfl⟩

/-- An operation that gives no number draws its bits. -/
theorem run_float_nan {P : Program} (op : BinOp) (hop : op = .add ∨ op = .sub ∨ op = .mul ∨ op = .quo) (t : TypeId) (x y : Nat) (h : floatBits op .f64 x y = none) (w : World) :
    (binOp op t (.float .f64 x) (.float .f64 y)).run P w = .ok (.float .f64 (Question.cut (.nanBits .f64 x y) (w.tape w.drawn (.nanBits .f64 x y)))) w.drew := by
  have hf : (Question.nanBits .f64 x y).forced = false := rfl
  unfold floatBits at h
  rcases hop with rfl | rfl | rfl | rfl <;> simp only at h <;> simp [binOp, Op.floatArith, h, hf]
end Go.Proofs.Ythokoalkaolkbaa
