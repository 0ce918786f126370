/-
  Canon: what is no number has one form; the program's and the document's.
-/
import Derived.Test.YtppfcdnhmieejaaChecked
import Ieee.Arith
import Derived.Laws.FloatArith
import Derived.WalkKit
import Derived.WalkSpells
import Derived.WalkLawsBesides
import Derived.Test.YtppfcdnhmieejaaRows
namespace Go.Proofs.Ytppfcdnhmieejaa.Num
set_option linter.unusedVariables false
set_option linter.unusedSimpArgs false
set_option maxRecDepth 20000
open Go.RowKit

/-- Are these the bits of no number? -/
def nanB (n : Nat) : Bool := FloatKind.f64.format.order n n != some .eq
/-- The one form. -/
def canonV (a : Int) : Int := if nanB a.toNat = true then 9221120237041090561 else a
/-! ### The rungs -/
/-- The number of a rung, in units of the least. -/
def val (r : Nat) : Nat := if r < 4503599627370496 then r else (4503599627370496 + r % 4503599627370496) * 2 ^ (r / 4503599627370496 - 1)

theorem val_succ (r : Nat) : val r < val (r + 1) := by
  unfold val
  by_cases h1 : r + 1 < 4503599627370496
  · rw [if_pos h1, if_pos (by omega)]; omega
  · rw [if_neg h1]
    by_cases h2 : r < 4503599627370496
    · rw [if_pos h2]
      obtain rfl : r = 4503599627370495 := by omega
      decide
    · rw [if_neg h2]
      by_cases h3 : r % 4503599627370496 = 4503599627370495
      · have e1 : (r + 1) % 4503599627370496 = 0 := by omega
        have e2 : (r + 1) / 4503599627370496 - 1 = (r / 4503599627370496 - 1) + 1 := by omega
        rw [e1, e2, h3, Nat.pow_succ]
        have : 0 < 2 ^ (r / 4503599627370496 - 1) := Nat.two_pow_pos _
        omega
      · have e1 : (r + 1) % 4503599627370496 = r % 4503599627370496 + 1 := by omega
        have e2 : (r + 1) / 4503599627370496 = r / 4503599627370496 := by omega
        rw [e1, e2]
        exact Nat.mul_lt_mul_of_pos_right (by omega) (Nat.two_pow_pos _)

theorem val_add (r d : Nat) : val r < val (r + d + 1) := by
  induction d with
  | zero => exact val_succ r
  | succ d ih => exact Nat.lt_trans ih (val_succ (r + d + 1))

theorem val_lt {r s : Nat} (h : r < s) : val r < val s := by
  have := val_add r (s - r - 1)
  rwa [show r + (s - r - 1) + 1 = s by omega] at this

theorem val_lt_iff (r s : Nat) : val r < val s ↔ r < s := by
  refine ⟨fun h => ?_, val_lt⟩
  rcases Nat.lt_trichotomy r s with g | g | g
  · exact g
  · subst g; omega
  · have := val_lt g; omega

theorem val_inj (r s : Nat) : val r = val s ↔ r = s := by
  refine ⟨fun h => ?_, fun h => by rw [h]⟩
  rcases Nat.lt_trichotomy r s with g | g | g
  · have := val_lt g; omega
  · exact g
  · have := val_lt g; omega

theorem val_zero : val 0 = 0 := by decide

/-- A number's bits as a whole number that stands as the numbers do. -/
def rank (n : Nat) : Int := if n / 9223372036854775808 % 2 = 1 then -((n % 9223372036854775808 : Nat) : Int) else ((n % 9223372036854775808 : Nat) : Int)

theorem cmp_congr {a b c d : Int} (h1 : a < b ↔ c < d) (h2 : a = b ↔ c = d) : compare a b = compare c d := by
  show (if a < b then Ordering.lt else if a = b then .eq else .gt) = (if c < d then Ordering.lt else if c = d then .eq else .gt)
  simp only [h1, h2]

/-- What the bits are read as: their parts. -/
theorem read_num {n : Nat} (h : n % 9223372036854775808 < 9218868437227405312) :
    ∃ m k, FloatKind.f64.format.read n = .number (n / 9223372036854775808 % 2 == 1) m (-1074 + (k : Nat)) ∧ m * 2 ^ k = val (n % 9223372036854775808) := by
  have e : FloatKind.f64.format.read n = (if n % 9223372036854775808 < 4503599627370496 then .number (n / 9223372036854775808 % 2 == 1) (n % 9223372036854775808) (-1074)
    else if n % 9223372036854775808 < 9218868437227405312 then
      .number (n / 9223372036854775808 % 2 == 1) (4503599627370496 + n % 9223372036854775808 % 4503599627370496) (-1074 + (n % 9223372036854775808 / 4503599627370496 - 1 : Nat))
    else if n % 9223372036854775808 = 9218868437227405312 then .infinity (n / 9223372036854775808 % 2 == 1)
    else .nan (n / 9223372036854775808 % 2 == 1) (n % 9223372036854775808 - 9218868437227405312)) := rfl
  rw [e]
  by_cases h1 : n % 9223372036854775808 < 4503599627370496
  · exact ⟨n % 9223372036854775808, 0, by rw [if_pos h1]; rfl, by unfold val; rw [if_pos h1]; simp⟩
  · exact ⟨_, _, by rw [if_neg h1, if_pos h], by unfold val; rw [if_neg h1]⟩

theorem read_inf {n : Nat} (h : n % 9223372036854775808 = 9218868437227405312) : FloatKind.f64.format.read n = .infinity (n / 9223372036854775808 % 2 == 1) := by
  have e : FloatKind.f64.format.read n = (if n % 9223372036854775808 < 4503599627370496 then .number (n / 9223372036854775808 % 2 == 1) (n % 9223372036854775808) (-1074)
    else if n % 9223372036854775808 < 9218868437227405312 then
      .number (n / 9223372036854775808 % 2 == 1) (4503599627370496 + n % 9223372036854775808 % 4503599627370496) (-1074 + (n % 9223372036854775808 / 4503599627370496 - 1 : Nat))
    else if n % 9223372036854775808 = 9218868437227405312 then .infinity (n / 9223372036854775808 % 2 == 1)
    else .nan (n / 9223372036854775808 % 2 == 1) (n % 9223372036854775808 - 9218868437227405312)) := rfl
  rw [e, if_neg (by omega), if_neg (by omega), if_pos h]

theorem read_nan {n : Nat} (h : 9218868437227405312 < n % 9223372036854775808) : FloatKind.f64.format.read n = .nan (n / 9223372036854775808 % 2 == 1) (n % 9223372036854775808 - 9218868437227405312) := by
  have e : FloatKind.f64.format.read n = (if n % 9223372036854775808 < 4503599627370496 then .number (n / 9223372036854775808 % 2 == 1) (n % 9223372036854775808) (-1074)
    else if n % 9223372036854775808 < 9218868437227405312 then
      .number (n / 9223372036854775808 % 2 == 1) (4503599627370496 + n % 9223372036854775808 % 4503599627370496) (-1074 + (n % 9223372036854775808 / 4503599627370496 - 1 : Nat))
    else if n % 9223372036854775808 = 9218868437227405312 then .infinity (n / 9223372036854775808 % 2 == 1)
    else .nan (n / 9223372036854775808 % 2 == 1) (n % 9223372036854775808 - 9218868437227405312)) := rfl
  rw [e, if_neg (by omega), if_neg (by omega), if_neg (by omega)]

theorem signed_eq (s : Bool) (m k : Nat) : Ieee.signed s m k = if s then -((m * 2 ^ k : Nat) : Int) else ((m * 2 ^ k : Nat) : Int) := by
  unfold Ieee.signed
  rw [Nat.shiftLeft_eq]

theorem signed_scale (s : Bool) (m k c : Nat) : Ieee.signed s m (k + c) = Ieee.signed s m k * ((2 ^ c : Nat) : Int) := by
  rw [signed_eq, signed_eq, Nat.pow_add, ← Nat.mul_assoc]
  cases s <;> simp [Int.natCast_mul, Int.neg_mul]

theorem cmp_scale (s t : Bool) (m n k j c : Nat) : compare (Ieee.signed s m (k + c)) (Ieee.signed t n (j + c)) = compare (Ieee.signed s m k) (Ieee.signed t n j) := by
  rw [signed_scale, signed_scale]
  have hp : (0 : Int) < ((2 ^ c : Nat) : Int) := Int.natCast_pos.2 (Nat.two_pow_pos _)
  refine cmp_congr ⟨fun h => Int.lt_of_mul_lt_mul_right h (Int.le_of_lt hp), fun h => Int.mul_lt_mul_of_pos_right h hp⟩ ⟨fun h => Int.eq_of_mul_eq_mul_right (by omega) h, fun h => by rw [h]⟩

/-- Two finite ones. -/
theorem order_num {x y : Nat} (hx : x % 9223372036854775808 < 9218868437227405312) (hy : y % 9223372036854775808 < 9218868437227405312) :
    FloatKind.f64.format.order x y = some (compare (rank x) (rank y)) := by
  obtain ⟨m, k, e1, v1⟩ := read_num hx
  obtain ⟨n, j, e2, v2⟩ := read_num hy
  unfold Ieee.Format.order
  rw [e1, e2]
  simp only [Ieee.Datum.order, Option.some.injEq]
  have b1 : ((-1074 + (k : Int)) - min (-1074 + (k : Int)) (-1074 + (j : Int))).toNat = k - min k j := by omega
  have b2 : ((-1074 + (j : Int)) - min (-1074 + (k : Int)) (-1074 + (j : Int))).toNat = j - min k j := by omega
  rw [b1, b2, ← cmp_scale _ _ _ _ _ _ (min k j), show k - min k j + min k j = k by omega, show j - min k j + min k j = j by omega, signed_eq, signed_eq, v1, v2]
  have l := val_lt_iff (x % 9223372036854775808) (y % 9223372036854775808)
  have l' := val_lt_iff (y % 9223372036854775808) (x % 9223372036854775808)
  have z1 := val_lt_iff 0 (x % 9223372036854775808)
  have z2 := val_lt_iff 0 (y % 9223372036854775808)
  have i := val_inj (x % 9223372036854775808) (y % 9223372036854775808)
  rw [val_zero] at z1 z2
  unfold rank
  generalize val (x % 9223372036854775808) = vx at *
  generalize val (y % 9223372036854775808) = vy at *
  by_cases s1 : x / 9223372036854775808 % 2 = 1 <;> by_cases s2 : y / 9223372036854775808 % 2 = 1 <;> simp only [s1, s2, beq_self_eq_true, if_true, if_false, beq_iff_eq] <;>
    exact cmp_congr (by omega) (by omega)

/-- Any two numbers. -/
theorem order_rank {x y : Nat} (hx : x % 9223372036854775808 ≤ 9218868437227405312) (hy : y % 9223372036854775808 ≤ 9218868437227405312) :
    FloatKind.f64.format.order x y = some (compare (rank x) (rank y)) := by
  by_cases h1 : x % 9223372036854775808 < 9218868437227405312 <;> by_cases h2 : y % 9223372036854775808 < 9218868437227405312
  · exact order_num h1 h2
  · obtain ⟨m, k, e1, _⟩ := read_num h1
    have e2 := read_inf (n := y) (by omega)
    unfold Ieee.Format.order
    rw [e1, e2]
    simp only [Ieee.Datum.order, Option.some.injEq]
    unfold rank
    show _ = (if _ < _ then Ordering.lt else if _ = _ then .eq else .gt)
    by_cases s1 : x / 9223372036854775808 % 2 = 1 <;> by_cases s2 : y / 9223372036854775808 % 2 = 1 <;> simp only [s1, s2, beq_self_eq_true, if_true, if_false, beq_iff_eq]
    · rw [if_neg (by omega), if_neg (by omega)]
    · rw [if_pos (by omega)]
    · rw [if_neg (by omega), if_neg (by omega)]
    · rw [if_pos (by omega)]
  · obtain ⟨m, k, e1, _⟩ := read_num h2
    have e2 := read_inf (n := x) (by omega)
    unfold Ieee.Format.order
    rw [e1, e2]
    simp only [Ieee.Datum.order, Option.some.injEq]
    unfold rank
    show _ = (if _ < _ then Ordering.lt else if _ = _ then .eq else .gt)
    by_cases s1 : x / 9223372036854775808 % 2 = 1 <;> by_cases s2 : y / 9223372036854775808 % 2 = 1 <;> simp only [s1, s2, beq_self_eq_true, if_true, if_false, beq_iff_eq]
    · rw [if_pos (by omega)]
    · rw [if_pos (by omega)]
    · rw [if_neg (by omega), if_neg (by omega)]
    · rw [if_neg (by omega), if_neg (by omega)]
  · have e1 := read_inf (n := x) (by omega)
    have e2 := read_inf (n := y) (by omega)
    unfold Ieee.Format.order
    rw [e1, e2]
    simp only [Ieee.Datum.order, Option.some.injEq]
    unfold rank
    have x1 : x % 9223372036854775808 = 9218868437227405312 := by omega
    have y1 : y % 9223372036854775808 = 9218868437227405312 := by omega
    rw [x1, y1]
    by_cases s1 : x / 9223372036854775808 % 2 = 1 <;> by_cases s2 : y / 9223372036854775808 % 2 = 1
    · rw [if_pos s1, if_pos s2, s1, s2]; decide
    · rw [if_pos s1, if_neg s2, s1, beq_eq_false_iff_ne.2 s2]; decide
    · rw [if_neg s1, if_pos s2, s2, beq_eq_false_iff_ne.2 s1]; decide
    · rw [if_neg s1, if_neg s2, beq_eq_false_iff_ne.2 s1, beq_eq_false_iff_ne.2 s2]; decide

theorem order_none {x y : Nat} (h : 9218868437227405312 < x % 9223372036854775808 ∨ 9218868437227405312 < y % 9223372036854775808) : FloatKind.f64.format.order x y = none := by
  unfold Ieee.Format.order
  rcases h with h | h
  · rw [read_nan h]; rfl
  · rw [read_nan h]
    cases FloatKind.f64.format.read x <;> rfl

theorem nanB_iff (n : Nat) : nanB n = decide (9218868437227405312 < n % 9223372036854775808) := by
  unfold nanB
  by_cases h : 9218868437227405312 < n % 9223372036854775808
  · rw [order_none (.inl h)]; simp [h]
  · rw [order_rank (by omega) (by omega)]
    have : compare (rank n) (rank n) = .eq := by
      show (if rank n < rank n then Ordering.lt else if rank n = rank n then .eq else .gt) = .eq
      rw [if_neg (by omega), if_pos rfl]
    rw [this]; simp [h]

theorem and_low {a : Int} (h0 : 0 ≤ a) (h1 : a < 18446744073709551616) : bits .and .u64 a 4503599627370495 = a % 4503599627370496 :=
  bits_mask .u64 64 (by decide) (fun n g0 g1 => by rw [IntKind.wrap_u64]; omega) 52 (by decide) a h0 (by omega)

theorem and_exp {a : Int} (h0 : 0 ≤ a) (h1 : a < 18446744073709551616) : bits .and .u64 a 2047 = a % 2048 :=
  bits_mask .u64 64 (by decide) (fun n g0 g1 => by rw [IntKind.wrap_u64]; omega) 11 (by decide) a h0 (by omega)

theorem c_parts (a : Int) (h0 : 0 ≤ a) (h1 : a < 18446744073709551616) (w : World) :
    Calls Try.prog 47 #[.int .u64 a] w fun e w' => e = .returned (.tuple #[.int .u64 (a / 9223372036854775808), .int .u64 (a / 4503599627370496 % 2048), .int .u64 (a % 4503599627370496)]) ∧ w = w' := by
  have k1 := and_low h0 h1
  have k2 := and_exp (a := a / 4503599627370496) (by omega) (by omega)
  clear h0 h1
  go_enter Try.func47, Try.ntmps47
  go_wp2
  go_ret3
  exact ⟨rfl, rfl⟩

theorem nan_parts {a : Int} (h0 : 0 ≤ a) : nanB a.toNat = decide (a / 4503599627370496 % 2048 = 2047 ∧ a % 4503599627370496 ≠ 0) := by
  rw [nanB_iff]
  exact decide_eq_decide.2 (by omega)

theorem c_rcanon (a : Int) (h0 : 0 ≤ a) (h1 : a < 18446744073709551616) (w : World) :
    Calls Try.prog 36 #[.int .u64 a] w fun e w' => e = .returned (.int .u64 (canonV a)) ∧ w = w' := by
  have hp := c_parts a h0 h1
  have hn := nan_parts h0
  unfold canonV
  generalize a / 4503599627370496 % 2048 = e at hp hn
  generalize a % 4503599627370496 = f at hp hn
  generalize a / 9223372036854775808 = s at hp
  clear h0 h1
  by_cases he : e = 2047
  · by_cases hf : f = 0
    · have e1 : (e == 2047) = true := by simpa using he
      have f1 : (f != 0) = false := by simpa using hf
      rw [decide_eq_false (by omega)] at hn
      rw [hn]
      clear hn he hf
      go_enter Try.func36, Try.ntmps36
      go_wp2_with (go_at_call 47; refine (hp _).mono ?_; rintro _ _ ⟨rfl, rfl⟩)
      go_ret
      exact ⟨rfl, rfl⟩
    · have e1 : (e == 2047) = true := by simpa using he
      have f1 : (f != 0) = true := by simpa using hf
      rw [decide_eq_true (by omega)] at hn
      rw [hn]
      clear hn he hf
      go_enter Try.func36, Try.ntmps36
      go_wp2_with (go_at_call 47; refine (hp _).mono ?_; rintro _ _ ⟨rfl, rfl⟩)
      go_ret
      exact ⟨rfl, rfl⟩
  · have e1 : (e == 2047) = false := by simpa using he
    rw [decide_eq_false (by omega)] at hn
    rw [hn]
    clear hn he
    go_enter Try.func36, Try.ntmps36
    go_wp2_with (go_at_call 47; refine (hp _).mono ?_; rintro _ _ ⟨rfl, rfl⟩)
    go_ret
    exact ⟨rfl, rfl⟩

end Go.Proofs.Ytppfcdnhmieejaa.Num
