/-
  Plain functions on the bits of numbers, and what is true of them; no program in sight.
-/
import Ieee.Arith
import Derived.Laws.FloatArith
import Derived.WalkKit
namespace Go.Proofs.Ythokoalkaolkbaa
open Go.RowKit

/-- Are these the bits of no number? -/
def nanB (n : Nat) : Bool := FloatKind.f64.format.order n n != some .eq
/-- Is the sign set? -/
def signB (n : Nat) : Bool := decide (wrap64 n < 0)
/-- The one form. -/
def canonV (a : Int) : Int := if nanB a.toNat = true then 9221120237041090561 else a
/-- The place. -/
def keyV (a : Int) : Int := if canonV a < 9223372036854775808 then canonV a + 9223372036854775808 else 18446744073709551615 - canonV a
/-- Which stands ahead, as the code asks it. -/
def lessV (a b : Int) : Bool :=
  if nanB a.toNat = true then false else if nanB b.toNat = true then true
  else if (FloatKind.f64.format.order a.toNat b.toNat == some .eq) = true then (signB a.toNat && !signB b.toNat)
  else (FloatKind.f64.format.order a.toNat b.toNat == some .lt)

/-- The one form of what an operation gives. -/
def canonO : Option Nat → Int
  | some r => canonV (r : Int)
  | none => 9221120237041090561
/-- Any operation. -/
def doV (op a b : Int) : Int :=
  if op = 1 then canonV b
  else if op = 2 then canonO (floatBits .add .f64 a.toNat b.toNat)
  else if op = 3 then canonO (floatBits .sub .f64 a.toNat b.toNat)
  else if op = 4 then canonO (floatBits .mul .f64 a.toNat b.toNat)
  else if op = 5 then canonO (floatBits .quo .f64 a.toNat b.toNat)
  else if op = 6 then (if lessV a b = true then 4607182418800017408 else 0)
  else canonV a
/-- What kind, as the code asks it. -/
def kindR (n : Nat) : Int :=
  if nanB n = true then 5
  else if (FloatKind.f64.format.order n 0 == some .eq) = true then (if signB n = true then 2 else 1)
  else if (FloatKind.f64.format.order n 9218868437227405311 == some .gt) = true then 3
  else if (FloatKind.f64.format.order (Op.negFloat .f64 n) 9218868437227405311 == some .gt) = true then 4
  else 0
/-- What kind, by the bits. -/
def kindV (n : Nat) : Int :=
  if 9218868437227405312 < n % 9223372036854775808 then 5
  else if n % 9223372036854775808 = 9218868437227405312 then 3 + (n / 9223372036854775808 : Nat)
  else if n % 9223372036854775808 = 0 then 1 + (n / 9223372036854775808 : Nat)
  else 0

/-! ### The rungs -/
/-- The number of a rung, in units of the least. -/
def val (r : Nat) : Nat := if r < 4503599627370496 then r else (4503599627370496 + r % 4503599627370496) * 2 ^ (r / 4503599627370496 - 1)

theorem val_succ (r : Nat) : val r < val (r + 1) := by
  unfold val
  by_cases h1 : r + 1 < 4503599627370496
  · rw [if_pos h1, if_pos (by omega)]; omega
  · rw [if_neg h1]
    by_cases h2 : r < 4503599627370496
    · rw [if_pos h2]
      obtain rfl : r = 4503599627370495 := by omega
      decide
    · rw [if_neg h2]
      by_cases h3 : r % 4503599627370496 = 4503599627370495
      · have e1 : (r + 1) % 4503599627370496 = 0 := by omega
        have e2 : (r + 1) / 4503599627370496 - 1 = (r / 4503599627370496 - 1) + 1 := by omega
        rw [e1, e2, h3, Nat.pow_succ]
        have : 0 < 2 ^ (r / 4503599627370496 - 1) := Nat.two_pow_pos _
        omega
      · have e1 : (r + 1) % 4503599627370496 = r % 4503599627370496 + 1 := by omega
        have e2 : (r + 1) / 4503599627370496 = r / 4503599627370496 := by omega
        rw [e1, e2]
        exact Nat.mul_lt_mul_of_pos_right (by omega) (Nat.two_pow_pos _)

theorem val_add (r d : Nat) : val r < val (r + d + 1) := by
  induction d with
  | zero => exact val_succ r
  | succ d ih => exact Nat.lt_trans ih (val_succ (r + d + 1))

theorem val_lt {r s : Nat} (h : r < s) : val r < val s := by
  have := val_add r (s - r - 1)
  rwa [show r + (s - r - 1) + 1 = s by omega] at this

theorem val_lt_iff (r s : Nat) : val r < val s ↔ r < s := by
  refine ⟨fun h => ?_, val_lt⟩
  rcases Nat.lt_trichotomy r s with g | g | g
  · exact g
  · subst g; omega
  · have := val_lt g; omega

theorem val_inj (r s : Nat) : val r = val s ↔ r = s := by
  refine ⟨fun h => ?_, fun h => by rw [h]⟩
  rcases Nat.lt_trichotomy r s with g | g | g
  · have := val_lt g; omega
  · exact g
  · have := val_lt g; omega

theorem val_zero : val 0 = 0 := by decide

/-- A number's bits as a whole number that stands as the numbers do. -/
def rank (n : Nat) : Int := if n / 9223372036854775808 % 2 = 1 then -((n % 9223372036854775808 : Nat) : Int) else ((n % 9223372036854775808 : Nat) : Int)

theorem cmp_congr {a b c d : Int} (h1 : a < b ↔ c < d) (h2 : a = b ↔ c = d) : compare a b = compare c d := by
  show (if a < b then Ordering.lt else if a = b then .eq else .gt) = (if c < d then Ordering.lt else if c = d then .eq else .gt)
  simp only [h1, h2]

/-- What the bits are read as: their parts. -/
theorem read_num {n : Nat} (h : n % 9223372036854775808 < 9218868437227405312) :
    ∃ m k, FloatKind.f64.format.read n = .number (n / 9223372036854775808 % 2 == 1) m (-1074 + (k : Nat)) ∧ m * 2 ^ k = val (n % 9223372036854775808) := by
  have e : FloatKind.f64.format.read n = (if n % 9223372036854775808 < 4503599627370496 then .number (n / 9223372036854775808 % 2 == 1) (n % 9223372036854775808) (-1074)
    else if n % 9223372036854775808 < 9218868437227405312 then
      .number (n / 9223372036854775808 % 2 == 1) (4503599627370496 + n % 9223372036854775808 % 4503599627370496) (-1074 + (n % 9223372036854775808 / 4503599627370496 - 1 : Nat))
    else if n % 9223372036854775808 = 9218868437227405312 then .infinity (n / 9223372036854775808 % 2 == 1)
    else .nan (n / 9223372036854775808 % 2 == 1) (n % 9223372036854775808 - 9218868437227405312)) := rfl
  rw [e]
  by_cases h1 : n % 9223372036854775808 < 4503599627370496
  · exact ⟨n % 9223372036854775808, 0, by rw [if_pos h1]; rfl, by unfold val; rw [if_pos h1]; simp⟩
  · exact ⟨_, _, by rw [if_neg h1, if_pos h], by unfold val; rw [if_neg h1]⟩

theorem read_inf {n : Nat} (h : n % 9223372036854775808 = 9218868437227405312) : FloatKind.f64.format.read n = .infinity (n / 9223372036854775808 % 2 == 1) := by
  have e : FloatKind.f64.format.read n = (if n % 9223372036854775808 < 4503599627370496 then .number (n / 9223372036854775808 % 2 == 1) (n % 9223372036854775808) (-1074)
    else if n % 9223372036854775808 < 9218868437227405312 then
      .number (n / 9223372036854775808 % 2 == 1) (4503599627370496 + n % 9223372036854775808 % 4503599627370496) (-1074 + (n % 9223372036854775808 / 4503599627370496 - 1 : Nat))
    else if n % 9223372036854775808 = 9218868437227405312 then .infinity (n / 9223372036854775808 % 2 == 1)
    else .nan (n / 9223372036854775808 % 2 == 1) (n % 9223372036854775808 - 9218868437227405312)) := rfl
  rw [e, if_neg (by omega), if_neg (by omega), if_pos h]

theorem read_nan {n : Nat} (h : 9218868437227405312 < n % 9223372036854775808) : FloatKind.f64.format.read n = .nan (n / 9223372036854775808 % 2 == 1) (n % 9223372036854775808 - 9218868437227405312) := by
  have e : FloatKind.f64.format.read n = (if n % 9223372036854775808 < 4503599627370496 then .number (n / 9223372036854775808 % 2 == 1) (n % 9223372036854775808) (-1074)
    else if n % 9223372036854775808 < 9218868437227405312 then
      .number (n / 9223372036854775808 % 2 == 1) (4503599627370496 + n % 9223372036854775808 % 4503599627370496) (-1074 + (n % 9223372036854775808 / 4503599627370496 - 1 : Nat))
    else if n % 9223372036854775808 = 9218868437227405312 then .infinity (n / 9223372036854775808 % 2 == 1)
    else .nan (n / 9223372036854775808 % 2 == 1) (n % 9223372036854775808 - 9218868437227405312)) := rfl
  rw [e, if_neg (by omega), if_neg (by omega), if_neg (by omega)]

theorem signed_eq (s : Bool) (m k : Nat) : Ieee.signed s m k = if s then -((m * 2 ^ k : Nat) : Int) else ((m * 2 ^ k : Nat) : Int) := by
  unfold Ieee.signed
  rw [Nat.shiftLeft_eq]

theorem signed_scale (s : Bool) (m k c : Nat) : Ieee.signed s m (k + c) = Ieee.signed s m k * ((2 ^ c : Nat) : Int) := by
  rw [signed_eq, signed_eq, Nat.pow_add, ← Nat.mul_assoc]
  cases s <;> simp [Int.natCast_mul, Int.neg_mul]

theorem cmp_scale (s t : Bool) (m n k j c : Nat) : compare (Ieee.signed s m (k + c)) (Ieee.signed t n (j + c)) = compare (Ieee.signed s m k) (Ieee.signed t n j) := by
  rw [signed_scale, signed_scale]
  have hp : (0 : Int) < ((2 ^ c : Nat) : Int) := Int.natCast_pos.2 (Nat.two_pow_pos _)
  refine cmp_congr ⟨fun h => Int.lt_of_mul_lt_mul_right h (Int.le_of_lt hp), fun h => Int.mul_lt_mul_of_pos_right h hp⟩ ⟨fun h => Int.eq_of_mul_eq_mul_right (by omega) h, fun h => by rw [h]⟩

/-- Two finite ones. -/
theorem order_num {x y : Nat} (hx : x % 9223372036854775808 < 9218868437227405312) (hy : y % 9223372036854775808 < 9218868437227405312) :
    FloatKind.f64.format.order x y = some (compare (rank x) (rank y)) := by
  obtain ⟨m, k, e1, v1⟩ := read_num hx
  obtain ⟨n, j, e2, v2⟩ := read_num hy
  unfold Ieee.Format.order
  rw [e1, e2]
  simp only [Ieee.Datum.order, Option.some.injEq]
  have b1 : ((-1074 + (k : Int)) - min (-1074 + (k : Int)) (-1074 + (j : Int))).toNat = k - min k j := by omega
  have b2 : ((-1074 + (j : Int)) - min (-1074 + (k : Int)) (-1074 + (j : Int))).toNat = j - min k j := by omega
  rw [b1, b2, ← cmp_scale _ _ _ _ _ _ (min k j), show k - min k j + min k j = k by omega, show j - min k j + min k j = j by omega, signed_eq, signed_eq, v1, v2]
  have l := val_lt_iff (x % 9223372036854775808) (y % 9223372036854775808)
  have l' := val_lt_iff (y % 9223372036854775808) (x % 9223372036854775808)
  have z1 := val_lt_iff 0 (x % 9223372036854775808)
  have z2 := val_lt_iff 0 (y % 9223372036854775808)
  have i := val_inj (x % 9223372036854775808) (y % 9223372036854775808)
  rw [val_zero] at z1 z2
  unfold rank
  generalize val (x % 9223372036854775808) = vx at *
  generalize val (y % 9223372036854775808) = vy at *
  by_cases s1 : x / 9223372036854775808 % 2 = 1 <;> by_cases s2 : y / 9223372036854775808 % 2 = 1 <;> simp only [s1, s2, beq_self_eq_true, if_true, if_false, beq_iff_eq] <;>
    exact cmp_congr (by omega) (by omega)

/-- Any two numbers. -/
theorem order_rank {x y : Nat} (hx : x % 9223372036854775808 ≤ 9218868437227405312) (hy : y % 9223372036854775808 ≤ 9218868437227405312) :
    FloatKind.f64.format.order x y = some (compare (rank x) (rank y)) := by
  by_cases h1 : x % 9223372036854775808 < 9218868437227405312 <;> by_cases h2 : y % 9223372036854775808 < 9218868437227405312
  · exact order_num h1 h2
  · obtain ⟨m, k, e1, _⟩ := read_num h1
    have e2 := read_inf (n := y) (by omega)
    unfold Ieee.Format.order
    rw [e1, e2]
    simp only [Ieee.Datum.order, Option.some.injEq]
    unfold rank
    show _ = (if _ < _ then Ordering.lt else if _ = _ then .eq else .gt)
    by_cases s1 : x / 9223372036854775808 % 2 = 1 <;> by_cases s2 : y / 9223372036854775808 % 2 = 1 <;> simp only [s1, s2, beq_self_eq_true, if_true, if_false, beq_iff_eq]
    · rw [if_neg (by omega), if_neg (by omega)]
    · rw [if_pos (by omega)]
    · rw [if_neg (by omega), if_neg (by omega)]
    · rw [if_pos (by omega)]
  · obtain ⟨m, k, e1, _⟩ := read_num h2
    have e2 := read_inf (n := x) (by omega)
    unfold Ieee.Format.order
    rw [e1, e2]
    simp only [Ieee.Datum.order, Option.some.injEq]
    unfold rank
    show _ = (if _ < _ then Ordering.lt else if _ = _ then .eq else .gt)
    by_cases s1 : x / 9223372036854775808 % 2 = 1 <;> by_cases s2 : y / 9223372036854775808 % 2 = 1 <;> simp only [s1, s2, beq_self_eq_true, if_true, if_false, beq_iff_eq]
    · rw [if_pos (by omega)]
    · rw [if_pos (by omega)]
    · rw [if_neg (by omega), if_neg (by omega)]
    · rw [if_neg (by omega), if_neg (by omega)]
  · have e1 := read_inf (n := x) (by omega)
    have e2 := read_inf (n := y) (by omega)
    unfold Ieee.Format.order
    rw [e1, e2]
    simp only [Ieee.Datum.order, Option.some.injEq]
    unfold rank
    have x1 : x % 9223372036854775808 = 9218868437227405312 := by omega
    have y1 : y % 9223372036854775808 = 9218868437227405312 := by omega
    rw [x1, y1]
    by_cases s1 : x / 9223372036854775808 % 2 = 1 <;> by_cases s2 : y / 9223372036854775808 % 2 = 1
    · rw [if_pos s1, if_pos s2, s1, s2]; decide
    · rw [if_pos s1, if_neg s2, s1, beq_eq_false_iff_ne.2 s2]; decide
    · rw [if_neg s1, if_pos s2, s2, beq_eq_false_iff_ne.2 s1]; decide
    · rw [if_neg s1, if_neg s2, beq_eq_false_iff_ne.2 s1, beq_eq_false_iff_ne.2 s2]; decide

theorem order_none {x y : Nat} (h : 9218868437227405312 < x % 9223372036854775808 ∨ 9218868437227405312 < y % 9223372036854775808) : FloatKind.f64.format.order x y = none := by
  unfold Ieee.Format.order
  rcases h with h | h
  · rw [read_nan h]; rfl
  · rw [read_nan h]
    cases FloatKind.f64.format.read x <;> rfl

theorem nanB_iff (n : Nat) : nanB n = decide (9218868437227405312 < n % 9223372036854775808) := by
  unfold nanB
  by_cases h : 9218868437227405312 < n % 9223372036854775808
  · rw [order_none (.inl h)]; simp [h]
  · rw [order_rank (by omega) (by omega)]
    have : compare (rank n) (rank n) = .eq := by
      show (if rank n < rank n then Ordering.lt else if rank n = rank n then .eq else .gt) = .eq
      rw [if_neg (by omega), if_pos rfl]
    rw [this]; simp [h]

theorem signB_iff {n : Nat} (h : n < 18446744073709551616) : signB n = decide (9223372036854775808 ≤ n) := by
  unfold signB wrap64
  congr 1
  apply propext
  omega

theorem cmp_eq (a b : Int) : (some (compare a b) == some Ordering.eq) = decide (a = b) := by
  show (some (if a < b then Ordering.lt else if a = b then .eq else .gt) == some Ordering.eq) = _
  split
  · rw [decide_eq_false (by omega)]; rfl
  · split
    · rw [decide_eq_true (by omega)]; rfl
    · rw [decide_eq_false (by omega)]; rfl
theorem cmp_lt (a b : Int) : (some (compare a b) == some Ordering.lt) = decide (a < b) := by
  show (some (if a < b then Ordering.lt else if a = b then .eq else .gt) == some Ordering.lt) = _
  split
  · rw [decide_eq_true (by omega)]; rfl
  · split
    · rw [decide_eq_false (by omega)]; rfl
    · rw [decide_eq_false (by omega)]; rfl
theorem cmp_gt (a b : Int) : (some (compare a b) == some Ordering.gt) = decide (b < a) := by
  show (some (if a < b then Ordering.lt else if a = b then .eq else .gt) == some Ordering.gt) = _
  split
  · rw [decide_eq_false (by omega)]; rfl
  · split
    · rw [decide_eq_false (by omega)]; rfl
    · rw [decide_eq_true (by omega)]; rfl

/-- THE ORDER IS THE PLACES'. -/
theorem less_key {a b : Int} (ha : 0 ≤ a) (ha' : a < 18446744073709551616) (hb : 0 ≤ b) (hb' : b < 18446744073709551616) : lessV a b = decide (keyV a < keyV b) := by
  obtain ⟨x, rfl⟩ := Int.eq_ofNat_of_zero_le ha
  obtain ⟨y, rfl⟩ := Int.eq_ofNat_of_zero_le hb
  unfold lessV keyV canonV
  simp only [Int.toNat_natCast, nanB_iff, decide_eq_true_eq]
  by_cases n1 : 9218868437227405312 < x % 9223372036854775808
  · simp only [if_pos n1]
    symm
    rw [decide_eq_false_iff_not]
    by_cases n2 : 9218868437227405312 < y % 9223372036854775808
    · simp only [if_pos n2]; omega
    · simp only [if_neg n2]
      split <;> split <;> omega
  · simp only [if_neg n1]
    by_cases n2 : 9218868437227405312 < y % 9223372036854775808
    · simp only [if_pos n2]
      symm
      rw [decide_eq_true_iff]
      split <;> split <;> omega
    · simp only [if_neg n2]
      rw [order_rank (by omega) (by omega), cmp_eq, cmp_lt, signB_iff (by omega), signB_iff (by omega)]
      by_cases s1 : (9223372036854775808 : Nat) ≤ x <;> by_cases s2 : (9223372036854775808 : Nat) ≤ y
      · have rx : rank x = 9223372036854775808 - (x : Int) := by unfold rank; rw [if_pos (by omega)]; omega
        have ry : rank y = 9223372036854775808 - (y : Int) := by unfold rank; rw [if_pos (by omega)]; omega
        rw [if_neg (show ¬ (x : Int) < 9223372036854775808 by omega), if_neg (show ¬ (y : Int) < 9223372036854775808 by omega), decide_eq_true s1, decide_eq_true s2]
        by_cases e : rank x = rank y
        · rw [if_pos (decide_eq_true e), decide_eq_false (by omega)]; rfl
        · rw [if_neg (by simpa using e)]; exact decide_eq_decide.2 (by omega)
      · have rx : rank x = 9223372036854775808 - (x : Int) := by unfold rank; rw [if_pos (by omega)]; omega
        have ry : rank y = (y : Int) := by unfold rank; rw [if_neg (by omega)]; omega
        rw [if_neg (show ¬ (x : Int) < 9223372036854775808 by omega), if_pos (show (y : Int) < 9223372036854775808 by omega), decide_eq_true s1, decide_eq_false s2]
        by_cases e : rank x = rank y
        · rw [if_pos (decide_eq_true e), decide_eq_true (by omega)]; rfl
        · rw [if_neg (by simpa using e)]; exact decide_eq_decide.2 (by omega)
      · have rx : rank x = (x : Int) := by unfold rank; rw [if_neg (by omega)]; omega
        have ry : rank y = 9223372036854775808 - (y : Int) := by unfold rank; rw [if_pos (by omega)]; omega
        rw [if_pos (show (x : Int) < 9223372036854775808 by omega), if_neg (show ¬ (y : Int) < 9223372036854775808 by omega), decide_eq_false s1, decide_eq_true s2]
        by_cases e : rank x = rank y
        · rw [if_pos (decide_eq_true e), decide_eq_false (by omega)]; rfl
        · rw [if_neg (by simpa using e)]; exact decide_eq_decide.2 (by omega)
      · have rx : rank x = (x : Int) := by unfold rank; rw [if_neg (by omega)]; omega
        have ry : rank y = (y : Int) := by unfold rank; rw [if_neg (by omega)]; omega
        rw [if_pos (show (x : Int) < 9223372036854775808 by omega), if_pos (show (y : Int) < 9223372036854775808 by omega), decide_eq_false s1, decide_eq_false s2]
        by_cases e : rank x = rank y
        · rw [if_pos (decide_eq_true e), decide_eq_false (by omega)]; rfl
        · rw [if_neg (by simpa using e)]; exact decide_eq_decide.2 (by omega)

theorem canonV_bounds {a : Int} (ha : 0 ≤ a) (ha' : a < 18446744073709551616) : 0 ≤ canonV a ∧ canonV a < 18446744073709551616 := by
  by_cases h : nanB a.toNat = true
  · have e : canonV a = 9221120237041090561 := by unfold canonV; rw [if_pos h]
    omega
  · have e : canonV a = a := by unfold canonV; rw [if_neg h]
    omega

theorem key_canon {a b : Int} (ha : 0 ≤ a) (ha' : a < 18446744073709551616) (hb : 0 ≤ b) (hb' : b < 18446744073709551616) : keyV a = keyV b ↔ canonV a = canonV b := by
  have h1 := canonV_bounds ha ha'
  have h2 := canonV_bounds hb hb'
  unfold keyV
  split <;> split <;> omega

theorem canon_canon (a : Int) : canonV (canonV a) = canonV a := by
  by_cases h : nanB a.toNat = true
  · have e : canonV a = 9221120237041090561 := by unfold canonV; rw [if_pos h]
    have : nanB (9221120237041090561 : Int).toNat = true := by rw [nanB_iff]; decide
    rw [e]; unfold canonV; rw [if_pos this]
  · have e : canonV a = a := by unfold canonV; rw [if_neg h]
    rw [e, e]

/-- What the machine may hand back for no number is no number. -/
theorem cut_nan (x y t : Nat) : nanB (Question.cut (.nanBits .f64 x y) t) = true ∧ Question.cut (.nanBits .f64 x y) t < 18446744073709551616 := by
  have e : Question.cut (.nanBits .f64 x y) t = (t % 2) * 9223372036854775808 + 9218868437227405312 + 1 + (t / 2) % 4503599627370495 := rfl
  have h : (t / 2) % 4503599627370495 < 4503599627370495 := Nat.mod_lt _ (by decide)
  rw [e, nanB_iff, decide_eq_true_iff]
  generalize (t / 2) % 4503599627370495 = c at *
  rcases Nat.mod_two_eq_zero_or_one t with g | g <;> rw [g] <;> omega

theorem canon_nan {n : Nat} (h : nanB n = true) : canonV (n : Int) = 9221120237041090561 := by
  unfold canonV
  rw [Int.toNat_natCast, if_pos h]

theorem flip_eq {m : Nat} (h : m < 2 ^ 63) : m ^^^ 2 ^ 63 = 2 ^ 63 + m := by
  apply Nat.eq_of_testBit_eq
  intro i
  rw [Nat.testBit_xor, Nat.testBit_two_pow]
  rcases Nat.lt_trichotomy i 63 with g | g | g
  · rw [Nat.testBit_two_pow_add_gt g, decide_eq_false (by omega)]; simp
  · subst g; rw [Nat.testBit_two_pow_add_eq, Nat.testBit_lt_two_pow h]; rfl
  · have p : 2 ^ 64 ≤ 2 ^ i := Nat.pow_le_pow_right (by decide) g
    rw [Nat.testBit_lt_two_pow (x := m) (by omega), Nat.testBit_lt_two_pow (x := 2 ^ 63 + m) (by omega), decide_eq_false (by omega)]; rfl

theorem flip_back {m : Nat} (h : m < 2 ^ 63) : (2 ^ 63 + m) ^^^ 2 ^ 63 = m := by
  rw [← flip_eq h, Nat.xor_assoc, Nat.xor_self, Nat.xor_zero]

theorem negFloat_eq {n : Nat} (h : n < 18446744073709551616) : Op.negFloat .f64 n = if 9223372036854775808 ≤ n then n - 9223372036854775808 else n + 9223372036854775808 := by
  have e : Op.negFloat .f64 n = n ^^^ 2 ^ 63 := rfl
  rw [e]
  by_cases g : 9223372036854775808 ≤ n
  · rw [if_pos g]
    obtain ⟨m, rfl⟩ : ∃ m, n = 2 ^ 63 + m := ⟨n - 2 ^ 63, by omega⟩
    rw [flip_back (by omega)]; omega
  · rw [if_neg g, flip_eq (by omega)]; omega

theorem kind_eq {n : Nat} (h : n < 18446744073709551616) : kindR n = kindV n := by
  unfold kindR kindV
  rw [nanB_iff]
  by_cases h1 : 9218868437227405312 < n % 9223372036854775808
  · rw [if_pos (decide_eq_true h1), if_pos h1]
  · rw [if_neg (by simpa using h1), if_neg h1, order_rank (by omega) (by decide), order_rank (by omega) (by decide), signB_iff h, negFloat_eq h, cmp_eq, cmp_gt]
    have r0 : rank 0 = 0 := by decide
    have r1 : rank 9218868437227405311 = 9218868437227405311 := by decide
    rw [r0, r1]
    by_cases g : 9223372036854775808 ≤ n
    · have rx : rank n = 9223372036854775808 - (n : Int) := by unfold rank; rw [if_pos (by omega)]; omega
      have ry : rank (n - 9223372036854775808) = (n : Int) - 9223372036854775808 := by unfold rank; rw [if_neg (by omega)]; omega
      rw [if_pos g, order_rank (by omega) (by decide), cmp_gt, rx, ry, r1]
      simp only [decide_eq_true_eq]
      split
      · rw [if_neg (by omega), if_pos (by omega)]; omega
      · rw [if_neg (by omega)]
        split
        · rw [if_pos (by omega)]; omega
        · rw [if_neg (by omega), if_neg (by omega)]
    · have rx : rank n = (n : Int) := by unfold rank; rw [if_neg (by omega)]; omega
      have ry : rank (n + 9223372036854775808) = - (n : Int) := by unfold rank; rw [if_pos (by omega)]; omega
      rw [if_neg g, order_rank (by omega) (by decide), cmp_gt, rx, ry, r1]
      simp only [decide_eq_true_eq]
      split
      · rw [if_neg (by omega), if_pos (by omega)]; omega
      · split
        · rw [if_pos (by omega)]; omega
        · rw [if_neg (by omega), if_neg (by omega), if_neg (by omega)]
end Go.Proofs.Ythokoalkaolkbaa
