/-
  More of what is true of the operations' plain functions; no program in sight.
-/
import Derived.Test.YthokoalkaolkbaaPlain
namespace Go.Proofs.Ythokoalkaolkbaa
open Go.RowKit

theorem sum_comm (x y : Ieee.Datum) : x.sum y = y.sum x := by
  cases x <;> cases y <;> simp only [Ieee.Datum.sum]
  case number.number s m i t n j =>
    rw [Int.min_comm j i, Int.add_comm (Ieee.signed t n _), Bool.and_comm t s]
  case infinity.infinity s t =>
    by_cases h : s = t
    · subst h; rfl
    · rw [if_neg h, if_neg (fun g => h g.symm)]

theorem product_comm (x y : Ieee.Datum) : x.product y = y.product x := by
  cases x <;> cases y <;> simp only [Ieee.Datum.product]
  case number.number s m i t n j =>
    rw [Bool.xor_comm t s, Nat.mul_comm n m, Int.add_comm j i]
  case infinity.infinity s t => rw [Bool.xor_comm t s]

theorem add_comm64 (x y : Nat) : floatBits .add .f64 x y = floatBits .add .f64 y x := by
  simp only [floatBits, Ieee.Format.add]
  rw [sum_comm]

theorem mul_comm64 (x y : Nat) : floatBits .mul .f64 x y = floatBits .mul .f64 y x := by
  simp only [floatBits, Ieee.Format.mul]
  rw [product_comm]

theorem do_set (a b : Int) : doV 1 a b = canonV b := by unfold doV; rw [if_pos rfl]
theorem do_add (a b : Int) : doV 2 a b = canonO (floatBits .add .f64 a.toNat b.toNat) := by unfold doV; rw [if_neg (by decide), if_pos rfl]
theorem do_sub (a b : Int) : doV 3 a b = canonO (floatBits .sub .f64 a.toNat b.toNat) := by unfold doV; rw [if_neg (by decide), if_neg (by decide), if_pos rfl]
theorem do_mul (a b : Int) : doV 4 a b = canonO (floatBits .mul .f64 a.toNat b.toNat) := by unfold doV; rw [if_neg (by decide), if_neg (by decide), if_neg (by decide), if_pos rfl]
theorem do_quo (a b : Int) : doV 5 a b = canonO (floatBits .quo .f64 a.toNat b.toNat) := by unfold doV; rw [if_neg (by decide), if_neg (by decide), if_neg (by decide), if_neg (by decide), if_pos rfl]
theorem do_less (a b : Int) : doV 6 a b = if lessV a b = true then 4607182418800017408 else 0 := by
  unfold doV; rw [if_neg (by decide), if_neg (by decide), if_neg (by decide), if_neg (by decide), if_neg (by decide), if_pos rfl]

theorem do_add_comm (a b : Int) : doV 2 a b = doV 2 b a := by rw [do_add, do_add, add_comm64]
theorem do_mul_comm (a b : Int) : doV 4 a b = doV 4 b a := by rw [do_mul, do_mul, mul_comm64]

theorem canon_o (o : Option Nat) : canonV (canonO o) = canonO o := by
  cases o with
  | some r => exact canon_canon _
  | none => show canonV 9221120237041090561 = 9221120237041090561; decide +kernel

/-- Every result is in its one form. -/
theorem canon_do (op a b : Int) : canonV (doV op a b) = doV op a b := by
  unfold doV
  split
  · exact canon_canon _
  split
  · exact canon_o _
  split
  · exact canon_o _
  split
  · exact canon_o _
  split
  · exact canon_o _
  split
  · split <;> decide +kernel
  · exact canon_canon _

/-- The sign turned. -/
theorem read_flip {y : Nat} (h : y < 18446744073709551616) : FloatKind.f64.format.read (Op.negFloat .f64 y) = (FloatKind.f64.format.read y).opposite := by
  rw [negFloat_eq h]
  generalize hz : (if 9223372036854775808 ≤ y then y - 9223372036854775808 else y + 9223372036854775808) = z
  have e1 : z % 9223372036854775808 = y % 9223372036854775808 := by subst hz; split <;> omega
  have e2 : (z / 9223372036854775808 % 2 == 1) = !(y / 9223372036854775808 % 2 == 1) := by
    by_cases g : 9223372036854775808 ≤ y
    · rw [if_pos g] at hz
      have a1 : z / 9223372036854775808 % 2 = 0 := by omega
      have a2 : y / 9223372036854775808 % 2 = 1 := by omega
      rw [a1, a2]; rfl
    · rw [if_neg g] at hz
      have a1 : z / 9223372036854775808 % 2 = 1 := by omega
      have a2 : y / 9223372036854775808 % 2 = 0 := by omega
      rw [a1, a2]; rfl
  have e (n : Nat) : FloatKind.f64.format.read n = (if n % 9223372036854775808 < 4503599627370496 then .number (n / 9223372036854775808 % 2 == 1) (n % 9223372036854775808) (-1074)
    else if n % 9223372036854775808 < 9218868437227405312 then
      .number (n / 9223372036854775808 % 2 == 1) (4503599627370496 + n % 9223372036854775808 % 4503599627370496) (-1074 + (n % 9223372036854775808 / 4503599627370496 - 1 : Nat))
    else if n % 9223372036854775808 = 9218868437227405312 then .infinity (n / 9223372036854775808 % 2 == 1)
    else .nan (n / 9223372036854775808 % 2 == 1) (n % 9223372036854775808 - 9218868437227405312)) := rfl
  rw [e z, e y, e1, e2]
  split
  · rfl
  split
  · rfl
  split
  · rfl
  · rfl

theorem sub_flip {x y : Nat} (h : y < 18446744073709551616) : floatBits .sub .f64 x y = floatBits .add .f64 x (Op.negFloat .f64 y) := by
  simp only [floatBits, Ieee.Format.add, Ieee.Format.sub]
  rw [read_flip h]

theorem add_nan {x y : Nat} (h : 9218868437227405312 < x % 9223372036854775808) : floatBits .add .f64 x y = none := by
  simp only [floatBits, Ieee.Format.add]
  rw [read_nan h]; rfl
theorem mul_nan {x y : Nat} (h : 9218868437227405312 < x % 9223372036854775808) : floatBits .mul .f64 x y = none := by
  simp only [floatBits, Ieee.Format.mul]
  rw [read_nan h]; rfl
theorem sub_nan {x y : Nat} (h : 9218868437227405312 < x % 9223372036854775808) : floatBits .sub .f64 x y = none := by
  simp only [floatBits, Ieee.Format.sub]
  rw [read_nan h]; rfl
theorem quo_nan {x y : Nat} (h : 9218868437227405312 < x % 9223372036854775808) : floatBits .quo .f64 x y = none := by
  simp only [floatBits, Ieee.Format.div]
  rw [read_nan h]; rfl
theorem sub_nan' {x y : Nat} (h : 9218868437227405312 < y % 9223372036854775808) : floatBits .sub .f64 x y = none := by
  simp only [floatBits, Ieee.Format.sub]
  rw [read_nan h]; cases FloatKind.f64.format.read x <;> rfl
theorem quo_nan' {x y : Nat} (h : 9218868437227405312 < y % 9223372036854775808) : floatBits .quo .f64 x y = none := by
  simp only [floatBits, Ieee.Format.div]
  rw [read_nan h]; cases FloatKind.f64.format.read x <;> rfl

/-- What is no number stays none, whichever side it stands on. -/
theorem do_nan {op : Int} (h : 2 ≤ op) (h' : op ≤ 5) (x : Int) : doV op 9221120237041090561 x = 9221120237041090561 := by
  have g : 9218868437227405312 < (9221120237041090561 : Int).toNat % 9223372036854775808 := by decide
  have c : op = 2 ∨ op = 3 ∨ op = 4 ∨ op = 5 := by omega
  rcases c with rfl | rfl | rfl | rfl
  · rw [do_add, add_nan g]; rfl
  · rw [do_sub, sub_nan g]; rfl
  · rw [do_mul, mul_nan g]; rfl
  · rw [do_quo, quo_nan g]; rfl
theorem do_nan' {op : Int} (h : 2 ≤ op) (h' : op ≤ 5) (x : Int) : doV op x 9221120237041090561 = 9221120237041090561 := by
  have g : 9218868437227405312 < (9221120237041090561 : Int).toNat % 9223372036854775808 := by decide
  have c : op = 2 ∨ op = 3 ∨ op = 4 ∨ op = 5 := by omega
  rcases c with rfl | rfl | rfl | rfl
  · rw [do_add_comm, do_add, add_nan g]; rfl
  · rw [do_sub, sub_nan' g]; rfl
  · rw [do_mul_comm, do_mul, mul_nan g]; rfl
  · rw [do_quo, quo_nan' g]; rfl
end Go.Proofs.Ythokoalkaolkbaa
