/-
  Plain mathematics of layer 2: numbers as bytes, fields packed after a shape and unpacked again. It names nothing of the program.
-/
import Derived.WalkKit
namespace Go.Proofs.Ytihdhlciblkbiaa
set_option linter.unusedVariables false
set_option linter.unusedSimpArgs false
set_option maxRecDepth 20000

structure Fld where
  num : Nat
  bytes : List UInt8

def be : Nat → Nat → List UInt8
  | 0, _ => []
  | k + 1, n => UInt8.ofNat (n / 256 ^ k) :: be k n

def valFrom (m : Nat) (bs : List UInt8) : Nat := bs.foldl (fun n b => n * 256 + b.toNat) m
def val (bs : List UInt8) : Nat := valFrom 0 bs

def wdt (c : UInt8) : Option Nat :=
  if c = 49 then some 1 else if c = 50 then some 2 else if c = 52 then some 4 else if c = 56 then some 8 else none

def packF (c : UInt8) (f : Fld) : Option (List UInt8) :=
  if c = 98 then (if f.bytes.length ≤ 1024 then some (be 2 f.bytes.length ++ f.bytes) else none)
  else match wdt c with
    | some k => if f.num < 256 ^ k then some (be k f.num) else none
    | none => none

def packL : List (UInt8 × Fld) → Option (List UInt8)
  | [] => some []
  | p :: l => match packF p.1 p.2 with
    | some x => match packL l with
      | some y => some (x ++ y)
      | none => none
    | none => none

def pack (s : List UInt8) (fs : List Fld) : Option (List UInt8) :=
  if s.length ≤ 200 ∧ fs.length = s.length then packL (s.zip fs) else none

def unpF (c : UInt8) (b : List UInt8) : Option (Fld × List UInt8) :=
  if c = 98 then
    (if 2 ≤ b.length ∧ val (b.take 2) ≤ 1024 ∧ val (b.take 2) ≤ (b.drop 2).length then
      some (⟨0, (b.drop 2).take (val (b.take 2))⟩, (b.drop 2).drop (val (b.take 2))) else none)
  else match wdt c with
    | some k => if k ≤ b.length then some (⟨val (b.take k), []⟩, b.drop k) else none
    | none => none

def unpL : List UInt8 → List UInt8 → Option (List Fld × List UInt8)
  | [], b => some ([], b)
  | c :: s, b => match unpF c b with
    | some (f, r) => match unpL s r with
      | some (fs, r') => some (f :: fs, r')
      | none => none
    | none => none

def unpack (s b : List UInt8) : Option (List Fld) :=
  if s.length ≤ 200 then
    match unpL s b with
    | some (fs, []) => some fs
    | _ => none
  else none

theorem be_length (k n : Nat) : (be k n).length = k := by
  induction k with
  | zero => rfl
  | succ k ih => simp [be, ih]

theorem be_get (k n i : Nat) (h : i < k) : (be k n)[i]? = some (UInt8.ofNat (n / 256 ^ (k - 1 - i))) := by
  induction k generalizing i with
  | zero => omega
  | succ k ih =>
    cases i with
    | zero => simp [be]
    | succ i =>
      simp only [be, List.getElem?_cons_succ]
      rw [ih i (by omega)]
      congr 4
      omega

theorem valFrom_snoc (m : Nat) (bs : List UInt8) (x : UInt8) : valFrom m (bs ++ [x]) = valFrom m bs * 256 + x.toNat := by
  simp [valFrom]

theorem val_snoc (bs : List UInt8) (x : UInt8) : val (bs ++ [x]) = val bs * 256 + x.toNat := valFrom_snoc 0 bs x

theorem valFrom_lt (m : Nat) (bs : List UInt8) : valFrom m bs < (m + 1) * 256 ^ bs.length := by
  induction bs generalizing m with
  | nil => simp [valFrom]
  | cons x bs ih =>
    have h := ih (m * 256 + x.toNat)
    have hx : x.toNat < 256 := x.toNat_lt
    simp only [valFrom, List.foldl_cons, List.length_cons] at *
    refine Nat.lt_of_lt_of_le h ?_
    rw [Nat.pow_succ, Nat.mul_comm (256 ^ bs.length) 256, ← Nat.mul_assoc]
    exact Nat.mul_le_mul_right _ (by omega)

theorem val_lt (bs : List UInt8) : val bs < 256 ^ bs.length := by
  have := valFrom_lt 0 bs
  simpa [val] using this

theorem valFrom_add (m : Nat) (bs : List UInt8) : valFrom m bs = m * 256 ^ bs.length + val bs := by
  induction bs generalizing m with
  | nil => simp [valFrom, val]
  | cons x bs ih =>
    have h1 := ih (m * 256 + x.toNat)
    have h2 := ih (0 * 256 + x.toNat)
    simp only [val, valFrom, List.foldl_cons, List.length_cons] at *
    rw [h1, h2, Nat.pow_succ, Nat.add_mul]
    simp only [Nat.zero_mul, Nat.zero_add]
    rw [Nat.mul_assoc, Nat.mul_comm 256, Nat.add_assoc]

theorem val_cons (x : UInt8) (bs : List UInt8) : val (x :: bs) = x.toNat * 256 ^ bs.length + val bs := by
  have := valFrom_add x.toNat bs
  simp only [val, valFrom, List.foldl_cons, Nat.zero_mul, Nat.zero_add] at *
  exact this

theorem val_be (k n : Nat) (h : n < 256 ^ k) : val (be k n) = n := by
  have key : ∀ k, val (be k n) = n % 256 ^ k := by
    intro k
    induction k with
    | zero => simp [be, val, valFrom, Nat.mod_one]
    | succ k ih =>
      rw [be, val_cons, be_length, ih]
      have e : (UInt8.ofNat (n / 256 ^ k)).toNat = n / 256 ^ k % 256 := by simp
      rw [e, Nat.pow_succ, Nat.mod_mul, Nat.mul_comm, Nat.add_comm]
  rw [key, Nat.mod_eq_of_lt h]

theorem be_val (bs : List UInt8) : be bs.length (val bs) = bs := by
  induction bs with
  | nil => rfl
  | cons x bs ih =>
    have hx : x.toNat < 256 := x.toNat_lt
    have hv := val_lt bs
    have hp : 0 < 256 ^ bs.length := Nat.pow_pos (by decide)
    have beMod : ∀ k j n, j ≤ k → be j (n % 256 ^ k) = be j n := by
      intro k j n hj
      induction j with
      | zero => rfl
      | succ j ihj =>
        rw [be, be, ihj (by omega)]
        congr 1
        apply UInt8.toNat_inj.1
        simp only [UInt8.toNat_ofNat']
        have hk : 256 ^ k = 256 ^ j * 256 ^ (k - j) := by rw [← Nat.pow_add]; congr 1; omega
        rw [hk, Nat.mod_mul_right_div_self]
        have : 256 ^ (k - j) = 256 * 256 ^ (k - j - 1) := by rw [Nat.mul_comm, ← Nat.pow_succ]; congr 1; omega
        rw [this]
        exact Nat.mod_mul_right_mod _ _ _
    rw [List.length_cons, be, val_cons]
    congr 1
    · apply UInt8.toNat_inj.1
      simp only [UInt8.toNat_ofNat']
      rw [Nat.mul_comm, Nat.mul_add_div hp, Nat.div_eq_of_lt hv, Nat.add_zero]
      exact Nat.mod_eq_of_lt hx
    · rw [← beMod bs.length bs.length _ (Nat.le_refl _), Nat.mul_add_mod', Nat.mod_eq_of_lt hv, ih]

theorem packL_snoc (l : List (UInt8 × Fld)) (p : UInt8 × Fld) : packL (l ++ [p]) = match packL l with
    | some x => match packF p.1 p.2 with
      | some y => some (x ++ y)
      | none => none
    | none => none := by
  induction l with
  | nil => simp [packL]
  | cons q l ih =>
    simp only [List.cons_append, packL, ih]
    cases packF q.1 q.2 <;> simp
    cases packL l <;> simp
    cases packF p.1 p.2 <;> simp

theorem packL_append (l m : List (UInt8 × Fld)) : packL (l ++ m) = match packL l with
    | some x => match packL m with
      | some y => some (x ++ y)
      | none => none
    | none => none := by
  induction l with
  | nil => simp [packL]; cases packL m <;> simp
  | cons q l ih =>
    simp only [List.cons_append, packL, ih]
    cases packF q.1 q.2 <;> simp
    cases packL l <;> simp
    cases packL m <;> simp

theorem unpL_append (s t b : List UInt8) : unpL (s ++ t) b = match unpL s b with
    | some (fs, r) => match unpL t r with
      | some (gs, r') => some (fs ++ gs, r')
      | none => none
    | none => none := by
  induction s generalizing b with
  | nil =>
    simp only [List.nil_append, unpL]
    cases unpL t b <;> simp
  | cons c s ih =>
    simp only [List.cons_append, unpL]
    cases h : unpF c b with
    | none => simp
    | some p =>
      obtain ⟨f, r⟩ := p
      simp only [ih]
      cases h2 : unpL s r with
      | none => simp
      | some q =>
        obtain ⟨fs, r'⟩ := q
        simp only
        cases h3 : unpL t r' with
        | none => simp
        | some q => obtain ⟨gs, r''⟩ := q; simp

theorem unpL_snoc (s b : List UInt8) (c : UInt8) : unpL (s ++ [c]) b = match unpL s b with
    | some (fs, r) => match unpF c r with
      | some (f, r') => some (fs ++ [f], r')
      | none => none
    | none => none := by
  rw [unpL_append]
  cases unpL s b with
  | none => simp
  | some q =>
    obtain ⟨fs, r⟩ := q
    simp only [unpL]
    cases unpF c r with
    | none => simp
    | some p => obtain ⟨f, r'⟩ := p; simp

theorem unpL_length {s b : List UInt8} {fs : List Fld} {r : List UInt8} (h : unpL s b = some (fs, r)) : fs.length = s.length := by
  induction s generalizing b fs with
  | nil => simp [unpL] at h; simp [← h.1]
  | cons c s ih =>
    simp only [unpL] at h
    cases h1 : unpF c b with
    | none => simp [h1] at h
    | some p =>
      obtain ⟨f, r1⟩ := p
      simp only [h1] at h
      cases h2 : unpL s r1 with
      | none => simp [h2] at h
      | some q =>
        obtain ⟨gs, r2⟩ := q
        simp only [h2, Option.some.injEq, Prod.mk.injEq] at h
        obtain ⟨rfl, rfl⟩ := h
        simp [ih h2]
end Go.Proofs.Ytihdhlciblkbiaa
