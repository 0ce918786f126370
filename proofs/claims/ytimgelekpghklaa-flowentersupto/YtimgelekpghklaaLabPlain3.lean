/-
  A list sorted block by block, plainly; what a stable sort leaves. It names nothing of the program.
-/
import Derived.Test.YtimgelekpghklaaLabPlain2
namespace Go.Proofs.Ytimgelekpghklaa
set_option linter.unusedVariables false
set_option linter.unusedSimpArgs false
set_option maxRecDepth 20000

/-- Sorted in blocks of s, as far as n. -/
def Blk (s n : Nat) (xs : List Cat) : Prop := ∀ i j, i < j → j < n → i / s = j / s → ky xs i ≤ ky xs j

theorem Blk.srt {s n : Nat} {xs : List Cat} (h : Blk s n xs) (hs : 0 < s) (q : Nat) {b : Nat} (hb : b ≤ n) (hq : b ≤ (q + 1) * s) : Srt xs (q * s) b := by
  intro i j h1 h2 h3
  refine h i j h2 (by omega) ?_
  have e1 : i / s = q := Nat.div_eq_of_lt_le (by simpa using h1) (by omega)
  have e2 : j / s = q := Nat.div_eq_of_lt_le (Nat.le_trans h1 (by omega)) (by omega)
  rw [e1, e2]

/-- A wider block is sorted: those ahead of it stay, those behind it too. -/
theorem Blk.one {s n : Nat} {xs ys : List Cat} (h : Blk s n xs) : ∀ i j, i < j → j < n → i / s = j / s → ky xs i ≤ ky xs j := h

/-- Merged as far as a, in blocks of 2 s; behind it in blocks of s. -/
structure Mrg (s n a : Nat) (xs : List Cat) : Prop where
  lo : ∀ i j, i < j → j < a → i / (2 * s) = j / (2 * s) → ky xs i ≤ ky xs j
  hi : ∀ i j, a ≤ i → i < j → j < n → i / s = j / s → ky xs i ≤ ky xs j

theorem Mrg.start {s n : Nat} {xs : List Cat} (h : Blk s n xs) : Mrg s n 0 xs := ⟨fun i j h1 h2 => by omega, fun i j _ h1 h2 h3 => h i j h1 h2 h3⟩

theorem div_in {q s i : Nat} (h1 : q * s ≤ i) (h2 : i < (q + 1) * s) : i / s = q := Nat.div_eq_of_lt_le (by simpa using h1) h2

theorem Mrg.left {s n q : Nat} {xs : List Cat} (h : Mrg s n (q * (2 * s)) xs) (hs : 0 < s) {b : Nat} (hb : b ≤ n) (hq : b ≤ q * (2 * s) + s) : Srt xs (q * (2 * s)) b := by
  intro i j h1 h2 h3
  have e : q * (2 * s) = (2 * q) * s := by rw [← Nat.mul_assoc, Nat.mul_comm q 2]
  have e2 : (2 * q + 1) * s = q * (2 * s) + s := by rw [e, Nat.succ_mul]
  refine h.hi i j h1 h2 (by omega) ?_
  rw [div_in (q := 2 * q) (by omega) (by omega), div_in (q := 2 * q) (by omega) (by omega)]

theorem Mrg.right {s n q : Nat} {xs : List Cat} (h : Mrg s n (q * (2 * s)) xs) (hs : 0 < s) {b : Nat} (hb : b ≤ n) (hq : b ≤ q * (2 * s) + 2 * s) : Srt xs (q * (2 * s) + s) b := by
  intro i j h1 h2 h3
  have e : q * (2 * s) = (2 * q) * s := by rw [← Nat.mul_assoc, Nat.mul_comm q 2]
  have e2 : (2 * q + 1) * s = q * (2 * s) + s := by rw [e, Nat.succ_mul]
  have e3 : (2 * q + 1 + 1) * s = q * (2 * s) + 2 * s := by rw [Nat.succ_mul, e2]; omega
  refine h.hi i j (by omega) h2 (by omega) ?_
  rw [div_in (q := 2 * q + 1) (by omega) (by omega), div_in (q := 2 * q + 1) (by omega) (by omega)]

/-- One more is merged. -/
theorem Mrg.step {s n q b : Nat} {xs ys : List Cat} (h : Mrg s n (q * (2 * s)) xs) (hb : b ≤ n) (hq : b = (q + 1) * (2 * s)) (hn : n ≤ xs.length) (k : Sw (q * (2 * s)) b xs ys) (hst : Srt ys (q * (2 * s)) b) : Mrg s n ((q + 1) * (2 * s)) ys := by
  have e : (q + 1) * (2 * s) = q * (2 * s) + 2 * s := Nat.succ_mul _ _
  refine ⟨fun i j h1 h2 h3 => ?_, fun i j h1 h2 h3 h4 => ?_⟩
  · by_cases hj : j < q * (2 * s)
    · rw [ky_eq (k.2.1 i (.inl (by omega))), ky_eq (k.2.1 j (.inl hj))]
      exact h.lo i j h1 hj h3
    · by_cases hi : q * (2 * s) ≤ i
      · exact hst i j hi h1 (by omega)
      · have e1 : j / (2 * s) = q := div_in (by omega) (by omega)
        have e2 : i / (2 * s) < q := Nat.div_lt_of_lt_mul (by rw [Nat.mul_comm]; omega)
        omega
  · rw [ky_eq (k.2.1 i (.inr (by omega))), ky_eq (k.2.1 j (.inr (by omega)))]
    exact h.hi i j (by omega) h2 h3 h4

/-- The last ones, fewer than a block. -/
theorem Mrg.last {s n q : Nat} {xs ys : List Cat} (h : Mrg s n (q * (2 * s)) xs) (hq : n < (q + 1) * (2 * s)) (k : Sw (q * (2 * s)) n xs ys) (hst : Srt ys (q * (2 * s)) n) : Blk (2 * s) n ys := by
  intro i j h1 h2 h3
  by_cases hj : j < q * (2 * s)
  · rw [ky_eq (k.2.1 i (.inl (by omega))), ky_eq (k.2.1 j (.inl hj))]
    exact h.lo i j h1 hj h3
  · by_cases hi : q * (2 * s) ≤ i
    · exact hst i j hi h1 h2
    · have e1 : j / (2 * s) = q := div_in (by omega) (by omega)
      have e2 : i / (2 * s) < q := Nat.div_lt_of_lt_mul (by rw [Nat.mul_comm]; omega)
      omega

/-- Nothing is left to be merged. -/
theorem Mrg.none {s n q : Nat} {xs : List Cat} (h : Mrg s n (q * (2 * s)) xs) (hs : 0 < s) (hq : n ≤ q * (2 * s) + s) : Blk (2 * s) n xs := by
  refine h.last (by rw [Nat.succ_mul]; omega) (Sw.refl _ _ _) ?_
  exact h.left hs (Nat.le_refl _) hq

theorem Blk.all {s n : Nat} {xs : List Cat} (h : Blk s n xs) (hs : n ≤ s) : Srt xs 0 n := by
  intro i j _ h1 h2
  refine h i j h1 h2 ?_
  rw [Nat.div_eq_of_lt (by omega), Nat.div_eq_of_lt (by omega)]

/-- The first blocks, by insertion. -/
structure Fst (s a : Nat) (xs : List Cat) : Prop where
  lo : ∀ i j, i < j → j < a → i / s = j / s → ky xs i ≤ ky xs j

theorem Fst.step {s q b : Nat} {xs ys : List Cat} (h : Fst s (q * s) xs) (hb : b ≤ (q + 1) * s) (k : Sw (q * s) b xs ys) (hst : Srt ys (q * s) b) : Fst s b ys := by
  refine ⟨fun i j h1 h2 h3 => ?_⟩
  by_cases hj : j < q * s
  · rw [ky_eq (k.2.1 i (.inl (by omega))), ky_eq (k.2.1 j (.inl hj))]
    exact h.lo i j h1 hj h3
  · by_cases hi : q * s ≤ i
    · exact hst i j hi h1 h2
    · have e1 : j / s = q := div_in (by omega) (by omega)
      have e2 : i / s < q := Nat.div_lt_of_lt_mul (by rw [Nat.mul_comm]; omega)
      omega

/-- Sorted, those of one key in their order. -/
def Stab (xs ys : List Cat) : Prop := ys.length = xs.length ∧ (∀ i j, i < j → j < ys.length → ky ys i ≤ ky ys j) ∧ ∀ id : Int, ys.filter (fun c => c.1 == id) = xs.filter (fun c => c.1 == id)

theorem stab_of {xs ys : List Cat} (h : Sw 0 xs.length xs ys) (k : Srt ys 0 xs.length) : Stab xs ys := by
  refine ⟨h.1, fun i j h1 h2 => k i j (Nat.zero_le _) h1 (by rw [← h.1]; exact h2), fun id => ?_⟩
  have := h.2.2 id
  rwa [seg_all xs rfl, seg_all ys h.1.symm] at this
end Go.Proofs.Ytimgelekpghklaa
