/-
  Read: pairs of numbers in memory; what Unpack makes of the links' bytes.
-/
import Derived.Test.YtghlilncdfiojaaThK2S
namespace Go.Proofs.Ytghlilncdfiojaa
set_option linter.unusedVariables false
set_option linter.unusedSimpArgs false
set_option maxRecDepth 20000
open Go.RowKit

/-- Pairs of numbers in memory. -/
def PrM (w : World) (b off : Nat) (xs : List Cat) : Prop := ∀ i (h : i < xs.length), b < w.heap.size ∧ w.cell? ⟨b, off + 2 * i * 2, none⟩ = some (.int .u64 xs[i].1) ∧ w.cell? ⟨b, off + 2 * i * 2 + 2, none⟩ = some (.int .u64 xs[i].2)

theorem PrM.below {w w' : World} {b off : Nat} {xs : List Cat} (h : PrM w b off xs) (hb : Below w.heap.size w w') : PrM w' b off xs := fun i hi => by
  obtain ⟨h0, h1, h2⟩ := h i hi
  exact ⟨Nat.lt_of_lt_of_le h0 hb.size, (hb.cell (p := ⟨b, _, none⟩) h0).trans h1, (hb.cell (p := ⟨b, _, none⟩) h0).trans h2⟩

theorem prF_len : ∀ xs : List Cat, (prF xs).length = 2 * xs.length
  | [] => rfl
  | c :: xs => by
    have := prF_len xs
    show (nF c.1 :: nF c.2 :: prF xs).length = _
    simp only [List.length_cons, this]
    omega
theorem prF_get : ∀ (xs : List Cat) (i : Nat) (h : i < xs.length), (prF xs)[2 * i]? = some (nF xs[i].1) ∧ (prF xs)[2 * i + 1]? = some (nF xs[i].2)
  | c :: xs, 0, _ => ⟨rfl, rfl⟩
  | c :: xs, i + 1, h => by
    have := prF_get xs i (by simpa using h)
    show (nF c.1 :: nF c.2 :: prF xs)[2 * i + 1 + 1]? = _ ∧ (nF c.1 :: nF c.2 :: prF xs)[2 * i + 1 + 1 + 1]? = _
    simpa using this

theorem prs_of {k : Nat} {w : World} {v : Value} {xs : List Cat} (hf : FitsB k xs) (h : FieldsAt w.heap.size w v (prF xs)) (hl : xs.length ≤ 1000) : ∃ b off, Prs2 v xs.length b off ∧ PrM w b off xs := by
  obtain ⟨ao, cap, rfl, hc, hn, hcs⟩ := h
  rw [prF_len] at hc ⊢
  by_cases h0 : xs.length = 0
  · rw [h0]
    exact ⟨0, 0, .inl ⟨ao, cap, rfl, rfl⟩, fun i hi => by omega⟩
  · obtain ⟨b, off, _, rfl, _⟩ := hcs (2 * 0) _ (prF_get xs 0 (by omega)).1
    refine ⟨b, off, .inr ⟨cap, rfl, hc, by omega⟩, fun i hi => ?_⟩
    obtain ⟨b1, o1, _, e1, l1, c1, _⟩ := hcs _ _ (prF_get xs i hi).1
    obtain ⟨b2, o2, _, e2, _, c2, _⟩ := hcs _ _ (prF_get xs i hi).2
    cases e1
    cases e2
    obtain ⟨f1, _, f2, _⟩ := hf i hi
    refine ⟨l1, ?_, ?_⟩
    · rw [c1]
      show some (Value.int .u64 ((xs[i].1.toNat : Nat) : Int)) = _
      rw [Int.toNat_of_nonneg f1]
    · rw [show off + 2 * i * 2 + 2 = off + (2 * i + 1) * 2 by omega, c2]
      show some (Value.int .u64 ((xs[i].2.toNat : Nat) : Int)) = _
      rw [Int.toNat_of_nonneg f2]

/-- The same behind a first number. -/
theorem prs_tail {k : Nat} {w : World} {v : Value} {d : Int} {xs : List Cat} (hd : 0 ≤ d) (hf : FitsB k xs) (h : FieldsAt w.heap.size w v (nF d :: prF xs)) (hl : xs.length ≤ 1000) :
    ∃ b off cap, v = .slice (some ⟨b, off, none⟩) (1 + 2 * xs.length) cap ∧ 1 + 2 * xs.length ≤ cap ∧ b < w.heap.size ∧ w.cell? ⟨b, off, none⟩ = some (.int .u64 d) ∧ PrM w b (off + 2) xs := by
  obtain ⟨ao, cap, rfl, hc, hn, hcs⟩ := h
  rw [List.length_cons, prF_len] at hc ⊢
  obtain ⟨b, off, _, rfl, l0, c0, _⟩ := hcs 0 _ rfl
  refine ⟨b, off, cap, by rw [Nat.add_comm], by omega, l0, ?_, fun i hi => ?_⟩
  · rw [show off = off + 0 * 2 by omega, c0]
    show some (Value.int .u64 ((d.toNat : Nat) : Int)) = _
    rw [Int.toNat_of_nonneg hd]
  · obtain ⟨b1, o1, _, e1, l1, c1, _⟩ := hcs (2 * i + 1) _ (show (nF d :: prF xs)[2 * i + 1]? = _ from (prF_get xs i hi).1)
    obtain ⟨b2, o2, _, e2, _, c2, _⟩ := hcs (2 * i + 1 + 1) _ (show (nF d :: prF xs)[2 * i + 1 + 1]? = _ from (prF_get xs i hi).2)
    cases e1
    cases e2
    obtain ⟨f1, _, f2, _⟩ := hf i hi
    refine ⟨l1, ?_, ?_⟩
    · rw [show off + 2 + 2 * i * 2 = off + (2 * i + 1) * 2 by omega, c1]
      show some (Value.int .u64 ((xs[i].1.toNat : Nat) : Int)) = _
      rw [Int.toNat_of_nonneg f1]
    · rw [show off + 2 + 2 * i * 2 + 2 = off + (2 * i + 1 + 1) * 2 by omega, c2]
      show some (Value.int .u64 ((xs[i].2.toNat : Nat) : Int)) = _
      rw [Int.toNat_of_nonneg f2]

theorem repS_len (a b : UInt8) : ∀ m, (repS a b m).length = 2 * m
  | 0 => rfl
  | m + 1 => by
    have := repS_len a b m
    show (a :: b :: repS a b m).length = _
    simp only [List.length_cons, this]
    omega

/-- What the links' bytes tell: the links, if they are links' bytes. -/
theorem lnk_ex (bs : List UInt8) : ∃ xs : List Cat, FitsB 2 xs ∧ xs.length ≤ 100 ∧ (∀ ls, LkOk ls → ls.length ≤ 16 → bs = pairB 2 ls → xs = ls) ∧
    (unpack (repS 56 50 (bs.length / 10)) bs = some (prF xs) ∨ (unpack (repS 56 50 (bs.length / 10)) bs = none ∧ xs = [])) := by
  cases h : unpack (repS 56 50 (bs.length / 10)) bs with
  | none =>
    refine ⟨[], fun i hi => by simp at hi, by simp, fun ls h1 h2 e => ?_, .inr ⟨rfl, rfl⟩⟩
    obtain ⟨e1, e2⟩ := lnk_back h1 h2
    rw [e, e1, e2] at h
    cases h
  | some fs =>
    have hs := (unpack_some h).1
    obtain ⟨xs, rfl, hl, hf⟩ := unpack_lnk h
    rw [repS_len] at hs
    refine ⟨xs, hf, by omega, fun ls h1 h2 e => ?_, .inl rfl⟩
    obtain ⟨e1, e2⟩ := lnk_back h1 h2
    rw [e, e1, e2] at h
    exact (prF_inj (k := 2) (fits_lk h1) hf (Option.some.inj h)).symm

/-- What a label's bytes tell. -/
theorem lab_ex (bs : List UInt8) : ((unpack (49 :: repS 56 49 (bs.length / 9)) bs = none ∧ ∀ d xs, Rgt d xs → bs ≠ labB d xs) ∨
    ∃ (d : Int) (xs : List Cat), FitsB 1 xs ∧ 0 ≤ d ∧ d < 256 ∧ xs.length ≤ 100 ∧ (∀ d' xs', Rgt d' xs' → bs = labB d' xs' → d = d' ∧ xs = xs') ∧
      unpack (49 :: repS 56 49 (bs.length / 9)) bs = some (nF d :: prF xs)) := by
  cases h : unpack (49 :: repS 56 49 (bs.length / 9)) bs with
  | none =>
    refine .inl ⟨rfl, fun d xs hr e => ?_⟩
    obtain ⟨e1, e2⟩ := lab_back hr
    rw [e, e1, e2] at h
    cases h
  | some fs =>
    have hs := (unpack_some h).1
    obtain ⟨d, xs, rfl, hl, hf, d0, d1⟩ := unpack_lab h
    rw [List.length_cons, repS_len] at hs
    refine .inr ⟨d, xs, hf, d0, d1, by omega, fun d' xs' hr e => ?_, rfl⟩
    obtain ⟨e1, e2⟩ := lab_back hr
    have h9 := h
    rw [e, e1, e2] at h
    have h8 := Option.some.inj h
    simp only [List.cons.injEq, nF, Fld.mk.injEq, and_true] at h8
    exact ⟨(tnj h8.1 (by have := hr.lo; omega) d0).symm, (prF_inj (k := 1) (fits_rgt hr) hf h8.2).symm⟩
end Go.Proofs.Ytghlilncdfiojaa
