/-
  Read: what the fields of a label's bytes, of the links' bytes can be; slices.Chunk.
-/
import Derived.Test.YtghlilncdfiojaaThK1S
namespace Go.Proofs.Ytghlilncdfiojaa
set_option linter.unusedVariables false
set_option linter.unusedSimpArgs false
set_option maxRecDepth 20000
open Go.RowKit

theorem unpF_num {c : UInt8} {k : Nat} {bs r : List UInt8} {f : Fld} (h98 : c ≠ 98) (hw : wdt c = some k) (h : unpF c bs = some (f, r)) : ∃ x : Int, f = nF x ∧ 0 ≤ x ∧ x.toNat < 256 ^ k := by
  unfold unpF at h
  rw [if_neg h98, hw] at h
  simp only at h
  split at h
  · rename_i hk
    simp only [Option.some.injEq, Prod.mk.injEq] at h
    obtain ⟨rfl, _⟩ := h
    have hv := val_lt (bs.take k)
    rw [List.length_take, Nat.min_eq_left hk] at hv
    exact ⟨(val (bs.take k) : Nat), rfl, by omega, hv⟩
  · cases h

theorem unpL_pairs {b : UInt8} {k : Nat} (hb : b ≠ 98) (hw : wdt b = some k) : ∀ (m : Nat) {bs r : List UInt8} {fs : List Fld}, unpL (repS 56 b m) bs = some (fs, r) → ∃ xs : List Cat, fs = prF xs ∧ xs.length = m ∧ FitsB k xs
  | 0, bs, r, fs, h => by
    simp only [repS, Lib.repeatL, unpL, Option.some.injEq, Prod.mk.injEq] at h
    exact ⟨[], h.1.symm, rfl, fun i hi => by simp at hi⟩
  | m + 1, bs, r, fs, h => by
    have e : repS 56 b (m + 1) = 56 :: b :: repS 56 b m := rfl
    rw [e] at h
    simp only [unpL] at h
    cases h1 : unpF 56 bs with
    | none => rw [h1] at h; simp at h
    | some p =>
      obtain ⟨f1, r1⟩ := p
      rw [h1] at h
      simp only at h
      cases h2 : unpF b r1 with
      | none => rw [h2] at h; simp at h
      | some p2 =>
        obtain ⟨f2, r2⟩ := p2
        rw [h2] at h
        simp only at h
        cases h3 : unpL (repS 56 b m) r2 with
        | none => rw [h3] at h; simp at h
        | some p3 =>
          obtain ⟨gs, r3⟩ := p3
          rw [h3] at h
          simp only [Option.some.injEq, Prod.mk.injEq] at h
          obtain ⟨rfl, _⟩ := h
          obtain ⟨xs, rfl, hl, hf⟩ := unpL_pairs hb hw m h3
          obtain ⟨x, rfl, x0, x1⟩ := unpF_num (k := 8) (by decide) (by decide) h1
          obtain ⟨y, rfl, y0, y1⟩ := unpF_num hb hw h2
          refine ⟨(x, y) :: xs, rfl, by simp [hl], fun i hi => ?_⟩
          cases i with
          | zero => exact ⟨x0, x1, y0, y1⟩
          | succ i => exact hf i (by simpa using hi)

theorem unpack_lnk {m : Nat} {bs : List UInt8} {fs : List Fld} (h : unpack (repS 56 50 m) bs = some fs) : ∃ xs : List Cat, fs = prF xs ∧ xs.length = m ∧ FitsB 2 xs :=
  unpL_pairs (k := 2) (by decide) (by decide) m (unpack_some h).2
theorem unpack_lab {m : Nat} {bs : List UInt8} {fs : List Fld} (h : unpack (49 :: repS 56 49 m) bs = some fs) : ∃ (d : Int) (xs : List Cat), fs = nF d :: prF xs ∧ xs.length = m ∧ FitsB 1 xs ∧ 0 ≤ d ∧ d < 256 := by
  have h2 := (unpack_some h).2
  simp only [unpL] at h2
  cases h1 : unpF 49 bs with
  | none => rw [h1] at h2; simp at h2
  | some p =>
    obtain ⟨f1, r1⟩ := p
    rw [h1] at h2
    simp only at h2
    cases h3 : unpL (repS 56 49 m) r1 with
    | none => rw [h3] at h2; simp at h2
    | some p3 =>
      obtain ⟨gs, r3⟩ := p3
      rw [h3] at h2
      simp only [Option.some.injEq, Prod.mk.injEq] at h2
      obtain ⟨rfl, _⟩ := h2
      obtain ⟨xs, rfl, hl, hf⟩ := unpL_pairs (k := 1) (by decide) (by decide) m h3
      obtain ⟨x, rfl, x0, x1⟩ := unpF_num (k := 1) (by decide) (by decide) h1
      have x1' : x.toNat < 256 := x1
      exact ⟨x, xs, rfl, hl, hf, x0, by omega⟩

theorem prF_inj {k : Nat} : ∀ {a b : List Cat}, FitsB k a → FitsB k b → prF a = prF b → a = b
  | [], [], _, _, _ => rfl
  | [], d :: b, _, _, h => by cases h
  | c :: a, [], _, _, h => by cases h
  | c :: a, d :: b, ha, hb, h => by
    have e : (nF c.1 :: nF c.2 :: prF a) = (nF d.1 :: nF d.2 :: prF b) := h
    simp only [List.cons.injEq, nF, Fld.mk.injEq, and_true] at e
    obtain ⟨e1, e2, e3⟩ := e
    obtain ⟨a1, a2, a3, a4⟩ := ha 0 (by simp)
    obtain ⟨b1, b2, b3, b4⟩ := hb 0 (by simp)
    have h1 : c.1 = d.1 := tnj e1 a1 b1
    have h2 : c.2 = d.2 := tnj e2 a3 b3
    rw [prF_inj (fits_tail ha) (fits_tail hb) e3, show c = d from Prod.ext h1 h2]

theorem nrm_pairs {b : UInt8} (hb : b ≠ 98) : ∀ xs : List Cat, List.zipWith nrm (repS 56 b xs.length) (prF xs) = prF xs
  | [] => rfl
  | c :: xs => by
    have ih := nrm_pairs hb xs
    show nrm 56 (nF c.1) :: nrm b (nF c.2) :: List.zipWith nrm (repS 56 b xs.length) (prF xs) = nF c.1 :: nF c.2 :: prF xs
    rw [ih]
    simp only [nrm, if_neg hb, show ¬ (56 : UInt8) = 98 by decide, if_false, nF]

/-- What the links' bytes tell is the links. -/
theorem lnk_back {ls : List Cat} (h : LkOk ls) (hl : ls.length ≤ 16) : (pairB 2 ls).length / 10 = ls.length ∧ unpack (repS 56 50 ls.length) (pairB 2 ls) = some (prF ls) := by
  refine ⟨by rw [pairB_length]; omega, ?_⟩
  rw [unpack_pack (pack_lnk h hl), nrm_pairs (by decide)]
theorem lab_back {d : Int} {xs : List Cat} (h : Rgt d xs) : (labB d xs).length / 9 = xs.length ∧ unpack (49 :: repS 56 49 xs.length) (labB d xs) = some (nF d :: prF xs) := by
  refine ⟨by rw [labB_length]; omega, ?_⟩
  rw [unpack_pack (pack_lab h)]
  show some (nrm 49 (nF d) :: List.zipWith nrm (repS 56 49 xs.length) (prF xs)) = _
  rw [nrm_pairs (by decide)]
  rfl

/-- Chunk itself. -/
theorem c_chunk (a : Option Addr) (n c : Nat) (w : World) : Calls Try.prog 90 #[.slice a n c, .int .i64 2] w fun e w' => e = .returned (.func (.func 100) #[] #[.pointer (some ⟨w.heap.size, 0, none⟩), .pointer (some ⟨w.heap.size + 1, 0, none⟩)]) ∧ w' = (w.alloc (.cells #[.slice a n c] 71)).alloc (.cells #[.int .i64 2] 3) := by
  go_enter Try.func90, Try.ntmps90
  go_wp2
  go_ret
  exact ⟨rfl, rfl⟩
end Go.Proofs.Ytghlilncdfiojaa
