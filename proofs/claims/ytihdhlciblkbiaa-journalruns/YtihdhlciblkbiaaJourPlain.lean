/-
  A journal, plainly: what Add does to a disk, what Scan finds there.
-/
import Derived.Test.YtihdhlciblkbiaaDiskW7
import Derived.Test.YtihdhlciblkbiaaSealPlain
namespace Go.Proofs.Ytihdhlciblkbiaa
set_option linter.unusedVariables false
set_option linter.unusedSimpArgs false
set_option maxRecDepth 20000
open Go.RowKit

/-- How many sectors so many bytes need. -/
def secsN (n : Nat) : Nat := (n + 127) / 128
/-- The bytes of a record that sector k gets. -/
def segN (xs : List UInt8) (k : Nat) : List UInt8 := (xs.drop (k * 128)).take 128
/-- The same, filled up with zeros. -/
def secAt (xs : List UInt8) (k : Nat) : List UInt8 := segN xs k ++ List.replicate (128 - (segN xs k).length) 0
theorem segN_le (xs : List UInt8) (k : Nat) : (segN xs k).length ≤ 128 := by unfold segN; rw [List.length_take]; omega
theorem secAt_length (xs : List UInt8) (k : Nat) : (secAt xs k).length = 128 := by
  have := segN_le xs k
  unfold secAt
  rw [List.length_append, List.length_replicate]
  omega

/-- The first error ends it. -/
def stepE (r : Dk × Int) (f : Dk → Dk × Int) : Dk × Int := if r.2 = 0 then f r.1 else r
def Dk.wr (i : Int) (s : List UInt8) (D : Dk) : Dk × Int := (D.write i s, D.werr i)
def Dk.fl (D : Dk) : Dk × Int := (D.flush, D.ferr)
/-- k sectors of a record written. -/
def Dk.wrs (D : Dk) (a : Nat) (xs : List UInt8) : Nat → Dk × Int
  | 0 => (D, 0)
  | k + 1 => stepE (D.wrs a xs k) (Dk.wr ((a + k : Nat) : Int) (secAt xs k))
def hdBody (xs : List UInt8) : List UInt8 := be 2 xs.length ++ be 4 (crcAdd 0#32 xs).toNat
def hdMark (gen cnt : Nat) : Nat := gen * 256 + (cnt + 1)
def hdSec (gen cnt : Nat) (xs : List UInt8) : List UInt8 := mkS (hdMark gen cnt) (hdBody xs)
def headN (f cnt : Nat) : Nat := f + cnt * 4
def Dk.addP (D : Dk) (f gen cnt : Nat) (xs : List UInt8) : Dk × Int :=
  stepE (stepE (stepE (D.wrs (headN f cnt + 1) xs (secsN xs.length)) Dk.fl) (Dk.wr (headN f cnt : Int) (hdSec gen cnt xs))) Dk.fl
/-- One more record: the disk, and the answer. -/
def Dk.add (D : Dk) (f gen cnt : Nat) (xs : List UInt8) : Dk × Int :=
  if 384 < xs.length then (D, 63) else if 4 ≤ cnt then (D, 62) else D.addP f gen cnt xs
def addN (cnt : Nat) (e : Int) : Nat := if e = 0 then cnt + 1 else cnt

theorem hdBody_length (xs : List UInt8) : (hdBody xs).length = 6 := by simp [hdBody, be_length]
theorem hdMark_lt {gen cnt : Nat} (hg : gen < 281474976710656) (hc : cnt ≤ 4) : hdMark gen cnt < 18446744073709551616 := by unfold hdMark; omega
theorem hd_ok (gen cnt : Nat) (xs : List UInt8) : okS (hdMark gen cnt) (hdBody xs) := ⟨by unfold hdMark; omega, by rw [hdBody_length]; omega⟩
theorem hdSec_eq (gen cnt : Nat) (xs : List UInt8) : hdSec gen cnt xs = sealOf (hdMark gen cnt) (hdBody xs) := by unfold hdSec mkS; rw [if_pos (hd_ok gen cnt xs)]
theorem hdSec_length (gen cnt : Nat) (xs : List UInt8) : (hdSec gen cnt xs).length = 128 := mkS_length _ _
theorem secsN_le {n : Nat} (h : n ≤ 384) : secsN n ≤ 3 := by unfold secsN; omega

/-! ### What is read -/
def rdN (s : List UInt8) : Nat := val ((oB s).take 2)
def rdS (s : List UInt8) : Nat := val ((oB s).drop 2)
/-- k sectors from a on. -/
def Dk.bytesAt (D : Dk) (a : Nat) : Nat → List UInt8
  | 0 => []
  | k + 1 => D.bytesAt a k ++ D.read ((a + k : Nat) : Int)
def hdOk (gen cnt : Nat) (s : List UInt8) : Prop := (openS s).isSome = true ∧ oM s = hdMark gen cnt ∧ (oB s).length = 6 ∧ rdN s ≤ 384
def Dk.recB (D : Dk) (f cnt n : Nat) : List UInt8 := (D.bytesAt (headN f cnt + 1) (secsN n)).take n
instance (gen cnt : Nat) (s : List UInt8) : Decidable (hdOk gen cnt s) := by unfold hdOk; infer_instance
/-- The record in a place, if any. -/
def Dk.recAt (D : Dk) (f gen cnt : Nat) : Option (List UInt8) :=
  if hdOk gen cnt (D.read (headN f cnt : Int)) ∧ (crcAdd 0#32 (D.recB f cnt (rdN (D.read (headN f cnt : Int))))).toNat = rdS (D.read (headN f cnt : Int)) then some (D.recB f cnt (rdN (D.read (headN f cnt : Int)))) else none
def Dk.scanF (D : Dk) (f gen : Nat) : Nat → Nat → List (List UInt8)
  | 0, _ => []
  | n + 1, p => match D.recAt f gen p with
    | none => []
    | some b => b :: D.scanF f gen n (p + 1)
/-- The records of a generation. -/
def Dk.scan (D : Dk) (f gen : Nat) : List (List UInt8) := D.scanF f gen 4 0

theorem scanF_stop (D : Dk) (f gen : Nat) : ∀ (l : List (List UInt8)) (n p : Nat), l.length ≤ n → (∀ i x, l[i]? = some x → D.recAt f gen (p + i) = some x) → (l.length = n ∨ D.recAt f gen (p + l.length) = none) → D.scanF f gen n p = l
  | [], 0, _, _, _, _ => rfl
  | [], n + 1, p, _, _, h => by
    rcases h with h | h
    · simp at h
    · unfold Dk.scanF
      rw [show D.recAt f gen p = none from h]
  | x :: l, 0, _, h, _, _ => by simp at h
  | x :: l, n + 1, p, hl, hi, h => by
    have h0 := hi 0 x rfl
    unfold Dk.scanF
    rw [show D.recAt f gen p = some x from h0]
    show x :: _ = _
    rw [scanF_stop D f gen l n (p + 1) (by simpa using hl) (fun i y hy => by rw [show p + 1 + i = p + (i + 1) by omega]; exact hi (i + 1) y (by simpa using hy)) (by
      rcases h with h | h
      · exact .inl (by simpa using h)
      · exact .inr (by rw [show p + 1 + l.length = p + (l.length + 1) by omega]; exact h))]

theorem scan_stop {D : Dk} {f gen : Nat} {l : List (List UInt8)} (hl : l.length ≤ 4) (hi : ∀ i x, l[i]? = some x → D.recAt f gen i = some x) (h : l.length = 4 ∨ D.recAt f gen l.length = none) : D.scan f gen = l :=
  scanF_stop D f gen l 4 0 hl (fun i x hx => by rw [Nat.zero_add]; exact hi i x hx) (by rw [Nat.zero_add]; exact h)

theorem bytesAt_length {D : Dk} (h : D.Ok) (a k : Nat) : (D.bytesAt a k).length = k * 128 := by
  induction k with
  | zero => rfl
  | succ k ih =>
    show (D.bytesAt a k ++ D.read ((a + k : Nat) : Int)).length = _
    rw [List.length_append, ih, h.read]
    omega

theorem bytesAt_get {D : Dk} (h : D.Ok) (a k i : Nat) (hi : i < k * 128) : (D.bytesAt a k)[i]? = (D.read ((a + i / 128 : Nat) : Int))[i % 128]? := by
  induction k with
  | zero => omega
  | succ k ih =>
    show (D.bytesAt a k ++ D.read ((a + k : Nat) : Int))[i]? = _
    by_cases hk : i < k * 128
    · rw [List.getElem?_append_left (by rw [bytesAt_length h]; exact hk)]
      exact ih hk
    · rw [List.getElem?_append_right (by rw [bytesAt_length h]; omega), bytesAt_length h]
      rw [show i / 128 = k by omega, show i - k * 128 = i % 128 by omega]

theorem secsN_ge (n : Nat) : n ≤ secsN n * 128 := by unfold secsN; omega

theorem recB_length {D : Dk} (h : D.Ok) (f cnt n : Nat) : (D.recB f cnt n).length = n := by
  unfold Dk.recB
  rw [List.length_take, bytesAt_length h]
  have := secsN_ge n
  omega

theorem recB_take_succ {D : Dk} (h : D.Ok) (f cnt n i : Nat) (hi : i < n) : ∃ x, (D.read ((headN f cnt + 1 + i / 128 : Nat) : Int))[i % 128]? = some x ∧ (D.recB f cnt n).take (i + 1) = (D.recB f cnt n).take i ++ [x] := by
  have hl := recB_length h f cnt n
  have hg := secsN_ge n
  refine ⟨(D.recB f cnt n)[i], ?_, ?_⟩
  · rw [← bytesAt_get h (headN f cnt + 1) (secsN n) i (by omega)]
    have e : (D.recB f cnt n)[i]? = some (D.recB f cnt n)[i] := List.getElem?_eq_getElem (by omega)
    rw [← e]
    unfold Dk.recB
    rw [List.getElem?_take, if_pos hi]
  · rw [List.take_add_one, List.getElem?_eq_getElem (by omega)]
    rfl

theorem rdN_lt (s : List UInt8) : rdN s < 65536 := by
  unfold rdN
  have := val_lt ((oB s).take 2)
  have h2 : ((oB s).take 2).length ≤ 2 := by rw [List.length_take]; omega
  have : 256 ^ ((oB s).take 2).length ≤ 256 ^ 2 := Nat.pow_le_pow_right (by decide) h2
  omega

/-- A head's body, unpacked. -/
theorem unpack24 (b : List UInt8) : unpack [50, 52] b = if b.length = 6 then some [⟨val (b.take 2), []⟩, ⟨val (b.drop 2), []⟩] else none := by
  have e0 : unpack [50, 52] b = match unpL [50, 52] b with
      | some (fs, []) => some fs
      | _ => none := by
    unfold unpack
    rw [if_pos (by simp)]
    rfl
  by_cases h2 : 2 ≤ b.length
  · have e1 : unpF 50 b = some (⟨val (b.take 2), []⟩, b.drop 2) := by
      unfold unpF
      rw [if_neg (by decide)]
      exact if_pos h2
    by_cases h6 : 6 ≤ b.length
    · have e2 : unpF 52 (b.drop 2) = some (⟨val ((b.drop 2).take 4), []⟩, (b.drop 2).drop 4) := by
        unfold unpF
        rw [if_neg (by decide)]
        exact if_pos (by rw [List.length_drop]; omega)
      rw [e0]
      simp only [unpL, e1, e2]
      by_cases he : b.length = 6
      · rw [if_pos he, show (b.drop 2).drop 4 = [] by rw [List.drop_drop]; exact List.drop_eq_nil_of_le (by omega), show (b.drop 2).take 4 = b.drop 2 from List.take_of_length_le (by rw [List.length_drop]; omega)]
      · rw [if_neg he]
        have : (b.drop 2).drop 4 ≠ [] := by
          intro h
          have := congrArg List.length h
          simp at this
          omega
        cases hq : (b.drop 2).drop 4 with
        | nil => exact absurd hq this
        | cons x r => rfl
    · have e2 : unpF 52 (b.drop 2) = none := by
        unfold unpF
        rw [if_neg (by decide)]
        exact if_neg (by rw [List.length_drop]; omega)
      rw [e0, if_neg (by omega)]
      simp only [unpL, e1, e2]
  · have e1 : unpF 50 b = none := by
      unfold unpF
      rw [if_neg (by decide)]
      exact if_neg h2
    rw [e0, if_neg (by omega)]
    simp only [unpL, e1]

theorem pack24 (a b : Nat) (ha : a < 65536) (hb : b < 4294967296) : pack [50, 52] [⟨a, []⟩, ⟨b, []⟩] = some (be 2 a ++ be 4 b) := by
  have h1 : a < 256 ^ 2 := by omega
  have h2 : b < 256 ^ 4 := by omega
  have e1 : packF 50 ⟨a, []⟩ = some (be 2 a) := by
    unfold packF
    rw [if_neg (by decide)]
    exact if_pos h1
  have e2 : packF 52 ⟨b, []⟩ = some (be 4 b) := by
    unfold packF
    rw [if_neg (by decide)]
    exact if_pos h2
  unfold pack
  rw [if_pos (by simp)]
  simp only [List.zip_cons_cons, List.zip_nil_left, packL, e1, e2, List.append_nil]

/-! ### What stays -/
theorem Dk.write_st (D : Dk) (i : Int) (s : List UInt8) : (D.write i s).st = D.st := by
  unfold Dk.write
  split
  · split
    · exact (spend_st D).1
    · exact (spend_st D).1
  · rfl

theorem Dk.flush_len (D : Dk) : D.flush.st.length = D.st.length := by
  unfold Dk.flush
  split
  · rw [(spend_st D).1]
  · exact applied_length _ _

theorem Dk.write_pd (D : Dk) (i : Int) (s : List UInt8) : (D.write i s).pd.length ≤ D.pd.length + 1 := by
  unfold Dk.write
  split
  · split
    · rw [(spend_st D).2]; omega
    · simp
  · omega

theorem Dk.flush_pd (D : Dk) : D.flush.pd.length ≤ D.pd.length := by
  unfold Dk.flush
  split
  · rw [(spend_st D).2]; omega
  · simp

/-- So long a disk, with at most so many writes pending. -/
def Lim (n m : Nat) (r : Dk × Int) : Prop := r.1.st.length = n ∧ r.1.pd.length ≤ m

theorem Lim.mono {n m m' : Nat} {r : Dk × Int} (h : Lim n m r) (hm : m ≤ m') : Lim n m' r := ⟨h.1, by have := h.2; omega⟩

theorem lim_wr {n m : Nat} {r : Dk × Int} (h : Lim n m r) (i : Int) (s : List UInt8) : Lim n (m + 1) (stepE r (Dk.wr i s)) := by
  unfold stepE
  split
  · exact ⟨(congrArg List.length (Dk.write_st r.1 i s)).trans h.1, by have := Dk.write_pd r.1 i s; have := h.2; show (Dk.write r.1 i s).pd.length ≤ _; omega⟩
  · exact h.mono (by omega)

theorem lim_fl {n m : Nat} {r : Dk × Int} (h : Lim n m r) : Lim n m (stepE r Dk.fl) := by
  unfold stepE
  split
  · exact ⟨(Dk.flush_len r.1).trans h.1, by have := Dk.flush_pd r.1; have := h.2; show r.1.flush.pd.length ≤ _; omega⟩
  · exact h

theorem lim_wrs (D : Dk) (a : Nat) (xs : List UInt8) (k : Nat) : Lim D.st.length (D.pd.length + k) (D.wrs a xs k) := by
  induction k with
  | zero => exact ⟨rfl, Nat.le_refl _⟩
  | succ k ih => exact lim_wr ih _ _

theorem lim_addP (D : Dk) (f gen cnt : Nat) (xs : List UInt8) (h : xs.length ≤ 384) : Lim D.st.length (D.pd.length + 4) (D.addP f gen cnt xs) :=
  (lim_fl (lim_wr (lim_fl (lim_wrs D _ xs (secsN xs.length))) _ _)).mono (by have := secsN_le h; omega)

theorem lim_add (D : Dk) (f gen cnt : Nat) (xs : List UInt8) : Lim D.st.length (D.pd.length + 4) (D.add f gen cnt xs) := by
  unfold Dk.add
  split
  · exact ⟨rfl, by show D.pd.length ≤ _; omega⟩
  · split
    · exact ⟨rfl, by show D.pd.length ≤ _; omega⟩
    · exact lim_addP D f gen cnt xs (by omega)

theorem wrs_err (D : Dk) (a : Nat) (xs : List UInt8) : ∀ (k n : Nat), k ≤ n → (D.wrs a xs k).2 ≠ 0 → D.wrs a xs n = D.wrs a xs k
  | k, n, h, he => by
    induction n with
    | zero => rw [show k = 0 by omega]
    | succ n ih =>
      by_cases hk : k = n + 1
      · rw [hk]
      · have := ih (by omega)
        show stepE (D.wrs a xs n) _ = _
        rw [this]
        unfold stepE
        rw [if_neg he]
end Go.Proofs.Ytihdhlciblkbiaa
