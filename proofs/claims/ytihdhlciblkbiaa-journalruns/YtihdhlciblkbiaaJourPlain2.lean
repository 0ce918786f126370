/-
  A journal, plainly: what was added is found, whatever the power did.
-/
import Derived.Test.YtihdhlciblkbiaaJourPlain
namespace Go.Proofs.Ytihdhlciblkbiaa
set_option linter.unusedVariables false
set_option linter.unusedSimpArgs false
set_option maxRecDepth 20000
open Go.RowKit

/-! ### Sectors by number -/
def Dk.at (D : Dk) (i : Nat) : List UInt8 := D.st.getD i z128

theorem Dk.read_rest {D : Dk} (hp : D.pd = []) {i : Nat} (hi : i < D.st.length) : D.read (i : Int) = D.at i := by
  unfold Dk.read Dk.has Dk.last Dk.at
  rw [hp]
  simp
  intro h
  omega

theorem getD_set {st : List (List UInt8)} {i j : Nat} {s : List UInt8} (hi : i < st.length) : (st.set i s).getD j z128 = if j = i then s else st.getD j z128 := by
  rw [List.getD_eq_getElem?_getD, List.getD_eq_getElem?_getD, List.getElem?_set]
  by_cases h : i = j
  · subst h
    simp [hi]
  · rw [if_neg h, if_neg (fun e => h e.symm)]

/-- The writes of a record's bytes. -/
def wl (a : Nat) (xs : List UInt8) (n : Nat) : List (Nat × List UInt8) := (List.range n).map fun k => (a + k, secAt xs k)

theorem wl_succ (a : Nat) (xs : List UInt8) (n : Nat) : wl a xs (n + 1) = wl a xs n ++ [(a + n, secAt xs n)] := by
  unfold wl
  rw [List.range_succ, List.map_append]
  rfl

theorem wl_length (a : Nat) (xs : List UInt8) (n : Nat) : (wl a xs n).length = n := by simp [wl]

theorem wl_mem {a n : Nat} {xs : List UInt8} {p : Nat × List UInt8} (h : p ∈ wl a xs n) : a ≤ p.1 ∧ p.1 < a + n := by
  unfold wl at h
  obtain ⟨k, hk, rfl⟩ := List.mem_map.1 h
  have := List.mem_range.1 hk
  exact ⟨by simp, by simpa using this⟩

theorem applied_append (st : List (List UInt8)) (p q : List (Nat × List UInt8)) : applied st (p ++ q) = applied (applied st p) q := by
  unfold applied
  rw [List.foldl_append]

theorem applied_wl {st : List (List UInt8)} {a n : Nat} {xs : List UInt8} (h : a + n ≤ st.length) (j : Nat) : (applied st (wl a xs n)).getD j z128 = if a ≤ j ∧ j < a + n then secAt xs (j - a) else st.getD j z128 := by
  induction n with
  | zero => rw [if_neg (by omega)]; rfl
  | succ n ih =>
    rw [wl_succ, applied_append]
    show ((applied st (wl a xs n)).set (a + n) (secAt xs n)).getD j z128 = _
    rw [getD_set (by rw [applied_length]; omega), ih (by omega)]
    by_cases hj : j = a + n
    · subst hj
      rw [if_pos rfl, if_pos (by omega), show a + n - a = n by omega]
    · rw [if_neg hj]
      by_cases h2 : a ≤ j ∧ j < a + n
      · rw [if_pos h2, if_pos (by omega)]
      · rw [if_neg h2, if_neg (by omega)]

/-! ### The power -/
theorem out_false {D : Dk} (hd : D.dead = false) (hl : D.left ≠ 0) : D.out = false := by unfold Dk.out; simp [hd, hl]

theorem wrs_char {D : Dk} (hp : D.pd = []) (hd : D.dead = false) {a : Nat} (xs : List UInt8) : ∀ (k : Nat), a + k ≤ D.st.length →
    ((D.wrs a xs k).2 = 0 ∧ (D.wrs a xs k).1.st = D.st ∧ (D.wrs a xs k).1.pd = wl a xs k ∧ (D.wrs a xs k).1.dead = false ∧ (D.left < 0 → (D.wrs a xs k).1.left = D.left)) ∨
    ((D.wrs a xs k).2 = 42 ∧ (D.wrs a xs k).1.st = D.st ∧ (∃ j, j ≤ k ∧ (D.wrs a xs k).1.pd = wl a xs j) ∧ 0 ≤ D.left)
  | 0, _ => .inl ⟨rfl, rfl, hp, hd, fun _ => rfl⟩
  | k + 1, h => by
    rcases wrs_char hp hd (a := a) xs k (by omega) with ⟨h1, h2, h3, h4, h5⟩ | ⟨h1, h2, ⟨j, hj, h3⟩, h4⟩
    · have e : D.wrs a xs (k + 1) = Dk.wr ((a + k : Nat) : Int) (secAt xs k) (D.wrs a xs k).1 := by
        show stepE (D.wrs a xs k) _ = _
        unfold stepE
        rw [if_pos h1]
      rw [e]
      generalize (D.wrs a xs k).1 = E at *
      have hh : E.has ((a + k : Nat) : Int) = true := by unfold Dk.has; rw [h2]; simp; omega
      unfold Dk.wr Dk.write Dk.werr
      rw [hh]
      simp only [if_true]
      by_cases ho : E.out = true
      · right
        have hle : 0 ≤ D.left := by
          refine Int.not_lt.1 (fun hlt => ?_)
          have := h5 hlt
          rw [out_false h4 (by omega)] at ho
          cases ho
        rw [ho]
        simp only [if_true]
        refine ⟨trivial, (spend_st E).1.trans h2, ⟨k, by omega, (spend_st E).2.trans h3⟩, hle⟩
      · left
        have ho : E.out = false := by simpa using ho
        rw [ho]
        simp only [Bool.false_eq_true, if_false]
        refine ⟨trivial, (spend_st E).1.trans h2, ?_, ?_, fun hlt => ?_⟩
        · rw [h3, wl_succ, Int.toNat_natCast]
        · rw [Dk.spend_in ho]; exact h4
        · have := h5 hlt
          rw [Dk.spend_in ho]
          show (if 0 < E.left then E.left - 1 else E.left) = _
          rw [if_neg (by omega)]
          exact this
    · right
      have e : D.wrs a xs (k + 1) = D.wrs a xs k := wrs_err D a xs k (k + 1) (by omega) (by rw [h1]; decide)
      rw [e]
      exact ⟨h1, h2, ⟨j, by omega, h3⟩, h4⟩

/-- The sectors with a record's bytes. -/
def bytesSt (D : Dk) (f cnt : Nat) (xs : List UInt8) : List (List UInt8) := applied D.st (wl (headN f cnt + 1) xs (secsN xs.length))

/-- How an Add can end. -/
inductive AddEnd (D : Dk) (f gen cnt : Nat) (xs : List UInt8) (r : Dk × Int) : Prop
  | done : r.2 = 0 → r.1.st = (bytesSt D f cnt xs).set (headN f cnt) (hdSec gen cnt xs) → r.1.pd = [] → r.1.dead = false → (D.left < 0 → r.1.left = D.left) → AddEnd D f gen cnt xs r
  | bytes : r.2 = 42 → r.1.st = D.st → (∀ p ∈ r.1.pd, headN f cnt + 1 ≤ p.1 ∧ p.1 < headN f cnt + 4) → 0 ≤ D.left → AddEnd D f gen cnt xs r
  | head0 : r.2 = 42 → r.1.st = bytesSt D f cnt xs → r.1.pd = [] → 0 ≤ D.left → AddEnd D f gen cnt xs r
  | head1 : r.2 = 42 → r.1.st = bytesSt D f cnt xs → r.1.pd = [(headN f cnt, hdSec gen cnt xs)] → 0 ≤ D.left → AddEnd D f gen cnt xs r

theorem step_fl {D E : Dk} (h4 : E.dead = false) (h5 : D.left < 0 → E.left = D.left) :
    (E.ferr = 42 ∧ E.flush.st = E.st ∧ E.flush.pd = E.pd ∧ 0 ≤ D.left) ∨ (E.ferr = 0 ∧ E.flush.st = applied E.st E.pd ∧ E.flush.pd = [] ∧ E.flush.dead = false ∧ (D.left < 0 → E.flush.left = D.left)) := by
  unfold Dk.ferr Dk.flush
  by_cases ho : E.out = true
  · left
    have hle : 0 ≤ D.left := by
      refine Int.not_lt.1 (fun hlt => ?_)
      have := h5 hlt
      rw [out_false h4 (by omega)] at ho
      cases ho
    rw [ho]
    exact ⟨rfl, (spend_st E).1, (spend_st E).2, hle⟩
  · right
    have ho : E.out = false := by simpa using ho
    rw [ho]
    simp only [Bool.false_eq_true, if_false]
    refine ⟨trivial, trivial, trivial, ?_, fun hlt => ?_⟩
    · rw [Dk.spend_in ho]; exact h4
    · have := h5 hlt
      rw [Dk.spend_in ho]
      show (if 0 < E.left then E.left - 1 else E.left) = _
      rw [if_neg (by omega)]
      exact this

theorem step_wr {D E : Dk} (h4 : E.dead = false) (h5 : D.left < 0 → E.left = D.left) {i : Nat} (hi : i < E.st.length) (s : List UInt8) :
    (E.werr (i : Int) = 42 ∧ (E.write (i : Int) s).st = E.st ∧ (E.write (i : Int) s).pd = E.pd ∧ 0 ≤ D.left) ∨
    (E.werr (i : Int) = 0 ∧ (E.write (i : Int) s).st = E.st ∧ (E.write (i : Int) s).pd = E.pd ++ [(i, s)] ∧ (E.write (i : Int) s).dead = false ∧ (D.left < 0 → (E.write (i : Int) s).left = D.left)) := by
  have hh : E.has (i : Int) = true := by unfold Dk.has; simp; omega
  unfold Dk.werr Dk.write
  rw [hh]
  simp only [if_true]
  by_cases ho : E.out = true
  · left
    have hle : 0 ≤ D.left := by
      refine Int.not_lt.1 (fun hlt => ?_)
      have := h5 hlt
      rw [out_false h4 (by omega)] at ho
      cases ho
    rw [ho]
    exact ⟨rfl, (spend_st E).1, (spend_st E).2, hle⟩
  · right
    have ho : E.out = false := by simpa using ho
    rw [ho]
    simp only [Bool.false_eq_true, if_false]
    refine ⟨trivial, (spend_st E).1, by rw [Int.toNat_natCast], ?_, fun hlt => ?_⟩
    · rw [Dk.spend_in ho]; exact h4
    · have := h5 hlt
      rw [Dk.spend_in ho]
      show (if 0 < E.left then E.left - 1 else E.left) = _
      rw [if_neg (by omega)]
      exact this

theorem add_end {D : Dk} (hp : D.pd = []) (hd : D.dead = false) {f gen cnt : Nat} {xs : List UInt8} (hl : xs.length ≤ 384) (hc : cnt < 4) (hr : f + 16 ≤ D.st.length) : AddEnd D f gen cnt xs (D.addP f gen cnt xs) := by
  have hs3 := secsN_le hl
  have hN : headN f cnt + 4 ≤ D.st.length := by unfold headN; omega
  unfold Dk.addP
  rcases wrs_char hp hd (a := headN f cnt + 1) xs (secsN xs.length) (by omega) with ⟨h1, h2, h3, h4, h5⟩ | ⟨h1, h2, ⟨j, hj, h3⟩, h4⟩
  · rw [show stepE (D.wrs (headN f cnt + 1) xs (secsN xs.length)) Dk.fl = Dk.fl (D.wrs (headN f cnt + 1) xs (secsN xs.length)).1 by unfold stepE; rw [if_pos h1]]
    generalize (D.wrs (headN f cnt + 1) xs (secsN xs.length)).1 = E at *
    unfold Dk.fl
    rcases step_fl h4 h5 with ⟨f1, f2, f3, f4⟩ | ⟨f1, f2, f3, f4, f5⟩
    · have e0 : ∀ (g : Dk → Dk × Int), stepE (E.flush, E.ferr) g = (E.flush, E.ferr) := fun g => by unfold stepE; rw [if_neg (by show E.ferr ≠ 0; rw [f1]; decide)]
      rw [e0, e0]
      refine .bytes f1 (f2.trans h2) (fun p hp => ?_) f4
      rw [show (E.flush, E.ferr).1.pd = E.pd from f3, h3] at hp
      have := wl_mem hp
      omega
    · rw [show stepE (E.flush, E.ferr) (Dk.wr (headN f cnt : Int) (hdSec gen cnt xs)) = Dk.wr (headN f cnt : Int) (hdSec gen cnt xs) E.flush by unfold stepE; rw [if_pos f1]]
      have hst : E.flush.st = bytesSt D f cnt xs := by rw [f2, h2, h3]; rfl
      have hsl : headN f cnt < E.flush.st.length := by rw [hst]; unfold bytesSt; rw [applied_length]; omega
      generalize E.flush = F at *
      unfold Dk.wr
      rcases step_wr f4 f5 hsl (hdSec gen cnt xs) with ⟨g1, g2, g3, g4⟩ | ⟨g1, g2, g3, g4, g5⟩
      · have e0 : ∀ (g : Dk → Dk × Int), stepE (F.write (headN f cnt : Int) (hdSec gen cnt xs), F.werr (headN f cnt : Int)) g = (F.write (headN f cnt : Int) (hdSec gen cnt xs), F.werr (headN f cnt : Int)) := fun g => by unfold stepE; rw [if_neg (by show F.werr (headN f cnt : Int) ≠ 0; rw [g1]; decide)]
        rw [e0]
        exact .head0 g1 (g2.trans hst) (g3.trans f3) g4
      · rw [show ∀ (g : Dk → Dk × Int), stepE (F.write (headN f cnt : Int) (hdSec gen cnt xs), F.werr (headN f cnt : Int)) g = g (F.write (headN f cnt : Int) (hdSec gen cnt xs)) from fun g => by unfold stepE; rw [if_pos g1]]
        generalize F.write (headN f cnt : Int) (hdSec gen cnt xs) = G at *
        rcases step_fl g4 g5 with ⟨k1, k2, k3, k4⟩ | ⟨k1, k2, k3, k4, k5⟩
        · exact .head1 k1 (k2.trans (g2.trans hst)) (k3.trans (by rw [g3, f3]; rfl)) k4
        · refine .done k1 ?_ k3 k4 k5
          show G.flush.st = _
          rw [k2, g2, g3, f3, hst]
          rfl
  · have e0 : ∀ (g : Dk → Dk × Int), stepE (D.wrs (headN f cnt + 1) xs (secsN xs.length)) g = D.wrs (headN f cnt + 1) xs (secsN xs.length) := fun g => by unfold stepE; rw [if_neg (by rw [h1]; decide)]
    rw [e0, e0, e0]
    refine .bytes h1 h2 (fun p hp => ?_) h4
    rw [h3] at hp
    have := wl_mem hp
    omega

/-! ### What is found -/
theorem recAt_congr {D D' : Dk} {f gen i : Nat} (h : ∀ t, t < 4 → D.read ((headN f i + t : Nat) : Int) = D'.read ((headN f i + t : Nat) : Int)) : D.recAt f gen i = D'.recAt f gen i := by
  have h0 := h 0 (by omega)
  rw [Nat.add_zero] at h0
  unfold Dk.recAt
  rw [h0]
  have hb : ∀ n, n ≤ 384 → D.recB f i n = D'.recB f i n := by
    intro n hn
    have h3 := secsN_le hn
    unfold Dk.recB
    have : ∀ k, k ≤ 3 → D.bytesAt (headN f i + 1) k = D'.bytesAt (headN f i + 1) k := by
      intro k hk
      induction k with
      | zero => rfl
      | succ k ih =>
        show D.bytesAt _ k ++ D.read _ = D'.bytesAt _ k ++ D'.read _
        rw [ih (by omega), show headN f i + 1 + k = headN f i + (1 + k) by omega, h (1 + k) (by omega)]
    rw [this _ h3]
  by_cases hok : hdOk gen i (D'.read (headN f i : Int))
  · rw [hb _ hok.2.2.2]
  · rw [if_neg (fun h => hok h.1), if_neg (fun h => hok h.1)]

theorem openS_of {s : List UInt8} (h : (openS s).isSome = true) : openS s = some (oM s, oB s) := by
  obtain ⟨⟨m, b⟩, hq⟩ := Option.isSome_iff_exists.1 h
  unfold oM oB
  rw [hq]
  rfl

/-- Another mark at the head's end: no record. -/
theorem recAt_none {D : Dk} {f gen i : Nat} (h : (D.read (headN f i : Int)).drop 120 ≠ be 8 (hdMark gen i)) : D.recAt f gen i = none := by
  unfold Dk.recAt
  rw [if_neg]
  rintro ⟨⟨h1, h2, -⟩, -⟩
  obtain ⟨hok, he, -⟩ := openS_some (openS_of h1)
  apply h
  rw [← he, seal_drop hok.2, h2]

theorem bytesAt_secs {D : Dk} (hD : D.Ok) {a : Nat} {xs : List UInt8} (h : ∀ k, k < secsN xs.length → D.read ((a + k : Nat) : Int) = secAt xs k) : (D.bytesAt a (secsN xs.length)).take xs.length = xs := by
  apply List.ext_getElem?
  intro i
  rw [List.getElem?_take]
  by_cases hi : i < xs.length
  · rw [if_pos hi, bytesAt_get hD a _ i (by have := secsN_ge xs.length; omega)]
    have hk : i / 128 < secsN xs.length := by unfold secsN; omega
    rw [h _ hk]
    have hm : i % 128 < 128 := Nat.mod_lt _ (by decide)
    have hsl : (segN xs (i / 128)).length = min 128 (xs.length - i / 128 * 128) := by unfold segN; rw [List.length_take, List.length_drop]
    unfold secAt
    rw [List.getElem?_append_left (by rw [hsl]; omega)]
    unfold segN
    rw [List.getElem?_take, if_pos hm, List.getElem?_drop, show i / 128 * 128 + i % 128 = i by omega]
  · rw [if_neg hi, List.getElem?_eq_none (by omega)]

/-- A record that was written is found. -/
theorem recAt_some {D : Dk} (hD : D.Ok) {f gen i : Nat} {xs : List UInt8} (hg : gen < 281474976710656) (hi : i < 4) (hl : xs.length ≤ 384) (hh : D.read (headN f i : Int) = hdSec gen i xs) (hb : ∀ k, k < secsN xs.length → D.read ((headN f i + 1 + k : Nat) : Int) = secAt xs k) : D.recAt f gen i = some xs := by
  have hop : openS (hdSec gen i xs) = some (hdMark gen i, hdBody xs) := by rw [hdSec_eq]; exact openS_seal (hdMark_lt hg (by omega)) (hd_ok gen i xs)
  have e1 : oM (hdSec gen i xs) = hdMark gen i := by unfold oM; rw [hop]; rfl
  have e2 : oB (hdSec gen i xs) = hdBody xs := by unfold oB; rw [hop]; rfl
  have e3 : rdN (hdSec gen i xs) = xs.length := by
    unfold rdN
    rw [e2, hdBody, List.take_append_of_le_length (by rw [be_length]; omega), List.take_of_length_le (by rw [be_length]; omega), val_be _ _ (by omega)]
  have e4 : rdS (hdSec gen i xs) = (crcAdd 0#32 xs).toNat := by
    unfold rdS
    rw [e2, hdBody, List.drop_append, be_length, List.drop_eq_nil_of_le (by rw [be_length]; omega), List.nil_append, Nat.sub_self, List.drop_zero, val_be _ _ (by have := (crcAdd 0#32 xs).isLt; omega)]
  unfold Dk.recAt
  rw [hh, e3, e4]
  have eb : D.recB f i xs.length = xs := bytesAt_secs hD hb
  rw [eb, if_pos]
  exact ⟨⟨by rw [hop]; rfl, e1, by rw [e2]; exact hdBody_length xs, by rw [e3]; exact hl⟩, rfl⟩
end Go.Proofs.Ytihdhlciblkbiaa
