/-
  A journal, plainly: generations, crashes, and what a scan finds behind them.
-/
import Derived.Test.YtihdhlciblkbiaaJourPlain2
namespace Go.Proofs.Ytihdhlciblkbiaa
set_option linter.unusedVariables false
set_option linter.unusedSimpArgs false
set_option maxRecDepth 20000
open Go.RowKit

/-- The sector's last eight bytes are a mark of a generation below t, or zeros. -/
def TailLt (t : Nat) (s : List UInt8) : Prop := ∃ x y : UInt8, x.toNat < t ∧ s.drop 120 = [0, 0, 0, 0, 0, 0, x, y]

theorem TailLt.mono {t u : Nat} {s : List UInt8} (h : TailLt t s) (hu : t ≤ u) : TailLt u s := by
  obtain ⟨x, y, h1, h2⟩ := h
  exact ⟨x, y, by omega, h2⟩

theorem tail_zero {t : Nat} (h : 0 < t) : TailLt t z128 := ⟨0, 0, h, rfl⟩

theorem be8_mark {g i : Nat} (hg : g < 256) (hi : i ≤ 4) : be 8 (hdMark g i) = [0, 0, 0, 0, 0, 0, UInt8.ofNat g, UInt8.ofNat (i + 1)] := by
  unfold hdMark
  have e7 : (g * 256 + (i + 1)) / 256 ^ 7 = 0 := Nat.div_eq_of_lt (by omega)
  have e6 : (g * 256 + (i + 1)) / 256 ^ 6 = 0 := Nat.div_eq_of_lt (by omega)
  have e5 : (g * 256 + (i + 1)) / 256 ^ 5 = 0 := Nat.div_eq_of_lt (by omega)
  have e4 : (g * 256 + (i + 1)) / 256 ^ 4 = 0 := Nat.div_eq_of_lt (by omega)
  have e3 : (g * 256 + (i + 1)) / 256 ^ 3 = 0 := Nat.div_eq_of_lt (by omega)
  have e2 : (g * 256 + (i + 1)) / 256 ^ 2 = 0 := Nat.div_eq_of_lt (by omega)
  have e1 : (g * 256 + (i + 1)) / 256 ^ 1 = g := by omega
  have e0 : UInt8.ofNat ((g * 256 + (i + 1)) / 256 ^ 0) = UInt8.ofNat (i + 1) := by
    apply UInt8.toNat_inj.1
    simp only [Nat.pow_zero, Nat.div_one, UInt8.toNat_ofNat']
    omega
  simp only [be, e7, e6, e5, e4, e3, e2, e1, e0]
  rfl

theorem tail_ne {t g i : Nat} {s : List UInt8} (h : TailLt t s) (ht : t ≤ g) (hg : g < 256) (hi : i ≤ 4) : s.drop 120 ≠ be 8 (hdMark g i) := by
  obtain ⟨x, y, h1, h2⟩ := h
  rw [h2, be8_mark hg hi]
  intro e
  have : x = UInt8.ofNat g := by simpa using (List.cons.inj (List.cons.inj (List.cons.inj (List.cons.inj (List.cons.inj (List.cons.inj (List.cons.inj e).2).2).2).2).2).2).1
  rw [this] at h1
  simp only [UInt8.toNat_ofNat'] at h1
  omega

theorem tail_head {g i : Nat} (hg : g < 256) (hi : i ≤ 4) (xs : List UInt8) : TailLt (g + 1) (hdSec g i xs) := by
  refine ⟨UInt8.ofNat g, UInt8.ofNat (i + 1), ?_, ?_⟩
  · simp only [UInt8.toNat_ofNat']; omega
  · rw [hdSec_eq, seal_drop (hd_ok g i xs).2, be8_mark hg hi]

/-- A head that was torn: its tail is still one of a generation up to this one. -/
theorem tail_torn {t g i c : Nat} {old : List UInt8} (h : TailLt t old) (ht : t ≤ g + 1) (hg : g < 256) (hi : i ≤ 4) (xs : List UInt8) (hc : c ≤ 128) : TailLt (g + 1) (lay old (hdSec g i xs) c) := by
  have hn := hdSec_length g i xs
  by_cases h120 : c ≤ 120
  · obtain ⟨x, y, h1, h2⟩ := h
    refine ⟨x, y, by omega, ?_⟩
    rw [lay_drop hn h120 hc, h2]
  · obtain ⟨x, y, h1, h2⟩ := h
    have hnew : (hdSec g i xs).drop 120 = [0, 0, 0, 0, 0, 0, UInt8.ofNat g, UInt8.ofNat (i + 1)] := by rw [hdSec_eq, seal_drop (hd_ok g i xs).2, be8_mark hg hi]
    have e : (lay old (hdSec g i xs) c).drop 120 = ((hdSec g i xs).drop 120).take (c - 120) ++ (old.drop 120).drop (c - 120) := by
      unfold lay
      rw [List.drop_append, List.length_take, hn, List.drop_take, List.drop_drop, List.drop_drop]
      congr 2
      omega
    have hgl : (UInt8.ofNat g).toNat < g + 1 := by simp only [UInt8.toNat_ofNat']; omega
    rw [hnew, h2] at e
    obtain hd | hd | hd : c - 120 ≤ 6 ∨ c - 120 = 7 ∨ c - 120 = 8 := by omega
    · refine ⟨x, y, by omega, ?_⟩
      rw [e]
      obtain h | h | h | h | h | h : c - 120 = 1 ∨ c - 120 = 2 ∨ c - 120 = 3 ∨ c - 120 = 4 ∨ c - 120 = 5 ∨ c - 120 = 6 := by omega
      all_goals (rw [h]; rfl)
    · exact ⟨_, y, hgl, by rw [e, hd]; rfl⟩
    · exact ⟨_, _, hgl, by rw [e, hd]; rfl⟩

/-- A head that was torn and bears this mark is whole. -/
theorem torn_same {t g i c : Nat} {old : List UInt8} (h : TailLt t old) (ht : t ≤ g) (hg : g < 256) (hi : i ≤ 4) (xs : List UInt8) (hc : c ≤ 128)
    (ho : (openS (lay old (hdSec g i xs) c)).isSome = true) (hm : oM (lay old (hdSec g i xs) c) = hdMark g i) : lay old (hdSec g i xs) c = hdSec g i xs := by
  have hn := hdSec_length g i xs
  obtain ⟨hok, he, hlt⟩ := openS_some (openS_of ho)
  rw [hm] at hok he hlt
  by_cases h116 : 116 ≤ c
  · have e := lay_take (old := old) hn h116 hc
    rw [← he, hdSec_eq] at e
    obtain ⟨-, hb⟩ := head_inj hlt hlt hok.2 (hd_ok g i xs).2 e
    rw [← he, hb, ← hdSec_eq]
  · exfalso
    have e := lay_drop (old := old) hn (show c ≤ 120 by omega) hc
    rw [← he, seal_drop hok.2] at e
    exact tail_ne h ht hg hi e.symm

/-! ### Generations -/
structure Rest (D : Dk) : Prop where
  ok : D.Ok
  pd : D.pd = []
  dead : D.dead = false

structure Gen (D : Dk) (f gen t : Nat) (l : List (List UInt8)) : Prop where
  len : f + 16 ≤ D.st.length
  le : l.length ≤ 4
  has : ∀ (i : Nat) (x : List UInt8), l[i]? = some x → x.length ≤ 384 ∧ D.at (headN f i) = hdSec gen i x ∧ ∀ k, k < secsN x.length → D.at (headN f i + 1 + k) = secAt x k
  rest : ∀ i, l.length ≤ i → i < 4 → TailLt t (D.at (headN f i))

/-- The heads are those of generations below t. -/
def Heads (D : Dk) (f t : Nat) : Prop := f + 16 ≤ D.st.length ∧ ∀ i, i < 4 → TailLt t (D.at (headN f i))

theorem Heads.mono {D : Dk} {f t u : Nat} (h : Heads D f t) (hu : t ≤ u) : Heads D f u := ⟨h.1, fun i hi => (h.2 i hi).mono hu⟩

theorem Heads.gen {D : Dk} {f t : Nat} (h : Heads D f t) (gen : Nat) : Gen D f gen t [] :=
  ⟨h.1, by simp, fun i x hx => by simp at hx, fun i _ hi => h.2 i hi⟩

theorem get_lt {α : Type} {l : List α} {i : Nat} {x : α} (h : l[i]? = some x) : i < l.length := (List.getElem?_eq_some_iff.1 h).1

theorem Gen.heads {D : Dk} {f gen t : Nat} {l : List (List UInt8)} (h : Gen D f gen t l) (ht : t ≤ gen + 1) (hg : gen < 256) : Heads D f (gen + 1) := by
  refine ⟨h.len, fun i hi => ?_⟩
  by_cases hil : i < l.length
  · rw [(h.has i _ (List.getElem?_eq_getElem hil)).2.1]
    exact tail_head hg (by omega) _
  · exact (h.rest i (by omega) hi).mono ht

theorem Gen.found {D : Dk} {f gen t : Nat} {l : List (List UInt8)} (hp : D.pd = []) (ok : D.Ok) (h : Gen D f gen t l) (hg : gen < 281474976710656) (i : Nat) (x : List UInt8) (hx : l[i]? = some x) : D.recAt f gen i = some x := by
  have hil := get_lt hx
  have hle := h.le
  have hlen := h.len
  obtain ⟨h1, h2, h3⟩ := h.has i x hx
  have hs3 := secsN_le h1
  have hN : headN f i + 4 ≤ D.st.length := by unfold headN; omega
  refine recAt_some ok hg (by omega) h1 ?_ (fun k hk => ?_)
  · rw [Dk.read_rest hp (by omega)]; exact h2
  · rw [Dk.read_rest hp (by omega)]; exact h3 k hk

theorem Gen.scan {D : Dk} {f gen t : Nat} {l : List (List UInt8)} (hp : D.pd = []) (ok : D.Ok) (h : Gen D f gen t l) (ht : t ≤ gen) (hg : gen < 256) : D.scan f gen = l := by
  have hle := h.le
  have hlen := h.len
  refine scan_stop h.le (h.found hp ok (by omega)) ?_
  by_cases h4 : l.length = 4
  · exact .inl h4
  · right
    refine recAt_none ?_
    rw [Dk.read_rest hp (by unfold headN; omega)]
    exact tail_ne (h.rest _ (Nat.le_refl _) (by omega)) ht hg (by omega)

/-- Where a record is written. -/
theorem bytes_at {D : Dk} {f cnt : Nat} {xs : List UInt8} (hl : xs.length ≤ 384) (hr : headN f cnt + 4 ≤ D.st.length) (j : Nat) : (bytesSt D f cnt xs).getD j z128 = if headN f cnt + 1 ≤ j ∧ j < headN f cnt + 1 + secsN xs.length then secAt xs (j - (headN f cnt + 1)) else D.at j :=
  applied_wl (by have := secsN_le hl; omega) j

theorem bytes_len (D : Dk) (f cnt : Nat) (xs : List UInt8) : (bytesSt D f cnt xs).length = D.st.length := applied_length _ _

/-- Sectors outside a place are as they were. -/
theorem Gen.outside {D D' : Dk} {f gen t : Nat} {l : List (List UInt8)} (h : Gen D f gen t l) (hlen : D'.st.length = D.st.length) (c : Nat) (hc : l.length ≤ c) (ho : ∀ p, (p < headN f c + 1 ∨ headN f c + 4 ≤ p) → D'.at p = D.at p) : Gen D' f gen t l := by
  have hle := h.le
  refine ⟨by rw [hlen]; exact h.len, h.le, fun i x hx => ?_, fun i h1 h2 => ?_⟩
  · obtain ⟨h1, h2, h3⟩ := h.has i x hx
    have hil := get_lt hx
    have hs3 := secsN_le h1
    refine ⟨h1, ?_, fun k hk => ?_⟩
    · rw [ho _ (.inl (by unfold headN; omega))]; exact h2
    · rw [ho _ (.inl (by unfold headN; omega))]; exact h3 k hk
  · have hi : D'.at (headN f i) = D.at (headN f i) := by
      by_cases hic : i ≤ c
      · exact ho _ (.inl (by unfold headN; omega))
      · exact ho _ (.inr (by unfold headN; omega))
    rw [hi]
    exact h.rest i h1 h2

/-- One more record. -/
theorem Gen.push {D D' : Dk} {f gen t : Nat} {l : List (List UInt8)} (h : Gen D f gen t l) {xs : List UInt8} (hl : xs.length ≤ 384) (h4 : l.length < 4) (hst : D'.st = (bytesSt D f l.length xs).set (headN f l.length) (hdSec gen l.length xs)) : Gen D' f gen t (l ++ [xs]) := by
  have hlen := h.len
  have hs3 := secsN_le hl
  have hr : headN f l.length + 4 ≤ D.st.length := by unfold headN; omega
  have hat : ∀ j, D'.at j = if j = headN f l.length then hdSec gen l.length xs else if headN f l.length + 1 ≤ j ∧ j < headN f l.length + 1 + secsN xs.length then secAt xs (j - (headN f l.length + 1)) else D.at j := by
    intro j
    unfold Dk.at
    rw [hst, getD_set (by rw [bytes_len]; omega), bytes_at hl hr]
    rfl
  have hout : ∀ p, (p < headN f l.length ∨ headN f l.length + 4 ≤ p) → D'.at p = D.at p := by
    intro p hp
    rw [hat, if_neg (by omega), if_neg (by omega)]
  refine ⟨by rw [hst, List.length_set, bytes_len]; exact hlen, by simp; omega, fun i x hx => ?_, fun i h1 h2 => ?_⟩
  · by_cases hil : i < l.length
    · rw [List.getElem?_append_left hil] at hx
      obtain ⟨h1, h2, h3⟩ := h.has i x hx
      have hs3 := secsN_le h1
      refine ⟨h1, ?_, fun k hk => ?_⟩
      · rw [hout _ (.inl (by unfold headN; omega))]; exact h2
      · rw [hout _ (.inl (by unfold headN; omega))]; exact h3 k hk
    · rw [List.getElem?_append_right (by omega)] at hx
      have h0 : i - l.length = 0 := by
        have := get_lt hx
        simp at this
        omega
      rw [h0] at hx
      obtain rfl : xs = x := by simpa using hx
      obtain rfl : i = l.length := by omega
      refine ⟨hl, ?_, fun k hk => ?_⟩
      · rw [hat, if_pos rfl]
      · rw [hat, if_neg (by omega), if_pos (by omega), show headN f l.length + 1 + k - (headN f l.length + 1) = k by omega]
  · rw [List.length_append] at h1
    simp only [List.length_cons, List.length_nil] at h1
    rw [hout _ (.inr (by unfold headN; omega))]
    exact h.rest i (by omega) h2

/-! ### Crashes -/
theorem getD_set_ne {st : List (List UInt8)} {i j : Nat} {s : List UInt8} (h : j ≠ i) : (st.set i s).getD j z128 = st.getD j z128 := by
  rw [List.getD_eq_getElem?_getD, List.getD_eq_getElem?_getD, List.getElem?_set, if_neg (fun e => h e.symm)]

theorem crashN_other {st : List (List UInt8)} {pd : List (Nat × List UInt8)} {sz : Nat → Nat} {p : Nat} (h : ∀ q ∈ pd, q.1 ≠ p) : ∀ k, k ≤ pd.length → (crashN st pd sz k).getD p z128 = st.getD p z128
  | 0, _ => rfl
  | k + 1, hk => by
    unfold crashN
    rw [getD_set_ne, crashN_other h k (by omega)]
    rw [List.getD_eq_getElem?_getD, List.getElem?_eq_getElem (by omega)]
    exact fun e => h _ (List.getElem_mem (by omega)) e.symm

theorem crashN_sec {st : List (List UInt8)} {pd : List (Nat × List UInt8)} {sz : Nat → Nat} (hs : ∀ s ∈ st, s.length = 128) (hp : ∀ q ∈ pd, q.2.length = 128) (hz : ∀ n, sz n ≤ 128) : ∀ k, ∀ s ∈ crashN st pd sz k, s.length = 128
  | 0 => hs
  | k + 1 => fun s h => by
    unfold crashN at h
    rcases List.mem_or_eq_of_mem_set h with h | rfl
    · exact crashN_sec hs hp hz k s h
    · refine lay_length ?_ ?_ (hz k)
      · rw [List.getD_eq_getElem?_getD]
        cases hq : (crashN st pd sz k)[(pd.getD k (0, z128)).1]? with
        | none => exact z128_length
        | some u => exact crashN_sec hs hp hz k u (List.mem_of_getElem? hq)
      · rw [List.getD_eq_getElem?_getD]
        cases hq : pd[k]? with
        | none => exact z128_length
        | some u => exact hp u (List.mem_of_getElem? hq)

theorem crash_rest {D : Dk} (h : D.Ok) (keep : List Bool) (torn cut : Int) : Rest (D.crash keep torn cut) :=
  ⟨⟨crashN_sec h.sec (fun q hq => (h.wr q hq).2) (size1_le keep torn cut) _, (fun p (hp : p ∈ []) => absurd hp List.not_mem_nil), by show (crashN _ _ _ _).length ≤ 1024; rw [crashN_length]; exact h.n, by show -9223372036854775808 ≤ (-1 : Int); decide, by show (-1 : Int) ≤ 9223372036854775807; decide⟩, rfl, rfl⟩

theorem crash_len (D : Dk) (keep : List Bool) (torn cut : Int) : (D.crash keep torn cut).st.length = D.st.length := crashN_length _ _ _ _

theorem crash_calm {D : Dk} (hp : D.pd = []) (keep : List Bool) (torn cut : Int) : (D.crash keep torn cut).st = D.st := by
  unfold Dk.crash
  rw [hp]
  rfl

/-- What a scan finds behind any crash: all that were added, and perhaps the one under way. -/
def After (D : Dk) (f gen : Nat) (l : List (List UInt8)) (u : Option (List UInt8)) : Prop :=
  ∀ keep torn cut, Rest (D.crash keep torn cut) ∧ Heads (D.crash keep torn cut) f (gen + 1) ∧ ((D.crash keep torn cut).scan f gen = l ∨ ∃ x, u = some x ∧ (D.crash keep torn cut).scan f gen = l ++ [x])

theorem Gen.same {D D' : Dk} {f gen t : Nat} {l : List (List UInt8)} (h : Gen D f gen t l) (hst : D'.st = D.st) : Gen D' f gen t l :=
  h.outside (by rw [hst]) 4 h.le (fun p _ => by unfold Dk.at; rw [hst])

theorem after_calm {D : Dk} {f gen : Nat} {l : List (List UInt8)} (hR : Rest D) (h : Gen D f gen gen l) (hg : gen < 256) : After D f gen l none := by
  intro keep torn cut
  have hr := crash_rest hR.ok keep torn cut
  have hG := h.same (D' := D.crash keep torn cut) (crash_calm hR.pd keep torn cut)
  exact ⟨hr, hG.heads (by omega) hg, .inl (hG.scan hr.pd hr.ok (Nat.le_refl _) hg)⟩

theorem after_cut {D : Dk} {f gen : Nat} {l : List (List UInt8)} (h : Gen D f gen gen l) (hg : gen < 256) {xs : List UInt8} (hl : xs.length ≤ 384) (h4 : l.length < 4) {r : Dk × Int} (hok : r.1.Ok) (he : r.2 ≠ 0) (hE : AddEnd D f gen l.length xs r) : After r.1 f gen l (some xs) := by
  intro keep torn cut
  have hr := crash_rest hok keep torn cut
  have hlen := h.len
  have hcl := crash_len r.1 keep torn cut
  have hN : headN f l.length + 4 ≤ D.st.length := by unfold headN; omega
  have calm : ∀ (hG : Gen (r.1.crash keep torn cut) f gen gen l), Rest (r.1.crash keep torn cut) ∧ Heads (r.1.crash keep torn cut) f (gen + 1) ∧ ((r.1.crash keep torn cut).scan f gen = l ∨ ∃ x, some xs = some x ∧ (r.1.crash keep torn cut).scan f gen = l ++ [x]) :=
    fun hG => ⟨hr, hG.heads (by omega) hg, .inl (hG.scan hr.pd hr.ok (Nat.le_refl _) hg)⟩
  rcases hE with h0 | ⟨-, hst, hpd, -⟩ | ⟨-, hst, hpd, -⟩ | ⟨-, hst, hpd, -⟩
  · exact absurd h0 he
  · refine calm (h.outside (by rw [hcl, hst]) l.length (Nat.le_refl _) (fun p hp => ?_))
    show (crashN r.1.st r.1.pd _ _).getD p z128 = _
    rw [crashN_other (fun q hq e => by have := hpd q hq; omega) _ (Nat.le_refl _), hst]
    rfl
  · refine calm (h.outside (by rw [hcl, hst, bytes_len]) l.length (Nat.le_refl _) (fun p hp => ?_))
    unfold Dk.at
    rw [crash_calm hpd, hst, bytes_at hl hN, if_neg (by have := secsN_le hl; omega)]
    rfl
  · have hst' : (r.1.crash keep torn cut).st = (bytesSt D f l.length xs).set (headN f l.length) (lay (D.at (headN f l.length)) (hdSec gen l.length xs) (size1 keep torn cut 0)) := by
      unfold Dk.crash
      rw [hpd, hst]
      show (bytesSt D f l.length xs).set (headN f l.length) (lay ((bytesSt D f l.length xs).getD (headN f l.length) z128) (hdSec gen l.length xs) (size1 keep torn cut 0)) = _
      rw [bytes_at hl hN, if_neg (by omega)]
    have hc := size1_le keep torn cut 0
    have hT := h.rest l.length (Nat.le_refl _) h4
    generalize size1 keep torn cut 0 = c at *
    have hle : l.length ≤ 4 := by omega
    have ht1 := tail_torn hT (by omega) hg hle xs hc
    have hs := torn_same hT (Nat.le_refl _) hg hle xs hc
    generalize hTT : lay (D.at (headN f l.length)) (hdSec gen l.length xs) c = T at *
    have hat : ∀ j, (r.1.crash keep torn cut).at j = if j = headN f l.length then T else if headN f l.length + 1 ≤ j ∧ j < headN f l.length + 1 + secsN xs.length then secAt xs (j - (headN f l.length + 1)) else D.at j := by
      intro j
      unfold Dk.at
      rw [hst', getD_set (by rw [bytes_len]; omega), bytes_at hl hN]
      rfl
    have hs3 := secsN_le hl
    have hheads : Heads (r.1.crash keep torn cut) f (gen + 1) := by
      refine ⟨by rw [hcl, hst, bytes_len]; exact hlen, fun i hi => ?_⟩
      rw [hat]
      by_cases h1 : headN f i = headN f l.length
      · rw [if_pos h1]; exact ht1
      · rw [if_neg h1, if_neg (by unfold headN at *; omega)]
        exact (h.heads (by omega) hg).2 i hi
    refine ⟨hr, hheads, ?_⟩
    by_cases hop : (openS T).isSome = true ∧ oM T = hdMark gen l.length
    · right
      refine ⟨xs, rfl, ?_⟩
      have hTe := hs hop.1 hop.2
      have hG : Gen (r.1.crash keep torn cut) f gen gen (l ++ [xs]) := h.push hl h4 (by rw [hst', hTe])
      exact hG.scan hr.pd hr.ok (Nat.le_refl _) hg
    · left
      refine scan_stop (by omega) (fun i x hx => ?_) (.inr ?_)
      · have hil := get_lt hx
        obtain ⟨h1, h2, h3⟩ := h.has i x hx
        have hs3 := secsN_le h1
        have hlc : (r.1.crash keep torn cut).st.length = D.st.length := by rw [hcl, hst, bytes_len]
        refine recAt_some hr.ok (by omega) (by omega) h1 ?_ (fun k hk => ?_)
        · rw [Dk.read_rest hr.pd (by rw [hlc]; unfold headN; omega), hat, if_neg (by unfold headN; omega), if_neg (by unfold headN; omega)]
          exact h2
        · rw [Dk.read_rest hr.pd (by rw [hlc]; unfold headN; omega), hat, if_neg (by unfold headN; omega), if_neg (by unfold headN; omega)]
          exact h3 k hk
      · unfold Dk.recAt
        rw [if_neg]
        rintro ⟨⟨h1, h2, -⟩, -⟩
        have hlc : (r.1.crash keep torn cut).st.length = D.st.length := by rw [hcl, hst, bytes_len]
        rw [Dk.read_rest hr.pd (by rw [hlc]; omega), hat, if_pos rfl] at h1 h2
        exact hop ⟨h1, h2⟩

/-! ### The power stays -/
/-- A disk whose power never goes. -/
structure Calm (D : Dk) : Prop where
  rest : Rest D
  left : D.left < 0

theorem new_calm (n : Int) : Calm (newDk n) := ⟨⟨newDk_ok n, rfl, rfl⟩, by show (-1 : Int) < 0; decide⟩

theorem new_heads {n : Int} {f t : Nat} (h : (f : Int) + 16 ≤ n) (hn : n ≤ 1024) (ht : 0 < t) : Heads (newDk n) f t := by
  have hc : (clamp n 1024).toNat = n.toNat := by unfold clamp; omega
  refine ⟨by show f + 16 ≤ (List.replicate _ z128).length; rw [List.length_replicate, hc]; omega, fun i _ => ?_⟩
  have : (newDk n).at (headN f i) = z128 := by
    show (List.replicate _ z128).getD _ z128 = z128
    rw [List.getD_eq_getElem?_getD, List.getElem?_replicate]
    split <;> rfl
  rw [this]
  exact tail_zero ht

/-- What an Add does where the power stays. -/
theorem calm_add {D : Dk} (hC : Calm D) {f gen t : Nat} {l : List (List UInt8)} (h : Gen D f gen t l) {xs : List UInt8} (hok : (D.add f gen l.length xs).1.Ok) :
    (384 < xs.length ∧ D.add f gen l.length xs = (D, 63)) ∨ (xs.length ≤ 384 ∧ l.length = 4 ∧ D.add f gen l.length xs = (D, 62)) ∨
    (xs.length ≤ 384 ∧ l.length < 4 ∧ (D.add f gen l.length xs).2 = 0 ∧ Calm (D.add f gen l.length xs).1 ∧ Gen (D.add f gen l.length xs).1 f gen t (l ++ [xs]) ∧
      (D.add f gen l.length xs).1.st = (bytesSt D f l.length xs).set (headN f l.length) (hdSec gen l.length xs)) := by
  have hle := h.le
  have hlen := h.len
  have hleft := hC.left
  by_cases h384 : 384 < xs.length
  · exact .inl ⟨h384, by unfold Dk.add; rw [if_pos h384]⟩
  · by_cases h4 : 4 ≤ l.length
    · exact .inr (.inl ⟨by omega, by omega, by unfold Dk.add; rw [if_neg h384, if_pos h4]⟩)
    · have e : D.add f gen l.length xs = D.addP f gen l.length xs := by unfold Dk.add; rw [if_neg h384, if_neg h4]
      rw [e] at hok ⊢
      refine .inr (.inr ⟨by omega, by omega, ?_⟩)
      rcases add_end (gen := gen) (xs := xs) hC.rest.pd hC.rest.dead (by omega) (by omega : l.length < 4) hlen with ⟨h0, hst, hp, hd, hl⟩ | ⟨-, -, -, h0⟩ | ⟨-, -, -, h0⟩ | ⟨-, -, -, h0⟩
      · exact ⟨h0, ⟨⟨hok, hp, hd⟩, by rw [hl hleft]; exact hleft⟩, h.push (by omega) (by omega) hst, hst⟩
      all_goals omega
end Go.Proofs.Ytihdhlciblkbiaa
