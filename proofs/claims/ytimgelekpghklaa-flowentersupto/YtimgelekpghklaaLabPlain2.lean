/-
  Ranges exchanged, blocks rotated, two sorted parts merged in place, plainly. It names nothing of the program.
-/
import Derived.Test.YtimgelekpghklaaLabPlain
namespace Go.Proofs.Ytimgelekpghklaa
set_option linter.unusedVariables false
set_option linter.unusedSimpArgs false
set_option maxRecDepth 20000

/-- Two ranges of n exchanged. -/
def ExR (xs ys : List Cat) (a b n : Nat) : Prop := ys.length = xs.length ∧ ∀ k, ys[k]? = if a ≤ k ∧ k < a + n then xs[k - a + b]? else if b ≤ k ∧ k < b + n then xs[k - b + a]? else xs[k]?

theorem ExR.zero (xs : List Cat) (a b : Nat) : ExR xs xs a b 0 := ⟨rfl, fun k => by rw [if_neg (by omega), if_neg (by omega)]⟩

theorem ExR.step {xs zs : List Cat} {a b i : Nat} (h : ExR xs zs a b i) (hab : a + i < b) (hb : b + i < xs.length) : ExR xs (swp zs (a + i) (b + i)) a b (i + 1) := by
  obtain ⟨h1, h2⟩ := h
  refine ⟨by rw [swp_length, h1], fun k => ?_⟩
  rw [swp_get zs (by omega) (by omega)]
  split
  · rename_i e
    rw [h2, if_neg (by omega), if_neg (by omega), if_neg (by omega), if_pos (by omega)]
    congr 1; omega
  · split
    · rw [h2, if_neg (by omega), if_neg (by omega), if_pos (by omega)]
      congr 1; omega
    · rw [h2]
      repeat' split
      all_goals first | rfl | (exfalso; omega)

/-- Two blocks side by side turned round. -/
def Rot (xs ys : List Cat) (a m b : Nat) : Prop := ys.length = xs.length ∧ ∀ k, ys[k]? = if a ≤ k ∧ k < a + (b - m) then xs[k - a + m]? else if a + (b - m) ≤ k ∧ k < b then xs[k - (b - m)]? else xs[k]?

theorem Rot.left (xs : List Cat) (s m : Nat) : Rot xs xs s m m := ⟨rfl, fun k => by
  rw [if_neg (by omega)]
  split
  · congr 1; omega
  · rfl⟩

theorem Rot.right (xs : List Cat) (m e : Nat) (h : m ≤ e) : Rot xs xs m m e := ⟨rfl, fun k => by
  split
  · congr 1; omega
  · rw [if_neg (by omega)]⟩

theorem rot_gt {xs zs ys : List Cat} {m i j : Nat} (hij : j < i) (him : i ≤ m) (h : ExR xs zs (m - i) m j) (k : Rot zs ys (m - (i - j)) m (m + j)) : Rot xs ys (m - i) m (m + j) := by
  obtain ⟨h1, h2⟩ := h
  obtain ⟨k1, k2⟩ := k
  refine ⟨k1.trans h1, fun q => ?_⟩
  rw [k2 q]
  simp only [h2]
  repeat' split
  all_goals first | rfl | (exfalso; omega) | (congr 1; omega)

theorem rot_lt {xs zs ys : List Cat} {m i j : Nat} (hij : i < j) (him : i ≤ m) (h : ExR xs zs (m - i) (m + j - i) i) (k : Rot zs ys (m - i) m (m + (j - i))) : Rot xs ys (m - i) m (m + j) := by
  obtain ⟨h1, h2⟩ := h
  obtain ⟨k1, k2⟩ := k
  refine ⟨k1.trans h1, fun q => ?_⟩
  rw [k2 q]
  simp only [h2]
  repeat' split
  all_goals first | rfl | (exfalso; omega) | (congr 1; omega)

theorem rot_eq {xs ys : List Cat} {m i : Nat} (him : i ≤ m) (h : ExR xs ys (m - i) m i) : Rot xs ys (m - i) m (m + i) := by
  obtain ⟨h1, h2⟩ := h
  refine ⟨h1, fun q => ?_⟩
  rw [h2 q]
  repeat' split
  all_goals first | rfl | (exfalso; omega) | (congr 1; omega)

/-- The first one goes up. -/
theorem Rot.up {xs zs : List Cat} {a k : Nat} (h : Rot xs zs a (a + 1) (k + 1)) (hk : a ≤ k) (hl : k + 1 < xs.length) : Rot xs (swp zs k (k + 1)) a (a + 1) (k + 2) := by
  obtain ⟨h1, h2⟩ := h
  refine ⟨by rw [swp_length, h1], fun q => ?_⟩
  rw [swp_get zs (by omega) (by omega)]
  simp only [h2]
  repeat' split
  all_goals first | rfl | (exfalso; omega) | (congr 1; omega)

/-- The last one goes down. -/
theorem Rot.down {xs zs : List Cat} {m k : Nat} (h : Rot xs zs (k + 1) m (m + 1)) (hk : k + 1 ≤ m) (hl : m < xs.length) : Rot xs (swp zs k (k + 1)) k m (m + 1) := by
  obtain ⟨h1, h2⟩ := h
  refine ⟨by rw [swp_length, h1], fun q => ?_⟩
  rw [swp_get zs (by omega) (by omega)]
  simp only [h2]
  repeat' split
  all_goals first | rfl | (exfalso; omega) | (congr 1; omega)

theorem Rot.ky {xs ys : List Cat} {a m b : Nat} (h : Rot xs ys a m b) (k : Nat) : ky ys k = if a ≤ k ∧ k < a + (b - m) then Proofs.Ytimgelekpghklaa.ky xs (k - a + m) else if a + (b - m) ≤ k ∧ k < b then Proofs.Ytimgelekpghklaa.ky xs (k - (b - m)) else Proofs.Ytimgelekpghklaa.ky xs k := by
  have h2 := h.2 k
  split
  · rename_i h1; rw [if_pos h1] at h2; exact ky_eq h2
  · rename_i h1
    rw [if_neg h1] at h2
    split
    · rename_i h3; rw [if_pos h3] at h2; exact ky_eq h2
    · rename_i h3; rw [if_neg h3] at h2; exact ky_eq h2

/-- Blocks with unlike keys may be turned round. -/
theorem Rot.sw {xs ys : List Cat} {s m e : Nat} (h : Rot xs ys s m e) (h1 : s ≤ m) (h2 : m ≤ e) (h3 : e ≤ xs.length) (hk : ∀ p q, s ≤ p → p < m → m ≤ q → q < e → Proofs.Ytimgelekpghklaa.ky xs q < Proofs.Ytimgelekpghklaa.ky xs p) : Sw s e xs ys := by
  refine ⟨h.1, fun i hi => ?_, fun id => ?_⟩
  · rw [h.2, if_neg (by omega), if_neg (by omega)]
  · have e1 : seg ys s e = seg xs m e ++ seg xs s m := by
      apply List.ext_getElem?
      intro i
      rw [List.getElem?_append, seg_length xs h3, seg_get, seg_get, seg_get, h.2]
      repeat' split
      all_goals first | rfl | (exfalso; omega) | (congr 1; omega)
    rw [e1, seg_append xs h1 h2 h3, List.filter_append, List.filter_append]
    by_cases hv : (seg xs m e).filter (fun c => c.1 == id) = []
    · rw [hv]; simp
    · have hu : (seg xs s m).filter (fun c => c.1 == id) = [] := by
        rw [List.filter_eq_nil_iff]
        intro c hc hci
        obtain ⟨d, hd⟩ := List.exists_mem_of_ne_nil _ hv
        obtain ⟨hd1, hd2⟩ := List.mem_filter.1 hd
        obtain ⟨i, hi⟩ := List.getElem?_of_mem hc
        obtain ⟨j, hj⟩ := List.getElem?_of_mem hd1
        rw [seg_get] at hi hj
        split at hi
        · split at hj
          · have := hk (s + i) (m + j) (by omega) (by omega) (by omega) (by omega)
            unfold Proofs.Ytimgelekpghklaa.ky gt at this
            rw [hi, hj] at this
            simp at this hci hd2
            omega
          · cases hj
        · cases hi
      rw [hu]; simp

theorem Srt.le {xs : List Cat} {a b i j : Nat} (h : Srt xs a b) (h1 : a ≤ i) (h2 : i ≤ j) (h3 : j < b) : ky xs i ≤ ky xs j := by
  by_cases e : i = j
  · subst e; exact Int.le_refl _
  · exact h i j h1 (by omega) h3

theorem sym_one {xs ys : List Cat} {a i b : Nat} (h : Rot xs ys a (a + 1) i) (hs : Srt xs (a + 1) b) (h1 : ∀ k, a + 1 ≤ k → k < i → ky xs k < ky xs a) (h2 : ∀ k, i ≤ k → k < b → ky xs a ≤ ky xs k) (hi : a + 1 ≤ i) (hib : i ≤ b) (hb : b ≤ xs.length) : Sw a b xs ys ∧ Srt ys a b := by
  refine ⟨(h.sw (by omega) hi (by omega) (fun p q _ hp hq hqe => ?_)).widen (Nat.le_refl _) (by omega) hib hb, fun p q hp hpq hq => ?_⟩
  · have : p = a := by omega
    subst this
    exact h1 q hq hqe
  · rw [h.ky p, h.ky q]
    repeat' split
    all_goals first | (exfalso; omega) | exact hs.le (by omega) (by omega) (by omega) | skip
    · rw [show q - (i - (a + 1)) = a by omega]; exact Int.le_of_lt (h1 _ (by omega) (by omega))
    · rw [show p - (i - (a + 1)) = a by omega]; exact h2 _ (by omega) (by omega)

theorem sym_two {xs ys : List Cat} {a i m : Nat} (h : Rot xs ys i m (m + 1)) (hs : Srt xs a m) (h1 : ∀ k, a ≤ k → k < i → ky xs k ≤ ky xs m) (h2 : ∀ k, i ≤ k → k < m → ky xs m < ky xs k) (hai : a ≤ i) (hi : i ≤ m) (hb : m + 1 ≤ xs.length) : Sw a (m + 1) xs ys ∧ Srt ys a (m + 1) := by
  refine ⟨(h.sw hi (by omega) hb (fun p q hp hpm hq hqe => ?_)).widen hai (by omega) (Nat.le_refl _) hb, fun p q hp hpq hq => ?_⟩
  · have : q = m := by omega
    subst this
    exact h2 p hp hpm
  · rw [h.ky p, h.ky q]
    repeat' split
    all_goals first | (exfalso; omega) | exact hs.le (by omega) (by omega) (by omega) | skip
    · rw [show p - i + m = m by omega]; exact Int.le_of_lt (h2 _ (by omega) (by omega))
    · rw [show q - i + m = m by omega]; exact h1 _ (by omega) (by omega)

structure Halved (xs zs : List Cat) (a s mid e b : Nat) : Prop where
  sw : Sw a b xs zs
  s1 : Srt zs a s
  s2 : Srt zs s mid
  s3 : Srt zs mid e
  s4 : Srt zs e b
  low : ∀ p q, a ≤ p → p < mid → mid ≤ q → q < b → ky zs p ≤ ky zs q

theorem sym_mid {xs zs : List Cat} {a s m mid e b : Nat} (h : Rot xs zs s m e) (ha : Srt xs a m) (hb : Srt xs m b) (h1 : a ≤ s) (h2 : s ≤ m) (h3 : m ≤ e) (h4 : e ≤ b) (h5 : b ≤ xs.length) (hm : s + e = mid + m)
    (hV : s < m → m < e → ky xs (e - 1) < ky xs s) (hX : a < s → e < b → ky xs (s - 1) ≤ ky xs e) : Halved xs zs a s mid e b := by
  refine ⟨(h.sw h2 h3 (by omega) (fun p q hp hpm hq hqe => ?_)).widen h1 (by omega) h4 h5, fun p q hp hpq hq => ?_, fun p q hp hpq hq => ?_, fun p q hp hpq hq => ?_, fun p q hp hpq hq => ?_, fun p q hp hpm hq hqb => ?_⟩
  · have a1 := ha.le (i := s) (j := p) h1 hp hpm
    have a2 := hb.le (i := q) (j := e - 1) hq (by omega) (by omega)
    have a3 := hV (by omega) (by omega)
    omega
  · rw [h.ky p, h.ky q, if_neg (by omega), if_neg (by omega), if_neg (by omega), if_neg (by omega)]
    exact ha.le hp (by omega) (by omega)
  · rw [h.ky p, h.ky q, if_pos (by omega), if_pos (by omega)]
    exact hb.le (by omega) (by omega) (by omega)
  · rw [h.ky p, h.ky q, if_neg (by omega), if_pos (by omega), if_neg (by omega), if_pos (by omega)]
    exact ha.le (by omega) (by omega) (by omega)
  · rw [h.ky p, h.ky q, if_neg (by omega), if_neg (by omega), if_neg (by omega), if_neg (by omega)]
    exact hb.le (by omega) (by omega) (by omega)
  · rw [h.ky p, h.ky q]
    by_cases q1 : p < s
    · rw [if_neg (by omega), if_neg (by omega)]
      by_cases q2 : q < e
      · rw [if_neg (by omega), if_pos (by omega)]
        exact ha.le hp (by omega) (by omega)
      · rw [if_neg (by omega), if_neg (by omega)]
        have a1 := ha.le (i := p) (j := s - 1) hp (by omega) (by omega)
        have a2 := hb.le (i := e) (j := q) h3 (by omega) hqb
        have a3 := hX (by omega) (by omega)
        omega
    · rw [if_pos (by omega)]
      by_cases q2 : q < e
      · rw [if_neg (by omega), if_pos (by omega)]
        have a1 := ha.le (i := s) (j := q - (e - m)) h1 (by omega) (by omega)
        have a2 := hb.le (i := p - s + m) (j := e - 1) (by omega) (by omega) (by omega)
        have a3 := hV (by omega) (by omega)
        omega
      · rw [if_neg (by omega), if_neg (by omega)]
        exact hb.le (by omega) (by omega) hqb

theorem srt_join {xs : List Cat} {a s b : Nat} (h1 : Srt xs a s) (h2 : Srt xs s b) (h : s ≤ a ∨ b ≤ s) : Srt xs a b := by
  intro p q hp hpq hq
  rcases h with h | h
  · exact h2 p q (by omega) hpq hq
  · exact h1 p q hp hpq (by omega)

theorem sym_join {xs zs y1 y2 : List Cat} {a mid b : Nat} (low : ∀ p q, a ≤ p → p < mid → mid ≤ q → q < b → ky zs p ≤ ky zs q) (hz : Sw a b xs zs) (h1 : Sw a mid zs y1) (k1 : Srt y1 a mid) (h2 : Sw mid b y1 y2) (k2 : Srt y2 mid b)
    (ha : a ≤ mid) (hb : mid ≤ b) (hl : b ≤ xs.length) : Sw a b xs y2 ∧ Srt y2 a b := by
  have l1 := hz.1
  have l2 := h1.1
  refine ⟨hz.trans ((h1.widen (Nat.le_refl _) ha hb (by omega)).trans (h2.widen ha hb (Nat.le_refl _) (by omega))), fun p q hp hpq hq => ?_⟩
  by_cases q1 : q < mid
  · rw [ky_eq (h2.2.1 p (.inl (by omega))), ky_eq (h2.2.1 q (.inl q1))]
    exact k1 p q hp hpq q1
  · by_cases q2 : mid ≤ p
    · exact k2 p q q2 hpq hq
    · obtain ⟨j, hj1, hj2, hj⟩ := h2.mem (by omega) (i := q) (by omega) hq
      rw [ky_eq (h2.2.1 p (.inl (by omega))), ky_eq hj, ky_eq (h1.2.1 j (.inr hj1))]
      obtain ⟨i, hi1, hi2, hi⟩ := h1.mem (by omega) (i := p) hp (by omega)
      rw [ky_eq hi]
      exact low i j hi1 hi2 hj1 hj2
end Go.Proofs.Ytimgelekpghklaa
