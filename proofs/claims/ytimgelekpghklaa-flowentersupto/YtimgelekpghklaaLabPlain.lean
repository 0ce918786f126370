/-
  Sorting, plainly: rearranged without turning two of one key round. It names nothing of the program.
-/
import Derived.Test.YtimgelekpghklaaLabM
namespace Go.Proofs.Ytimgelekpghklaa
set_option linter.unusedVariables false
set_option linter.unusedSimpArgs false
set_option maxRecDepth 20000

def gt (xs : List Cat) (i : Nat) : Cat := (xs[i]?).getD (0, 0)
def ky (xs : List Cat) (i : Nat) : Int := (gt xs i).1
def swp (xs : List Cat) (i j : Nat) : List Cat := (xs.set i (gt xs j)).set j (gt xs i)
def Srt (xs : List Cat) (a b : Nat) : Prop := ∀ i j, a ≤ i → i < j → j < b → ky xs i ≤ ky xs j
def seg (xs : List Cat) (a b : Nat) : List Cat := (xs.take b).drop a
def Sw (a b : Nat) (xs ys : List Cat) : Prop := ys.length = xs.length ∧ (∀ i, i < a ∨ b ≤ i → ys[i]? = xs[i]?) ∧ ∀ id : Int, (seg ys a b).filter (fun c => c.1 == id) = (seg xs a b).filter (fun c => c.1 == id)

theorem gt_of {xs : List Cat} {i : Nat} (h : i < xs.length) : gt xs i = xs[i] := by simp [gt, h]
theorem get_gt {xs : List Cat} {i : Nat} (h : i < xs.length) : xs[i]? = some (gt xs i) := by simp [gt, h]
theorem gt_eq {xs ys : List Cat} {i j : Nat} (h : xs[i]? = ys[j]?) : gt xs i = gt ys j := by simp [gt, h]
theorem ky_eq {xs ys : List Cat} {i j : Nat} (h : xs[i]? = ys[j]?) : ky xs i = ky ys j := by simp [ky, gt_eq h]

theorem seg_get (xs : List Cat) (a b i : Nat) : (seg xs a b)[i]? = if a + i < b then xs[a + i]? else none := by
  unfold seg
  rw [List.getElem?_drop, List.getElem?_take]

theorem seg_append (xs : List Cat) {a b c : Nat} (h1 : a ≤ b) (h2 : b ≤ c) (h3 : c ≤ xs.length) : seg xs a c = seg xs a b ++ seg xs b c := by
  apply List.ext_getElem?
  intro i
  have hl : (seg xs a b).length = b - a := by simp [seg]; omega
  rw [List.getElem?_append, hl, seg_get]
  split
  · rename_i h
    split
    · rw [seg_get, if_pos (by omega)]
    · rw [seg_get, if_pos (by omega)]
      congr 1
      omega
  · rename_i h
    split
    · omega
    · rw [seg_get, if_neg (by omega)]

theorem seg_length (xs : List Cat) {a b : Nat} (h : b ≤ xs.length) : (seg xs a b).length = b - a := by simp [seg]; omega

theorem seg_same {xs ys : List Cat} {a b : Nat} (h : ∀ i, a ≤ i → i < b → ys[i]? = xs[i]?) : seg ys a b = seg xs a b := by
  apply List.ext_getElem?
  intro i
  rw [seg_get, seg_get]
  split
  · exact h _ (by omega) (by omega)
  · rfl

theorem seg_all (xs : List Cat) {b : Nat} (h : b = xs.length) : seg xs 0 b = xs := by simp [seg, h]

theorem Sw.refl (a b : Nat) (xs : List Cat) : Sw a b xs xs := ⟨rfl, fun _ _ => rfl, fun _ => rfl⟩
theorem Sw.trans {a b : Nat} {xs ys zs : List Cat} (h : Sw a b xs ys) (k : Sw a b ys zs) : Sw a b xs zs := ⟨k.1.trans h.1, fun i hi => (k.2.1 i hi).trans (h.2.1 i hi), fun id => (k.2.2 id).trans (h.2.2 id)⟩

theorem Sw.widen {a b a' b' : Nat} {xs ys : List Cat} (h : Sw a b xs ys) (h1 : a' ≤ a) (h2 : a ≤ b) (h3 : b ≤ b') (h4 : b' ≤ xs.length) : Sw a' b' xs ys := by
  refine ⟨h.1, fun i hi => h.2.1 i (by omega), fun id => ?_⟩
  have hl := h.1
  rw [seg_append ys h1 (by omega : a ≤ b') (by omega), seg_append ys h2 h3 (by omega), seg_append xs h1 (by omega : a ≤ b') (by omega), seg_append xs h2 h3 (by omega)]
  rw [seg_same (a := a') (b := a) (fun i _ hi => h.2.1 i (.inl hi)), seg_same (a := b) (b := b') (fun i hi _ => h.2.1 i (.inr hi))]
  simp only [List.filter_append, h.2.2 id]

/-- What lies within lay within. -/
theorem Sw.mem {a b : Nat} {xs ys : List Cat} (h : Sw a b xs ys) (hb : b ≤ xs.length) {i : Nat} (h1 : a ≤ i) (h2 : i < b) : ∃ j, a ≤ j ∧ j < b ∧ ys[i]? = xs[j]? := by
  have hl := h.1
  have hy : gt ys i ∈ seg ys a b := by
    apply List.mem_of_getElem? (i := i - a)
    rw [seg_get, if_pos (by omega), show a + (i - a) = i by omega]
    exact get_gt (by omega)
  have hf : gt ys i ∈ (seg ys a b).filter (fun c => c.1 == (gt ys i).1) := List.mem_filter.2 ⟨hy, by simp⟩
  rw [h.2.2] at hf
  obtain ⟨j, hj⟩ := List.getElem?_of_mem (List.mem_filter.1 hf).1
  rw [seg_get] at hj
  split at hj
  · exact ⟨a + j, by omega, by omega, by rw [hj, get_gt (by omega)]⟩
  · cases hj

theorem swp_length (xs : List Cat) (i j : Nat) : (swp xs i j).length = xs.length := by simp [swp]

theorem swp_get (xs : List Cat) {i j : Nat} (hi : i < xs.length) (hj : j < xs.length) (k : Nat) : (swp xs i j)[k]? = if k = j then xs[i]? else if k = i then xs[j]? else xs[k]? := by
  unfold swp
  rw [List.getElem?_set, List.getElem?_set]
  by_cases h1 : j = k
  · subst h1
    simp [hj, get_gt hi]
  · by_cases h2 : i = k
    · subst h2
      have h3 : ¬ i = j := fun h => h1 h.symm
      simp [h1, h3, hi, get_gt hj]
    · have h3 : ¬ k = j := fun h => h1 h.symm
      have h4 : ¬ k = i := fun h => h2 h.symm
      simp [h1, h2, h3, h4]

theorem swp_ky (xs : List Cat) {i j : Nat} (hi : i < xs.length) (hj : j < xs.length) (k : Nat) : ky (swp xs i j) k = if k = j then ky xs i else if k = i then ky xs j else ky xs k := by
  have h := swp_get xs hi hj k
  split
  · rename_i h1; rw [if_pos h1] at h; exact ky_eq h
  · rename_i h1
    rw [if_neg h1] at h
    split
    · rename_i h2; rw [if_pos h2] at h; exact ky_eq h
    · rename_i h2; rw [if_neg h2] at h; exact ky_eq h

theorem swp_comm (xs : List Cat) {i j : Nat} (hi : i < xs.length) (hj : j < xs.length) : swp xs i j = swp xs j i := by
  apply List.ext_getElem?
  intro k
  rw [swp_get xs hi hj, swp_get xs hj hi]
  split
  · rename_i h1
    split
    · rename_i h2; rw [← h1, ← h2]
    · rfl
  · rfl

/-- Two neighbours of unlike keys turned round. -/
theorem sw_adj {xs : List Cat} {a b k : Nat} (h1 : a ≤ k) (h2 : k + 2 ≤ b) (h3 : b ≤ xs.length) (hk : ky xs k ≠ ky xs (k + 1)) : Sw a b xs (swp xs k (k + 1)) := by
  have hs := swp_get xs (i := k) (j := k + 1) (by omega) (by omega)
  refine Sw.widen (a := k) (b := k + 2) ⟨swp_length _ _ _, fun i hi => ?_, fun id => ?_⟩ h1 (by omega) h2 h3
  · rw [hs, if_neg (by omega), if_neg (by omega)]
  · have e1 : seg xs k (k + 2) = [gt xs k, gt xs (k + 1)] := by
      apply List.ext_getElem?
      intro i
      rw [seg_get]
      match i with
      | 0 => simp [get_gt (show k < xs.length by omega)]
      | 1 => simp [get_gt (show k + 1 < xs.length by omega)]
      | i + 2 => simp; omega
    have e2 : seg (swp xs k (k + 1)) k (k + 2) = [gt xs (k + 1), gt xs k] := by
      apply List.ext_getElem?
      intro i
      rw [seg_get, hs]
      match i with
      | 0 => simp [get_gt (show k + 1 < xs.length by omega)]
      | 1 => simp [get_gt (show k < xs.length by omega)]
      | i + 2 => simp; omega
    rw [e1, e2]
    unfold ky at hk
    by_cases q1 : (gt xs k).1 = id
    · have q2 : (gt xs (k + 1)).1 ≠ id := fun h => hk (q1.trans h.symm)
      simp [List.filter_cons, q1, q2]
    · simp [List.filter_cons, q1]

/-! ### By insertion -/
structure Ins (a i j : Nat) (zs : List Cat) : Prop where
  aj : a ≤ j
  ji : j ≤ i
  il : i < zs.length
  rest : ∀ p q, a ≤ p → p < q → q ≤ i → p ≠ j → q ≠ j → ky zs p ≤ ky zs q
  behind : ∀ q, j < q → q ≤ i → ky zs j ≤ ky zs q

theorem Ins.start {a i : Nat} {zs : List Cat} (h : Srt zs a i) (h1 : a ≤ i) (h2 : i < zs.length) : Ins a i i zs :=
  ⟨h1, Nat.le_refl _, h2, fun p q hp hq hi _ hqi => h p q hp hq (by omega), fun q hq hi => by omega⟩

theorem Ins.step {a i j : Nat} {zs : List Cat} (h : Ins a i (j + 1) zs) (h1 : a ≤ j) (hk : ky zs (j + 1) < ky zs j) : Ins a i j (swp zs j (j + 1)) := by
  obtain ⟨_, h3, h4, h5, h6⟩ := h
  have hs := swp_ky zs (i := j) (j := j + 1) (by omega) (by omega)
  refine ⟨h1, by omega, by rw [swp_length]; exact h4, fun p q hp hpq hq hpj hqj => ?_, fun q hq hi => ?_⟩
  · rw [hs p, hs q, if_neg hpj, if_neg hqj]
    split
    · split
      · omega
      · exact h5 j q (by omega) (by omega) hq (by omega) (by omega)
    · split
      · exact h5 p j hp (by omega) (by omega) (by omega) (by omega)
      · exact h5 p q hp hpq hq (by omega) (by omega)
  · rw [hs j, hs q, if_neg (by omega), if_pos rfl]
    split
    · omega
    · rw [if_neg (by omega)]
      exact h6 q (by omega) hi

theorem Ins.fin {a i j : Nat} {zs : List Cat} (h : Ins a i j zs) (hk : j = a ∨ ky zs (j - 1) ≤ ky zs j) : Srt zs a (i + 1) := by
  obtain ⟨h1, h3, h4, h5, h6⟩ := h
  intro p q hp hpq hq
  by_cases e1 : p = j
  · subst e1; exact h6 q hpq (by omega)
  · by_cases e2 : q = j
    · subst e2
      rcases hk with hk | hk
      · omega
      · by_cases e3 : p = q - 1
        · subst e3; exact hk
        · exact Int.le_trans (h5 p (q - 1) hp (by omega) (by omega) e1 (by omega)) hk
    · exact h5 p q hp hpq (by omega) e1 e2

theorem srt_one {xs : List Cat} {a b : Nat} (h : b ≤ a + 1) : Srt xs a b := fun i j h1 h2 h3 => by omega
end Go.Proofs.Ytimgelekpghklaa
