/-
  A map of two parts, plainly: what ExtentWaits meets.
-/
import Derived.Test.YtelobmdlnkkbkaaExtF1
namespace Go.Proofs.Ytelobmdlnkkbkaa
set_option linter.unusedVariables false
set_option linter.unusedSimpArgs false
set_option maxRecDepth 20000

def rep2 (n : Nat) (a : UInt8) (m : Nat) (b : UInt8) : List UInt8 := List.replicate n a ++ List.replicate m b

theorem rep2_length (n m : Nat) (a b : UInt8) : (rep2 n a m b).length = n + m := by simp [rep2]

theorem rep2_get (n m : Nat) (a b : UInt8) (i : Nat) : (rep2 n a m b)[i]? = if i < n then some a else if i < n + m then some b else none := by
  unfold rep2
  rw [List.getElem?_append, List.getElem?_replicate, List.getElem?_replicate, List.length_replicate]
  by_cases h1 : i < n
  · simp [h1]
  · by_cases h2 : i < n + m
    · simp [h1, h2]; omega
    · simp [h1, h2]; omega

theorem rep2_count (n m : Nat) (a b : UInt8) (h : a ≠ b) : (rep2 n a m b).count b = m ∧ (rep2 n a m b).count a = n := by
  unfold rep2
  have h1 : (a == b) = false := by simpa using h
  have h2 : (b == a) = false := by simpa using Ne.symm h
  simp [List.count_append, List.count_replicate, h1, h2]

theorem rep2_none (n m : Nat) (a b c : UInt8) (h : a ≠ c) (h' : b ≠ c) : (rep2 n a m b).count c = 0 := by
  unfold rep2
  have h1 : (a == c) = false := by simpa using h
  have h2 : (b == c) = false := by simpa using h'
  simp [List.count_append, List.count_replicate, h1, h2]

theorem rep2_runsTo (n m : Nat) (a b : UInt8) (h : a ≠ b) : ∀ k, k ≤ n + m → runsTo b (rep2 n a m b) k = if k ≤ n then [] else [(n, k - n)]
  | 0, _ => by simp [runsTo]
  | k + 1, hk => by
    have ih := rep2_runsTo n m a b h k (by omega)
    unfold runsTo
    rw [ih, rep2_get]
    by_cases h1 : k < n
    · rw [if_pos h1, if_neg (by simpa using h), if_pos (by omega : k ≤ n), if_pos (by omega : k + 1 ≤ n)]
    · rw [if_neg h1, if_pos (by omega : k < n + m), if_pos rfl, if_neg (by omega : ¬ k + 1 ≤ n)]
      by_cases h2 : k = n
      · subst h2
        have ha : ¬ adj b (rep2 k a m b) k := by
          rintro ⟨h3, h4⟩
          rw [rep2_get, if_pos (by omega)] at h4
          exact h (by simpa using h4)
        rw [if_neg ha, if_pos (Nat.le_refl _)]
        simp
      · have ha : adj b (rep2 n a m b) k := ⟨by omega, by rw [rep2_get, if_neg (by omega), if_pos (by omega)]⟩
        rw [if_pos ha, if_neg (by omega : ¬ k ≤ n), show [(n, k - n)] = [] ++ [(n, k - n)] from rfl, bumpL_snoc]
        simp
        omega

theorem rep2_runs (n m : Nat) (a b : UInt8) (h : a ≠ b) : runs b (rep2 n a m b) = if m = 0 then [] else [(n, m)] := by
  unfold runs
  rw [rep2_length, rep2_runsTo n m a b h (n + m) (Nat.le_refl _)]
  by_cases hm : m = 0
  · simp [hm]
  · rw [if_neg (by omega), if_neg hm]; simp

theorem newX_rep {t : Nat} (ht : t ≤ 1024) : newX t = rep2 0 1 t 0 := by
  unfold newX rep2
  rw [show (max 0 (min (t : Int) 1024)).toNat = t by omega]
  simp

theorem layx_rep (n m : Nat) (a b c : UInt8) : layx (rep2 n a m b) 0 n c = rep2 n c m b := by
  apply List.ext_getElem?
  intro i
  rw [layx_get, rep2_get, rep2_get, rep2_length]
  unfold Ins
  simp only
  by_cases h1 : i < n
  · rw [if_pos ⟨⟨by omega, by omega⟩, by omega⟩, if_pos h1]
  · rw [if_neg (fun h => h1 (by omega)), if_neg h1, if_neg h1]

theorem layx_rep' (n m : Nat) (a b c : UInt8) : layx (rep2 n a m b) n m c = rep2 n a m c := by
  apply List.ext_getElem?
  intro i
  rw [layx_get, rep2_get, rep2_get, rep2_length]
  unfold Ins
  simp only
  by_cases h1 : i < n
  · rw [if_neg (fun h => by omega), if_pos h1, if_pos h1]
  · by_cases h2 : i < n + m
    · rw [if_pos ⟨⟨by omega, by omega⟩, by omega⟩, if_neg h1, if_pos h2]
    · rw [if_neg (fun h => by omega), if_neg h1, if_neg h2, if_neg h1, if_neg h2]

theorem rep_split (n m : Nat) (b a : UInt8) : rep2 0 a (n + m) b = rep2 n b m b := by
  unfold rep2
  simp [List.replicate_append_replicate]

theorem pick_rep2 (n m k : Nat) (a : UInt8) (h : a ≠ 0) (hm : 1 ≤ m) (hk : k ≤ m) : pick (rep2 n a m 0) k = (n, k) := by
  unfold pick
  rw [rep2_runs n m a 0 h, if_neg (by omega)]
  simp [choose, hk]

theorem wt_alloc (n m : Nat) (hn : 1 ≤ n) (ht : n + m ≤ 1024) : allocV (newX ((n + m : Nat) : Int)) n = (0, n) ∧ allocE (newX ((n + m : Nat) : Int)) n = 0 ∧ allocM (newX ((n + m : Nat) : Int)) n = rep2 n 1 m 0 := by
  have e : newX ((n + m : Nat) : Int) = rep2 0 1 (n + m) 0 := newX_rep ht
  have hp := pick_rep2 0 (n + m) n 1 (by decide) (by omega) (by omega)
  have h1 : ¬ ((n : Int) < 1) := by omega
  refine ⟨?_, ?_, ?_⟩
  · unfold allocV; rw [if_neg h1, e, Int.toNat_natCast, hp]
  · unfold allocE; rw [if_neg h1, e, (rep2_count 0 (n + m) 1 0 (by decide)).1, if_neg (by omega)]
  · unfold allocM allocX; rw [if_neg h1, e, Int.toNat_natCast, hp, rep_split, layx_rep]

theorem turnE_rep (n m : Nat) (a b c : UInt8) (hn : 1 ≤ n) : turnE (rep2 n a m b) 0 n c = if a = c then 0 else 72 := by
  unfold turnE
  by_cases h : a = c
  · have : canT (rep2 n a m b) ((0 : Nat) : Int) n c = true := by
      refine canT_yes ?_ (fun i hi => ?_)
      · unfold hasT; rw [rep2_length]; exact decide_eq_true (by omega)
      · rw [Nat.zero_add, rep2_get, if_pos hi, h]
    rw [if_pos h]
    rw [show ((0 : Nat) : Int) = 0 from rfl] at this
    rw [this]; rfl
  · have : canT (rep2 n a m b) ((0 : Nat) : Int) n c = false := by
      refine canT_no (i := 0) (by omega) ?_
      rw [Nat.zero_add, rep2_get, if_pos (by omega)]
      simpa using h
    rw [if_neg h]
    rw [show ((0 : Nat) : Int) = 0 from rfl] at this
    rw [this]; rfl

theorem turnX_rep (n m : Nat) (a b c d : UInt8) (hn : 1 ≤ n) : turnX (rep2 n a m b) 0 n c d = if a = c then rep2 n d m b else rep2 n a m b := by
  have h := turnE_rep n m a b c hn
  unfold turnE at h
  unfold turnX
  by_cases hc : canT (rep2 n a m b) 0 n c = true
  · rw [if_pos hc] at h ⊢
    by_cases ha : a = c
    · rw [if_pos ha]; simp only [Int.toNat_natCast]; exact layx_rep ..
    · rw [if_neg ha] at h; simp at h
  · rw [if_neg hc] at h ⊢
    by_cases ha : a = c
    · rw [if_pos ha] at h; simp at h
    · rw [if_neg ha]

theorem wt_all_no (n m : Nat) : allE (rep2 n 2 m 0) ((m : Int) + 1) = 73 ∧ allM (rep2 n 2 m 0) ((m : Int) + 1) = rep2 n 2 m 0 := by
  unfold allE allM
  rw [(rep2_count n m 2 0 (by decide)).1]
  rw [if_pos (by omega), if_pos (by omega)]
  exact ⟨rfl, rfl⟩

theorem wt_all (n m : Nat) : allE (rep2 n 2 m 0) m = 0 ∧ allV (rep2 n 2 m 0) m = (if m = 0 then [] else [(n, m)]) ∧ allM (rep2 n 2 m 0) m = rep2 n 2 m 1 := by
  unfold allE allV allM
  have hlt : ¬ ((m : Int) < (m : Int)) := by omega
  rw [(rep2_count n m 2 0 (by decide)).1]
  simp only [hlt, if_false, Int.toNat_natCast, true_and]
  by_cases hm : m = 0
  · subst hm
    unfold allX
    simp [allF, rep2]
  · rw [if_neg hm]
    have hp := pick_rep2 n m m 2 (by decide) (by omega) (Nat.le_refl _)
    obtain ⟨g, hg, h1, h2⟩ := allF_step m (rep2 n 2 m 0) m (by omega) (Nat.le_refl _) (by rw [(rep2_count n m 2 0 (by decide)).1]; exact Nat.le_refl _)
    unfold allX
    rw [h2, hp]
    simp only [Nat.sub_self, allF_zero, true_and]
    unfold allocX
    rw [hp]
    exact layx_rep' ..

theorem wt_free (n m : Nat) (hm : 1 ≤ m) : turnE (rep2 n 2 m 1) n m 1 = 0 ∧ turnX (rep2 n 2 m 1) n m 1 0 = rep2 n 2 m 0 := by
  have hc : canT (rep2 n 2 m 1) n m 1 = true := by
    refine canT_yes ?_ (fun i hi => ?_)
    · unfold hasT; rw [rep2_length]; exact decide_eq_true (by omega)
    · rw [rep2_get, if_neg (by omega), if_pos (by omega)]
  unfold turnE turnX
  rw [hc]
  simp only [if_true, Int.toNat_natCast, true_and]
  exact layx_rep' ..

theorem wt_commit (n m : Nat) : commitX (rep2 n 2 m 0) = rep2 0 1 (n + m) 0 := by
  rw [rep_split]
  unfold commitX rep2
  simp

theorem wt_list (t : Nat) (ht : 1 ≤ t) : runs 0 (rep2 0 1 t 0) = [(0, t)] ∧ runs 2 (rep2 0 1 t 0) = [] := by
  refine ⟨by rw [rep2_runs 0 t 1 0 (by decide), if_neg (by omega)], runs_nil (rep2_none 0 t 1 0 2 (by decide) (by decide))⟩
end Go.Proofs.Ytelobmdlnkkbkaa
