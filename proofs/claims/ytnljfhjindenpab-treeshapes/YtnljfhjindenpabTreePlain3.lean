/-
  A tree of keys with extents, plainly: deleting; the whole tree. It names nothing of the program.
-/
import Derived.Test.YtnljfhjindenpabTreePlain2
namespace Go.Proofs.Ytnljfhjindenpab
set_option linter.unusedVariables false
set_option linter.unusedSimpArgs false
set_option maxRecDepth 20000

theorem del_ok (k : Int) : ∀ {n m : Nat} {t : Tr n} {a b : Int}, R n m 7 t a b → (n = 0 ∨ 1 ≤ m) → a ≤ k → k < b → R n (m - 1) 7 (delT n t k) a b ∧ flat n (delT n t k) = delL k (flat n t)
  | 0, m, t, a, b, ⟨⟨h1, h2⟩, h3, h4⟩, _, hak, hkb => by
    obtain ⟨c1, c2⟩ := leaf_cut h3 k
    have hf : delT 0 t k = delL k t := by
      unfold delT delL keysOf
      rw [c1, c2]
      clear c1 c2 h1 h2 h4
      induction t with
      | nil => rfl
      | cons p t ih =>
        have h5 : (∀ x ∈ t.map (·.1), p.1 < x) ∧ Rise (t.map (·.1)) := List.pairwise_cons.1 h3
        have ih := ih h5.2
        have h6 : ∀ q ∈ t, p.1 < q.1 := fun q hq => h5.1 q.1 (List.mem_map.2 ⟨q, hq, rfl⟩)
        rcases Int.lt_trichotomy p.1 k with hk | hk | hk
        · have e1 : ¬ k < p.1 := by omega
          have e2 : ¬ p.1 = k := by omega
          simp [hk, e1, e2, ih]
        · have e0 : ¬ p.1 < k := by omega
          have e1 : ¬ k < p.1 := by omega
          simp [e0, e1, hk, ih]
        · have e0 : ¬ p.1 < k := by omega
          have e2 : ¬ p.1 = k := by omega
          have e3 : t.filter (fun p => decide (p.1 < k)) = [] := filt_none (fun x hx => by have := h6 x hx; simp; omega)
          rw [e3] at ih
          simp [hk, e0, e2, e3, ← ih]
    have hcnt := hi_lo (t.map (·.1)) k h3
    have hlo := lo_le (t.map (·.1)) k
    have hhi := hi_le (t.map (·.1)) k
    simp only [List.length_map] at hlo hhi
    refine ⟨⟨?_, ?_, ?_⟩, hf⟩
    · unfold delT keysOf
      simp only [List.length_append, List.length_take, List.length_drop]
      omega
    · rw [hf]
      exact h3.sublist (List.Sublist.map _ List.filter_sublist)
    · rw [hf]
      intro p hp
      exact h4 p (List.mem_filter.1 hp).1
  | n + 1, m, (ks, cs), a, b, ⟨⟨h1, h2⟩, h3⟩, hm, hak, hkb => by
    have hm : 1 ≤ m := by omega
    obtain ⟨ks1, ks2, cs1, c, cs2, mm, nn, rfl, rfl, e3, e4, h4, h5, h6, h7, h8⟩ := bds_find R.kidlt k h3 hak hkb
    obtain ⟨i1, i2⟩ := del_ok k h5 (.inr (by decide)) h7 h8
    have hg : (cs1 ++ c :: cs2).getD (hi (ks1 ++ ks2) k) (dflt n) = c := by
      rw [List.getD_eq_getElem?_getD, (take_mid e4).2.2]; rfl
    have hfl : flat (n + 1) (ks1 ++ ks2, cs1 ++ c :: cs2) = cs1.flatMap (flat n) ++ flat n c ++ cs2.flatMap (flat n) := by simp [flat]
    have hdl : delL k (flat (n + 1) (ks1 ++ ks2, cs1 ++ c :: cs2)) = cs1.flatMap (flat n) ++ flat n (delT n c k) ++ cs2.flatMap (flat n) := by
      rw [hfl, i2]
      refine delL_mid (fun p hp => ?_) (fun p hp => ?_)
      · have := (pre_flat R.kidlt R.kidflat h4).2 p hp; omega
      · have := (post_flat R.kidlt R.kidflat h6).2 p hp; omega
    simp only at h1 h2
    have hc7 := i1.size
    rw [delT]
    simp only [hg, hdl]
    generalize delT n c k = c' at *
    by_cases hs : (keysOf n c').length < 3
    · rw [if_pos hs]
      have hw : withT n (ks1 ++ ks2, cs1 ++ c :: cs2) (hi (ks1 ++ ks2) k) c' = (ks1 ++ ks2, cs1 ++ c' :: cs2) := by
        unfold withT
        rw [if_pos hc7.2]
        obtain ⟨t1, t2, _⟩ := take_mid (xs := cs1) (ys := cs2) (x := c) e4
        simp only [t1, t2]
        simp
      rw [hw]
      by_cases hk1 : ks1 = []
      · subst hk1
        have e30 : hi ([] ++ ks2) k = 0 := by simpa using e3.symm
        have hc1 : cs1 = [] := List.eq_nil_of_length_eq_zero (pre_length h4)
        subst hc1
        cases ks2 with
        | nil => simp at h1; omega
        | cons k0 ks2 =>
          cases cs2 with
          | nil => exact h6.elim
          | cons r cs2 =>
            obtain ⟨rfl, n', h9, h10⟩ := h6
            have h4' : mm = a := h4
            subst h4'
            have hj := join_ok (p := 2) (q := 3) i1 h9 (by decide) (by have := h9.size; omega) (by omega) (by have := R.lt h9 (by decide); omega)
            have hp := with_ok (ks1 := []) (cs1 := []) (a := mm) (c0 := r) (i := 0) rfl hj.1 h10 rfl
            have hfu : fusedT n ([] ++ nn :: ks2, [] ++ c' :: r :: cs2) (hi ([] ++ nn :: ks2) k - 1) = withT n ([] ++ ks2, [] ++ r :: cs2) 0 (joinT n c' nn r) := by
              rw [e30]; rfl
            rw [hfu]
            obtain ⟨hp1, hp2, hp3, hp4⟩ := hp
            simp only [List.nil_append, List.length_cons] at h1 h2 hp2 hp3
            refine ⟨⟨⟨Nat.le_trans (by omega) hp2, Nat.le_trans hp3 (by omega)⟩, hp1⟩, ?_⟩
            rw [hp4, hj.2]
            simp
      · obtain ⟨ks1', k0, cs1', l, m', rfl, rfl, h9, h10, rfl⟩ := pre_snoc h4 hk1
        have hl' := pre_length h9
        have e5 : hi (ks1' ++ [mm] ++ ks2) k = ks1'.length + 1 := by rw [← e3]; simp
        have hj := join_ok (p := 3) (q := 2) h10 i1 (by decide) (by have := h10.size; omega) (by have := R.lt h10 (by decide); omega) (by omega)
        have hp := with_ok (ks2 := ks2) (cs2 := cs2) (a := a) (b := b) (c0 := c') (i := ks1'.length) h9 hj.1 h6 rfl
        have hfu : fusedT n (ks1' ++ [mm] ++ ks2, cs1' ++ [l] ++ c' :: cs2) (hi (ks1' ++ [mm] ++ ks2) k - 1) = withT n (ks1' ++ ks2, cs1' ++ c' :: cs2) ks1'.length (joinT n l mm c') := by
          rw [e5, Nat.add_sub_cancel]
          obtain ⟨t1, t2, t3⟩ := take_mid (xs := ks1') (ys := ks2) (x := mm) (i := ks1'.length) rfl
          obtain ⟨t4, t5, t6⟩ := take_mid (xs := cs1') (ys := c' :: cs2) (x := l) (i := ks1'.length) hl'
          have t7 : (cs1' ++ l :: c' :: cs2)[ks1'.length + 1]? = some c' := by
            rw [List.getElem?_append_right (by omega), hl']; simp
          unfold fusedT fewerT
          simp only [List.append_assoc, List.singleton_append, t1, t2, t4, t5, List.getD_eq_getElem?_getD, t3, t6, t7, Option.getD_some]
        rw [hfu]
        obtain ⟨hp1, hp2, hp3, hp4⟩ := hp
        simp only [List.length_append, List.length_cons, List.length_nil] at h1 h2 hp2 hp3
        refine ⟨⟨⟨Nat.le_trans (by omega) hp2, Nat.le_trans hp3 (by omega)⟩, hp1⟩, ?_⟩
        rw [hp4, hj.2]
        simp
    · rw [if_neg hs]
      have hp := with_ok (c0 := c) h4 (R.resize i1 (by omega) (by omega)) h6 e3
      obtain ⟨hp1, hp2, hp3, hp4⟩ := hp
      have hw : (withT n (ks1 ++ ks2, cs1 ++ c :: cs2) (hi (ks1 ++ ks2) k) c').1 = ks1 ++ ks2 := by
        unfold withT
        rw [if_pos hc7.2]
      refine ⟨⟨⟨?_, ?_⟩, hp1⟩, hp4⟩
      · rw [hw]; omega
      · rw [hw]; omega

/-! ### Whole trees -/
/-- A right tree: of keys from 0 on, below 2^64; the root may have fewer keys. -/
def Top (n : Nat) (t : Tr n) : Prop := R n (min n 1) 7 t 0 18446744073709551616

/-- What stands below a root that may have a single kid. -/
def topT : (n : Nat) → Tr n → (n' : Nat) × Tr n'
  | 0, t => ⟨0, t⟩
  | n + 1, t => if t.2.length = 1 then ⟨n, t.2.getD 0 (dflt n)⟩ else ⟨n + 1, t⟩

theorem top_ok : ∀ {n m : Nat} {t : Tr n}, R n m 7 t 0 18446744073709551616 → Top (topT n t).1 (topT n t).2 ∧ flat _ (topT n t).2 = flat n t
  | 0, m, t, h => ⟨R.resize (n := 0) h (Nat.zero_le _) h.size.2, rfl⟩
  | n + 1, m, (ks, cs), h => by
    obtain ⟨⟨h1, h2⟩, h3⟩ := h
    have hl := bds_length h3
    by_cases hc : cs.length = 1
    · rw [show topT (n + 1) (ks, cs) = ⟨n, cs.getD 0 (dflt n)⟩ from if_pos hc]
      simp only at h1 h2 h3 hl
      have hk : ks = [] := List.eq_nil_of_length_eq_zero (by omega)
      subst hk
      obtain ⟨c, rfl⟩ := List.length_eq_one_iff.1 hc
      have h3 : R n 3 7 c 0 18446744073709551616 := h3
      refine ⟨R.resize h3 (by have := h3.size; simp; omega) h3.size.2, ?_⟩
      simp [flat]
    · rw [show topT (n + 1) (ks, cs) = ⟨n + 1, (ks, cs)⟩ from if_neg hc]
      simp only at h1 h2 hl
      refine ⟨⟨⟨?_, h2⟩, h3⟩, rfl⟩
      simp only
      omega

/-- Put and Del of whole trees. -/
def putTop (n : Nat) (t : Tr n) (k : Int) (e : Ext) : (n' : Nat) × Tr n' := topT (n + 1) (putT (n + 1) ([], [t]) k e)
def delTop (n : Nat) (t : Tr n) (k : Int) : (n' : Nat) × Tr n' := topT n (delT n t k)

theorem putTop_ok {n : Nat} {t : Tr n} {k : Int} {e : Ext} (h : Top n t) (h0 : 0 ≤ k) (h1 : k < 18446744073709551616) : Top (putTop n t k e).1 (putTop n t k e).2 ∧ flat _ (putTop n t k e).2 = putL k e (flat n t) := by
  obtain ⟨hp, hf⟩ := put_ok k e h h0 h1
  have hput : putT (n + 1) ([], [t]) k e = withT n ([], [t]) 0 (putT n t k e) := by simp [putT, hi]
  unfold putTop
  rw [hput]
  unfold withT
  by_cases hs : (keysOf n (putT n t k e)).length ≤ 7
  · rw [if_pos hs]
    simp only [topT, List.take_zero, List.nil_append, List.drop_succ_cons, List.drop_zero, List.append_nil, List.length_cons, List.length_nil]
    exact ⟨R.resize hp hp.size.1 hs, hf⟩
  · rw [if_neg hs]
    have hc : R n 8 10 (putT n t k e) 0 18446744073709551616 := R.resize hp (by omega) (by have := hp.size; omega)
    obtain ⟨_, _, h6, h7, h8⟩ := halves_ok hc
    simp only [topT, List.take_zero, List.nil_append, List.drop_succ_cons, List.drop_zero, List.append_nil, List.length_cons, List.length_nil, List.drop_nil]
    refine ⟨⟨⟨by simp, by simp⟩, h6, h7⟩, ?_⟩
    rw [← hf, ← h8]
    simp [flat]

theorem delTop_ok {n : Nat} {t : Tr n} {k : Int} (h : Top n t) (h0 : 0 ≤ k) (h1 : k < 18446744073709551616) : Top (delTop n t k).1 (delTop n t k).2 ∧ flat _ (delTop n t k).2 = delL k (flat n t) := by
  obtain ⟨hp, hf⟩ := del_ok k h (by omega) h0 h1
  obtain ⟨h2, h3⟩ := top_ok hp
  exact ⟨h2, h3.trans hf⟩
end Go.Proofs.Ytnljfhjindenpab
