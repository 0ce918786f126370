/-
  A tree of keys with extents, plainly: putting and deleting leave it right, with the pairs that are asked. It names nothing of the program.
-/
import Derived.Test.YtnljfhjindenpabTreePlain
namespace Go.Proofs.Ytnljfhjindenpab
set_option linter.unusedVariables false
set_option linter.unusedSimpArgs false
set_option maxRecDepth 20000

def dflt : (n : Nat) → Tr n
  | 0 => []
  | _ + 1 => ([], [])

def midK (n : Nat) (t : Tr n) : Int := (keysOf n t).getD ((keysOf n t).length / 2) 0

def lefT : (n : Nat) → Tr n → Tr n
  | 0, t => t.take (t.length / 2)
  | _ + 1, t => (t.1.take (t.1.length / 2), t.2.take (t.1.length / 2 + 1))

def rigT : (n : Nat) → Tr n → Tr n
  | 0, t => t.drop (t.length / 2)
  | _ + 1, t => (t.1.drop (t.1.length / 2 + 1), t.2.drop (t.1.length / 2 + 1))

def joinT : (n : Nat) → Tr n → Int → Tr n → Tr n
  | 0, l, _, r => l ++ r
  | _ + 1, l, k, r => (l.1 ++ [k] ++ r.1, l.2 ++ r.2)

def withT (n : Nat) (t : Tr (n + 1)) (i : Nat) (c : Tr n) : Tr (n + 1) :=
  if (keysOf n c).length ≤ 7 then (t.1, t.2.take i ++ [c] ++ t.2.drop (i + 1))
  else (t.1.take i ++ [midK n c] ++ t.1.drop i, t.2.take i ++ [lefT n c, rigT n c] ++ t.2.drop (i + 1))

def fewerT (n : Nat) (t : Tr (n + 1)) (i : Nat) : Tr (n + 1) := (t.1.take i ++ t.1.drop (i + 1), t.2.take i ++ t.2.drop (i + 1))

def fusedT (n : Nat) (t : Tr (n + 1)) (i : Nat) : Tr (n + 1) := withT n (fewerT n t i) i (joinT n (t.2.getD i (dflt n)) (t.1.getD i 0) (t.2.getD (i + 1) (dflt n)))

def putT : (n : Nat) → Tr n → Int → Ext → Tr n
  | 0, t, k, e => t.take (lo (keysOf 0 t) k) ++ [(k, e)] ++ t.drop (hi (keysOf 0 t) k)
  | n + 1, t, k, e => withT n t (hi t.1 k) (putT n (t.2.getD (hi t.1 k) (dflt n)) k e)

def delT : (n : Nat) → Tr n → Int → Tr n
  | 0, t, k => t.take (lo (keysOf 0 t) k) ++ t.drop (hi (keysOf 0 t) k)
  | n + 1, t, k => if (keysOf n (delT n (t.2.getD (hi t.1 k) (dflt n)) k)).length < 3 then fusedT n (withT n t (hi t.1 k) (delT n (t.2.getD (hi t.1 k) (dflt n)) k)) (hi t.1 k - 1)
    else withT n t (hi t.1 k) (delT n (t.2.getD (hi t.1 k) (dflt n)) k)

theorem rise_mid {ks : List Int} (h : Rise ks) {i : Nat} (hi : i < ks.length) : (∀ x ∈ ks.take i, x < ks[i]) ∧ (∀ x ∈ ks.drop i, ks[i] ≤ x) ∧ ∀ x ∈ ks.drop (i + 1), ks[i] < x := by
  have e : ks = ks.take i ++ ks[i] :: ks.drop (i + 1) := by simp
  have h' := h
  rw [e] at h'
  obtain ⟨_, h2, h3⟩ := List.pairwise_append.1 h'
  have h4 := (List.pairwise_cons.1 h2).1
  refine ⟨fun x hx => h3 x hx _ List.mem_cons_self, fun x hx => ?_, h4⟩
  rw [List.drop_eq_getElem_cons hi] at hx
  rcases List.mem_cons.1 hx with rfl | hx
  · omega
  · have := h4 x hx; omega

/-- A node in two. -/
theorem halves_ok : ∀ {n : Nat} {t : Tr n} {a b : Int}, R n 8 10 t a b → a < midK n t ∧ midK n t < b ∧ R n 3 7 (lefT n t) a (midK n t) ∧ R n 3 7 (rigT n t) (midK n t) b ∧ flat n (lefT n t) ++ flat n (rigT n t) = flat n t
  | 0, t, a, b, h => by
    obtain ⟨⟨h1, h2⟩, h3, h4⟩ := h
    have hl : t.length / 2 < t.length := by omega
    have hm : midK 0 t = (t[t.length / 2]).1 := by
      unfold midK keysOf
      simp [List.getElem?_eq_getElem hl]
    have hlm : t.length / 2 < (t.map (·.1)).length := by simpa using hl
    obtain ⟨r1, r2, _⟩ := rise_mid h3 hlm
    simp only [List.getElem_map] at r1 r2
    rw [hm]
    have h0 : 0 < t.length := by omega
    have h5 := h4 t[0] (List.getElem_mem _)
    have h6 := h4 t[t.length / 2] (List.getElem_mem _)
    have h7 : t[0].1 < (t[t.length / 2]).1 := r1 _ (by rw [← List.map_take]; refine List.mem_map.2 ⟨t[0], ?_, rfl⟩; exact List.mem_take_iff_getElem.2 ⟨0, by omega, rfl⟩)
    refine ⟨by omega, by omega, ⟨⟨?_, ?_⟩, ?_, ?_⟩, ⟨⟨?_, ?_⟩, ?_, ?_⟩, ?_⟩
    · simp [lefT]; omega
    · simp [lefT]; omega
    · simp only [lefT, List.map_take]; exact h3.sublist (List.take_sublist _ _)
    · intro p hp
      simp only [lefT] at hp
      exact ⟨(h4 p (List.mem_of_mem_take hp)).1, r1 p.1 (by rw [← List.map_take]; exact List.mem_map.2 ⟨p, hp, rfl⟩)⟩
    · simp [rigT]; omega
    · simp [rigT]; omega
    · simp only [rigT, List.map_drop]; exact h3.sublist (List.drop_sublist _ _)
    · intro p hp
      simp only [rigT] at hp
      exact ⟨r2 p.1 (by rw [← List.map_drop]; exact List.mem_map.2 ⟨p, hp, rfl⟩), (h4 p (List.mem_of_mem_drop hp)).2⟩
    · simp [flat, lefT, rigT]
  | n + 1, (ks, cs), a, b, h => by
    obtain ⟨⟨h1, h2⟩, h3⟩ := h
    simp only at h1 h2 h3
    have hl : ks.length / 2 < ks.length := by omega
    have hm : midK (n + 1) (ks, cs) = ks[ks.length / 2] := by
      unfold midK keysOf
      simp [List.getElem?_eq_getElem hl]
    have hcl := bds_length h3
    have hk := (bds_keys R.kidlt h3).2.2 ks[ks.length / 2] (List.getElem_mem _)
    have e1 : ks = ks.take (ks.length / 2) ++ ks[ks.length / 2] :: ks.drop (ks.length / 2 + 1) := by simp
    have e2 : cs = cs.take (ks.length / 2 + 1) ++ cs.drop (ks.length / 2 + 1) := by simp
    have h4 : Bds (fun c a b => R n 3 7 c a b) a (ks.take (ks.length / 2) ++ ks[ks.length / 2] :: ks.drop (ks.length / 2 + 1)) (cs.take (ks.length / 2 + 1) ++ cs.drop (ks.length / 2 + 1)) b := by
      rw [← e1, ← e2]; exact h3
    rw [bds_join (by simp; omega)] at h4
    rw [hm]
    refine ⟨hk.1, hk.2, ⟨⟨?_, ?_⟩, h4.1⟩, ⟨⟨?_, ?_⟩, h4.2⟩, ?_⟩
    · simp [lefT]; omega
    · simp [lefT]; omega
    · simp [rigT]; omega
    · simp [rigT]; omega
    · simp only [flat, lefT, rigT]
      rw [← List.flatMap_append, List.take_append_drop]

/-- Two nodes in one. -/
theorem join_ok {p q : Nat} : ∀ {n : Nat} {l r : Tr n} {a k b : Int}, R n p 7 l a k → R n q 7 r k b → 5 ≤ p + q → (keysOf n l).length + (keysOf n r).length ≤ 9 → a ≤ k → k ≤ b → R n 3 10 (joinT n l k r) a b ∧ flat n (joinT n l k r) = flat n l ++ flat n r
  | 0, l, r, a, k, b, h1, h2, hpq, hs, hak, hkb => by
    obtain ⟨⟨h3, h4⟩, h5, h6⟩ := h1
    obtain ⟨⟨h7, h8⟩, h9, h10⟩ := h2
    simp only [keysOf, List.length_map] at hs
    refine ⟨⟨?_, ?_, ?_⟩, rfl⟩
    · simp only [joinT, List.length_append]; omega
    · simp only [joinT, List.map_append]
      refine List.pairwise_append.2 ⟨h5, h9, fun x hx y hy => ?_⟩
      obtain ⟨p', hp', rfl⟩ := List.mem_map.1 hx
      obtain ⟨q', hq', rfl⟩ := List.mem_map.1 hy
      have := h6 p' hp'
      have := h10 q' hq'
      omega
    · intro x hx
      simp only [joinT, List.mem_append] at hx
      rcases hx with hx | hx
      · have := h6 x hx; omega
      · have := h10 x hx; omega
  | n + 1, l, r, a, k, b, h1, h2, hpq, hs, hak, hkb => by
    obtain ⟨⟨h3, h4⟩, h5⟩ := h1
    obtain ⟨⟨h7, h8⟩, h9⟩ := h2
    simp only [keysOf] at hs
    refine ⟨⟨?_, ?_⟩, ?_⟩
    · simp only [joinT, List.length_append, List.length_cons, List.length_nil]; omega
    · have := (bds_join (B := fun c a b => R n 3 7 c a b) (bds_length h5)).2 ⟨h5, h9⟩
      simpa [joinT] using this
    · simp [flat, joinT]

theorem take_mid {α : Type} {xs ys : List α} {x : α} {i : Nat} (hi : xs.length = i) : (xs ++ x :: ys).take i = xs ∧ (xs ++ x :: ys).drop (i + 1) = ys ∧ (xs ++ x :: ys)[i]? = some x := by
  subst hi
  refine ⟨by simp, ?_, by simp⟩
  rw [List.drop_append, List.drop_eq_nil_of_le (by omega)]
  simp

/-- One kid in another's place. -/
theorem with_ok {n : Nat} {ks1 ks2 : List Int} {cs1 cs2 : List (Tr n)} {c0 c : Tr n} {a m nn b : Int} {i : Nat} (h1 : Pre (fun c a b => R n 3 7 c a b) a ks1 cs1 m) (h2 : R n 3 10 c m nn) (h3 : Post (fun c a b => R n 3 7 c a b) nn ks2 cs2 b) (hi : ks1.length = i) :
    Bds (fun c a b => R n 3 7 c a b) a (withT n (ks1 ++ ks2, cs1 ++ c0 :: cs2) i c).1 (withT n (ks1 ++ ks2, cs1 ++ c0 :: cs2) i c).2 b ∧
    (ks1 ++ ks2).length ≤ (withT n (ks1 ++ ks2, cs1 ++ c0 :: cs2) i c).1.length ∧ (withT n (ks1 ++ ks2, cs1 ++ c0 :: cs2) i c).1.length ≤ (ks1 ++ ks2).length + 1 ∧
    flat (n + 1) (withT n (ks1 ++ ks2, cs1 ++ c0 :: cs2) i c) = cs1.flatMap (flat n) ++ flat n c ++ cs2.flatMap (flat n) := by
  have hl := pre_length h1
  have hci : cs1.length = i := by omega
  obtain ⟨e1, e2, _⟩ := take_mid (xs := cs1) (ys := cs2) (x := c0) hci
  have e3 : (ks1 ++ ks2).take i = ks1 := by subst hi; simp
  have e4 : (ks1 ++ ks2).drop i = ks2 := by subst hi; simp
  unfold withT
  by_cases hs : (keysOf n c).length ≤ 7
  · rw [if_pos hs]
    have hc : R n 3 7 c m nn := R.resize h2 h2.size.1 hs
    refine ⟨?_, Nat.le_refl _, Nat.le_succ _, ?_⟩
    · simp only [e1, e2]
      have := (bds_split (B := fun c a b => R n 3 7 c a b) (ks2 := ks2) (cs2 := cs2) (b := b) hl).2 ⟨m, nn, h1, hc, h3⟩
      simpa using this
    · simp only [e1, e2, flat]
      simp
  · rw [if_neg hs]
    have hc : R n 8 10 c m nn := R.resize h2 (by omega) h2.size.2
    obtain ⟨_, _, h6, h7, h8⟩ := halves_ok hc
    refine ⟨?_, ?_, ?_, ?_⟩
    · simp only [e1, e2, e3, e4]
      have := (bds_split (B := fun c a b => R n 3 7 c a b) (c := lefT n c) (ks2 := midK n c :: ks2) (cs2 := rigT n c :: cs2) (b := b) hl).2 ⟨m, midK n c, h1, h6, rfl, nn, h7, h3⟩
      simpa using this
    · simp only [e3, e4, List.length_append, List.length_cons, List.length_nil]; omega
    · simp only [e3, e4, List.length_append, List.length_cons, List.length_nil]; omega
    · simp only [e1, e2, flat]
      rw [← h8]
      simp

theorem leaf_cut {t : List Pr} (h : Rise (t.map (·.1))) (k : Int) : t.take (lo (t.map (·.1)) k) = t.filter (fun p => decide (p.1 < k)) ∧ t.drop (hi (t.map (·.1)) k) = t.filter (fun p => decide (k < p.1)) := by
  induction t with
  | nil => exact ⟨rfl, rfl⟩
  | cons p t ih =>
    have h1 : (∀ x ∈ t.map (·.1), p.1 < x) ∧ Rise (t.map (·.1)) := List.pairwise_cons.1 h
    obtain ⟨i1, i2⟩ := ih h1.2
    constructor
    · by_cases hk : p.1 < k
      · have : lo ((p :: t).map (·.1)) k = lo (t.map (·.1)) k + 1 := by simp [lo, List.countP_cons, hk]
        rw [this]; simp [hk, i1]
      · have h0 : lo ((p :: t).map (·.1)) k = 0 := by
          unfold lo
          refine List.countP_eq_zero.2 (fun x hx => ?_)
          rcases List.mem_cons.1 hx with rfl | hx
          · simpa using hk
          · have := h1.1 x hx; simp; omega
        rw [h0]
        simp only [List.take_zero]
        refine (filt_none (fun x hx => ?_)).symm
        rcases List.mem_cons.1 hx with rfl | hx
        · simpa using hk
        · have := h1.1 x.1 (List.mem_map.2 ⟨x, hx, rfl⟩); simp; omega
    · by_cases hk : p.1 ≤ k
      · have : hi ((p :: t).map (·.1)) k = hi (t.map (·.1)) k + 1 := by simp [hi, List.countP_cons, hk]
        rw [this]
        have hk' : ¬ k < p.1 := by omega
        simp [hk', i2]
      · have h0 : hi ((p :: t).map (·.1)) k = 0 := by
          unfold hi
          refine List.countP_eq_zero.2 (fun x hx => ?_)
          rcases List.mem_cons.1 hx with rfl | hx
          · simpa using hk
          · have := h1.1 x hx; simp; omega
        rw [h0]
        simp only [List.drop_zero]
        refine (filt_all (fun x hx => ?_)).symm
        rcases List.mem_cons.1 hx with rfl | hx
        · simp; omega
        · have := h1.1 x.1 (List.mem_map.2 ⟨x, hx, rfl⟩); simp; omega

theorem hi_lo (ks : List Int) (k : Int) (h : Rise ks) : lo ks k ≤ hi ks k ∧ hi ks k ≤ lo ks k + 1 := by
  induction ks with
  | nil => simp [lo, hi]
  | cons x ks ih =>
    have h1 := List.pairwise_cons.1 h
    have := ih h1.2
    simp only [lo, hi, List.countP_cons] at *
    by_cases hx : x < k
    · have : x ≤ k := by omega
      simp only [hx, this, decide_true, if_true]; omega
    · by_cases hx2 : x = k
      · subst hx2
        have h2 : ks.countP (fun y => decide (y ≤ x)) = 0 := List.countP_eq_zero.2 (fun y hy => by have := h1.1 y hy; simp; omega)
        have h3 : ks.countP (fun y => decide (y < x)) = 0 := List.countP_eq_zero.2 (fun y hy => by have := h1.1 y hy; simp; omega)
        rw [h2, h3]
        simp
      · have : ¬ x ≤ k := by omega
        simp [hx, this]; omega

/-- Put. -/
theorem put_ok (k : Int) (e : Ext) : ∀ {n m : Nat} {t : Tr n} {a b : Int}, R n m 7 t a b → a ≤ k → k < b → R n m 8 (putT n t k e) a b ∧ flat n (putT n t k e) = putL k e (flat n t)
  | 0, m, t, a, b, ⟨⟨h1, h2⟩, h3, h4⟩, hak, hkb => by
    obtain ⟨c1, c2⟩ := leaf_cut h3 k
    have hf : putT 0 t k e = putL k e t := by
      unfold putT putL keysOf
      rw [c1, c2]; simp
    have hcnt := hi_lo (t.map (·.1)) k h3
    have hlo := lo_le (t.map (·.1)) k
    have hhi := hi_le (t.map (·.1)) k
    simp only [List.length_map] at hlo hhi
    refine ⟨⟨?_, ?_, ?_⟩, hf⟩
    · unfold putT keysOf
      simp only [List.length_append, List.length_take, List.length_drop, List.length_cons, List.length_nil]
      omega
    · rw [hf]
      unfold putL
      simp only [List.map_append, List.map_cons]
      refine List.pairwise_append.2 ⟨?_, List.pairwise_cons.2 ⟨?_, ?_⟩, ?_⟩
      · exact h3.sublist (List.Sublist.map _ List.filter_sublist)
      · intro x hx
        obtain ⟨p, hp, rfl⟩ := List.mem_map.1 hx
        simpa using (List.mem_filter.1 hp).2
      · exact h3.sublist (List.Sublist.map _ List.filter_sublist)
      · intro x hx y hy
        obtain ⟨p, hp, rfl⟩ := List.mem_map.1 hx
        have h5 : p.1 < k := by simpa using (List.mem_filter.1 hp).2
        rcases List.mem_cons.1 hy with rfl | hy
        · exact h5
        · obtain ⟨q, hq, rfl⟩ := List.mem_map.1 hy
          have h6 : k < q.1 := by simpa using (List.mem_filter.1 hq).2
          omega
    · rw [hf]
      intro p hp
      unfold putL at hp
      rcases List.mem_append.1 hp with hp | hp
      · exact h4 p (List.mem_filter.1 hp).1
      · rcases List.mem_cons.1 hp with rfl | hp
        · exact ⟨hak, hkb⟩
        · exact h4 p (List.mem_filter.1 hp).1
  | n + 1, m, (ks, cs), a, b, ⟨⟨h1, h2⟩, h3⟩, hak, hkb => by
    obtain ⟨ks1, ks2, cs1, c, cs2, mm, nn, rfl, rfl, e3, e4, h4, h5, h6, h7, h8⟩ := bds_find R.kidlt k h3 hak hkb
    obtain ⟨i1, i2⟩ := put_ok k e h5 h7 h8
    have hp := with_ok (c0 := c) h4 (R.resize i1 i1.size.1 (by have := i1.size.2; omega)) h6 e3
    have hg : (cs1 ++ c :: cs2).getD (hi (ks1 ++ ks2) k) (dflt n) = c := by
      rw [List.getD_eq_getElem?_getD, (take_mid e4).2.2]; rfl
    have hput : putT (n + 1) (ks1 ++ ks2, cs1 ++ c :: cs2) k e = withT n (ks1 ++ ks2, cs1 ++ c :: cs2) (hi (ks1 ++ ks2) k) (putT n c k e) := by
      rw [putT]; simp only [hg]
    rw [hput]
    obtain ⟨hp1, hp2, hp3, hp4⟩ := hp
    simp only at h1 h2
    refine ⟨⟨⟨Nat.le_trans h1 hp2, Nat.le_trans hp3 (by omega)⟩, hp1⟩, ?_⟩
    rw [hp4, i2]
    have hfl : flat (n + 1) (ks1 ++ ks2, cs1 ++ c :: cs2) = cs1.flatMap (flat n) ++ flat n c ++ cs2.flatMap (flat n) := by simp [flat]
    rw [hfl]
    refine (putL_mid (fun p hp => ?_) (fun p hp => ?_)).symm
    · have := (pre_flat R.kidlt R.kidflat h4).2 p hp; omega
    · have := (post_flat R.kidlt R.kidflat h6).2 p hp; omega
end Go.Proofs.Ytnljfhjindenpab
