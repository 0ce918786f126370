/-
  Reading the nodes that a right tree tells gives its pairs: plainly.
-/
import Derived.Test.YtnljfhjindenpabTreeN5
namespace Go.Proofs.Ytnljfhjindenpab
set_option linter.unusedVariables false
set_option linter.unusedSimpArgs false
set_option maxRecDepth 20000

theorem bds_get {α : Type} {B : α → Int → Int → Prop} : ∀ {ks : List Int} {cs : List α} {a b : Int} {j : Nat} {c : α}, Bds B a ks cs b → cs[j]? = some c → B c (lft ks a j) (rgt ks b j)
  | [], [c0], a, b, 0, c, h, hc => by
    have : c0 = c := by simpa using hc
    subst this
    exact h
  | [], [c0], a, b, j + 1, c, h, hc => by simp at hc
  | k :: ks, c0 :: cs, a, b, 0, c, h, hc => by
    have : c0 = c := by simpa using hc
    subst this
    exact h.1
  | k :: ks, c0 :: cs, a, b, j + 1, c, h, hc => by
    have := bds_get h.2 (show cs[j]? = some c by simpa using hc)
    have e1 : lft (k :: ks) a (j + 1) = lft ks k j := by
      unfold lft
      cases j <;> simp
    have e2 : rgt (k :: ks) b (j + 1) = rgt ks b j := by
      unfold rgt
      simp
    rw [e1, e2]
    exact this

theorem kidsG_get (g : Nat → Nat → List Nv) (k : Nat) : ∀ {J j : Nat}, j < J → (kidsG g J k).1[j]? = some (((k + (kidsG g j k).2.length : Nat)) : Int) ∧ ∃ rest, (kidsG g J k).2 = (kidsG g j k).2 ++ g j (k + (kidsG g j k).2.length) ++ rest
  | 0, j, h => by omega
  | J + 1, j, h => by
    by_cases hj : j = J
    · subst hj
      refine ⟨?_, [], ?_⟩
      · rw [kidsG, List.getElem?_append_right (by rw [kidsG_len]; omega), kidsG_len]
        simp
      · rw [kidsG]; simp
    · obtain ⟨h1, rest, h2⟩ := kidsG_get g k (J := J) (j := j) (by omega)
      refine ⟨?_, rest ++ g J (k + (kidsG g J k).2.length), ?_⟩
      · rw [kidsG, List.getElem?_append_left (by rw [kidsG_len]; omega)]
        exact h1
      · rw [kidsG, h2]; simp

theorem kidsG_mem {g : Nat → Nat → List Nv} {k : Nat} {nd : Nv} : ∀ {J : Nat}, nd ∈ (kidsG g J k).2 → ∃ j k', j < J ∧ nd ∈ g j k'
  | 0, h => by simp [kidsG] at h
  | J + 1, h => by
    rw [kidsG, List.mem_append] at h
    rcases h with h | h
    · obtain ⟨j, k', h1, h2⟩ := kidsG_mem h
      exact ⟨j, k', by omega, h2⟩
    · exact ⟨J, _, by omega, h⟩

theorem getD_get {n : Nat} {cs : List (Tr n)} {j : Nat} (h : j < cs.length) : cs.getD j (dflt n) = cs[j] := by rw [List.getD_eq_getElem?_getD, List.getElem?_eq_getElem h]; rfl

/-- The keys of all nodes lie within the bounds. -/
theorem nodes_keys : ∀ {n m M : Nat} {t : Tr n} {a b : Int} (k : Nat), R n m M t a b → ∀ nd ∈ nodesT n t k, ∀ x ∈ nd.1, a ≤ x ∧ x < b
  | 0, m, M, t, a, b, k, h, nd, hnd, x, hx => by
    have : nd = (t.map (·.1), t.map (·.2), []) := by simpa [nodesT] using hnd
    subst this
    exact (R.keys h).2 x hx
  | n + 1, m, M, t, a, b, k, h, nd, hnd, x, hx => by
    rw [nodesT, List.mem_cons] at hnd
    rcases hnd with rfl | hnd
    · exact (R.keys h).2 x hx
    · obtain ⟨j, k', hj, hmem⟩ := kidsG_mem hnd
      rw [getD_get hj] at hmem
      have hc := bds_get h.2 (List.getElem?_eq_getElem hj)
      have := nodes_keys k' hc nd hmem x hx
      have hk := bds_keys R.kidlt h.2
      have hl := bds_length h.2
      have e1 : a ≤ lft t.1 a j := by
        unfold lft
        split
        · rw [List.getD_eq_getElem?_getD, List.getElem?_eq_getElem (by omega)]
          exact Int.le_of_lt (hk.2.2 _ (List.getElem_mem _)).1
        · omega
      have e2 : rgt t.1 b j ≤ b := by
        unfold rgt
        split
        · rw [List.getD_eq_getElem?_getD, List.getElem?_eq_getElem (by omega)]
          exact Int.le_of_lt (hk.2.2 _ (List.getElem_mem _)).2
        · omega
      omega

theorem ins_of {xs ks : List Int} {a b : Int} {j : Nat} (h : ∀ x ∈ xs, lft ks a j ≤ x ∧ x < rgt ks b j) : Ins xs ks j := by
  intro x hx hbad
  obtain ⟨h1, h2⟩ := h x hx
  unfold lft at h1
  unfold rgt at h2
  rcases hbad with ⟨h3, h4⟩ | ⟨h3, h4⟩
  · rw [if_pos h3] at h1; omega
  · rw [if_pos h3] at h2; omega

theorem form_leaf {t : List Pr} {m : Nat} {a b : Int} {root : Bool} (h : R 0 m 7 t a b) (hr : root = true ∨ 3 ≤ m) : Form (t.map (·.1), t.map (·.2), []) root := by
  have h1 := h.1
  refine ⟨by simp; omega, ?_, h.2.1, .inl ⟨rfl, by simp⟩⟩
  rcases hr with hr | hr
  · exact .inl hr
  · right; simp; omega

theorem form_inner {n m : Nat} {t : Tr (n + 1)} {a b : Int} {root : Bool} {is : List Int} (h : R (n + 1) m 7 t a b) (hr : root = true ∨ 3 ≤ m) (hm : 1 ≤ m) (hi : is.length = t.2.length) : Form (t.1, [], is) root := by
  have h1 := h.1
  have hl := bds_length h.2
  refine ⟨h1.2, ?_, (R.keys h).1, .inr ⟨by simp only; omega, rfl, by simp only; omega, by simp only; omega⟩⟩
  rcases hr with hr | hr
  · exact .inl hr
  · right; simp only; omega

theorem rdK_all {l : List Nv} {rec : Nat → Option Rd} {n p : Nat} {t : Tr (n + 1)} {a b : Int} {g : Nat → Nat → List Nv} (hg : g = fun j k => nodesT n (t.2.getD j (dflt n)) k) (hR : Bds (fun c a b => R n 3 7 c a b) a t.1 t.2 b)
    {rest : List Nv} (hl : l.drop (p + 1) = (kidsG g t.2.length (p + 1)).2 ++ rest)
    (hrec : ∀ j k, (hj : j < t.2.length) → ∀ rest, l.drop k = nodesT n t.2[j] k ++ rest → 0 < k → rec k = some ((nodesT n t.2[j] k).length, (n : Int), flat n t.2[j])) :
    ∀ (r j : Nat), j + r = t.2.length → ∀ deep : Int, (deep = -1 ∨ deep = n) → (0 < j → deep = n) → 0 < t.2.length → rdK l rec t.1 p ((kidsG g t.2.length (p + 1)).1.drop j) j (1 + (kidsG g j (p + 1)).2.length) deep ((t.2.take j).flatMap (flat n)) = some (1 + (kidsG g t.2.length (p + 1)).2.length, (n : Int) + 1, t.2.flatMap (flat n))
  | 0, j, hj, deep, _, hd, h0 => by
    have hjl : j = t.2.length := by omega
    subst hjl
    rw [List.drop_eq_nil_of_le (by rw [kidsG_len]; omega), rdK, hd h0, List.take_of_length_le (Nat.le_refl _)]
  | r + 1, j, hj, deep, hd0, hd, h0 => by
    have hjt : j < t.2.length := by omega
    obtain ⟨h1, rest', h2⟩ := kidsG_get g (p + 1) hjt
    obtain ⟨hlt, h1'⟩ := List.getElem?_eq_some_iff.1 h1
    rw [List.drop_eq_getElem_cons hlt, h1']
    have hgj : ∀ k, g j k = nodesT n t.2[j] k := fun k => by subst hg; simp only [getD_get hjt]
    have hp : p + (1 + (kidsG g j (p + 1)).2.length) = p + 1 + (kidsG g j (p + 1)).2.length := by omega
    have hdrop : l.drop (p + 1 + (kidsG g j (p + 1)).2.length) = nodesT n t.2[j] (p + 1 + (kidsG g j (p + 1)).2.length) ++ (rest' ++ rest) := by
      rw [← List.drop_drop, hl, h2, hgj]
      simp [List.append_assoc]
    have hr := hrec j _ hjt _ hdrop (by omega)
    have hins : InsAll l t.1 j (p + (1 + (kidsG g j (p + 1)).2.length)) (nodesT n t.2[j] (p + 1 + (kidsG g j (p + 1)).2.length)).length := by
      intro nd hnd
      rw [hp, hdrop, List.take_left'] at hnd
      · exact ins_of (nodes_keys _ (bds_get hR (List.getElem?_eq_getElem hjt)) nd hnd)
      · rfl
    rw [rdK_next (by rw [hp]) (by rw [hp]; exact hr) ⟨by rintro ⟨h3, h4⟩; rcases hd0 with h5 | h5 <;> omega, hins⟩]
    have ih := rdK_all hg hR hl hrec r (j + 1) (by omega) n (.inr rfl) (fun _ => rfl) h0
    rw [kidsG, List.length_append, hgj] at ih
    rw [List.take_succ_eq_append_getElem hjt, List.flatMap_append] at ih
    simp only [List.flatMap_cons, List.flatMap_nil, List.append_nil] at ih
    rw [Nat.add_assoc]
    exact ih

/-- What a right tree tells is read as its pairs. -/
theorem rd_tree {l : List Nv} : ∀ {n m : Nat} {t : Tr n} {a b : Int} {p f : Nat}, R n m 7 t a b → (p = 0 ∨ 3 ≤ m) → (n = 0 ∨ 1 ≤ m) → n < f → ∀ rest, l.drop p = nodesT n t p ++ rest → rd l f p = some ((nodesT n t p).length, (n : Int), flat n t)
  | 0, m, t, a, b, p, f + 1, h, hp, _, hf, rest, hl => by
    have hq : l[p]? = some (t.map (·.1), t.map (·.2), []) := by
      have := congrArg (·[0]?) hl
      simpa [nodesT] using this
    have hfm : Form (t.map (·.1), t.map (·.2), []) (decide (p = 0)) := form_leaf h (by rcases hp with hp | hp; left; simp [hp]; right; exact hp)
    rw [rd, hq]
    simp only [if_pos hfm]
    simp [nodesT, flat]
    rw [List.zip_map', List.map_id']
  | n + 1, m, t, a, b, p, f + 1, h, hp, hm, hf, rest, hl => by
    have hm1 : 1 ≤ m := by omega
    rw [nodesT] at hl
    have hq : l[p]? = some (t.1, [], (kidsG (fun j k => nodesT n (t.2.getD j (dflt n)) k) t.2.length (p + 1)).1) := by
      have := congrArg (·[0]?) hl
      simpa using this
    have hl1 : l.drop (p + 1) = (kidsG (fun j k => nodesT n (t.2.getD j (dflt n)) k) t.2.length (p + 1)).2 ++ rest := by
      have := congrArg (List.drop 1) hl
      simpa [List.drop_drop] using this
    have hcl := bds_length h.2
    have hfm : Form (t.1, [], (kidsG (fun j k => nodesT n (t.2.getD j (dflt n)) k) t.2.length (p + 1)).1) (decide (p = 0)) := form_inner h (by rcases hp with hp | hp; left; simp [hp]; right; exact hp) hm1 (kidsG_len _ _ _)
    rw [rd, hq]
    have hne : ¬ (kidsG (fun j k => nodesT n (t.2.getD j (dflt n)) k) t.2.length (p + 1)).1.length = 0 := by rw [kidsG_len]; omega
    simp only [if_pos hfm, if_neg hne]
    have := rdK_all (l := l) (rec := rd l f) (p := p) rfl h.2 hl1 (fun j k hj rest hd hk => by
      obtain ⟨x, y, hxy⟩ := bds_mem h.2 (List.getElem_mem hj)
      exact rd_tree hxy (.inr (Nat.le_refl _)) (.inr (by decide)) (by omega) rest hd) t.2.length 0 (by omega) (-1) (.inl rfl) (fun h => by omega) (by omega)
    simp only [List.drop_zero, kidsG, List.length_nil, List.take_zero, List.flatMap_nil] at this
    rw [this, nodesT]
    simp [flat]
    omega
end Go.Proofs.Ytnljfhjindenpab
