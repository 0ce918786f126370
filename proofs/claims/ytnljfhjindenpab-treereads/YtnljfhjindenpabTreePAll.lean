/-
  TreeP1, TreeP3, TreeP4: in one text.
-/
import Derived.Test.YtnljfhjindenpabTreeOAll
import Derived.Test.YtnljfhjindenpabTreeN6
namespace Go.Proofs.Ytnljfhjindenpab
set_option linter.unusedVariables false
set_option linter.unusedSimpArgs false
set_option maxRecDepth 20000

theorem readL_tree {n : Nat} {t : Tr n} (h : Top n t) : readL (nodesT n t 0) = some (flat n t) := by
  have hd := nodes_deep 0 h
  have h1 := rd_tree (l := nodesT n t 0) (p := 0) (f := (nodesT n t 0).length + 1) h (.inl rfl) (by omega) (by omega) [] (by simp)
  unfold readL
  rw [h1]
  simp

/-- A branch: its number, its height, its tree. -/
abbrev Br := Nat × ((n : Nat) × Tr n)

def asTr (h : Nat) (x : (n : Nat) × Tr n) : Tr h := if e : x.1 = h then e ▸ x.2 else dflt h
theorem asTr_self (n : Nat) (t : Tr n) : asTr n ⟨n, t⟩ = t := by simp [asTr]

/-- The height of branches that are equally high. -/
def hgt (beh : List Br) : Nat := (beh.head?.map (·.2.1)).getD 0

/-- Is the kid j the branch that stands j ahead of the nearest? -/
abbrev okJ (kids : List Int) (beh : List Br) (j : Nat) : Prop := (kids.getD j 0 = ((beh.reverse.getD j (0, ⟨0, []⟩)).1 : Int)) ∧ (beh.reverse.getD j (0, ⟨0, []⟩)).2.1 = hgt beh

abbrev okAll (kids : List Int) (beh : List Br) (n : Nat) : Prop := ∀ j ∈ List.range n, okJ kids beh j

def mkT (nd : Nv) (beh : List Br) : (n : Nat) × Tr n := if nd.2.2.length = 0 then ⟨0, nd.1.zip nd.2.1⟩ else ⟨hgt beh + 1, (nd.1, beh.reverse.map (fun x => asTr (hgt beh) x.2))⟩

def brOf (i : Nat) (nd : Nv) (beh : List Br) : Option Br := if okAll nd.2.2 beh nd.2.2.length then some (i, mkT nd beh) else none

def stepJ (nd : Nv) (i : Nat) (st : List Br) : Option (List Br) :=
  if Form nd (decide (i = 0)) ∧ nd.2.2.length ≤ st.length then (brOf i nd (st.drop (st.length - nd.2.2.length))).map (fun b => st.take (st.length - nd.2.2.length) ++ [b]) else none

/-- The nodes below i, the last one first. -/
def jn (l : List Nv) : Nat → List Br → Option (List Br)
  | 0, st => some st
  | i + 1, st => (stepJ (l.getD i ([], [], [])) i st).bind (jn l i)

def joinL (l : List Nv) : Option Br := match jn l l.length [] with
  | some [b] => some b
  | _ => none

theorem jn_kids {l : List Nv} {n k J : Nat} {g : Nat → Nat → List Nv} {kb : Nat → Br}
    (hseg : ∀ j st, j < J → jn l (k + (kidsG g j k).2.length + (g j (k + (kidsG g j k).2.length)).length) st = jn l (k + (kidsG g j k).2.length) (st ++ [kb j])) (st : List Br) :
    ∀ r j, j + r = J → jn l (k + (kidsG g J k).2.length) st = jn l (k + (kidsG g j k).2.length) (st ++ (((List.range J).drop j).map kb).reverse)
  | 0, j, h => by
    have : j = J := by omega
    subst this
    rw [List.drop_eq_nil_of_le (by simp)]
    simp
  | r + 1, j, h => by
    have hj : j < J := by omega
    rw [jn_kids (n := n) hseg st r (j + 1) (by omega), kidsG, List.length_append, ← Nat.add_assoc, hseg j _ hj]
    rw [List.drop_eq_getElem_cons (i := j) (by simp; omega)]
    simp

/-- What a right tree tells makes one branch. -/
theorem jn_tree {l : List Nv} : ∀ {n m : Nat} {t : Tr n} {a b : Int} {k : Nat}, R n m 7 t a b → (k = 0 ∨ 3 ≤ m) → (n = 0 ∨ 1 ≤ m) → ∀ rest, l.drop k = nodesT n t k ++ rest → ∀ st, jn l (k + (nodesT n t k).length) st = jn l k (st ++ [(k, ⟨n, t⟩)])
  | 0, m, t, a, b, k, h, hk, _, rest, hl, st => by
    have hq : l[k]? = some (t.map (·.1), t.map (·.2), []) := by
      have := congrArg (·[0]?) hl
      simpa [nodesT] using this
    have hfm : Form (t.map (·.1), t.map (·.2), []) (decide (k = 0)) := form_leaf h (by rcases hk with hk | hk; left; simp [hk]; right; exact hk)
    have hstep : stepJ (l.getD k ([], [], [])) k st = some (st ++ [(k, ⟨0, t⟩)]) := by
      rw [List.getD_eq_getElem?_getD, hq, Option.getD_some]
      unfold stepJ
      rw [if_pos ⟨hfm, Nat.zero_le _⟩]
      have hb : brOf k (t.map (·.1), t.map (·.2), []) (st.drop (st.length - ([] : List Int).length)) = some (k, ⟨0, t⟩) := by
        unfold brOf
        rw [if_pos (fun j hj => by simp at hj)]
        unfold mkT
        rw [if_pos (by rfl), List.zip_map']
        simp
      rw [hb]
      simp
    rw [show (nodesT 0 t k).length = 1 from rfl, jn, hstep, Option.bind_some]
  | n + 1, m, t, a, b, k, h, hk, hm, rest, hl, st => by
    have hm1 : 1 ≤ m := by omega
    obtain ⟨g, hg⟩ : ∃ g : Nat → Nat → List Nv, g = fun j k => nodesT n (t.2.getD j (dflt n)) k := ⟨_, rfl⟩
    have hnode : nodesT (n + 1) t k = (t.1, [], (kidsG g t.2.length (k + 1)).1) :: (kidsG g t.2.length (k + 1)).2 := by rw [nodesT, hg]
    rw [hnode] at hl ⊢
    have hq : l[k]? = some (t.1, [], (kidsG g t.2.length (k + 1)).1) := by
      have := congrArg (·[0]?) hl
      simpa using this
    have hl1 : l.drop (k + 1) = (kidsG g t.2.length (k + 1)).2 ++ rest := by
      have := congrArg (List.drop 1) hl
      simpa [List.drop_drop] using this
    have hcl := bds_length h.2
    have hfm : Form (t.1, [], (kidsG g t.2.length (k + 1)).1) (decide (k = 0)) := form_inner h (by rcases hk with hk | hk; left; simp [hk]; right; exact hk) hm1 (kidsG_len _ _ _)
    obtain ⟨kb, hkb⟩ : ∃ kb : Nat → Br, kb = fun j => (k + 1 + (kidsG g j (k + 1)).2.length, ⟨n, t.2.getD j (dflt n)⟩) := ⟨_, rfl⟩
    have hseg : ∀ j st, j < t.2.length → jn l (k + 1 + (kidsG g j (k + 1)).2.length + (g j (k + 1 + (kidsG g j (k + 1)).2.length)).length) st = jn l (k + 1 + (kidsG g j (k + 1)).2.length) (st ++ [kb j]) := fun j st hj => by
      obtain ⟨_, rest', h2⟩ := kidsG_get g (k + 1) hj
      have hgj : ∀ k, g j k = nodesT n t.2[j] k := fun k => by rw [hg]; simp only [getD_get hj]
      have hdrop : l.drop (k + 1 + (kidsG g j (k + 1)).2.length) = nodesT n t.2[j] (k + 1 + (kidsG g j (k + 1)).2.length) ++ (rest' ++ rest) := by
        rw [← List.drop_drop, hl1, h2, hgj]
        simp [List.append_assoc]
      obtain ⟨x, y, hxy⟩ := bds_mem h.2 (List.getElem_mem hj)
      rw [hgj, jn_tree hxy (.inr (Nat.le_refl _)) (.inr (by decide)) _ hdrop st, hkb]
      simp only [getD_get hj]
    have hrun := jn_kids (n := n) hseg st t.2.length 0 (by omega)
    simp only [kidsG, List.length_nil, Nat.add_zero, List.drop_zero] at hrun
    rw [List.length_cons, Nat.add_comm (kidsG g t.2.length (k + 1)).2.length 1, ← Nat.add_assoc, hrun, jn]
    have hlenB : (((List.range t.2.length).map kb).reverse).length = t.2.length := by simp
    have hstep : stepJ (l.getD k ([], [], [])) k (st ++ ((List.range t.2.length).map kb).reverse) = some (st ++ [(k, ⟨n + 1, t⟩)]) := by
      rw [List.getD_eq_getElem?_getD, hq, Option.getD_some]
      unfold stepJ
      have hkl : (kidsG g t.2.length (k + 1)).1.length = t.2.length := kidsG_len _ _ _
      rw [if_pos ⟨hfm, by simp only [hkl, List.length_append, hlenB]; omega⟩]
      simp only [hkl, List.length_append, hlenB, Nat.add_sub_cancel, List.drop_left, List.take_left]
      have hrev : (((List.range t.2.length).map kb).reverse).reverse = (List.range t.2.length).map kb := List.reverse_reverse _
      have hh : hgt ((List.range t.2.length).map kb).reverse = n := by
        unfold hgt
        rw [List.head?_reverse, List.getLast?_map]
        have h0 : 0 < t.2.length := by omega
        cases hL : (List.range t.2.length).getLast? with
        | none => rw [List.getLast?_eq_none_iff] at hL; have h9 := congrArg List.length hL; rw [List.length_range] at h9; simp only [List.length_nil] at h9; omega
        | some j => rw [hkb]; rfl
      have hget : ∀ j, j < t.2.length → ((List.range t.2.length).map kb).getD j (0, ⟨0, []⟩) = kb j := fun j hj => by
        rw [List.getD_eq_getElem?_getD, List.getElem?_map, List.getElem?_range hj]
        rfl
      have hb : brOf k (t.1, [], (kidsG g t.2.length (k + 1)).1) ((List.range t.2.length).map kb).reverse = some (k, ⟨n + 1, t⟩) := by
        unfold brOf
        rw [if_pos]
        · unfold mkT
          rw [if_neg (by simp only [hkl]; omega), hrev, hh]
          simp only [List.map_map]
          have : (List.range t.2.length).map ((fun x : Br => asTr n x.2) ∘ kb) = t.2 := by
            refine List.ext_getElem (by simp) (fun j h1 h2 => ?_)
            simp only [List.getElem_map, List.getElem_range, Function.comp, hkb, asTr_self, getD_get h2]
          rw [this]
        · intro j hj
          have hj' : j < t.2.length := by simpa [hkl] using hj
          obtain ⟨h1, _⟩ := kidsG_get g (k + 1) hj'
          rw [okJ, hrev, hget j hj', hh, List.getD_eq_getElem?_getD, h1, hkb]
          exact ⟨rfl, rfl⟩
      rw [hb]
      rfl
    rw [hstep, Option.bind_some]

theorem joinL_tree {n : Nat} {t : Tr n} (h : Top n t) : joinL (nodesT n t 0) = some (0, ⟨n, t⟩) := by
  have h1 := jn_tree (l := nodesT n t 0) (k := 0) h (.inl rfl) (by omega) [] (by simp) []
  unfold joinL
  rw [Nat.zero_add] at h1
  rw [h1]
  rfl
end Go.Proofs.Ytnljfhjindenpab

namespace Go.Proofs.Ytnljfhjindenpab
set_option linter.unusedVariables false
set_option linter.unusedSimpArgs false
set_option maxRecDepth 20000

theorem kidsG_cons (g : Nat → Nat → List Nv) : ∀ (J k : Nat), kidsG g (J + 1) k = ((k : Int) :: (kidsG (fun j => g (j + 1)) J (k + (g 0 k).length)).1, g 0 k ++ (kidsG (fun j => g (j + 1)) J (k + (g 0 k).length)).2)
  | 0, k => by simp [kidsG]
  | J + 1, k => by
    rw [kidsG, kidsG_cons g J k]
    conv => rhs; rw [kidsG]
    simp [Nat.add_assoc]

abbrev gOf {n : Nat} (cs : List (Tr n)) : Nat → Nat → List Nv := fun j k => nodesT n (cs.getD j (dflt n)) k

theorem kids_cons {n : Nat} (c : Tr n) (cs : List (Tr n)) (k : Nat) : kidsG (gOf (c :: cs)) (cs.length + 1) k = ((k : Int) :: (kidsG (gOf cs) cs.length (k + (nodesT n c k).length)).1, nodesT n c k ++ (kidsG (gOf cs) cs.length (k + (nodesT n c k).length)).2) := by
  rw [kidsG_cons]
  rfl

/-- Keys of the nodes in a part of the list lie within. -/
abbrev KIn (l : List Nv) (p s : Nat) (a b : Int) : Prop := ∀ nd ∈ (l.drop p).take s, ∀ k ∈ nd.1, a ≤ k ∧ k < b

theorem KIn.sub {l : List Nv} {p s q r : Nat} {a b : Int} (h : KIn l p s a b) (h1 : p ≤ q) (h2 : q + r ≤ p + s) : KIn l q r a b := by
  intro nd hnd
  obtain ⟨j, hj, rfl⟩ := List.mem_take_iff_getElem.1 hnd
  simp only [List.length_drop] at hj
  refine h _ (List.mem_take_iff_getElem.2 ⟨q - p + j, by simp; omega, ?_⟩)
  simp only [List.getElem_drop]
  congr 1
  omega

/-- What one reading says. -/
def Said (l : List Nv) (q : Nat) (m : Nat) (x : Rd) : Prop :=
  ∃ (n : Nat) (t : Tr n), x = ((nodesT n t q).length, (n : Int), flat n t) ∧ (∃ rest, l.drop q = nodesT n t q ++ rest) ∧ ∀ a b, KIn l q x.1 a b → R n (if n = 0 then m else max m 1) 7 t a b

theorem rdK_sound {l : List Nv} {rec : Nat → Option Rd} {ks : List Int} {p : Nat} (hrec : ∀ q x, 0 < q → rec q = some x → Said l q 3 x) :
    ∀ {kids : List Int} {i size : Nat} {deep : Int} {pairs : List Pr} {x : Rd}, rdK l rec ks p kids i size deep pairs = some x → 0 < size → -1 ≤ deep → (kids ≠ [] ∨ 0 ≤ deep) →
      ∃ (n : Nat) (cs : List (Tr n)), (0 ≤ deep → deep = n) ∧ cs.length = kids.length ∧ kids = (kidsG (gOf cs) cs.length (p + size)).1 ∧ x = (size + (kidsG (gOf cs) cs.length (p + size)).2.length, (n : Int) + 1, pairs ++ cs.flatMap (flat n)) ∧ (∃ rest, l.drop (p + size) = (kidsG (gOf cs) cs.length (p + size)).2 ++ rest) ∧
        ∀ j c, cs[j]? = some c → ∀ a b, KIn l (p + size) (x.1 - size) a b → R n 3 7 c (lft ks a (i + j)) (rgt ks b (i + j))
  | [], i, size, deep, pairs, x, h, h0, h1, h2 => by
    simp only [rdK, Option.some.injEq] at h
    have hd : 0 ≤ deep := by
      rcases h2 with h2 | h2
      · exact absurd rfl h2
      · exact h2
    refine ⟨deep.toNat, [], fun _ => by omega, rfl, rfl, ?_, ⟨l.drop (p + size), by simp [kidsG]⟩, fun j c hc => by simp at hc⟩
    rw [← h]
    simp [kidsG]
    omega
  | kid :: kids, i, size, deep, pairs, x, h, h0, h1, h2 => by
    rw [rdK] at h
    split at h
    · next hk =>
      split at h
      · cases h
      · next s d below e =>
        split at h
        · next hb =>
          obtain ⟨n, t, hx, ⟨rest, hrest⟩, hR⟩ := hrec _ _ (by omega) e
          simp only [Prod.mk.injEq] at hx
          obtain ⟨rfl, rfl, rfl⟩ := hx
          obtain ⟨n', cs, k1, k2, k3, k4, ⟨rest', k5⟩, k6⟩ := rdK_sound hrec h (by omega) (by omega) (.inr (by omega))
          have hn : n = n' := by have := k1 (by omega); omega
          subst hn
          have hps : p + (size + (nodesT n t (p + size)).length) = p + size + (nodesT n t (p + size)).length := by omega
          rw [hps] at k3 k4 k5 k6
          have hkc := kids_cons t cs (p + size)
          refine ⟨n, t :: cs, fun hd => ?_, by simp [k2], ?_, ?_, ⟨rest', ?_⟩, ?_⟩
          · by_cases h9 : (n : Int) = deep
            · exact h9.symm
            · exact absurd ⟨hd, h9⟩ hb.1
          · rw [List.length_cons, hkc, hk, ← k3]
          · rw [List.length_cons, hkc, k4]
            simp [Nat.add_assoc]
          · rw [List.length_cons, hkc]
            have h7 : l.drop (p + size + (nodesT n t (p + size)).length) = rest := by
              have h6 := congrArg (List.drop (nodesT n t (p + size)).length) hrest
              rw [List.drop_drop] at h6
              simpa using h6
            rw [h7] at k5
            rw [hrest, k5]
            simp
          · intro j c hc a b hin
            have hx1 : x.1 = size + (nodesT n t (p + size)).length + (kidsG (gOf cs) cs.length (p + size + (nodesT n t (p + size)).length)).2.length := by rw [k4]
            cases j with
            | zero =>
              have : t = c := by simpa using hc
              subst this
              have hR' := hR (lft ks a i) (rgt ks b i) (fun nd hnd k hk' => by
                have b1 := hin.sub (q := p + size) (r := (nodesT n t (p + size)).length) (Nat.le_refl _) (by omega) nd hnd k hk'
                have b2 := hb.2 nd hnd k hk'
                unfold lft rgt
                constructor
                · split
                  · next h9 =>
                    rcases Int.lt_or_le k (ks.getD (i - 1) 0) with h10 | h10
                    · exact absurd (.inl ⟨h9, h10⟩) b2
                    · exact h10
                  · exact b1.1
                · split
                  · next h9 =>
                    rcases Int.lt_or_le k (ks.getD i 0) with h10 | h10
                    · exact h10
                    · exact absurd (.inr ⟨h9, h10⟩) b2
                  · exact b1.2)
              refine R.resize hR' ?_ hR'.size.2
              have := hR'.size.1
              split at this <;> omega
            | succ j =>
              have h9 := k6 j c (by simpa using hc) a b (hin.sub (by omega) (by omega))
              rw [show i + (j + 1) = i + 1 + j by omega]
              exact h9
        · cases h
    · cases h

/-- Reading says what a tree tells. -/
theorem rd_sound {l : List Nv} : ∀ (f p : Nat) (x : Rd), rd l f p = some x → Said l p (if p = 0 then 0 else 3) x
  | 0, p, x, h => by simp [rd] at h
  | f + 1, p, x, h => by
    rw [rd] at h
    split at h
    · cases h
    · next nd e =>
      have hp := (List.getElem?_eq_some_iff.1 e).1
      have hcons : l.drop p = nd :: l.drop (p + 1) := by
        rw [List.drop_eq_getElem_cons hp]
        congr 1
        exact (List.getElem?_eq_some_iff.1 e).2
      split at h
      · next hf =>
        obtain ⟨ks, es, is⟩ := nd
        obtain ⟨f1, f2, f3, f4⟩ := hf
        simp only at f1 f2 f3 f4 h
        split at h
        · next hi =>
          simp only [Option.some.injEq] at h
          subst h
          have hi0 : is = [] := List.eq_nil_of_length_eq_zero hi
          subst hi0
          have hel : es.length = ks.length := by omega
          have m1 : (ks.zip es).map (·.1) = ks := List.map_fst_zip (by omega)
          have m2 : (ks.zip es).map (·.2) = es := List.map_snd_zip (by omega)
          have hN : nodesT 0 (ks.zip es) p = [(ks, es, [])] := by rw [nodesT, m1, m2]
          refine ⟨0, ks.zip es, by rw [hN]; rfl, ⟨l.drop (p + 1), by rw [hN, hcons]; rfl⟩, fun a b hin => ?_⟩
          refine ⟨⟨?_, ?_⟩, ?_, fun q hq => ?_⟩
          · rw [if_pos rfl, List.length_zip]
            split
            · omega
            · next h9 => simp [h9] at f2; omega
          · rw [List.length_zip]; omega
          · rw [m1]; exact f3
          · have : q.1 ∈ ks := by rw [← m1]; exact List.mem_map_of_mem hq
            exact hin (ks, es, []) (by rw [hcons]; simp) q.1 this
        · next hi =>
          obtain ⟨n, cs, k1, k2, k3, k4, ⟨rest, k5⟩, k6⟩ := rdK_sound (fun q x hq hx => by have := rd_sound f q x hx; rwa [if_neg (by omega)] at this) h (by omega) (by omega) (.inl (fun h9 => hi (by rw [h9]; rfl)))
          have hes : es = [] := List.eq_nil_of_length_eq_zero (by omega)
          subst hes
          have hN : nodesT (n + 1) ((ks, cs) : Tr (n + 1)) p = (ks, [], is) :: (kidsG (gOf cs) cs.length (p + 1)).2 := by
            rw [nodesT]
            show (ks, [], (kidsG (gOf cs) cs.length (p + 1)).1) :: _ = _
            rw [← k3]
          refine ⟨n + 1, (ks, cs), ?_, ⟨rest, ?_⟩, fun a b hin => ?_⟩
          · rw [hN, k4]
            simp [flat]
            omega
          · rw [hN, hcons, k5]
            simp
          · have hx1 : x.1 = 1 + (kidsG (gOf cs) cs.length (p + 1)).2.length := by rw [k4]
            refine ⟨⟨?_, f1⟩, bds_of (by simp only; omega) (fun j c hc => ?_)⟩
            · rw [if_neg (by omega)]
              simp only
              split
              · omega
              · next h9 => simp [h9] at f2; omega
            · have h9 := k6 j c hc a b (hin.sub (by omega) (by omega))
              rwa [Nat.zero_add] at h9
      · cases h

theorem readL_sound {l : List Nv} {ps : List Pr} (h : readL l = some ps) (hk : ∀ nd ∈ l, ∀ k ∈ nd.1, 0 ≤ k ∧ k < 18446744073709551616) : ∃ (n : Nat) (t : Tr n), Top n t ∧ nodesT n t 0 = l ∧ ps = flat n t := by
  unfold readL at h
  split at h
  · cases h
  · next x e =>
    split at h
    · next hl =>
      simp only [Option.some.injEq] at h
      obtain ⟨n, t, hx, ⟨rest, hr⟩, hR⟩ := rd_sound _ _ _ e
      rw [if_pos rfl] at hR
      have h1 := hR 0 18446744073709551616 (fun nd hnd => hk nd (by simpa using List.mem_of_mem_take hnd))
      refine ⟨n, t, R.resize h1 ?_ h1.size.2, ?_, ?_⟩
      · have := h1.size.1
        split at this <;> omega
      · have h2 : x.1 = (nodesT n t 0).length := by rw [hx]
        simp only [List.drop_zero] at hr
        have h3 := congrArg List.length hr
        rw [List.length_append] at h3
        have h4 : rest = [] := List.eq_nil_of_length_eq_zero (by omega)
        rw [hr, h4, List.append_nil]
      · rw [← h, hx]
    · cases h
end Go.Proofs.Ytnljfhjindenpab

namespace Go.Proofs.Ytnljfhjindenpab
set_option linter.unusedVariables false
set_option linter.unusedSimpArgs false
set_option maxRecDepth 20000

/-- A branch that is told. -/
def GB (l : List Nv) (b : Br) : Prop := (∃ rest, l.drop b.1 = nodesT b.2.1 b.2.2 b.1 ++ rest) ∧ Fmt b.2.1 (if b.1 = 0 then min b.2.1 1 else 3) b.2.2

/-- Branches that stand one behind the other, from a number on, the nearest first. -/
def Ch (l : List Nv) : Nat → List Br → Prop
  | i, [] => i = l.length
  | i, b :: bs => b.1 = i ∧ GB l b ∧ Ch l (i + (nodesT b.2.1 b.2.2 b.1).length) bs

theorem ch_kids {l : List Nv} {h : Nat} : ∀ (rb : List Br) (k : Nat) (R : List Br), (∀ b ∈ rb, b.2.1 = h) → 0 < k → Ch l k (rb ++ R) →
    ∃ cs : List (Tr h), cs = rb.map (fun b => asTr h b.2) ∧ rb.map (fun b => (b.1 : Int)) = (kidsG (gOf cs) cs.length k).1 ∧ (∃ rest, l.drop k = (kidsG (gOf cs) cs.length k).2 ++ rest) ∧ Ch l (k + (kidsG (gOf cs) cs.length k).2.length) R ∧ ∀ c ∈ cs, Fmt h 3 c
  | [], k, R, _, _, hc => ⟨[], rfl, rfl, ⟨l.drop k, by simp [kidsG]⟩, by simpa [kidsG] using hc, fun c hc => by simp at hc⟩
  | (q, ⟨h', t⟩) :: rb, k, R, hh, hk, hc => by
    have e : h' = h := hh _ List.mem_cons_self
    subst e
    obtain ⟨hq, ⟨⟨rest, hg1⟩, hg2⟩, hc⟩ := hc
    have hq' : q = k := hq
    subst hq'
    obtain ⟨cs, c1, c2, ⟨rest', c3⟩, c4, c5⟩ := ch_kids rb _ R (fun b hb => hh b (List.mem_cons_of_mem _ hb)) (by omega) hc
    have hkc := kids_cons t cs q
    refine ⟨t :: cs, ?_, ?_, ⟨rest', ?_⟩, ?_, ?_⟩
    · rw [List.map_cons, asTr_self, c1]
    · rw [List.length_cons, hkc, List.map_cons, c2]
    · rw [List.length_cons, hkc]
      have h7 : l.drop (q + (nodesT h' t q).length) = rest := by
        have h6 := congrArg (List.drop (nodesT h' t q).length) hg1
        rw [List.drop_drop] at h6
        simpa using h6
      rw [h7] at c3
      show l.drop q = (nodesT h' t q ++ _) ++ rest'
      rw [show l.drop q = nodesT h' t q ++ rest from hg1, c3]
      simp
    · rw [List.length_cons, hkc]
      simp only [List.length_append]
      rw [← Nat.add_assoc]
      exact c4
    · intro c hc'
      rcases List.mem_cons.1 hc' with rfl | hc'
      · have h9 : Fmt h' (if q = 0 then min h' 1 else 3) c := hg2
        rwa [if_neg (by omega)] at h9
      · exact c5 c hc'

theorem step_sound {l : List Nv} (hk : ∀ nd ∈ l, ∀ k ∈ nd.1, 0 ≤ k ∧ k < 18446744073709551616) {i : Nat} {st st1 : List Br} (hi : i < l.length) (h : stepJ (l.getD i ([], [], [])) i st = some st1) (hc : Ch l (i + 1) st.reverse) : Ch l i st1.reverse := by
  have hg : l.getD i ([], [], []) = l[i] := by rw [List.getD_eq_getElem?_getD, List.getElem?_eq_getElem hi]; rfl
  rw [hg] at h
  have hkeys := hk l[i] (List.getElem_mem hi)
  have hcons : l.drop i = l[i] :: l.drop (i + 1) := List.drop_eq_getElem_cons hi
  generalize l[i] = nd at *
  obtain ⟨ks, es, is⟩ := nd
  unfold stepJ at h
  split at h
  · next hf =>
    obtain ⟨⟨f1, f2, f3, f4⟩, hl⟩ := hf
    simp only at f1 f2 f3 f4 hl h hkeys
    unfold brOf at h
    split at h
    · next hok =>
      simp only [Option.map_some, Option.some.injEq] at h
      subst h
      rw [List.reverse_append, List.reverse_singleton]
      have hsplit : st.reverse = (st.drop (st.length - is.length)).reverse ++ (st.take (st.length - is.length)).reverse := by
        rw [← List.reverse_append, List.take_append_drop]
      rw [hsplit] at hc
      have hlen : (st.drop (st.length - is.length)).length = is.length := by rw [List.length_drop]; omega
      generalize st.drop (st.length - is.length) = beh at *
      generalize (st.take (st.length - is.length)).reverse = R at *
      unfold mkT
      by_cases hz : is.length = 0
      · rw [if_pos hz]
        have hb0 : beh = [] := List.eq_nil_of_length_eq_zero (by omega)
        have hi0 : is = [] := List.eq_nil_of_length_eq_zero hz
        subst hb0 hi0
        have hel : es.length = ks.length := by omega
        have m1 : (ks.zip es).map (·.1) = ks := List.map_fst_zip (by omega)
        have m2 : (ks.zip es).map (·.2) = es := List.map_snd_zip (by omega)
        have hN : nodesT 0 (ks.zip es) i = [(ks, es, [])] := by rw [nodesT, m1, m2]
        refine ⟨rfl, ⟨⟨l.drop (i + 1), ?_⟩, ?_⟩, ?_⟩
        · show l.drop i = nodesT 0 (ks.zip es) i ++ _
          rw [hN, hcons]
          rfl
        · refine ⟨⟨?_, ?_⟩, by rw [m1]; exact f3, fun q hq => ?_⟩
          · simp only [List.length_zip]
            split
            · simp
            · next h9 => simp [h9] at f2; omega
          · simp only [List.length_zip]; omega
          · have : q.1 ∈ ks := by rw [← m1]; exact List.mem_map_of_mem hq
            exact (hkeys q.1 this).2
        · show Ch l (i + (nodesT 0 (ks.zip es) i).length) R
          rw [hN]
          simpa using hc
      · rw [if_neg hz]
        have hes : es = [] := List.eq_nil_of_length_eq_zero (by omega)
        subst hes
        have hall : ∀ b ∈ beh.reverse, b.2.1 = hgt beh := fun b hb => by
          obtain ⟨j, hj, rfl⟩ := List.mem_iff_getElem.1 hb
          have h9 := (hok j (by simp at hj; simp; omega)).2
          rwa [List.getD_eq_getElem?_getD, List.getElem?_eq_getElem hj] at h9
        obtain ⟨cs, c1, c2, ⟨rest, c3⟩, c4, c5⟩ := ch_kids beh.reverse (i + 1) R hall (by omega) hc
        have hcl : cs.length = is.length := by rw [c1]; simp [hlen]
        have hkids : is = (kidsG (gOf cs) cs.length (i + 1)).1 := by
          rw [← c2]
          refine List.ext_getElem (by simp [hlen]) (fun j h1 h2 => ?_)
          have h9 := (hok j (by simpa using h1)).1
          have hj : j < beh.reverse.length := by simp at h2; simp; omega
          rw [List.getD_eq_getElem?_getD, List.getElem?_eq_getElem h1, List.getD_eq_getElem?_getD, List.getElem?_eq_getElem hj] at h9
          simpa using h9
        rw [← c1]
        generalize hgt beh = hh at *
        have hN : nodesT (hh + 1) ((ks, cs) : Tr (hh + 1)) i = (ks, [], is) :: (kidsG (gOf cs) cs.length (i + 1)).2 := by
          rw [nodesT]
          show (ks, [], (kidsG (gOf cs) cs.length (i + 1)).1) :: _ = _
          rw [← hkids]
        refine ⟨rfl, ⟨⟨rest, ?_⟩, ?_⟩, ?_⟩
        · show l.drop i = nodesT (hh + 1) ((ks, cs) : Tr (hh + 1)) i ++ _
          rw [hN, hcons, c3]
          rfl
        · refine ⟨⟨?_, f1⟩, f3, fun k hk' => (hkeys k hk').2, by simp only; omega, c5⟩
          simp only
          split
          · omega
          · next h9 => simp [h9] at f2; omega
        · show Ch l (i + (nodesT (hh + 1) ((ks, cs) : Tr (hh + 1)) i).length) R
          rw [hN, List.length_cons, show i + ((kidsG (gOf cs) cs.length (i + 1)).2.length + 1) = i + 1 + (kidsG (gOf cs) cs.length (i + 1)).2.length by omega]
          exact c4
    · simp at h
  · cases h

theorem jn_sound {l : List Nv} (hk : ∀ nd ∈ l, ∀ k ∈ nd.1, 0 ≤ k ∧ k < 18446744073709551616) : ∀ (i : Nat) (st st' : List Br), i ≤ l.length → jn l i st = some st' → Ch l i st.reverse → Ch l 0 st'.reverse
  | 0, st, st', _, h, hc => by
    simp only [jn, Option.some.injEq] at h
    subst h
    exact hc
  | i + 1, st, st', hi, h, hc => by
    rw [jn] at h
    cases hs : stepJ (l.getD i ([], [], [])) i st with
    | none => rw [hs] at h; cases h
    | some st1 =>
      rw [hs, Option.bind_some] at h
      exact jn_sound hk i st1 st' (by omega) h (step_sound hk (by omega) hs hc)

theorem joinL_sound {l : List Nv} (hk : ∀ nd ∈ l, ∀ k ∈ nd.1, 0 ≤ k ∧ k < 18446744073709551616) {b : Br} (h : joinL l = some b) : nodesT b.2.1 b.2.2 0 = l ∧ Fmt b.2.1 (min b.2.1 1) b.2.2 := by
  unfold joinL at h
  split at h
  · next b' e =>
    simp only [Option.some.injEq] at h
    subst h
    obtain ⟨h1, ⟨⟨rest, h2⟩, h3⟩, h4⟩ := jn_sound hk l.length [] [b'] (Nat.le_refl _) e rfl
    rw [h1, if_pos rfl] at h3
    rw [h1] at h2 h4
    refine ⟨?_, h3⟩
    have h5 : 0 + (nodesT b'.2.1 b'.2.2 0).length = l.length := h4
    simp only [List.drop_zero] at h2
    have h6 := congrArg List.length h2
    rw [List.length_append] at h6
    have h7 : rest = [] := List.eq_nil_of_length_eq_zero (by omega)
    rw [h2, h7, List.append_nil]
  · cases h

/-- Joined, with all keys within: just what Read takes. -/
theorem of_iff {l : List Nv} (hk : ∀ nd ∈ l, ∀ k ∈ nd.1, 0 ≤ k ∧ k < 18446744073709551616) :
    (∀ b, joinL l = some b → Wb b.2.1 b.2.2 0 0 true → Top b.2.1 b.2.2 ∧ readL l = some (flat b.2.1 b.2.2)) ∧
    (readL l ≠ none → ∃ b, joinL l = some b ∧ Wb b.2.1 b.2.2 0 0 true) := by
  constructor
  · intro b hj hw
    obtain ⟨h1, h2⟩ := joinL_sound hk hj
    have h3 : Top b.2.1 b.2.2 := r_of h2 hw
    refine ⟨h3, ?_⟩
    have := readL_tree h3
    rwa [h1] at this
  · intro hr
    cases hq : readL l with
    | none => exact absurd hq hr
    | some ps =>
      obtain ⟨n, t, h1, h2, h3⟩ := readL_sound hq hk
      refine ⟨(0, ⟨n, t⟩), ?_, ?_⟩
      · have := joinL_tree h1
        rwa [h2] at this
      · exact wb_of (e := 0) (bl := true) h1 (by decide)
end Go.Proofs.Ytnljfhjindenpab
