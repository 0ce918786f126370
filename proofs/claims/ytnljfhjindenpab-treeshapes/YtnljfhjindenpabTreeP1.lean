/-
  Nodes that are told, joined to a tree from the last one on: plainly.
-/
import Derived.Test.YtnljfhjindenpabTreeO4
import Derived.Test.YtnljfhjindenpabTreeN6
namespace Go.Proofs.Ytnljfhjindenpab
set_option linter.unusedVariables false
set_option linter.unusedSimpArgs false
set_option maxRecDepth 20000

theorem readL_tree {n : Nat} {t : Tr n} (h : Top n t) : readL (nodesT n t 0) = some (flat n t) := by
  have hd := nodes_deep 0 h
  have h1 := rd_tree (l := nodesT n t 0) (p := 0) (f := (nodesT n t 0).length + 1) h (.inl rfl) (by omega) (by omega) [] (by simp)
  unfold readL
  rw [h1]
  simp

/-- A branch: its number, its height, its tree. -/
abbrev Br := Nat × ((n : Nat) × Tr n)

def asTr (h : Nat) (x : (n : Nat) × Tr n) : Tr h := if e : x.1 = h then e ▸ x.2 else dflt h
theorem asTr_self (n : Nat) (t : Tr n) : asTr n ⟨n, t⟩ = t := by simp [asTr]

/-- The height of branches that are equally high. -/
def hgt (beh : List Br) : Nat := (beh.head?.map (·.2.1)).getD 0

/-- Is the kid j the branch that stands j ahead of the nearest? -/
abbrev okJ (kids : List Int) (beh : List Br) (j : Nat) : Prop := (kids.getD j 0 = ((beh.reverse.getD j (0, ⟨0, []⟩)).1 : Int)) ∧ (beh.reverse.getD j (0, ⟨0, []⟩)).2.1 = hgt beh

abbrev okAll (kids : List Int) (beh : List Br) (n : Nat) : Prop := ∀ j ∈ List.range n, okJ kids beh j

def mkT (nd : Nv) (beh : List Br) : (n : Nat) × Tr n := if nd.2.2.length = 0 then ⟨0, nd.1.zip nd.2.1⟩ else ⟨hgt beh + 1, (nd.1, beh.reverse.map (fun x => asTr (hgt beh) x.2))⟩

def brOf (i : Nat) (nd : Nv) (beh : List Br) : Option Br := if okAll nd.2.2 beh nd.2.2.length then some (i, mkT nd beh) else none

def stepJ (nd : Nv) (i : Nat) (st : List Br) : Option (List Br) :=
  if Form nd (decide (i = 0)) ∧ nd.2.2.length ≤ st.length then (brOf i nd (st.drop (st.length - nd.2.2.length))).map (fun b => st.take (st.length - nd.2.2.length) ++ [b]) else none

/-- The nodes below i, the last one first. -/
def jn (l : List Nv) : Nat → List Br → Option (List Br)
  | 0, st => some st
  | i + 1, st => (stepJ (l.getD i ([], [], [])) i st).bind (jn l i)

def joinL (l : List Nv) : Option Br := match jn l l.length [] with
  | some [b] => some b
  | _ => none

theorem jn_kids {l : List Nv} {n k J : Nat} {g : Nat → Nat → List Nv} {kb : Nat → Br}
    (hseg : ∀ j st, j < J → jn l (k + (kidsG g j k).2.length + (g j (k + (kidsG g j k).2.length)).length) st = jn l (k + (kidsG g j k).2.length) (st ++ [kb j])) (st : List Br) :
    ∀ r j, j + r = J → jn l (k + (kidsG g J k).2.length) st = jn l (k + (kidsG g j k).2.length) (st ++ (((List.range J).drop j).map kb).reverse)
  | 0, j, h => by
    have : j = J := by omega
    subst this
    rw [List.drop_eq_nil_of_le (by simp)]
    simp
  | r + 1, j, h => by
    have hj : j < J := by omega
    rw [jn_kids (n := n) hseg st r (j + 1) (by omega), kidsG, List.length_append, ← Nat.add_assoc, hseg j _ hj]
    rw [List.drop_eq_getElem_cons (i := j) (by simp; omega)]
    simp

/-- What a right tree tells makes one branch. -/
theorem jn_tree {l : List Nv} : ∀ {n m : Nat} {t : Tr n} {a b : Int} {k : Nat}, R n m 7 t a b → (k = 0 ∨ 3 ≤ m) → (n = 0 ∨ 1 ≤ m) → ∀ rest, l.drop k = nodesT n t k ++ rest → ∀ st, jn l (k + (nodesT n t k).length) st = jn l k (st ++ [(k, ⟨n, t⟩)])
  | 0, m, t, a, b, k, h, hk, _, rest, hl, st => by
    have hq : l[k]? = some (t.map (·.1), t.map (·.2), []) := by
      have := congrArg (·[0]?) hl
      simpa [nodesT] using this
    have hfm : Form (t.map (·.1), t.map (·.2), []) (decide (k = 0)) := form_leaf h (by rcases hk with hk | hk; left; simp [hk]; right; exact hk)
    have hstep : stepJ (l.getD k ([], [], [])) k st = some (st ++ [(k, ⟨0, t⟩)]) := by
      rw [List.getD_eq_getElem?_getD, hq, Option.getD_some]
      unfold stepJ
      rw [if_pos ⟨hfm, Nat.zero_le _⟩]
      have hb : brOf k (t.map (·.1), t.map (·.2), []) (st.drop (st.length - ([] : List Int).length)) = some (k, ⟨0, t⟩) := by
        unfold brOf
        rw [if_pos (fun j hj => by simp at hj)]
        unfold mkT
        rw [if_pos (by rfl), List.zip_map']
        simp
      rw [hb]
      simp
    rw [show (nodesT 0 t k).length = 1 from rfl, jn, hstep, Option.bind_some]
  | n + 1, m, t, a, b, k, h, hk, hm, rest, hl, st => by
    have hm1 : 1 ≤ m := by omega
    obtain ⟨g, hg⟩ : ∃ g : Nat → Nat → List Nv, g = fun j k => nodesT n (t.2.getD j (dflt n)) k := ⟨_, rfl⟩
    have hnode : nodesT (n + 1) t k = (t.1, [], (kidsG g t.2.length (k + 1)).1) :: (kidsG g t.2.length (k + 1)).2 := by rw [nodesT, hg]
    rw [hnode] at hl ⊢
    have hq : l[k]? = some (t.1, [], (kidsG g t.2.length (k + 1)).1) := by
      have := congrArg (·[0]?) hl
      simpa using this
    have hl1 : l.drop (k + 1) = (kidsG g t.2.length (k + 1)).2 ++ rest := by
      have := congrArg (List.drop 1) hl
      simpa [List.drop_drop] using this
    have hcl := bds_length h.2
    have hfm : Form (t.1, [], (kidsG g t.2.length (k + 1)).1) (decide (k = 0)) := form_inner h (by rcases hk with hk | hk; left; simp [hk]; right; exact hk) hm1 (kidsG_len _ _ _)
    obtain ⟨kb, hkb⟩ : ∃ kb : Nat → Br, kb = fun j => (k + 1 + (kidsG g j (k + 1)).2.length, ⟨n, t.2.getD j (dflt n)⟩) := ⟨_, rfl⟩
    have hseg : ∀ j st, j < t.2.length → jn l (k + 1 + (kidsG g j (k + 1)).2.length + (g j (k + 1 + (kidsG g j (k + 1)).2.length)).length) st = jn l (k + 1 + (kidsG g j (k + 1)).2.length) (st ++ [kb j]) := fun j st hj => by
      obtain ⟨_, rest', h2⟩ := kidsG_get g (k + 1) hj
      have hgj : ∀ k, g j k = nodesT n t.2[j] k := fun k => by rw [hg]; simp only [getD_get hj]
      have hdrop : l.drop (k + 1 + (kidsG g j (k + 1)).2.length) = nodesT n t.2[j] (k + 1 + (kidsG g j (k + 1)).2.length) ++ (rest' ++ rest) := by
        rw [← List.drop_drop, hl1, h2, hgj]
        simp [List.append_assoc]
      obtain ⟨x, y, hxy⟩ := bds_mem h.2 (List.getElem_mem hj)
      rw [hgj, jn_tree hxy (.inr (Nat.le_refl _)) (.inr (by decide)) _ hdrop st, hkb]
      simp only [getD_get hj]
    have hrun := jn_kids (n := n) hseg st t.2.length 0 (by omega)
    simp only [kidsG, List.length_nil, Nat.add_zero, List.drop_zero] at hrun
    rw [List.length_cons, Nat.add_comm (kidsG g t.2.length (k + 1)).2.length 1, ← Nat.add_assoc, hrun, jn]
    have hlenB : (((List.range t.2.length).map kb).reverse).length = t.2.length := by simp
    have hstep : stepJ (l.getD k ([], [], [])) k (st ++ ((List.range t.2.length).map kb).reverse) = some (st ++ [(k, ⟨n + 1, t⟩)]) := by
      rw [List.getD_eq_getElem?_getD, hq, Option.getD_some]
      unfold stepJ
      have hkl : (kidsG g t.2.length (k + 1)).1.length = t.2.length := kidsG_len _ _ _
      rw [if_pos ⟨hfm, by simp only [hkl, List.length_append, hlenB]; omega⟩]
      simp only [hkl, List.length_append, hlenB, Nat.add_sub_cancel, List.drop_left, List.take_left]
      have hrev : (((List.range t.2.length).map kb).reverse).reverse = (List.range t.2.length).map kb := List.reverse_reverse _
      have hh : hgt ((List.range t.2.length).map kb).reverse = n := by
        unfold hgt
        rw [List.head?_reverse, List.getLast?_map]
        have h0 : 0 < t.2.length := by omega
        cases hL : (List.range t.2.length).getLast? with
        | none => rw [List.getLast?_eq_none_iff] at hL; have h9 := congrArg List.length hL; rw [List.length_range] at h9; simp only [List.length_nil] at h9; omega
        | some j => rw [hkb]; rfl
      have hget : ∀ j, j < t.2.length → ((List.range t.2.length).map kb).getD j (0, ⟨0, []⟩) = kb j := fun j hj => by
        rw [List.getD_eq_getElem?_getD, List.getElem?_map, List.getElem?_range hj]
        rfl
      have hb : brOf k (t.1, [], (kidsG g t.2.length (k + 1)).1) ((List.range t.2.length).map kb).reverse = some (k, ⟨n + 1, t⟩) := by
        unfold brOf
        rw [if_pos]
        · unfold mkT
          rw [if_neg (by simp only [hkl]; omega), hrev, hh]
          simp only [List.map_map]
          have : (List.range t.2.length).map ((fun x : Br => asTr n x.2) ∘ kb) = t.2 := by
            refine List.ext_getElem (by simp) (fun j h1 h2 => ?_)
            simp only [List.getElem_map, List.getElem_range, Function.comp, hkb, asTr_self, getD_get h2]
          rw [this]
        · intro j hj
          have hj' : j < t.2.length := by simpa [hkl] using hj
          obtain ⟨h1, _⟩ := kidsG_get g (k + 1) hj'
          rw [okJ, hrev, hget j hj', hh, List.getD_eq_getElem?_getD, h1, hkb]
          exact ⟨rfl, rfl⟩
      rw [hb]
      rfl
    rw [hstep, Option.bind_some]

theorem joinL_tree {n : Nat} {t : Tr n} (h : Top n t) : joinL (nodesT n t 0) = some (0, ⟨n, t⟩) := by
  have h1 := jn_tree (l := nodesT n t 0) (k := 0) h (.inl rfl) (by omega) [] (by simp) []
  unfold joinL
  rw [Nat.zero_add] at h1
  rw [h1]
  rfl
end Go.Proofs.Ytnljfhjindenpab
