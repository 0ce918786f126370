/-
  Plain mathematics of layer 12: links in order of their IDs; what a directory uses, which names it gives. It names nothing of the program.
-/
import Derived.Test.YtppfcdnhmieejaaThPlainS
namespace Go.Proofs.Ytppfcdnhmieejaa
set_option linter.unusedVariables false
set_option linter.unusedSimpArgs false
set_option maxRecDepth 20000
open Go.RowKit

/-- How much is used. -/
def usedL (ls : List Cat) : Int := 1 + sumL ls
/-- Is there a link of that ID? -/
def hasB (ls : List Cat) (id : Int) : Bool := ls.any (fun c => c.1 == id)
/-- How many links stand ahead of that ID. -/
def posL : List Cat → Int → Nat
  | [], _ => 0
  | c :: r, id => if c.1 < id then posL r id + 1 else 0
/-- One link more, in its place. -/
def insL (ls : List Cat) (c : Cat) : List Cat := ls.take (posL ls c.1) ++ c :: ls.drop (posL ls c.1)
/-- One link less. -/
def rmL (ls : List Cat) (id : Int) : List Cat := ls.take (posL ls id) ++ ls.drop (posL ls id + 1)

theorem sumL_cons (c : Cat) (r : List Cat) : sumL (c :: r) = c.2 + sumL r := by simp [sumL]
theorem sumL_append (a b : List Cat) : sumL (a ++ b) = sumL a + sumL b := by simp [sumL]

theorem lk_tail {c : Cat} {r : List Cat} (h : LkOk (c :: r)) : LkOk r :=
  ⟨fun i hi => h.each (i + 1) (Nat.succ_lt_succ hi), fun i hi => h.rise (i + 1) (Nat.succ_lt_succ hi)⟩

theorem lk_lt : ∀ {ls : List Cat}, LkOk ls → ∀ i j (hij : i < j) (hj : j < ls.length), ls[i].1 < ls[j].1
  | [], _, i, j, _, hj => by simp at hj
  | [c], _, i, j, hij, hj => by simp at hj; omega
  | c :: d :: r, h, 0, 1, _, _ => by simpa using h.rise 0 (by simp)
  | c :: d :: r, h, 0, j + 2, _, hj => by
    have h1 := h.rise 0 (by simp)
    have h2 := lk_lt (lk_tail h) 0 (j + 1) (by omega) (by simpa using hj)
    simp at h1 h2 ⊢
    omega
  | c :: d :: r, h, i + 1, j + 1, hij, hj => by
    exact lk_lt (lk_tail h) i j (by omega) (by simpa using hj)

theorem pos_le : ∀ (ls : List Cat) (id : Int), posL ls id ≤ ls.length
  | [], _ => Nat.le_refl _
  | c :: r, id => by
    unfold posL
    have := pos_le r id
    split
    · simp; omega
    · exact Nat.zero_le _

theorem pos_lt : ∀ (ls : List Cat) (id : Int) (i : Nat) (h : i < ls.length), i < posL ls id → ls[i].1 < id
  | [], _, i, h, _ => by simp at h
  | c :: r, id, i, h, hp => by
    unfold posL at hp
    split at hp
    · rename_i hc
      cases i with
      | zero => exact hc
      | succ i => simpa using pos_lt r id i (by simpa using h) (by omega)
    · omega

theorem pos_at : ∀ (ls : List Cat) (id : Int) (h : posL ls id < ls.length), ¬ (ls[posL ls id]'h).1 < id
  | [], _, h => by simp at h
  | c :: r, id, h => by
    by_cases hc : c.1 < id
    · have e : posL (c :: r) id = posL r id + 1 := by simp only [posL, if_pos hc]
      have h2 : posL r id < r.length := by simpa [e] using h
      have h3 := pos_at r id h2
      simp only [e, List.getElem_cons_succ]
      exact h3
    · have e : posL (c :: r) id = 0 := by simp only [posL, if_neg hc]
      simp only [e, List.getElem_cons_zero]
      exact hc

theorem pos_ge {ls : List Cat} (hl : LkOk ls) (id : Int) (i : Nat) (h : i < ls.length) (hp : posL ls id ≤ i) : ¬ ls[i].1 < id := by
  have h1 := pos_at ls id (by omega)
  rcases Nat.eq_or_lt_of_le hp with e | e
  · simpa [e] using h1
  · have := lk_lt hl _ _ e h
    omega

/-- What a search finds. -/
theorem pos_of : ∀ (ls : List Cat) (id : Int) (i : Nat), i ≤ ls.length → (∀ t (h : t < ls.length), t < i → ls[t].1 < id) → (∀ (h : i < ls.length), ¬ ls[i].1 < id) → posL ls id = i
  | [], _, i, hi, _, _ => by simp at hi; simp [posL, hi]
  | c :: r, id, 0, _, _, h2 => by
    have := h2 (by simp)
    simp only [List.getElem_cons_zero] at this
    unfold posL
    rw [if_neg this]
  | c :: r, id, i + 1, hi, h1, h2 => by
    have h3 := h1 0 (by simp) (by omega)
    simp only [List.getElem_cons_zero] at h3
    unfold posL
    rw [if_pos h3, pos_of r id i (by simpa using hi) (fun t h ht => h1 (t + 1) (Nat.succ_lt_succ h) (by omega)) (fun h => h2 (Nat.succ_lt_succ h))]

theorem has_iff {ls : List Cat} (hl : LkOk ls) (id : Int) : hasB ls id = true ↔ ∃ h : posL ls id < ls.length, (ls[posL ls id]'h).1 = id := by
  unfold hasB
  constructor
  · intro h
    obtain ⟨c, hc, he⟩ := List.any_eq_true.1 h
    obtain ⟨i, hi, rfl⟩ := List.getElem_of_mem hc
    have he : ls[i].1 = id := by simpa using he
    have h1 : ¬ i < posL ls id := fun hp => by have := pos_lt ls id i hi hp; omega
    have h2 : posL ls id < ls.length := by omega
    refine ⟨h2, ?_⟩
    rcases Nat.eq_or_lt_of_le (Nat.le_of_not_lt h1) with e | e
    · simpa [e] using he
    · have a := lk_lt hl _ _ e hi
      have b := pos_at ls id h2
      omega
  · rintro ⟨h, he⟩
    exact List.any_eq_true.2 ⟨_, List.getElem_mem h, by simpa using he⟩

/-- What a search tells: whether it is there. -/
def foundB (ls : List Cat) (id : Int) : Bool := if h : posL ls id < ls.length then (ls[posL ls id]'h).1 == id else false
theorem found_has {ls : List Cat} (hl : LkOk ls) (id : Int) : foundB ls id = hasB ls id := by
  have h := has_iff hl id
  unfold foundB
  by_cases hp : posL ls id < ls.length
  · rw [dif_pos hp]
    by_cases he : (ls[posL ls id]'hp).1 = id
    · rw [h.2 ⟨hp, he⟩]; simp [he]
    · have : hasB ls id ≠ true := fun hh => he (h.1 hh).2
      rw [Bool.eq_false_iff.2 this]; simpa using he
  · rw [dif_neg hp]
    have : hasB ls id ≠ true := fun hh => hp (h.1 hh).1
    exact (Bool.eq_false_iff.2 this).symm

theorem ins_length (ls : List Cat) (c : Cat) : (insL ls c).length = ls.length + 1 := by
  have := pos_le ls c.1
  simp [insL]; omega
theorem rm_length {ls : List Cat} {id : Int} (h : posL ls id < ls.length) : (rmL ls id).length = ls.length - 1 := by
  simp [rmL]; omega

theorem used_ins (ls : List Cat) (c : Cat) : usedL (insL ls c) = usedL ls + c.2 := by
  have h := sumL_append (ls.take (posL ls c.1)) (ls.drop (posL ls c.1))
  rw [List.take_append_drop] at h
  unfold usedL insL
  rw [sumL_append, sumL_cons, h]
  omega

theorem has_ins (ls : List Cat) (c : Cat) : hasB (insL ls c) c.1 = true := by
  unfold hasB insL
  simp

/-- Places in a list that has one more. -/
theorem ins_get0 {ls : List Cat} {p : Nat} (c : Cat) (hp : p ≤ ls.length) (i : Nat) (h : i < (ls.take p ++ c :: ls.drop p).length) :
    (ls.take p ++ c :: ls.drop p)[i] = if i < p then ls[i]! else if i = p then c else ls[i - 1]! := by
  have hl : (ls.take p).length = p := by simp; omega
  have hn : i < ls.length + 1 := by simp at h; omega
  by_cases h1 : i < p
  · rw [if_pos h1, List.getElem_append_left (by omega), List.getElem_take, getElem!_pos ls i (by omega)]
  · rw [if_neg h1, List.getElem_append_right (by omega)]
    by_cases h2 : i = p
    · subst h2
      rw [if_pos rfl]
      simp [hl]
    · rw [if_neg h2, getElem!_pos ls (i - 1) (by omega)]
      have e : i - (ls.take p).length = (i - 1 - p) + 1 := by omega
      simp only [e, List.getElem_cons_succ, List.getElem_drop]
      congr 1
      omega

theorem ins_get (ls : List Cat) (c : Cat) (i : Nat) (h : i < (insL ls c).length) : (insL ls c)[i] = if i < posL ls c.1 then ls[i]! else if i = posL ls c.1 then c else ls[i - 1]! := ins_get0 c (pos_le ls c.1) i h

theorem lk_ins {ls : List Cat} (hl : LkOk ls) (c : Cat) (h1 : idOk c.1) (h2 : btw 1 c.2 48) (hn : hasB ls c.1 = false) : LkOk (insL ls c) := by
  have hp := pos_le ls c.1
  have hlt := fun i h => pos_lt ls c.1 i h
  have hge := fun i h => pos_ge hl c.1 i h
  have hne : ∀ i (h : i < ls.length), ls[i].1 ≠ c.1 := fun i h e => by
    have : hasB ls c.1 = true := List.any_eq_true.2 ⟨ls[i], List.getElem_mem h, by simpa using e⟩
    rw [hn] at this
    cases this
  have hL := ins_length ls c
  constructor
  · intro i hi
    rw [hL] at hi
    rw [ins_get ls c i]
    split
    · rw [getElem!_pos ls i (by omega)]; exact hl.each i (by omega)
    · split
      · exact ⟨h1, h2⟩
      · rw [getElem!_pos ls (i - 1) (by omega)]; exact hl.each (i - 1) (by omega)
  · intro i hi
    rw [hL] at hi
    rw [ins_get ls c i, ins_get ls c (i + 1)]
    by_cases a : i < posL ls c.1
    · rw [if_pos a, getElem!_pos ls i (by omega)]
      by_cases b : i + 1 < posL ls c.1
      · rw [if_pos b, getElem!_pos ls (i + 1) (by omega)]
        exact hl.rise i (by omega)
      · rw [if_neg b, if_pos (by omega)]
        exact hlt i (by omega) a
    · have a2 : ¬ i + 1 < posL ls c.1 := by omega
      have a3 : ¬ i + 1 = posL ls c.1 := by omega
      rw [if_neg a, if_neg a2, if_neg a3]
      by_cases b : i = posL ls c.1
      · rw [if_pos b, getElem!_pos ls (i + 1 - 1) (by omega)]
        have := hge (i + 1 - 1) (by omega) (by omega)
        have := hne (i + 1 - 1) (by omega)
        omega
      · rw [if_neg b, getElem!_pos ls (i - 1) (by omega), getElem!_pos ls (i + 1 - 1) (by omega)]
        exact lk_lt hl (i - 1) (i + 1 - 1) (by omega) (by omega)

theorem rm_get0 {ls : List Cat} {p : Nat} (hp : p < ls.length) (i : Nat) (h : i < (ls.take p ++ ls.drop (p + 1)).length) :
    (ls.take p ++ ls.drop (p + 1))[i] = if i < p then ls[i]! else ls[i + 1]! := by
  have hl : (ls.take p).length = p := by simp; omega
  have hn : i + 1 < ls.length := by simp at h; omega
  by_cases h1 : i < p
  · rw [if_pos h1, List.getElem_append_left (by omega), List.getElem_take, getElem!_pos ls i (by omega)]
  · rw [if_neg h1, List.getElem_append_right (by omega), List.getElem_drop, getElem!_pos ls (i + 1) (by omega)]
    congr 1
    omega

theorem rm_get {ls : List Cat} {id : Int} (hp : posL ls id < ls.length) (i : Nat) (h : i < (rmL ls id).length) : (rmL ls id)[i] = if i < posL ls id then ls[i]! else ls[i + 1]! := rm_get0 hp i h

theorem lk_rm {ls : List Cat} (hl : LkOk ls) (id : Int) (hp : posL ls id < ls.length) : LkOk (rmL ls id) := by
  have hL := rm_length hp
  constructor
  · intro i hi
    rw [hL] at hi
    rw [rm_get hp i]
    split
    · rw [getElem!_pos ls i (by omega)]; exact hl.each i (by omega)
    · rw [getElem!_pos ls (i + 1) (by omega)]; exact hl.each (i + 1) (by omega)
  · intro i hi
    rw [hL] at hi
    rw [rm_get hp i, rm_get hp (i + 1)]
    by_cases a : i < posL ls id
    · rw [if_pos a, getElem!_pos ls i (by omega)]
      by_cases b : i + 1 < posL ls id
      · rw [if_pos b, getElem!_pos ls (i + 1) (by omega)]
        exact hl.rise i (by omega)
      · rw [if_neg b, getElem!_pos ls (i + 1 + 1) (by omega)]
        exact lk_lt hl i (i + 2) (by omega) (by omega)
    · rw [if_neg a, if_neg (by omega), getElem!_pos ls (i + 1) (by omega), getElem!_pos ls (i + 1 + 1) (by omega)]
      exact hl.rise (i + 1) (by omega)

theorem rm_eq {ls : List Cat} {id : Int} (hp : posL ls id < ls.length) : ls = ls.take (posL ls id) ++ ls[posL ls id] :: ls.drop (posL ls id + 1) := by simp

theorem used_rm {ls : List Cat} {id : Int} (hp : posL ls id < ls.length) : usedL ls = usedL (rmL ls id) + (ls[posL ls id]'hp).2 := by
  have e := congrArg sumL (rm_eq hp)
  rw [sumL_append, sumL_cons] at e
  unfold usedL rmL
  rw [sumL_append, e]
  omega

/-- The document's: all but those of that ID. -/
theorem rm_filter {ls : List Cat} (hl : LkOk ls) {id : Int} (hp : posL ls id < ls.length) (he : (ls[posL ls id]'hp).1 = id) : ls.filter (fun c => c.1 != id) = rmL ls id := by
  have e := congrArg (List.filter (fun c : Cat => c.1 != id)) (rm_eq hp)
  rw [e, List.filter_append, List.filter_cons]
  have h1 : ((ls[posL ls id]'hp).1 != id) = false := by simp [he]
  rw [h1]
  unfold rmL
  congr 1
  · rw [List.filter_eq_self]
    intro c hc
    obtain ⟨i, hi, rfl⟩ := List.getElem_of_mem hc
    have hi2 : i < posL ls id := by simp at hi; omega
    have := pos_lt ls id i (by omega) hi2
    rw [List.getElem_take]
    simp; omega
  · simp only [Bool.false_eq_true, if_false]
    rw [List.filter_eq_self]
    intro c hc
    obtain ⟨i, hi, rfl⟩ := List.getElem_of_mem hc
    have hi2 : posL ls id + 1 + i < ls.length := by simp at hi; omega
    have := lk_lt hl (posL ls id) (posL ls id + 1 + i) (by omega) hi2
    rw [List.getElem_drop]
    simp; omega

theorem has_rm {ls : List Cat} (hl : LkOk ls) {id : Int} (hp : posL ls id < ls.length) (he : (ls[posL ls id]'hp).1 = id) : hasB (rmL ls id) id = false := by
  rw [← rm_filter hl hp he]
  unfold hasB
  rw [Bool.eq_false_iff]
  intro h
  obtain ⟨c, hc, h1⟩ := List.any_eq_true.1 h
  have := (List.mem_filter.1 hc).2
  simp at h1 this
  exact this h1

/-- Put in and taken out again. -/
theorem pos_ins {ls : List Cat} (hl : LkOk ls) (c : Cat) (h1 : idOk c.1) (h2 : btw 1 c.2 48) (hn : hasB ls c.1 = false) : posL (insL ls c) c.1 = posL ls c.1 := by
  have hp := pos_le ls c.1
  have hL := ins_length ls c
  refine pos_of _ _ _ (by omega) (fun t h ht => ?_) (fun h => ?_)
  · rw [ins_get ls c t, if_pos ht, getElem!_pos ls t (by omega)]
    exact pos_lt ls c.1 t (by omega) ht
  · rw [ins_get ls c, if_neg (by omega), if_pos rfl]
    omega

theorem rm_ins {ls : List Cat} (hl : LkOk ls) (c : Cat) (h1 : idOk c.1) (h2 : btw 1 c.2 48) (hn : hasB ls c.1 = false) : rmL (insL ls c) c.1 = ls := by
  have e := pos_ins hl c h1 h2 hn
  have hp := pos_le ls c.1
  unfold rmL
  rw [e]
  unfold insL
  have hl : (ls.take (posL ls c.1)).length = posL ls c.1 := by simp; omega
  rw [List.take_append_of_le_length (by omega), List.take_of_length_le (by omega), List.drop_append, List.drop_of_length_le (by omega), hl]
  have e2 : posL ls c.1 + 1 - posL ls c.1 = 1 := by omega
  rw [e2]
  simp

theorem sum_each : ∀ {ls : List Cat} (_ : ∀ i (h : i < ls.length), 1 ≤ ls[i].2 ∧ ls[i].2 ≤ 48), (ls.length : Int) ≤ sumL ls ∧ sumL ls ≤ 48 * ls.length
  | [], _ => by simp [sumL]
  | c :: r, h => by
    have h1 := h 0 (by simp)
    have h2 := sum_each (ls := r) (fun i hi => h (i + 1) (Nat.succ_lt_succ hi))
    rw [sumL_cons]
    simp at h1 ⊢
    omega

theorem lk_quota {ls : List Cat} (hl : LkOk ls) : ∀ i (h : i < ls.length), 1 ≤ ls[i].2 ∧ ls[i].2 ≤ 48 := fun i h => (hl.each i h).2
theorem lk_take {ls : List Cat} (hl : LkOk ls) (k : Nat) : LkOk (ls.take k) :=
  ⟨fun i hi => by rw [List.getElem_take]; exact hl.each i (by simp at hi; omega), fun i hi => by rw [List.getElem_take, List.getElem_take]; exact hl.rise i (by simp at hi; omega)⟩
theorem sum_take {ls : List Cat} (hl : LkOk ls) (k : Nat) (hk : k ≤ ls.length) (h16 : ls.length ≤ 1000) : 0 ≤ sumL (ls.take k) ∧ sumL (ls.take k) ≤ 48000 := by
  have h := sum_each (lk_quota (lk_take hl k))
  have : (ls.take k).length = k := by simp; omega
  rw [this] at h
  omega
theorem sum_take_succ (ls : List Cat) (k : Nat) (h : k < ls.length) : sumL (ls.take (k + 1)) = sumL (ls.take k) + ls[k].2 := by
  rw [List.take_succ_eq_append_getElem h, sumL_append, sumL_cons]
  simp [sumL]

/-- What Add answers. -/
def addT (t : Th) (id q : Int) : Th × Int :=
  if hasB t.links id = true then (t, 123) else if 16 ≤ t.links.length then (t, 122) else if q < 1 ∨ t.quota - usedL t.links < q then (t, 121) else ({ t with links := insL t.links (id, q) }, 0)
/-- What Fresh answers. -/
def freshT (t : Th) : Int × Int := if 63 ≤ t.next ∨ 4398046511104 ≤ t.id then (0, 125) else (t.id * 64 + t.next + 1, 0)
/-- What Born answers: the directory, the name, the error. -/
def bornT (t : Th) (q : Int) : Th × Int × Int :=
  if (freshT t).2 = 0 then (if (addT t (freshT t).1 q).2 = 0 then ({ (addT t (freshT t).1 q).1 with next := t.next + 1 }, (freshT t).1, 0) else (t, 0, (addT t (freshT t).1 q).2)) else (t, 0, (freshT t).2)
/-- What Drop answers. -/
def dropT (t : Th) (id : Int) : Th × Int := if hasB t.links id = true then ({ t with links := rmL t.links id }, 0) else (t, 124)

/-- A directory that can be. -/
structure DirT (t : Th) : Prop where
  kind : t.kind = 1
  right : RightT t

theorem DirT.ok {t : Th} (h : DirT t) : DirOk t := by
  rcases h.right.parts with h1 | h1 | h1 | h1 | h1 | h1
  · exact h1.2
  all_goals (have := h.kind; omega)

theorem DirT.bare {t : Th} (h : DirT t) : t = { baseT t with next := t.next, links := t.links } := by
  have := h.right.same
  unfold ofK at this
  rw [if_pos h.kind] at this
  exact this

theorem DirT.with {t : Th} (h : DirT t) (n : Int) (ls : List Cat) (hn : btw 0 n 63) (h16 : ls.length ≤ 16) (hl : LkOk ls) (hs : 1 + sumL ls ≤ t.quota) : DirT { t with next := n, links := ls } := by
  refine ⟨h.kind, h.right.id, h.right.rgt, h.right.pu, ?_, .inl ⟨h.kind, hn, h.ok.quota, h16, hl, hs⟩⟩
  have hb := h.bare
  unfold ofK
  rw [if_pos h.kind]
  unfold baseT zeroT at hb ⊢
  cases t
  simp only [Th.mk.injEq] at hb ⊢
  simp only [true_and, and_true] at hb ⊢
  exact hb

theorem add_right {t : Th} (h : DirT t) {id q : Int} (hi : idOk id) (he : (addT t id q).2 = 0) : DirT (addT t id q).1 ∧ hasB t.links id = false ∧ (addT t id q).1 = { t with links := insL t.links (id, q) } ∧ 1 ≤ q ∧ q ≤ 48 := by
  have ho := h.ok
  unfold addT at he ⊢
  split at he
  · cases he
  · rename_i h1
    split at he
    · cases he
    · rename_i h2
      split at he
      · cases he
      · rename_i h3
        rw [if_neg h1, if_neg h2, if_neg h3]
        have hq := ho.quota
        have hs := (sum_each (lk_quota ho.lk)).1
        unfold btw at hq
        unfold usedL at h3
        have h5 := used_ins t.links (id, q)
        unfold usedL at h5
        simp only at h5
        have hn : hasB t.links id = false := Bool.eq_false_iff.2 h1
        have hq48 : q ≤ 48 := by omega
        refine ⟨?_, hn, rfl, by omega, hq48⟩
        exact h.with t.next _ ho.next (by rw [ins_length]; omega) (lk_ins ho.lk (id, q) hi ⟨by show 1 ≤ q; omega, hq48⟩ hn) (by omega)

theorem add_err {t : Th} {id q : Int} (he : ¬ (addT t id q).2 = 0) : (addT t id q).1 = t := by
  unfold addT at he ⊢
  split
  · rfl
  · split
    · rfl
    · split
      · rfl
      · rename_i h1 h2 h3
        rw [if_neg h1, if_neg h2, if_neg h3] at he
        exact absurd rfl he

theorem fresh_ok {t : Th} (h : DirT t) (he : (freshT t).2 = 0) : t.next ≤ 62 ∧ t.id ≤ 4398046511103 ∧ (freshT t).1 = t.id * 64 + t.next + 1 ∧ idOk (freshT t).1 := by
  have hn := h.ok.next
  have hi := h.right.id
  unfold btw at hn
  unfold idOk at hi
  unfold freshT at he ⊢
  split at he
  · cases he
  · rename_i h1
    rw [if_neg h1]
    refine ⟨by omega, by omega, rfl, ?_⟩
    unfold idOk
    show 1 ≤ t.id * 64 + t.next + 1 ∧ t.id * 64 + t.next + 1 ≤ 281474976710655
    omega

theorem fresh_err {t : Th} (he : ¬ (freshT t).2 = 0) : freshT t = (0, 125) := by
  unfold freshT at he ⊢
  split
  · rfl
  · rename_i h1
    rw [if_neg h1] at he
    exact absurd rfl he

theorem born_ok {t : Th} {q : Int} (he : (bornT t q).2.2 = 0) : (freshT t).2 = 0 ∧ (addT t (freshT t).1 q).2 = 0 ∧ bornT t q = ({ (addT t (freshT t).1 q).1 with next := t.next + 1 }, (freshT t).1, 0) := by
  unfold bornT at he ⊢
  by_cases h1 : (freshT t).2 = 0
  · rw [if_pos h1] at he ⊢
    by_cases h2 : (addT t (freshT t).1 q).2 = 0
    · rw [if_pos h2]; exact ⟨h1, h2, rfl⟩
    · rw [if_neg h2] at he; exact absurd he h2
  · rw [if_neg h1] at he
    exact absurd he h1

theorem born_right {t : Th} (h : DirT t) {q : Int} (he : (bornT t q).2.2 = 0) : DirT (bornT t q).1 ∧ (bornT t q).1 = { t with next := t.next + 1, links := insL t.links ((bornT t q).2.1, q) } ∧ (bornT t q).2.1 = t.id * 64 + t.next + 1 ∧ t.next ≤ 62 ∧ idOk (bornT t q).2.1 ∧ hasB t.links (bornT t q).2.1 = false ∧ 1 ≤ q ∧ q ≤ 48 := by
  obtain ⟨h1, h2, h3⟩ := born_ok he
  obtain ⟨f1, f2, f3, f4⟩ := fresh_ok h h1
  obtain ⟨a1, a2, a3, a4, a5⟩ := add_right h f4 h2
  rw [h3]
  have e : ({ (addT t (freshT t).1 q).1 with next := t.next + 1 } : Th) = { t with next := t.next + 1, links := insL t.links ((freshT t).1, q) } := by rw [a3]
  refine ⟨?_, e, f3, f1, f4, a2, a4, a5⟩
  show DirT { (addT t (freshT t).1 q).1 with next := t.next + 1 }
  have hn := h.ok.next
  unfold btw at hn
  have := a1.with (t.next + 1) (addT t (freshT t).1 q).1.links (by unfold btw; omega) a1.ok.len a1.ok.lk a1.ok.sum
  exact this

theorem born_err {t : Th} {q : Int} (he : ¬ (bornT t q).2.2 = 0) : (bornT t q).1 = t ∧ (bornT t q).2.1 = 0 := by
  unfold bornT at he ⊢
  by_cases h1 : (freshT t).2 = 0
  · rw [if_pos h1] at he ⊢
    by_cases h2 : (addT t (freshT t).1 q).2 = 0
    · rw [if_pos h2] at he; exact absurd rfl he
    · rw [if_neg h2]; exact ⟨rfl, rfl⟩
  · rw [if_neg h1]; exact ⟨rfl, rfl⟩

theorem drop_right {t : Th} (h : DirT t) {id : Int} (he : (dropT t id).2 = 0) : hasB t.links id = true ∧ (dropT t id).1 = { t with links := rmL t.links id } ∧ DirT (dropT t id).1 ∧ hasB (rmL t.links id) id = false ∧ usedL (rmL t.links id) ≤ usedL t.links := by
  have ho := h.ok
  unfold dropT at he ⊢
  split at he
  · rename_i h1
    rw [if_pos h1]
    obtain ⟨hp, hpe⟩ := (has_iff ho.lk id).1 h1
    have hu := used_rm hp
    have hq := (lk_quota ho.lk) _ hp
    refine ⟨h1, rfl, ?_, has_rm ho.lk hp hpe, by omega⟩
    unfold usedL at hu
    exact h.with t.next _ ho.next (by rw [rm_length hp]; have := ho.len; omega) (lk_rm ho.lk id hp) (by have := ho.sum; omega)
  · cases he

theorem drop_err {t : Th} {id : Int} (he : ¬ (dropT t id).2 = 0) : dropT t id = (t, 124) ∧ hasB t.links id = false := by
  unfold dropT at he ⊢
  split
  · rename_i h1
    rw [if_pos h1] at he
    exact absurd rfl he
  · rename_i h1
    exact ⟨rfl, Bool.eq_false_iff.2 h1⟩

end Go.Proofs.Ytppfcdnhmieejaa
