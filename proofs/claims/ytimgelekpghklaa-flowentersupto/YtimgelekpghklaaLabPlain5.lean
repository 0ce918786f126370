/-
  Two labels walked side by side, plainly. It names nothing of the program.
-/
import Derived.Test.YtimgelekpghklaaLabPlain4
namespace Go.Proofs.Ytimgelekpghklaa
set_option linter.unusedVariables false
set_option linter.unusedSimpArgs false
set_option maxRecDepth 20000

theorem noM {p : Prop} {α : Type} {a : α} (h : a ∈ ([] : List α)) : p := absurd h List.not_mem_nil

abbrev Vs := Int × Int × Int

def lid : List Cat → List Cat → Int
  | [], [] => 0
  | c :: _, [] => c.1
  | [], e :: _ => e.1
  | c :: _, e :: _ => if c.1 < e.1 then c.1 else e.1

def laV (d : Int) (xs : List Cat) (id : Int) : Int := match xs with
  | [] => d
  | c :: _ => if c.1 = id then c.2 else d
def laR (xs : List Cat) (id : Int) : List Cat := match xs with
  | [] => []
  | c :: r => if c.1 = id then r else c :: r

/-- Walked so far: D visited, xs and ys left. -/
structure Wk (da db : Int) (fa fb : List Cat) (D : List Vs) (xs ys : List Cat) : Prop where
  pa : ∃ p, fa = p ++ xs ∧ ∀ c ∈ p, ∃ v ∈ D, v.1 = c.1
  pb : ∃ p, fb = p ++ ys ∧ ∀ c ∈ p, ∃ v ∈ D, v.1 = c.1
  rs : D.Pairwise (fun u v => u.1 < v.1)
  la : ∀ v ∈ D, ∀ c ∈ xs, v.1 < c.1
  lb : ∀ v ∈ D, ∀ c ∈ ys, v.1 < c.1
  va : ∀ v ∈ D, v.2.1 = lev da fa v.1 ∧ v.2.2 = lev db fb v.1
  len : D.length + xs.length + ys.length ≤ fa.length + fb.length

theorem Wk.start (da db : Int) (fa fb : List Cat) : Wk da db fa fb [] fa fb :=
  ⟨⟨[], rfl, fun c h => noM h⟩, ⟨[], rfl, fun c h => noM h⟩, List.Pairwise.nil, fun v h => noM h, fun v h => noM h, fun v h => noM h, by simp⟩

theorem lid_mem {xs ys : List Cat} (h : 0 < xs.length + ys.length) : (∃ c ∈ xs, c.1 = lid xs ys) ∨ ∃ c ∈ ys, c.1 = lid xs ys := by
  match xs, ys with
  | [], [] => simp at h
  | c :: _, [] => exact .inl ⟨c, List.mem_cons_self, rfl⟩
  | [], e :: _ => exact .inr ⟨e, List.mem_cons_self, rfl⟩
  | c :: r, e :: s =>
    simp only [lid]
    by_cases q : c.1 < e.1
    · exact .inl ⟨c, List.mem_cons_self, by rw [if_pos q]⟩
    · exact .inr ⟨e, List.mem_cons_self, by rw [if_neg q]⟩

theorem rs_head {c : Cat} {r : List Cat} (h : Rs (c :: r)) {x : Cat} (hx : x ∈ c :: r) : c.1 ≤ x.1 := by
  rcases List.mem_cons.1 hx with rfl | hx
  · exact Int.le_refl _
  · exact Int.le_of_lt ((List.pairwise_cons.1 h).1 x hx)

theorem lid_le {xs ys : List Cat} (h1 : Rs xs) (h2 : Rs ys) : (∀ c ∈ xs, lid xs ys ≤ c.1) ∧ ∀ c ∈ ys, lid xs ys ≤ c.1 := by
  match xs, ys with
  | [], [] => exact ⟨fun c h => noM h, fun c h => noM h⟩
  | c :: r, [] => exact ⟨fun x h => rs_head h1 h, fun c h => noM h⟩
  | [], e :: s => exact ⟨fun c h => noM h, fun x h => rs_head h2 h⟩
  | c :: r, e :: s =>
    simp only [lid]
    refine ⟨fun x h => ?_, fun x h => ?_⟩
    · have := rs_head h1 h
      split <;> omega
    · have := rs_head h2 h
      split <;> omega

theorem la_spec {d : Int} {p xs : List Cat} {id : Int} (hp : ∀ c ∈ p, c.1 ≠ id) (hr : Rs xs) (hle : ∀ c ∈ xs, id ≤ c.1) : laV d xs id = lev d (p ++ xs) id ∧ (∀ c ∈ laR xs id, id < c.1) ∧ ∃ q, xs = q ++ laR xs id ∧ ∀ c ∈ q, c.1 = id := by
  rw [lev_append]
  match xs with
  | [] => exact ⟨by rw [lev_none hp]; rfl, fun c h => noM h, [], rfl, fun c h => noM h⟩
  | c :: r =>
    have h1 := List.pairwise_cons.1 hr
    simp only [laV, laR]
    by_cases hc : c.1 = id
    · rw [if_pos hc, if_pos hc, lev_none hp, lev, if_pos hc]
      exact ⟨rfl, fun x hx => by have := h1.1 x hx; omega, [c], rfl, fun x hx => by simp at hx; rw [hx]; exact hc⟩
    · have hlt : id < c.1 := by have := hle c List.mem_cons_self; omega
      rw [if_neg hc, if_neg hc, lev_none hp, lev_none (fun x hx => by have := rs_head hr hx; omega)]
      exact ⟨rfl, fun x hx => by have := rs_head hr hx; omega, [], rfl, fun x hx => noM hx⟩

theorem rs_suffix {p xs : List Cat} (h : Rs (p ++ xs)) : Rs xs := (List.pairwise_append.1 h).2.1

theorem Wk.step {da db : Int} {fa fb : List Cat} {D : List Vs} {xs ys : List Cat} (h : Wk da db fa fb D xs ys) (ha : Rs fa) (hb : Rs fb) (hne : 0 < xs.length + ys.length) :
    Wk da db fa fb (D ++ [(lid xs ys, laV da xs (lid xs ys), laV db ys (lid xs ys))]) (laR xs (lid xs ys)) (laR ys (lid xs ys)) := by
  obtain ⟨p, hp, hpD⟩ := h.pa
  obtain ⟨q, hq, hqD⟩ := h.pb
  have rx : Rs xs := rs_suffix (by rw [← hp]; exact ha)
  have ry : Rs ys := rs_suffix (by rw [← hq]; exact hb)
  obtain ⟨l1, l2⟩ := lid_le rx ry
  have hD : ∀ v ∈ D, v.1 < lid xs ys := fun v hv => by
    rcases lid_mem hne with ⟨c, hc, he⟩ | ⟨c, hc, he⟩
    · rw [← he]; exact h.la v hv c hc
    · rw [← he]; exact h.lb v hv c hc
  have sa := la_spec (d := da) (p := p) (fun c hc => by obtain ⟨v, hv, he⟩ := hpD c hc; have := hD v hv; omega) rx l1
  have sb := la_spec (d := db) (p := q) (fun c hc => by obtain ⟨v, hv, he⟩ := hqD c hc; have := hD v hv; omega) ry l2
  have hm := lid_mem hne
  generalize lid xs ys = id at *
  obtain ⟨a1, a2, qa, a3, a4⟩ := sa
  obtain ⟨b1, b2, qb, b3, b4⟩ := sb
  have lx := congrArg List.length a3
  have ly := congrArg List.length b3
  rw [List.length_append] at lx ly
  refine ⟨⟨p ++ qa, by rw [List.append_assoc, ← a3]; exact hp, fun c hc => ?_⟩, ⟨q ++ qb, by rw [List.append_assoc, ← b3]; exact hq, fun c hc => ?_⟩, ?_, fun v hv c hc => ?_, fun v hv c hc => ?_, fun v hv => ?_, ?_⟩
  · rcases List.mem_append.1 hc with hc | hc
    · obtain ⟨v, hv, he⟩ := hpD c hc
      exact ⟨v, List.mem_append_left _ hv, he⟩
    · exact ⟨_, List.mem_append_right _ List.mem_cons_self, (a4 c hc).symm⟩
  · rcases List.mem_append.1 hc with hc | hc
    · obtain ⟨v, hv, he⟩ := hqD c hc
      exact ⟨v, List.mem_append_left _ hv, he⟩
    · exact ⟨_, List.mem_append_right _ List.mem_cons_self, (b4 c hc).symm⟩
  · refine List.pairwise_append.2 ⟨h.rs, List.pairwise_singleton _ _, fun u hu v hv => ?_⟩
    have : v = (id, laV da xs id, laV db ys id) := by simpa using hv
    subst this
    exact hD u hu
  · rcases List.mem_append.1 hv with hv | hv
    · have := hD v hv
      have := a2 c hc
      omega
    · have : v = (id, laV da xs id, laV db ys id) := by simpa using hv
      subst this
      exact a2 c hc
  · rcases List.mem_append.1 hv with hv | hv
    · have := hD v hv
      have := b2 c hc
      omega
    · have : v = (id, laV da xs id, laV db ys id) := by simpa using hv
      subst this
      exact b2 c hc
  · rcases List.mem_append.1 hv with hv | hv
    · exact h.va v hv
    · have : v = (id, laV da xs id, laV db ys id) := by simpa using hv
      subst this
      exact ⟨by rw [hp]; exact a1, by rw [hq]; exact b1⟩
  · have hlen := h.len
    have hdec : 1 ≤ qa.length + qb.length := by
      rcases hm with ⟨c, hc, he⟩ | ⟨c, hc, he⟩
      · rw [a3] at hc
        rcases List.mem_append.1 hc with hc | hc
        · have := List.length_pos_of_mem hc; omega
        · have := a2 c hc; omega
      · rw [b3] at hc
        rcases List.mem_append.1 hc with hc | hc
        · have := List.length_pos_of_mem hc; omega
        · have := b2 c hc; omega
    simp only [List.length_append, List.length_singleton]
    omega

theorem Wk.less {da db : Int} {fa fb : List Cat} {D : List Vs} {xs ys : List Cat} (h : Wk da db fa fb D xs ys) (ha : Rs fa) (hb : Rs fb) (hne : 0 < xs.length + ys.length) :
    (laR xs (lid xs ys)).length + (laR ys (lid xs ys)).length < xs.length + ys.length := by
  match xs, ys with
  | [], [] => simp at hne
  | c :: r, [] => simp [laR, lid]
  | [], e :: s => simp [laR, lid]
  | c :: r, e :: s =>
    by_cases q : c.1 < e.1
    · have he : lid (c :: r) (e :: s) = c.1 := by simp [lid, q]
      rw [he]
      simp only [laR]
      rw [if_pos trivial]
      split <;> simp <;> omega
    · have he : lid (c :: r) (e :: s) = e.1 := by simp [lid, q]
      rw [he]
      simp only [laR]
      rw [if_pos trivial]
      split <;> simp <;> omega

/-- All that was visited. -/
structure Vis (da db : Int) (f g : Int → Int) (D : List Vs) : Prop where
  rs : D.Pairwise (fun u v => u.1 < v.1)
  va : ∀ v ∈ D, v.2.1 = f v.1 ∧ v.2.2 = g v.1
  all : ∀ id, (∃ v ∈ D, v.1 = id) ∨ (f id = da ∧ g id = db)
  out : ∃ id, f id = da ∧ g id = db

theorem far (xs : List Cat) : ∃ m : Int, ∀ c ∈ xs, c.1 < m := by
  induction xs with
  | nil => exact ⟨0, fun c h => noM h⟩
  | cons c r ih =>
    obtain ⟨m, hm⟩ := ih
    refine ⟨max m (c.1 + 1), fun x hx => ?_⟩
    rcases List.mem_cons.1 hx with rfl | hx
    · omega
    · have := hm x hx; omega

theorem Wk.vis {da db : Int} {fa fb : List Cat} {D : List Vs} (h : Wk da db fa fb D [] []) : Vis da db (lev da fa) (lev db fb) D := by
  obtain ⟨p, hp, hpD⟩ := h.pa
  obtain ⟨q, hq, hqD⟩ := h.pb
  rw [List.append_nil] at hp hq
  subst hp
  subst hq
  refine ⟨h.rs, h.va, fun id => ?_, ?_⟩
  · by_cases hid : ∃ v ∈ D, v.1 = id
    · exact .inl hid
    · refine .inr ⟨lev_none (fun c hc he => ?_), lev_none (fun c hc he => ?_)⟩
      · obtain ⟨v, hv, hve⟩ := hpD c hc
        exact hid ⟨v, hv, hve.trans he⟩
      · obtain ⟨v, hv, hve⟩ := hqD c hc
        exact hid ⟨v, hv, hve.trans he⟩
  · obtain ⟨m, hm⟩ := far fa
    obtain ⟨k, hk⟩ := far fb
    exact ⟨max m k, lev_none (fun c hc => by have := hm c hc; omega), lev_none (fun c hc => by have := hk c hc; omega)⟩

/-- Held everywhere. -/
theorem Vis.holds {da db : Int} {f g : Int → Int} {D : List Vs} (h : Vis da db f g D) (R : Int → Int → Bool) : (R da db && D.all (fun v => R v.2.1 v.2.2)) = true ↔ ∀ id, R (f id) (g id) = true := by
  rw [Bool.and_eq_true, List.all_eq_true]
  constructor
  · rintro ⟨h1, h2⟩ id
    rcases h.all id with ⟨v, hv, rfl⟩ | ⟨e1, e2⟩
    · have := h2 v hv
      rwa [(h.va v hv).1, (h.va v hv).2] at this
    · rw [e1, e2]; exact h1
  · intro hall
    obtain ⟨id, e1, e2⟩ := h.out
    refine ⟨by have := hall id; rwa [e1, e2] at this, fun v hv => ?_⟩
    rw [(h.va v hv).1, (h.va v hv).2]
    exact hall v.1

/-- What is chosen. -/
def chs (c : Int → Int → Int) (d : Int) (D : List Vs) : List Cat := (D.filter (fun v => !(c v.2.1 v.2.2 == d))).map (fun v => (v.1, c v.2.1 v.2.2))

theorem chs_snoc (c : Int → Int → Int) (d : Int) (D : List Vs) (v : Vs) : chs c d (D ++ [v]) = if c v.2.1 v.2.2 = d then chs c d D else chs c d D ++ [(v.1, c v.2.1 v.2.2)] := by
  unfold chs
  rw [List.filter_append, List.map_append]
  by_cases h : c v.2.1 v.2.2 = d
  · simp [h]
  · simp [h]

theorem chs_le (c : Int → Int → Int) (d : Int) (D : List Vs) : (chs c d D).length ≤ D.length := by
  unfold chs
  rw [List.length_map]
  exact List.length_filter_le _ _

theorem chs_lev (c : Int → Int → Int) (d id : Int) : ∀ D : List Vs, D.Pairwise (fun u v => u.1 < v.1) → ∀ v ∈ D, v.1 = id → lev d (chs c d D) id = c v.2.1 v.2.2
  | u :: D, hp, v, hv, he => by
    have h1 := List.pairwise_cons.1 hp
    have hc : chs c d (u :: D) = if c u.2.1 u.2.2 = d then chs c d D else (u.1, c u.2.1 u.2.2) :: chs c d D := by
      unfold chs
      rw [List.filter_cons]
      by_cases h : c u.2.1 u.2.2 = d <;> simp [h]
    rw [hc]
    rcases List.mem_cons.1 hv with rfl | hv
    · by_cases h : c v.2.1 v.2.2 = d
      · rw [if_pos h, h]
        apply lev_none
        intro x hx
        unfold chs at hx
        obtain ⟨y, hy, rfl⟩ := List.mem_map.1 hx
        have := h1.1 y (List.mem_filter.1 hy).1
        show y.1 ≠ id
        omega
      · rw [if_neg h, lev, if_pos he]
    · have hne : u.1 ≠ id := by have := h1.1 v hv; omega
      split
      · exact chs_lev c d id D h1.2 v hv he
      · rw [lev, if_neg hne]
        exact chs_lev c d id D h1.2 v hv he

theorem Vis.chosen {da db : Int} {f g : Int → Int} {D : List Vs} (h : Vis da db f g D) (c : Int → Int → Int) : Fm (c da db) (chs c (c da db) D) ∧ ∀ id, lev (c da db) (chs c (c da db) D) id = c (f id) (g id) := by
  refine ⟨⟨?_, fun x hx => ?_⟩, fun id => ?_⟩
  · unfold chs
    exact List.pairwise_map.2 (List.Pairwise.filter _ h.rs)
  · unfold chs at hx
    obtain ⟨y, hy, rfl⟩ := List.mem_map.1 hx
    have := (List.mem_filter.1 hy).2
    simpa using this
  · by_cases hid : ∃ v ∈ D, v.1 = id
    · obtain ⟨v, hv, he⟩ := hid
      rw [chs_lev c _ id D h.rs v hv he, (h.va v hv).1, (h.va v hv).2, he]
    · rcases h.all id with q | ⟨e1, e2⟩
      · exact absurd q hid
      · rw [e1, e2]
        apply lev_none
        intro x hx he
        unfold chs at hx
        obtain ⟨y, hy, rfl⟩ := List.mem_map.1 hx
        exact hid ⟨y, (List.mem_filter.1 hy).1, he⟩
end Go.Proofs.Ytimgelekpghklaa
