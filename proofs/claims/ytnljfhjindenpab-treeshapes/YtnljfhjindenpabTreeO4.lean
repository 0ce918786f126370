/-
  Package tree: within at any tree; plainly: a tree whose nodes have their form, and whose keys lie within, is right.
-/
import Derived.Test.YtnljfhjindenpabTreeO3
namespace Go.Proofs.Ytnljfhjindenpab
set_option linter.unusedVariables false
set_option linter.unusedSimpArgs false
set_option maxRecDepth 20000
open Go.RowKit

/-- As many keys and kids as may be. -/
def Shp : (n : Nat) → Tr n → Prop
  | 0, t => t.length ≤ 7
  | n + 1, t => t.1.length ≤ 7 ∧ t.2.length = t.1.length + 1 ∧ ∀ c ∈ t.2, Shp n c

/-- All keys are within. -/
def Wb : (n : Nat) → Tr n → Int → Int → Bool → Prop
  | 0, t, lo, e, bl => ∀ k ∈ t.map (·.1), ¬ Out lo e bl k
  | n + 1, t, lo, e, bl => (∀ k ∈ t.1, ¬ Out lo e bl k) ∧ ∀ j c, t.2[j]? = some c → Wb n c (lft t.1 lo j) (if j < t.1.length then t.1.getD j 0 else e) (if j < t.1.length then false else bl)

theorem c_within : ∀ {n : Nat} {t : Tr n} {b : Nat} {lo e : Int} {bl : Bool} (w : World), NAt w n t b → Shp n t →
    Calls Try.prog 46 #[.pointer (some ⟨b, 0, none⟩), bV lo e bl] w fun r w' => ∃ x : Bool, r = .returned (.bool x) ∧ (x = true ↔ Wb n t lo e bl) ∧ Nw w w'
  | 0, t, b, lo, e, bl, w, h, hs => by
    obtain ⟨kv, vv, sv, h1, h2, h3, h4⟩ := h
    have hs' : t.length ≤ 7 := hs
    refine (c_withinG (bs := []) (fun _ => True) w h1 h2 h4 (by simp; omega) (by simp) (fun j q hq => by simp at hq)).mono ?_
    rintro r w' ⟨x, rfl, hx, hn⟩
    exact ⟨x, rfl, hx.trans ⟨fun h => h.1, fun h => ⟨h, fun j hj => trivial⟩⟩, hn⟩
  | n + 1, t, b, lo, e, bl, w, h, hs => by
    obtain ⟨kv, vv, sv, bs, h1, h2, h3, h4, h5⟩ := h
    obtain ⟨s1, s2, s3⟩ := hs
    have hbl := kids_length h5
    refine (c_withinG (fun j => ∀ c, t.2[j]? = some c → Wb n c (lft t.1 lo j) (if j < t.1.length then t.1.getD j 0 else e) (if j < t.1.length then false else bl)) w h1 h2 h4 (by omega) (by omega) ?_).mono ?_
    · intro j q hq w' hw
      have hj : j < t.2.length := by have := (List.getElem?_eq_some_iff.1 hq).1; omega
      obtain ⟨q', hq', hn⟩ := kids_get j h5 (List.getElem?_eq_getElem hj)
      rw [hq] at hq'
      simp only [Option.some.injEq] at hq'
      subst hq'
      refine (c_within w' (hn.nw hw) (s3 _ (List.getElem_mem hj))).mono ?_
      rintro r w2 ⟨x, rfl, hx, hn2⟩
      refine ⟨x, rfl, hx.trans ⟨fun h c hc => ?_, fun h => h _ (List.getElem?_eq_getElem hj)⟩, hn2⟩
      rw [List.getElem?_eq_getElem hj] at hc
      simp only [Option.some.injEq] at hc
      subst hc
      exact h
    · rintro r w' ⟨x, rfl, hx, hn⟩
      refine ⟨x, rfl, hx.trans ⟨fun h => ⟨h.1, fun j c hc => h.2 j (by have := (List.getElem?_eq_some_iff.1 hc).1; omega) c hc⟩, fun h => ⟨h.1, fun j _ c hc => h.2 j c hc⟩⟩, hn⟩

/-- The greatest bound, where it is endless. -/
def hib (e : Int) (bl : Bool) : Int := if bl = true then 18446744073709551616 else e

theorem out_iff {lo e : Int} {bl : Bool} {k : Int} (hk : k < 18446744073709551616) : ¬ Out lo e bl k ↔ lo ≤ k ∧ k < hib e bl := by
  unfold Out hib
  cases bl <;> simp <;> omega

theorem hib_rgt {ks : List Int} {e : Int} {bl : Bool} {j : Nat} : hib (if j < ks.length then ks.getD j 0 else e) (if j < ks.length then false else bl) = rgt ks (hib e bl) j := by
  unfold hib rgt
  by_cases h : j < ks.length
  · simp only [if_pos h]; rfl
  · simp only [if_neg h]

/-- A right tree lies within. -/
theorem wb_of : ∀ {n m M : Nat} {t : Tr n} {lo e : Int} {bl : Bool}, R n m M t lo (hib e bl) → hib e bl ≤ 18446744073709551616 → Wb n t lo e bl
  | 0, m, M, t, lo, e, bl, h, hb => fun k hk => by
    have := (R.keys (n := 0) h).2 k hk
    exact (out_iff (by omega)).2 this
  | n + 1, m, M, t, lo, e, bl, h, hb => by
    refine ⟨fun k hk => ?_, fun j c hc => ?_⟩
    · have := (R.keys h).2 k hk
      exact (out_iff (by omega)).2 this
    · have h1 := bds_get h.2 hc
      rw [← hib_rgt] at h1
      refine wb_of h1 ?_
      rw [hib_rgt]
      have hk := bds_keys R.kidlt h.2
      unfold rgt
      split
      · rw [List.getD_eq_getElem?_getD, List.getElem?_eq_getElem (by assumption)]
        have := (hk.2.2 _ (List.getElem_mem (by assumption : j < t.1.length))).2
        simp only [Option.getD_some]
        omega
      · exact hb

theorem shp_of : ∀ {n m M : Nat} {t : Tr n} {a b : Int}, R n m M t a b → M ≤ 7 → Shp n t
  | 0, m, M, t, a, b, h, hM => by have := h.1; show t.length ≤ 7; omega
  | n + 1, m, M, t, a, b, h, hM => by
    refine ⟨by have := h.1; omega, bds_length h.2, fun c hc => ?_⟩
    obtain ⟨x, y, hxy⟩ := bds_mem h.2 hc
    exact shp_of hxy (Nat.le_refl _)

/-- The form of all nodes of a tree. -/
def Fmt : (n : Nat) → (m : Nat) → Tr n → Prop
  | 0, m, t => (m ≤ t.length ∧ t.length ≤ 7) ∧ Rise (t.map (·.1)) ∧ ∀ p ∈ t, p.1 < 18446744073709551616
  | n + 1, m, t => (m ≤ t.1.length ∧ t.1.length ≤ 7) ∧ Rise t.1 ∧ (∀ k ∈ t.1, k < 18446744073709551616) ∧ t.2.length = t.1.length + 1 ∧ ∀ c ∈ t.2, Fmt n 3 c

theorem bds_of {α : Type} {B : α → Int → Int → Prop} : ∀ {ks : List Int} {cs : List α} {a b : Int}, cs.length = ks.length + 1 → (∀ j c, cs[j]? = some c → B c (lft ks a j) (rgt ks b j)) → Bds B a ks cs b
  | [], [c], a, b, _, h => h 0 c rfl
  | [], [], a, b, hl, _ => by simp at hl
  | [], _ :: _ :: _, a, b, hl, _ => by simp at hl
  | k :: ks, [], a, b, hl, _ => by simp at hl
  | k :: ks, c :: cs, a, b, hl, h => by
    refine ⟨h 0 c rfl, bds_of (by simpa using hl) (fun j c' hc => ?_)⟩
    have h1 := h (j + 1) c' (by simpa using hc)
    have e1 : lft (k :: ks) a (j + 1) = lft ks k j := by
      unfold lft
      cases j <;> simp
    have e2 : rgt (k :: ks) b (j + 1) = rgt ks b j := by
      unfold rgt
      simp
    rwa [e1, e2] at h1

/-- A tree whose nodes have their form, and whose keys lie within, is right. -/
theorem r_of : ∀ {n m : Nat} {t : Tr n} {lo e : Int} {bl : Bool}, Fmt n m t → Wb n t lo e bl → R n m 7 t lo (hib e bl)
  | 0, m, t, lo, e, bl, hf, hw => by
    refine ⟨hf.1, hf.2.1, fun p hp => (out_iff (hf.2.2 p hp)).1 (hw p.1 (List.mem_map_of_mem hp))⟩
  | n + 1, m, t, lo, e, bl, hf, hw => by
    obtain ⟨h1, h2, h3, h4, h5⟩ := hf
    refine ⟨h1, bds_of h4 (fun j c hc => ?_)⟩
    have := r_of (h5 c (List.mem_of_getElem? hc)) (hw.2 j c hc)
    rwa [hib_rgt] at this

theorem shp_fm : ∀ {n m : Nat} {t : Tr n}, Fmt n m t → Shp n t
  | 0, m, t, h => h.1.2
  | n + 1, m, t, h => ⟨h.1.2, h.2.2.2.1, fun c hc => shp_fm (h.2.2.2.2 c hc)⟩

/-! ### What is told by a right tree is read as its pairs -/
theorem nodes_deep : ∀ {n m M : Nat} {t : Tr n} {a b : Int} (k : Nat), R n m M t a b → n + 1 ≤ (nodesT n t k).length
  | 0, m, M, t, a, b, k, h => by simp [nodesT]
  | n + 1, m, M, t, a, b, k, h => by
    have hl := bds_length h.2
    have h0 : 0 < t.2.length := by omega
    obtain ⟨_, rest, h2⟩ := kidsG_get (fun j k => nodesT n (t.2.getD j (dflt n)) k) (k + 1) h0
    have hc := bds_get h.2 (List.getElem?_eq_getElem h0)
    have ih := nodes_deep (k + 1) hc
    rw [nodesT, List.length_cons, h2]
    simp only [kidsG, List.length_nil, Nat.add_zero, List.nil_append, List.length_append, getD_get h0]
    omega
end Go.Proofs.Ytnljfhjindenpab
