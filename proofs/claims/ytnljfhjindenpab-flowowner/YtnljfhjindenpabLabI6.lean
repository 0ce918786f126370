/-
  slices.Insert at 0, as a whole.
-/
import Derived.Test.YtnljfhjindenpabLabI5
namespace Go.Proofs.Ytnljfhjindenpab
set_option linter.unusedVariables false
set_option linter.unusedSimpArgs false
set_option maxRecDepth 20000
open Go.RowKit

set_option maxHeartbeats 1600000 in
theorem c_insRoom {g q cap : Nat} {cur : Array Value} {c : Cat} (w : World) (hroom : 1 ≤ cap) (hm : cap ≤ 9223372036854775807) (hg : w.heap[g]? = some (.cells cur 35 (0, 0))) (hcs : cur.size = cap * 2) (hq : w.heap[q]? = some (.cells (ccell c).toArray 35 (0, 0))) :
    Calls Try.prog 34 #[.slice (some ⟨g, 0, none⟩) 0 cap, .int .i64 0, .slice (some ⟨q, 0, none⟩) 1 1] w fun e w' => e = .returned (.slice (some ⟨g, 0, none⟩) 1 cap) ∧ w' = w.setCells g 0 (ccell c) := by
  obtain ⟨i0, hi0, hz0, hs0, hb0⟩ := info_parts3 Try.infoC
  have hcs2 : ∀ j v, (ccell c)[j]? = some v → w.cell? ((⟨q, 0, none⟩ : Addr).add j) = some v := fun j v hj => by
    rw [Addr.add_lit, Nat.zero_add]
    exact cell_blk hq (by simpa using hj)
  have hsp : ∀ j, j < cap * 2 → (w.cell? ⟨g, j, none⟩).isSome = true := fun j hj => by
    rw [cell_blk hg (v := cur[j]'(by omega)) (by simp [hcs, hj])]
    rfl
  have hfz : ∀ j, w.frozen? ⟨g, j, none⟩ = false := fun j => free_blk hg
  have hrun : ∀ ty, (Builtin.append_ #[22, 22] ty #[.slice (some ⟨g, 0, none⟩) 0 cap, .slice (some ⟨q, 0, none⟩) 1 1]).run Try.prog w = .ok (.slice (some ⟨g, 0, none⟩) 1 cap) (w.setCells g 0 (ccell c)) := fun ty => by
    have := run_append_room_cells (P := Try.prog) w 22 ty 35 i0 Try.underlying22 hi0 g 0 0 cap ⟨q, 0, none⟩ 1 1 (ccell c) (by rw [hs0]; rfl) hcs2 (ccell_one c) (by omega) (fun j hj => by have : j < 2 := hj; exact hsp _ (by omega)) (fun j hj => hfz _)
    simpa using this
  have hb2 : ¬ (cap = 0) := by omega
  clear hcs2 hsp hfz hi0 hz0 hs0 hb0
  go_enter Try.func34, Try.ntmps34
  go_wp2_with (at_builtin; refine Lib.wpList_append_run _ rfl _ _ _ _ rfl _ _ rfl rfl _ _ (hrun _) ?_)
  go_ret
  exact ⟨rfl, rfl⟩

theorem blk_two' {W0 : World} {g : Nat} {ROW : Array Value} {xs : List Cat} {c : Cat} (h : W0.heap[g]? = some (.cells ROW 35 (0, 0))) (hR : (xs.length + 1) * 2 ≤ ROW.size) :
    ((W0.setCells g 2 (ccells xs)).setCells g 0 (ccell c)).heap[g]? = some (.cells (ccells (c :: xs) ++ ROW.toList.drop ((xs.length + 1) * 2)).toArray 35 (0, 0)) := by
  obtain ⟨a, b, t, hl⟩ : ∃ a b t, ROW.toList = a :: b :: t := by
    match hq : ROW.toList with
    | [] => have : ROW.toList.length = 0 := by rw [hq]; rfl
            simp at this; rw [this] at hR; simp at hR
    | [a] => have : ROW.toList.length = 1 := by rw [hq]; rfl
             simp at this; rw [this] at hR; omega
    | a :: b :: t => exact ⟨a, b, t, rfl⟩
  have hsz : ROW.size = t.length + 2 := by rw [← Array.length_toList, hl]; rfl
  have e1 : t = t.take (xs.length * 2) ++ t.drop (xs.length * 2) := (List.take_append_drop _ _).symm
  have e0 : ROW = ([a, b] ++ t.take (xs.length * 2) ++ t.drop (xs.length * 2)).toArray := by
    apply Array.toList_inj.1
    rw [hl, List.append_assoc, ← e1]
    rfl
  rw [e0] at h
  have s1 := blk_setCells (t.drop (xs.length * 2)) (ccells xs) [a, b] (t.take (xs.length * 2)) W0 (by rw [List.length_take, ccells_length]; omega) h
  rw [show [a, b].length = 2 from rfl, List.append_assoc] at s1
  have s2 := blk_setCells (ccells xs ++ t.drop (xs.length * 2)) (ccell c) [] [a, b] (W0.setCells g 2 (ccells xs)) rfl s1
  rw [show ([] : List Value).length = 0 from rfl] at s2
  rw [s2, hl, show (xs.length + 1) * 2 = xs.length * 2 + 2 by omega]
  rfl

theorem c_insert {base q : Nat} {v : Value} {xs : List Cat} {c : Cat} (w : World) (hb : base ≤ w.heap.size) (h : w.ownsRow base 35 2 v xs.length (ccells xs)) (hl : xs.length ≤ 8796093022208) (hq : w.heap[q]? = some (.cells (ccell c).toArray 35 (0, 0))) (hne : v.ownBlock ≠ some q) :
    Calls Try.prog 34 #[v, .int .i64 0, .slice (some ⟨q, 0, none⟩) 1 1] w fun e w' => ∃ u, e = .returned u ∧ MkAt base w' u (c :: xs) ∧ Fr (fun k => base ≤ k) w w' := by
  rcases h.2 with ⟨rfl, h2⟩ | ⟨g, cap, cur, rfl, hbg, hg, hnc, hcm, hcs, ht⟩
  · have hx0 : xs = [] := List.eq_nil_of_length_eq_zero h2
    subst hx0
    refine (c_insEmpty w hq).mono fun e w' hh => ?_
    obtain ⟨u, rfl, ho, hf⟩ := hh
    refine ⟨u, rfl, ?_, fr_of_nw hf⟩
    rcases mk_of_owns (ys := [c]) ho with ⟨h1, h2⟩ | ⟨g, n, cap, tl, h1, h2, h3, h4, h5, h6⟩
    · cases h2
    · exact .inr ⟨g, n, cap, tl, h1, h2, h3, h4, by omega, h6⟩
  · have hqg : q ≠ g := fun e => hne (by rw [e]; rfl)
    unfold maxLen at hcm
    by_cases h0 : 0 < xs.length
    · by_cases hroom : xs.length + 1 ≤ cap
      · refine (c_insShift (c := c) w rfl h0 hroom hcm hg hcs ht hq hqg).mono fun e w' hh => ?_
        obtain ⟨rfl, rfl⟩ := hh
        refine ⟨_, rfl, ?_, fr_setCells (.inl hbg) _ _ _ (fr_setCells (.inl hbg) _ _ _ (Fr.drew (Fr.refl _ w)))⟩
        exact .inr ⟨g, _, cap, _, rfl, rfl, hroom, hcm, hbg, blk_two' (W0 := w.drew) hg (by omega)⟩
      · refine (c_insGrow (c := c) w rfl h0 hl hnc (by omega) hg ht hq).mono fun e w' hh => ?_
        obtain ⟨G, tl, rfl, h1, h2, h3, h4⟩ := hh
        exact ⟨_, rfl, .inr ⟨_, _, G, tl, rfl, rfl, h1, h2, hb, h3⟩, fr_of_nw h4⟩
    · have hx0 : xs = [] := List.eq_nil_of_length_eq_zero (by omega)
      subst hx0
      by_cases hroom : 1 ≤ cap
      · refine (c_insRoom (c := c) w hroom hcm hg hcs hq).mono fun e w' hh => ?_
        obtain ⟨rfl, rfl⟩ := hh
        refine ⟨_, rfl, ?_, fr_setCells (.inl hbg) _ _ _ (Fr.refl _ w)⟩
        exact .inr ⟨g, _, cap, _, rfl, rfl, hroom, hcm, hbg, blk_two' (W0 := w) (xs := []) hg (by simp; omega)⟩
      · have hc0 : cap = 0 := by omega
        subst hc0
        refine (c_insEmpty w hq).mono fun e w' hh => ?_
        obtain ⟨u, rfl, ho, hf⟩ := hh
        refine ⟨u, rfl, ?_, fr_of_nw hf⟩
        rcases mk_of_owns (ys := [c]) ho with ⟨h1, h2⟩ | ⟨g, n, cap, tl, h1, h2, h3, h4, h5, h6⟩
        · cases h2
        · exact .inr ⟨g, n, cap, tl, h1, h2, h3, h4, by omega, h6⟩
end Go.Proofs.Ytnljfhjindenpab
