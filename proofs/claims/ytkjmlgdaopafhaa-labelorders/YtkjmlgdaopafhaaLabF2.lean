/-
  LabelOrders' walk.
-/
import Derived.Test.YtkjmlgdaopafhaaLabA1
import Derived.Test.YtkjmlgdaopafhaaLabR4
import Derived.Test.YtkjmlgdaopafhaaLibGrow2
namespace Go.Proofs.Ytkjmlgdaopafhaa
set_option linter.unusedVariables false
set_option linter.unusedSimpArgs false
set_option maxRecDepth 20000
open Go.RowKit

theorem leqd_iff {f g : Int → Int} : (∀ id, decide (f id ≤ g id) = true) ↔ ∀ id, f id ≤ g id := ⟨fun h id => of_decide_eq_true (h id), fun h id => decide_eq_true (h id)⟩
theorem sameb_iff {f g : Int → Int} : (∀ id, (f id == g id) = true) ↔ ∀ id, f id = g id := ⟨fun h id => by simpa using h id, fun h id => by simpa using h id⟩

/-- Two labels copied, and two variables for them, in whatever order. -/
def FO (W : World) (z0 z1 : Int) (x0 x1 : List Cat) : Nat → Value → Nat → Nat → World → Prop
  | 1 => fun v lo hi w => ∃ u, v = labV z0 u ∧ CSl (fun b => lo ≤ b ∧ b < hi) w u x0
  | 3 => fun v lo hi w => ∃ u, v = labV z1 u ∧ CSl (fun b => lo ≤ b ∧ b < hi) w u x1
  | 4 => fun v lo hi w => v = .pointer (some ⟨lo, 0, none⟩) ∧ lo < hi ∧ W.heap.size ≤ lo ∧ w.heap[lo]? = some (.cells #[.int .i64 0, .slice none 0 0] 26 (0, 0))
  | 5 => fun v lo hi w => v = .pointer (some ⟨lo, 0, none⟩) ∧ lo < hi ∧ W.heap.size ≤ lo ∧ w.heap[lo]? = some (.cells #[.int .i64 0, .slice none 0 0] 26 (0, 0))
  | _ => fun _ _ _ _ => True

set_option maxRecDepth 20000 in
set_option maxHeartbeats 6400000 in
theorem c_orders {X Y : Nat → Prop} {u0 u1 : Value} {x0 x1 : List Cat} (z0 z1 : Int) (w : World) (w0 : CSl X w u0 x0) (w1 : CSl Y w u1 x1) (l0 : x0.length ≤ 8796093021952) (l1 : x1.length ≤ 8796093021952) :
    Calls Try.prog 6 #[labV z0 u0, labV z1 u1] w fun e w' => e = .returned (.bool true) ∧ Nw w w' := by
  obtain ⟨aa, ac, rfl, ha1, ha2⟩ := w0.form
  obtain ⟨ba, bc, rfl, hb1, hb2⟩ := w1.form
  obtain ⟨W, hW⟩ : ∃ W, Hid (W = (w.alloc (.cells #[.int .i64 z0, .slice aa x0.length ac] 26)).alloc (.cells #[.int .i64 z1, .slice ba x1.length bc] 26)) := ⟨_, rfl⟩
  have nW : Nw w W := by rw [hW.out]; exact nw_alloc (nw_alloc (nw_refl w) _) _
  have hA : W.heap[w.heap.size]? = some (.cells #[.int .i64 z0, .slice aa x0.length ac] 26 (0, 0)) := by rw [hW.out]; exact heap_alloc2_old w _ _
  have hB : W.heap[w.heap.size + 1]? = some (.cells #[.int .i64 z1, .slice ba x1.length bc] 26 (0, 0)) := by rw [hW.out]; exact heap_alloc2_new w _ _
  have e0 := w0.nw nW
  have e1 := w1.nw nW
  unfold labV
  go_enter Try.func6, Try.ntmps6
  go_upto_region 1 with fail
  rw [← hW.out]
  clear hW w0 w1
  have hNl := heap_lt hB
  generalize hNN : w.heap.size = N at *
  replace hNN : Hid _ := hNN
  have hSof : ∀ w', Nw W w' → (fun w' : World => Nw W w' ∧ w'.cell? ⟨N, 0, none⟩ = some (.int .i64 z0) ∧ w'.cell? ⟨N, 1, none⟩ = some (.slice aa x0.length ac) ∧ w'.cell? ⟨N + 1, 0, none⟩ = some (.int .i64 z1) ∧ w'.cell? ⟨N + 1, 1, none⟩ = some (.slice ba x1.length bc)) w' := fun w' hw => ⟨hw, cell_blk ((hw.block _ (heap_lt hA) (fun h => h)).trans hA) rfl, cell_blk ((hw.block _ (heap_lt hA) (fun h => h)).trans hA) rfl, cell_blk ((hw.block _ (heap_lt hB) (fun h => h)).trans hB) rfl, cell_blk ((hw.block _ (heap_lt hB) (fun h => h)).trans hB) rfl⟩
  have hW0 : Nw W W.drew := Fr.drew (Fr.refl _ W)
  have hS := hSof _ hW0
  have hgrp : Hid (∀ w', Nw W w' → (Calls Try.prog 16 #[.agg #[.int .i64 z0, .slice aa x0.length ac]] w' fun e w'' => ∃ u, e = .returned (labV z0 u) ∧ CSl (fun b => w'.heap.size ≤ b) w'' u x0 ∧ Nw w' w'') ∧ (Calls Try.prog 16 #[.agg #[.int .i64 z1, .slice ba x1.length bc]] w' fun e w'' => ∃ u, e = .returned (labV z1 u) ∧ CSl (fun b => w'.heap.size ≤ b) w'' u x1 ∧ Nw w' w'')) := fun w' hw => ⟨c_copy z0 w' (e0.nw hw) (by omega), c_copy z1 w' (e1.nw hw) (by omega)⟩
  refine wp_region_plan [] 6 [(0, []), (2, []), (0, [(1, []), (3, [1]), (4, []), (5, [])])] (fun w' : World => Nw W w' ∧ w'.cell? ⟨N, 0, none⟩ = some (.int .i64 z0) ∧ w'.cell? ⟨N, 1, none⟩ = some (.slice aa x0.length ac) ∧ w'.cell? ⟨N + 1, 0, none⟩ = some (.int .i64 z1) ∧ w'.cell? ⟨N + 1, 1, none⟩ = some (.slice ba x1.length bc)) (by kernel_rfl) (by kernel_rfl) ?_
  refine plan_quiet _ ?_ rfl hS rfl ?_ ?_
  rotate_left
  · rintro w' ⟨hn, h0, h1, h2, h3⟩; go_simp; first | rfl | (rw [if_pos (by omega)]; done) | (rw [if_pos (by omega)]; rfl) | (rw [if_pos (by omega)]; go_simp; rfl)
  simp only [Act.put, List.setIfInBounds_toArray, List.set_cons_zero, List.set_cons_succ]
  refine plan_quiet _ ?_ rfl hS rfl ?_ ?_
  rotate_left
  · rintro w' ⟨hn, h0, h1, h2, h3⟩; go_simp; first | rfl | (rw [if_pos (by omega)]; done) | (rw [if_pos (by omega)]; rfl) | (rw [if_pos (by omega)]; go_simp; rfl)
  simp only [Act.put, List.setIfInBounds_toArray, List.set_cons_zero, List.set_cons_succ]
  refine plan_group2 (fun | 1 => 8 | 3 => 10 | 4 => 5 | 5 => 6 | _ => 0) (FO W z0 z1 x0 x1) Nw (by decide) (by decide) (by decide) (fun a b ha hb => hSof b (nw_trans ha.1 hb)) (fun a b h => h.size) ?FG hS ?steps ?fin
  case FG =>
    intro p hp v lo hi w1 w2 h1 h2
    simp only [List.mem_cons, List.not_mem_nil, or_false] at hp
    rcases hp with rfl | rfl | rfl | rfl
    · obtain ⟨u, q1, q2⟩ := h1
      exact ⟨u, q1, q2.nw h2⟩
    · obtain ⟨u, q1, q2⟩ := h1
      exact ⟨u, q1, q2.nw h2⟩
    · obtain ⟨q1, q2, q3, q4⟩ := h1
      exact ⟨q1, q2, q3, (h2.block _ (heap_lt q4) (fun h => h)).trans q4⟩
    · obtain ⟨q1, q2, q3, q4⟩ := h1
      exact ⟨q1, q2, q3, (h2.block _ (heap_lt q4) (fun h => h)).trans q4⟩
  case steps =>
    intro p hp x lo hi w2 hS2 hd
    simp only [List.mem_cons, List.not_mem_nil, or_false] at hp
    have hws := hS2.1.size
    rcases hp with rfl | rfl | rfl | rfl
    · refine ⟨_, rfl, fun K hK => ?_⟩
      simp only [putAll, Act.put, List.setIfInBounds_toArray, List.set_cons_zero, List.set_cons_succ] at hK ⊢
      have hcon := (hgrp.out w2 hS2.1).1
      clear hd hS
      go_wp2_with (go_at_call 16; refine Calls.mono hcon ?_; rintro e w3 ⟨u, rfl, q1, q5⟩; refine stop_here ?_)
      unfold Hid
      obtain ⟨ja, jc, rfl, _, _⟩ := q1.form
      unfold labV
      go_wp2
      exact hK _ _ q5 ⟨_, rfl, q1.mono (fun b hb h => ⟨hb, h⟩)⟩
    · refine ⟨_, rfl, fun K hK => ?_⟩
      simp only [putAll, Act.put, List.setIfInBounds_toArray, List.set_cons_zero, List.set_cons_succ] at hK ⊢
      have hcon := (hgrp.out w2 hS2.1).2
      clear hd hS
      go_wp2_with (go_at_call 16; refine Calls.mono hcon ?_; rintro e w3 ⟨u, rfl, q1, q5⟩; refine stop_here ?_)
      unfold Hid
      obtain ⟨ja, jc, rfl, _, _⟩ := q1.form
      unfold labV
      go_wp2
      exact hK _ _ q5 ⟨_, rfl, q1.mono (fun b hb h => ⟨hb, h⟩)⟩
    · refine ⟨_, rfl, fun K hK => ?_⟩
      simp only [putAll, Act.put, List.setIfInBounds_toArray, List.set_cons_zero, List.set_cons_succ] at hK ⊢
      clear hd hS
      go_wp2
      exact hK _ _ (nw_alloc (nw_refl w2) _) ⟨rfl, by simp, hws, heap_alloc_new w2 _⟩
    · refine ⟨_, rfl, fun K hK => ?_⟩
      simp only [putAll, Act.put, List.setIfInBounds_toArray, List.set_cons_zero, List.set_cons_succ] at hK ⊢
      clear hd hS
      go_wp2
      exact hK _ _ (nw_alloc (nw_refl w2) _) ⟨rfl, by simp, hws, heap_alloc_new w2 _⟩
  case fin =>
    intro x lo hi w2 hS2 hF hR
    obtain ⟨⟨uj, hj1, hj2⟩, hj6⟩ := hF (1, []) (by simp)
    obtain ⟨⟨um, hm1, hm2⟩, hm6⟩ := hF (3, [1]) (by simp)
    obtain ⟨⟨p1, p2, p3, p4⟩, p5⟩ := hF (4, []) (by simp)
    obtain ⟨⟨q1, q2, q3, q4⟩, q5⟩ := hF (5, []) (by simp)
    have r26 := hR (1, []) (by simp) (4, []) (by simp) (by decide)
    have r27 := hR (1, []) (by simp) (5, []) (by simp) (by decide)
    have r56 := hR (3, [1]) (by simp) (4, []) (by simp) (by decide)
    have r57 := hR (3, [1]) (by simp) (5, []) (by simp) (by decide)
    have r67 := hR (4, []) (by simp) (5, []) (by simp) (by decide)
    simp only at hj1 hj2 hj6 hm1 hm2 hm6 p1 p2 p3 p4 p5 q1 q2 q3 q4 q5 r26 r27 r56 r57 r67
    obtain ⟨ja, jc, rfl, _, _⟩ := hj2.form
    obtain ⟨ma, mc, rfl, _, _⟩ := hm2.form
    refine plan_tail ?_
    simp only [putAll, Act.put, List.setIfInBounds_toArray, List.set_cons_zero, List.set_cons_succ, List.drop_succ_cons, List.drop_zero, hj1, hm1, p1, q1]
    generalize lo 4 = gj at *
    generalize lo 5 = gm at *
    generalize hi 4 = hj at *
    generalize hi 5 = hm at *
    generalize lo 1 = l2' at *
    generalize hi 1 = h2' at *
    generalize lo 3 = l5' at *
    generalize hi 3 = h5' at *
    clear hF hR hj1 hm1 p1 q1
    have hne : gj ≠ gm := by omega
    obtain ⟨U, hU⟩ : ∃ U, Hid (U = (((w2.setCell ⟨gj, 0, none⟩ (.int .i64 z0)).setCell ⟨gj, 1, none⟩ (.slice ja x0.length jc)).setCell ⟨gm, 0, none⟩ (.int .i64 z1)).setCell ⟨gm, 1, none⟩ (.slice ma x1.length mc)) := ⟨_, rfl⟩
    have hfA : Fr (fun k => k = gj) w2 ((w2.setCell ⟨gj, 0, none⟩ (.int .i64 z0)).setCell ⟨gj, 1, none⟩ (.slice ja x0.length jc)) := ((Fr.refl (fun k => k = gj) w2).setCell (p := ⟨gj, 0, none⟩) (.inl rfl) _).setCell (p := ⟨gj, 1, none⟩) (.inl rfl) _
    have hA1 : ((w2.setCell ⟨gj, 0, none⟩ (.int .i64 z0)).setCell ⟨gj, 1, none⟩ (.slice ja x0.length jc)).heap[gj]? = some (.cells #[.int .i64 z0, .slice ja x0.length jc] 26 (0, 0)) := by rw [blk_setCell (blk_setCell p4)]; rfl
    have hA2 : ((w2.setCell ⟨gj, 0, none⟩ (.int .i64 z0)).setCell ⟨gj, 1, none⟩ (.slice ja x0.length jc)).heap[gm]? = some (.cells #[.int .i64 0, .slice none 0 0] 26 (0, 0)) := (hfA.block gm (heap_lt q4) (fun h => hne h.symm)).trans q4
    have hfB : Fr (fun k => k = gj ∨ k = gm) w2 U := by
      rw [hU.out]
      exact ((hfA.mono (fun k hk => .inl hk)).setCell (p := ⟨gm, 0, none⟩) (.inl (.inr rfl)) _).setCell (p := ⟨gm, 1, none⟩) (.inl (.inr rfl)) _
    have hfC : Fr (fun k => k = gm) ((w2.setCell ⟨gj, 0, none⟩ (.int .i64 z0)).setCell ⟨gj, 1, none⟩ (.slice ja x0.length jc)) U := by
      rw [hU.out]
      exact ((Fr.refl (fun k => k = gm) _).setCell (p := ⟨gm, 0, none⟩) (.inl rfl) _).setCell (p := ⟨gm, 1, none⟩) (.inl rfl) _
    have bJ : U.heap[gj]? = some (.cells #[.int .i64 z0, .slice ja x0.length jc] 26 (0, 0)) := (hfC.block gj (heap_lt hA1) hne).trans hA1
    have bM : U.heap[gm]? = some (.cells #[.int .i64 z1, .slice ma x1.length mc] 26 (0, 0)) := by rw [hU.out, blk_setCell (blk_setCell hA2)]; rfl
    have nU0 := hS2.1
    have bA : U.heap[N]? = _ := (hfB.block N (Nat.lt_of_lt_of_le (heap_lt hA) nU0.size) (by omega)).trans ((nU0.block _ (heap_lt hA) (fun h => h)).trans hA)
    have bB : U.heap[N + 1]? = _ := (hfB.block (N + 1) (Nat.lt_of_lt_of_le (heap_lt hB) nU0.size) (by omega)).trans ((nU0.block _ (heap_lt hB) (fun h => h)).trans hB)
    have nWU : Nw W U := Fr.trans nU0 hfB (fun k hk => .inr (by rcases hk with rfl | rfl <;> omega))
    have ej : CSl (fun _ => True) U (.slice ja x0.length jc) x0 := hj2.keep hfB (fun b hb _ h => by rcases h with h | h <;> omega) (fun _ _ _ => trivial)
    have em : CSl (fun _ => True) U (.slice ma x1.length mc) x1 := hm2.keep hfB (fun b hb _ h => by rcases h with h | h <;> omega) (fun _ _ _ => trivial)
    replace e0 := e0.nw nWU
    replace e1 := e1.nw nWU
    have c1 : w2.cell? ⟨gj, 0, none⟩ = some (.int .i64 0) := cell_blk p4 rfl
    have c2 : w2.cell? ⟨gj, 1, none⟩ = some (.slice none 0 0) := cell_blk p4 rfl
    have c3 : w2.cell? ⟨gm, 0, none⟩ = some (.int .i64 0) := cell_blk q4 rfl
    have c4 : w2.cell? ⟨gm, 1, none⟩ = some (.slice none 0 0) := cell_blk q4 rfl
    have f1 : ∀ k, w2.frozen? ⟨gj, k, none⟩ = false := fun k => free_blk p4
    have f2 : ∀ k, w2.frozen? ⟨gm, k, none⟩ = false := fun k => free_blk q4
    have hne2 : gm ≠ gj := fun h => hne h.symm
    have nwU := nw_trans nW nWU
    clear hj2 hm2 hfA hA1 hA2 hfB hfC p4 q4 nU0 hS2 hgrp hS hW0 hSof hA hB nWU nW r26 r27 r56 r57 r67 hj6 hm6 p2 p3 p5 q2 q3 q5
    unfold labV
    go_upto_region 2 with fail
    rw [← hU.out]
    clear hU c1 c2 c3 c4 f1 f2
    have hSof : ∀ w', Nw U w' → (fun w' : World => Nw U w' ∧ w'.cell? ⟨N, 0, none⟩ = some (.int .i64 z0) ∧ w'.cell? ⟨N, 1, none⟩ = some (.slice aa x0.length ac) ∧ w'.cell? ⟨N + 1, 0, none⟩ = some (.int .i64 z1) ∧ w'.cell? ⟨N + 1, 1, none⟩ = some (.slice ba x1.length bc) ∧ w'.cell? ⟨gj, 0, none⟩ = some (.int .i64 z0) ∧ w'.cell? ⟨gj, 1, none⟩ = some (.slice ja x0.length jc) ∧ w'.cell? ⟨gm, 0, none⟩ = some (.int .i64 z1) ∧ w'.cell? ⟨gm, 1, none⟩ = some (.slice ma x1.length mc)) w' := fun w' hw => ⟨hw, cell_blk ((hw.block _ (heap_lt bA) (fun h => h)).trans bA) rfl, cell_blk ((hw.block _ (heap_lt bA) (fun h => h)).trans bA) rfl, cell_blk ((hw.block _ (heap_lt bB) (fun h => h)).trans bB) rfl, cell_blk ((hw.block _ (heap_lt bB) (fun h => h)).trans bB) rfl, cell_blk ((hw.block _ (heap_lt bJ) (fun h => h)).trans bJ) rfl, cell_blk ((hw.block _ (heap_lt bJ) (fun h => h)).trans bJ) rfl, cell_blk ((hw.block _ (heap_lt bM) (fun h => h)).trans bM) rfl, cell_blk ((hw.block _ (heap_lt bM) (fun h => h)).trans bM) rfl⟩
    have hSofH : Hid _ := hSof
    clear hSof
    have hW0 : Nw U U.drew := Fr.drew (Fr.refl _ U)
    have hS := hSofH.out _ hW0
    by_cases hab : ∀ id, lev z0 x0 id ≤ lev z1 x1 id
    · have hab : Hid _ := hab
      refine wp_region_ord [] 34 [(0, false), (1, true), (2, true), (3, true), (5, true), (6, true), (4, false), (7, false), (8, true), (9, true), (10, true), (11, true), (12, true), (14, true), (15, true), (13, false), (16, false), (17, true), (18, true), (19, true), (20, false), (21, true), (22, true), (23, true), (24, true), (25, true), (26, true), (27, false), (28, true), (29, true), (30, true), (31, true), (32, false), (33, true)] (fun w' : World => Nw U w' ∧ w'.cell? ⟨N, 0, none⟩ = some (.int .i64 z0) ∧ w'.cell? ⟨N, 1, none⟩ = some (.slice aa x0.length ac) ∧ w'.cell? ⟨N + 1, 0, none⟩ = some (.int .i64 z1) ∧ w'.cell? ⟨N + 1, 1, none⟩ = some (.slice ba x1.length bc) ∧ w'.cell? ⟨gj, 0, none⟩ = some (.int .i64 z0) ∧ w'.cell? ⟨gj, 1, none⟩ = some (.slice ja x0.length jc) ∧ w'.cell? ⟨gm, 0, none⟩ = some (.int .i64 z1) ∧ w'.cell? ⟨gm, 1, none⟩ = some (.slice ma x1.length mc)) (by kernel_rfl) (by kernel_rfl) ?_
      refine ord_actL _ rfl (fun K1 hK1 => ?_)
      go_wp2_with (go_at_call 9; refine Calls.mono (c_alive _) ?_; rintro e y0 ⟨rfl, qn⟩)
      have m0 := nw_trans hW0 qn
      refine hK1 _ _ (hSofH.out _ m0) ?_
      clear hK1 K1 qn hS
      have hS := hSofH.out _ m0
      refine ord_quietL _ ?_ rfl hS rfl ?_ ?_
      rotate_left
      · rintro w' ⟨hn, h0, h1, h2, h3, h4, h5, h6, h7⟩; go_simp; first | rfl | (rw [if_pos (by omega)]; done) | (rw [if_pos (by omega)]; rfl) | (rw [if_pos (by omega)]; go_simp; rfl)
      simp only [Act.put, List.setIfInBounds_toArray, List.set_cons_zero, List.set_cons_succ]
      refine ord_quietL _ ?_ rfl hS rfl ?_ ?_
      rotate_left
      · rintro w' ⟨hn, h0, h1, h2, h3, h4, h5, h6, h7⟩; go_simp; first | rfl | (rw [if_pos (by omega)]; done) | (rw [if_pos (by omega)]; rfl) | (rw [if_pos (by omega)]; go_simp; rfl)
      simp only [Act.put, List.setIfInBounds_toArray, List.set_cons_zero, List.set_cons_succ]
      refine ord_quietL _ ?_ rfl hS rfl ?_ ?_
      rotate_left
      · rintro w' ⟨hn, h0, h1, h2, h3, h4, h5, h6, h7⟩; go_simp; first | rfl | (rw [if_pos (by omega)]; done) | (rw [if_pos (by omega)]; rfl) | (rw [if_pos (by omega)]; go_simp; rfl)
      simp only [Act.put, List.setIfInBounds_toArray, List.set_cons_zero, List.set_cons_succ]
      refine ord_quietL _ ?_ rfl hS rfl ?_ ?_
      rotate_left
      · rintro w' ⟨hn, h0, h1, h2, h3, h4, h5, h6, h7⟩; go_simp; first | rfl | (rw [if_pos (by omega)]; done) | (rw [if_pos (by omega)]; rfl) | (rw [if_pos (by omega)]; go_simp; rfl)
      simp only [Act.put, List.setIfInBounds_toArray, List.set_cons_zero, List.set_cons_succ]
      refine ord_quietL _ ?_ rfl hS rfl ?_ ?_
      rotate_left
      · rintro w' ⟨hn, h0, h1, h2, h3, h4, h5, h6, h7⟩; go_simp; first | rfl | (rw [if_pos (by omega)]; done) | (rw [if_pos (by omega)]; rfl) | (rw [if_pos (by omega)]; go_simp; rfl)
      simp only [Act.put, List.setIfInBounds_toArray, List.set_cons_zero, List.set_cons_succ]
      refine ord_actL _ rfl (fun K1 hK1 => ?_)
      have hcon : Hid _ := c_leq z0 z1 y0 (ej.nw m0) (em.nw m0) (by omega) (by omega)
      unfold labV at hcon
      go_wp2_with (go_at_call 18; refine Calls.mono hcon.out ?_; rintro e y1 ⟨r, rfl, q1, qn⟩)
      have m1 := nw_trans m0 qn
      have hr : r = true := q1.2 (leqd_iff.2 hab.out)
      subst hr
      clear q1
      refine hK1 _ _ (hSofH.out _ m1) ?_
      clear hK1 K1 hcon qn hS
      have hS := hSofH.out _ m1
      refine ord_actL _ rfl (fun K1 hK1 => ?_)
      have hcon : Hid _ := c_rleq z0 z1 y1 (e0.nw m1) (e1.nw m1) (by omega)
      unfold labV at hcon
      go_wp2_with (go_at_call 19; refine Calls.mono hcon.out ?_; rintro e y2 ⟨r, rfl, q1, qn⟩)
      have m2 := nw_trans m1 qn
      have hr : r = true := q1.2 hab.out
      subst hr
      clear q1
      refine hK1 _ _ (hSofH.out _ m2) ?_
      clear hK1 K1 hcon qn hS
      have hS := hSofH.out _ m2
      refine ord_quietL _ ?_ rfl hS rfl ?_ ?_
      rotate_left
      · rintro w' ⟨hn, h0, h1, h2, h3, h4, h5, h6, h7⟩; go_simp; first | rfl | (rw [if_pos (by omega)]; done) | (rw [if_pos (by omega)]; rfl) | (rw [if_pos (by omega)]; go_simp; rfl)
      simp only [Act.put, List.setIfInBounds_toArray, List.set_cons_zero, List.set_cons_succ]
      refine ord_quietL _ ?_ rfl hS rfl ?_ ?_
      rotate_left
      · rintro w' ⟨hn, h0, h1, h2, h3, h4, h5, h6, h7⟩; go_simp; first | rfl | (rw [if_pos (by omega)]; done) | (rw [if_pos (by omega)]; rfl) | (rw [if_pos (by omega)]; go_simp; rfl)
      simp only [Act.put, List.setIfInBounds_toArray, List.set_cons_zero, List.set_cons_succ]
      refine ord_quietL _ ?_ rfl hS rfl ?_ ?_
      rotate_left
      · rintro w' ⟨hn, h0, h1, h2, h3, h4, h5, h6, h7⟩; go_simp; first | rfl | (rw [if_pos (by omega)]; done) | (rw [if_pos (by omega)]; rfl) | (rw [if_pos (by omega)]; go_simp; rfl)
      simp only [Act.put, List.setIfInBounds_toArray, List.set_cons_zero, List.set_cons_succ]
      refine ord_quietL _ ?_ rfl hS rfl ?_ ?_
      rotate_left
      · rintro w' ⟨hn, h0, h1, h2, h3, h4, h5, h6, h7⟩; go_simp; first | rfl | (rw [if_pos (by omega)]; done) | (rw [if_pos (by omega)]; rfl) | (rw [if_pos (by omega)]; go_simp; rfl)
      simp only [Act.put, List.setIfInBounds_toArray, List.set_cons_zero, List.set_cons_succ]
      refine ord_quietL _ ?_ rfl hS rfl ?_ ?_
      rotate_left
      · rintro w' ⟨hn, h0, h1, h2, h3, h4, h5, h6, h7⟩; go_simp; first | rfl | (rw [if_pos (by omega)]; done) | (rw [if_pos (by omega)]; rfl) | (rw [if_pos (by omega)]; go_simp; rfl)
      simp only [Act.put, List.setIfInBounds_toArray, List.set_cons_zero, List.set_cons_succ]
      refine ord_quietL _ ?_ rfl hS rfl ?_ ?_
      rotate_left
      · rintro w' ⟨hn, h0, h1, h2, h3, h4, h5, h6, h7⟩; go_simp; first | rfl | (rw [if_pos (by omega)]; done) | (rw [if_pos (by omega)]; rfl) | (rw [if_pos (by omega)]; go_simp; rfl)
      simp only [Act.put, List.setIfInBounds_toArray, List.set_cons_zero, List.set_cons_succ]
      refine ord_quietL _ ?_ rfl hS rfl ?_ ?_
      rotate_left
      · rintro w' ⟨hn, h0, h1, h2, h3, h4, h5, h6, h7⟩; go_simp; first | rfl | (rw [if_pos (by omega)]; done) | (rw [if_pos (by omega)]; rfl) | (rw [if_pos (by omega)]; go_simp; rfl)
      simp only [Act.put, List.setIfInBounds_toArray, List.set_cons_zero, List.set_cons_succ]
      refine ord_actL _ rfl (fun K1 hK1 => ?_)
      have hcon : Hid _ := c_same z0 z1 y2 (ej.nw m2) (em.nw m2) (by omega) (by omega)
      unfold labV at hcon
      go_wp2_with (go_at_call 20; refine Calls.mono hcon.out ?_; rintro e y3 ⟨b1, rfl, q1, qn⟩)
      have m3 := nw_trans m2 qn
      have s1 : Hid _ := q1
      clear q1
      refine hK1 _ _ (hSofH.out _ m3) ?_
      clear hK1 K1 hcon qn hS
      have hS := hSofH.out _ m3
      refine ord_actL _ rfl (fun K1 hK1 => ?_)
      have hcon : Hid _ := c_rleq z0 z1 y3 (e0.nw m3) (e1.nw m3) (by omega)
      unfold labV at hcon
      go_wp2_with (go_at_call 19; refine Calls.mono hcon.out ?_; rintro e y4 ⟨r, rfl, q1, qn⟩)
      have m4 := nw_trans m3 qn
      have hr : r = true := q1.2 hab.out
      subst hr
      clear q1
      refine hK1 _ _ (hSofH.out _ m4) ?_
      clear hK1 K1 hcon qn hS
      have hS := hSofH.out _ m4
      refine ord_quietL _ ?_ rfl hS rfl ?_ ?_
      rotate_left
      · rintro w' ⟨hn, h0, h1, h2, h3, h4, h5, h6, h7⟩; go_simp; first | rfl | (rw [if_pos (by omega)]; done) | (rw [if_pos (by omega)]; rfl) | (rw [if_pos (by omega)]; go_simp; rfl)
      simp only [Act.put, List.setIfInBounds_toArray, List.set_cons_zero, List.set_cons_succ]
      refine ord_quietL _ ?_ rfl hS rfl ?_ ?_
      rotate_left
      · rintro w' ⟨hn, h0, h1, h2, h3, h4, h5, h6, h7⟩; go_simp; first | rfl | (rw [if_pos (by omega)]; done) | (rw [if_pos (by omega)]; rfl) | (rw [if_pos (by omega)]; go_simp; rfl)
      simp only [Act.put, List.setIfInBounds_toArray, List.set_cons_zero, List.set_cons_succ]
      refine ord_quietL _ ?_ rfl hS rfl ?_ ?_
      rotate_left
      · rintro w' ⟨hn, h0, h1, h2, h3, h4, h5, h6, h7⟩; go_simp; first | rfl | (rw [if_pos (by omega)]; done) | (rw [if_pos (by omega)]; rfl) | (rw [if_pos (by omega)]; go_simp; rfl)
      simp only [Act.put, List.setIfInBounds_toArray, List.set_cons_zero, List.set_cons_succ]
      refine ord_actL _ rfl (fun K1 hK1 => ?_)
      have hcon : Hid _ := c_rleq z1 z0 y4 (e1.nw m4) (e0.nw m4) (by omega)
      unfold labV at hcon
      go_wp2_with (go_at_call 19; refine Calls.mono hcon.out ?_; rintro e y5 ⟨b2, rfl, q1, qn⟩)
      have m5 := nw_trans m4 qn
      have hb : b1 = b2 := Bool.eq_iff_iff.2 ⟨fun h => q1.2 (fun id => Int.le_of_eq (sameb_iff.1 (s1.out.1 h) id).symm), fun h => s1.out.2 (sameb_iff.2 (fun id => Int.le_antisymm (hab.out id) (q1.1 h id)))⟩
      subst hb
      clear q1 s1
      refine hK1 _ _ (hSofH.out _ m5) ?_
      clear hK1 K1 hcon qn hS
      have hS := hSofH.out _ m5
      have hbb : (b1 == b1) = true := by simp
      refine ord_quietL _ ?_ rfl hS rfl ?_ ?_
      rotate_left
      · rintro w' ⟨hn, h0, h1, h2, h3, h4, h5, h6, h7⟩; go_simp; first | rfl | (rw [if_pos (by omega)]; done) | (rw [if_pos (by omega)]; rfl) | (rw [if_pos (by omega)]; go_simp; rfl)
      simp only [Act.put, List.setIfInBounds_toArray, List.set_cons_zero, List.set_cons_succ]
      refine ord_quietL _ ?_ rfl hS rfl ?_ ?_
      rotate_left
      · rintro w' ⟨hn, h0, h1, h2, h3, h4, h5, h6, h7⟩; go_simp; first | rfl | (rw [if_pos (by omega)]; done) | (rw [if_pos (by omega)]; rfl) | (rw [if_pos (by omega)]; go_simp; rfl)
      simp only [Act.put, List.setIfInBounds_toArray, List.set_cons_zero, List.set_cons_succ]
      refine ord_quietL _ ?_ rfl hS rfl ?_ ?_
      rotate_left
      · rintro w' ⟨hn, h0, h1, h2, h3, h4, h5, h6, h7⟩; go_simp; first | rfl | (rw [if_pos (by omega)]; done) | (rw [if_pos (by omega)]; rfl) | (rw [if_pos (by omega)]; go_simp; rfl)
      simp only [Act.put, List.setIfInBounds_toArray, List.set_cons_zero, List.set_cons_succ]
      refine ord_quietL _ ?_ rfl hS rfl ?_ ?_
      rotate_left
      · rintro w' ⟨hn, h0, h1, h2, h3, h4, h5, h6, h7⟩; go_simp; first | rfl | (rw [if_pos (by omega)]; done) | (rw [if_pos (by omega)]; rfl) | (rw [if_pos (by omega)]; go_simp; rfl)
      simp only [Act.put, List.setIfInBounds_toArray, List.set_cons_zero, List.set_cons_succ]
      refine ord_quietL _ ?_ rfl hS rfl ?_ ?_
      rotate_left
      · rintro w' ⟨hn, h0, h1, h2, h3, h4, h5, h6, h7⟩; go_simp; first | rfl | (rw [if_pos (by omega)]; done) | (rw [if_pos (by omega)]; rfl) | (rw [if_pos (by omega)]; go_simp; rfl)
      simp only [Act.put, List.setIfInBounds_toArray, List.set_cons_zero, List.set_cons_succ]
      refine ord_quietL _ ?_ rfl hS rfl ?_ ?_
      rotate_left
      · rintro w' ⟨hn, h0, h1, h2, h3, h4, h5, h6, h7⟩; go_simp; first | rfl | (rw [if_pos (by omega)]; done) | (rw [if_pos (by omega)]; rfl) | (rw [if_pos (by omega)]; go_simp; rfl)
      simp only [Act.put, List.setIfInBounds_toArray, List.set_cons_zero, List.set_cons_succ]
      refine ord_actL _ rfl (fun K1 hK1 => ?_)
      have hcon : Hid _ := c_exact z0 z0 y5 (ej.nw m5) (e0.nw m5)
      unfold labV at hcon
      go_wp2_with (go_at_call 12; refine Calls.mono hcon.out ?_; rintro e y6 ⟨r, rfl, q1, qn⟩)
      have m6 := nw_trans m5 qn
      have hr : r = true := q1.2 (by first | exact ⟨rfl, rfl⟩ | simp)
      subst hr
      clear q1
      refine hK1 _ _ (hSofH.out _ m6) ?_
      clear hK1 K1 hcon qn hS
      have hS := hSofH.out _ m6
      refine ord_quietL _ ?_ rfl hS rfl ?_ ?_
      rotate_left
      · rintro w' ⟨hn, h0, h1, h2, h3, h4, h5, h6, h7⟩; go_simp; first | rfl | (rw [if_pos (by omega)]; done) | (rw [if_pos (by omega)]; rfl) | (rw [if_pos (by omega)]; go_simp; rfl)
      simp only [Act.put, List.setIfInBounds_toArray, List.set_cons_zero, List.set_cons_succ]
      refine ord_quietL _ ?_ rfl hS rfl ?_ ?_
      rotate_left
      · rintro w' ⟨hn, h0, h1, h2, h3, h4, h5, h6, h7⟩; go_simp; first | rfl | (rw [if_pos (by omega)]; done) | (rw [if_pos (by omega)]; rfl) | (rw [if_pos (by omega)]; go_simp; rfl)
      simp only [Act.put, List.setIfInBounds_toArray, List.set_cons_zero, List.set_cons_succ]
      refine ord_quietL _ ?_ rfl hS rfl ?_ ?_
      rotate_left
      · rintro w' ⟨hn, h0, h1, h2, h3, h4, h5, h6, h7⟩; go_simp; first | rfl | (rw [if_pos (by omega)]; done) | (rw [if_pos (by omega)]; rfl) | (rw [if_pos (by omega)]; go_simp; rfl)
      simp only [Act.put, List.setIfInBounds_toArray, List.set_cons_zero, List.set_cons_succ]
      refine ord_quietL _ ?_ rfl hS rfl ?_ ?_
      rotate_left
      · rintro w' ⟨hn, h0, h1, h2, h3, h4, h5, h6, h7⟩; go_simp; first | rfl | (rw [if_pos (by omega)]; done) | (rw [if_pos (by omega)]; rfl) | (rw [if_pos (by omega)]; go_simp; rfl)
      simp only [Act.put, List.setIfInBounds_toArray, List.set_cons_zero, List.set_cons_succ]
      refine ord_actL _ rfl (fun K1 hK1 => ?_)
      have hcon : Hid _ := c_exact z1 z1 y6 (em.nw m6) (e1.nw m6)
      unfold labV at hcon
      go_wp2_with (go_at_call 12; refine Calls.mono hcon.out ?_; rintro e y7 ⟨r, rfl, q1, qn⟩)
      have m7 := nw_trans m6 qn
      have hr : r = true := q1.2 (by first | exact ⟨rfl, rfl⟩ | simp)
      subst hr
      clear q1
      refine hK1 _ _ (hSofH.out _ m7) ?_
      clear hK1 K1 hcon qn hS
      have hS := hSofH.out _ m7
      refine ord_quietL _ ?_ rfl hS rfl ?_ ?_
      rotate_left
      · rintro w' ⟨hn, h0, h1, h2, h3, h4, h5, h6, h7⟩; go_simp; first | rfl | (rw [if_pos (by omega)]; done) | (rw [if_pos (by omega)]; rfl) | (rw [if_pos (by omega)]; go_simp; rfl)
      simp only [Act.put, List.setIfInBounds_toArray, List.set_cons_zero, List.set_cons_succ]
      refine ord_tail ?_
      simp only [List.drop_succ_cons, List.drop_zero]
      have hfin := nw_trans nwU m7
      go_wp2
      go_ret
      exact ⟨by first | rfl | simp, hfin⟩
    · have hab : Hid _ := hab
      refine wp_region_ord [] 34 [(0, false), (1, true), (2, true), (3, true), (5, true), (6, true), (4, false), (7, false), (8, true), (9, true), (10, true), (11, true), (12, true), (14, true), (15, true), (13, false), (16, false), (17, true), (18, true), (19, true), (20, true), (21, true), (22, true), (23, true), (24, true), (25, true), (26, true), (27, false), (28, true), (29, true), (30, true), (31, true), (32, false), (33, true)] (fun w' : World => Nw U w' ∧ w'.cell? ⟨N, 0, none⟩ = some (.int .i64 z0) ∧ w'.cell? ⟨N, 1, none⟩ = some (.slice aa x0.length ac) ∧ w'.cell? ⟨N + 1, 0, none⟩ = some (.int .i64 z1) ∧ w'.cell? ⟨N + 1, 1, none⟩ = some (.slice ba x1.length bc) ∧ w'.cell? ⟨gj, 0, none⟩ = some (.int .i64 z0) ∧ w'.cell? ⟨gj, 1, none⟩ = some (.slice ja x0.length jc) ∧ w'.cell? ⟨gm, 0, none⟩ = some (.int .i64 z1) ∧ w'.cell? ⟨gm, 1, none⟩ = some (.slice ma x1.length mc)) (by kernel_rfl) (by kernel_rfl) ?_
      refine ord_actL _ rfl (fun K1 hK1 => ?_)
      go_wp2_with (go_at_call 9; refine Calls.mono (c_alive _) ?_; rintro e y0 ⟨rfl, qn⟩)
      have m0 := nw_trans hW0 qn
      refine hK1 _ _ (hSofH.out _ m0) ?_
      clear hK1 K1 qn hS
      have hS := hSofH.out _ m0
      refine ord_quietL _ ?_ rfl hS rfl ?_ ?_
      rotate_left
      · rintro w' ⟨hn, h0, h1, h2, h3, h4, h5, h6, h7⟩; go_simp; first | rfl | (rw [if_pos (by omega)]; done) | (rw [if_pos (by omega)]; rfl) | (rw [if_pos (by omega)]; go_simp; rfl)
      simp only [Act.put, List.setIfInBounds_toArray, List.set_cons_zero, List.set_cons_succ]
      refine ord_quietL _ ?_ rfl hS rfl ?_ ?_
      rotate_left
      · rintro w' ⟨hn, h0, h1, h2, h3, h4, h5, h6, h7⟩; go_simp; first | rfl | (rw [if_pos (by omega)]; done) | (rw [if_pos (by omega)]; rfl) | (rw [if_pos (by omega)]; go_simp; rfl)
      simp only [Act.put, List.setIfInBounds_toArray, List.set_cons_zero, List.set_cons_succ]
      refine ord_quietL _ ?_ rfl hS rfl ?_ ?_
      rotate_left
      · rintro w' ⟨hn, h0, h1, h2, h3, h4, h5, h6, h7⟩; go_simp; first | rfl | (rw [if_pos (by omega)]; done) | (rw [if_pos (by omega)]; rfl) | (rw [if_pos (by omega)]; go_simp; rfl)
      simp only [Act.put, List.setIfInBounds_toArray, List.set_cons_zero, List.set_cons_succ]
      refine ord_quietL _ ?_ rfl hS rfl ?_ ?_
      rotate_left
      · rintro w' ⟨hn, h0, h1, h2, h3, h4, h5, h6, h7⟩; go_simp; first | rfl | (rw [if_pos (by omega)]; done) | (rw [if_pos (by omega)]; rfl) | (rw [if_pos (by omega)]; go_simp; rfl)
      simp only [Act.put, List.setIfInBounds_toArray, List.set_cons_zero, List.set_cons_succ]
      refine ord_quietL _ ?_ rfl hS rfl ?_ ?_
      rotate_left
      · rintro w' ⟨hn, h0, h1, h2, h3, h4, h5, h6, h7⟩; go_simp; first | rfl | (rw [if_pos (by omega)]; done) | (rw [if_pos (by omega)]; rfl) | (rw [if_pos (by omega)]; go_simp; rfl)
      simp only [Act.put, List.setIfInBounds_toArray, List.set_cons_zero, List.set_cons_succ]
      refine ord_actL _ rfl (fun K1 hK1 => ?_)
      have hcon : Hid _ := c_leq z0 z1 y0 (ej.nw m0) (em.nw m0) (by omega) (by omega)
      unfold labV at hcon
      go_wp2_with (go_at_call 18; refine Calls.mono hcon.out ?_; rintro e y1 ⟨r, rfl, q1, qn⟩)
      have m1 := nw_trans m0 qn
      have hr : r = false := by
        cases r with
        | false => rfl
        | true => exact absurd (leqd_iff.1 (q1.1 rfl)) hab.out
      subst hr
      clear q1
      refine hK1 _ _ (hSofH.out _ m1) ?_
      clear hK1 K1 hcon qn hS
      have hS := hSofH.out _ m1
      refine ord_actL _ rfl (fun K1 hK1 => ?_)
      have hcon : Hid _ := c_rleq z0 z1 y1 (e0.nw m1) (e1.nw m1) (by omega)
      unfold labV at hcon
      go_wp2_with (go_at_call 19; refine Calls.mono hcon.out ?_; rintro e y2 ⟨r, rfl, q1, qn⟩)
      have m2 := nw_trans m1 qn
      have hr : r = false := by
        cases r with
        | false => rfl
        | true => exact absurd (q1.1 rfl) hab.out
      subst hr
      clear q1
      refine hK1 _ _ (hSofH.out _ m2) ?_
      clear hK1 K1 hcon qn hS
      have hS := hSofH.out _ m2
      refine ord_quietL _ ?_ rfl hS rfl ?_ ?_
      rotate_left
      · rintro w' ⟨hn, h0, h1, h2, h3, h4, h5, h6, h7⟩; go_simp; first | rfl | (rw [if_pos (by omega)]; done) | (rw [if_pos (by omega)]; rfl) | (rw [if_pos (by omega)]; go_simp; rfl)
      simp only [Act.put, List.setIfInBounds_toArray, List.set_cons_zero, List.set_cons_succ]
      refine ord_quietL _ ?_ rfl hS rfl ?_ ?_
      rotate_left
      · rintro w' ⟨hn, h0, h1, h2, h3, h4, h5, h6, h7⟩; go_simp; first | rfl | (rw [if_pos (by omega)]; done) | (rw [if_pos (by omega)]; rfl) | (rw [if_pos (by omega)]; go_simp; rfl)
      simp only [Act.put, List.setIfInBounds_toArray, List.set_cons_zero, List.set_cons_succ]
      refine ord_quietL _ ?_ rfl hS rfl ?_ ?_
      rotate_left
      · rintro w' ⟨hn, h0, h1, h2, h3, h4, h5, h6, h7⟩; go_simp; first | rfl | (rw [if_pos (by omega)]; done) | (rw [if_pos (by omega)]; rfl) | (rw [if_pos (by omega)]; go_simp; rfl)
      simp only [Act.put, List.setIfInBounds_toArray, List.set_cons_zero, List.set_cons_succ]
      refine ord_quietL _ ?_ rfl hS rfl ?_ ?_
      rotate_left
      · rintro w' ⟨hn, h0, h1, h2, h3, h4, h5, h6, h7⟩; go_simp; first | rfl | (rw [if_pos (by omega)]; done) | (rw [if_pos (by omega)]; rfl) | (rw [if_pos (by omega)]; go_simp; rfl)
      simp only [Act.put, List.setIfInBounds_toArray, List.set_cons_zero, List.set_cons_succ]
      refine ord_quietL _ ?_ rfl hS rfl ?_ ?_
      rotate_left
      · rintro w' ⟨hn, h0, h1, h2, h3, h4, h5, h6, h7⟩; go_simp; first | rfl | (rw [if_pos (by omega)]; done) | (rw [if_pos (by omega)]; rfl) | (rw [if_pos (by omega)]; go_simp; rfl)
      simp only [Act.put, List.setIfInBounds_toArray, List.set_cons_zero, List.set_cons_succ]
      refine ord_quietL _ ?_ rfl hS rfl ?_ ?_
      rotate_left
      · rintro w' ⟨hn, h0, h1, h2, h3, h4, h5, h6, h7⟩; go_simp; first | rfl | (rw [if_pos (by omega)]; done) | (rw [if_pos (by omega)]; rfl) | (rw [if_pos (by omega)]; go_simp; rfl)
      simp only [Act.put, List.setIfInBounds_toArray, List.set_cons_zero, List.set_cons_succ]
      refine ord_quietL _ ?_ rfl hS rfl ?_ ?_
      rotate_left
      · rintro w' ⟨hn, h0, h1, h2, h3, h4, h5, h6, h7⟩; go_simp; first | rfl | (rw [if_pos (by omega)]; done) | (rw [if_pos (by omega)]; rfl) | (rw [if_pos (by omega)]; go_simp; rfl)
      simp only [Act.put, List.setIfInBounds_toArray, List.set_cons_zero, List.set_cons_succ]
      refine ord_actL _ rfl (fun K1 hK1 => ?_)
      have hcon : Hid _ := c_same z0 z1 y2 (ej.nw m2) (em.nw m2) (by omega) (by omega)
      unfold labV at hcon
      go_wp2_with (go_at_call 20; refine Calls.mono hcon.out ?_; rintro e y3 ⟨r, rfl, q1, qn⟩)
      have m3 := nw_trans m2 qn
      have hr : r = false := by
        cases r with
        | false => rfl
        | true => exact absurd (fun id => Int.le_of_eq (sameb_iff.1 (q1.1 rfl) id)) hab.out
      subst hr
      clear q1
      refine hK1 _ _ (hSofH.out _ m3) ?_
      clear hK1 K1 hcon qn hS
      have hS := hSofH.out _ m3
      refine ord_actL _ rfl (fun K1 hK1 => ?_)
      have hcon : Hid _ := c_rleq z0 z1 y3 (e0.nw m3) (e1.nw m3) (by omega)
      unfold labV at hcon
      go_wp2_with (go_at_call 19; refine Calls.mono hcon.out ?_; rintro e y4 ⟨r, rfl, q1, qn⟩)
      have m4 := nw_trans m3 qn
      have hr : r = false := by
        cases r with
        | false => rfl
        | true => exact absurd (q1.1 rfl) hab.out
      subst hr
      clear q1
      refine hK1 _ _ (hSofH.out _ m4) ?_
      clear hK1 K1 hcon qn hS
      have hS := hSofH.out _ m4
      refine ord_quietL _ ?_ rfl hS rfl ?_ ?_
      rotate_left
      · rintro w' ⟨hn, h0, h1, h2, h3, h4, h5, h6, h7⟩; go_simp; first | rfl | (rw [if_pos (by omega)]; done) | (rw [if_pos (by omega)]; rfl) | (rw [if_pos (by omega)]; go_simp; rfl)
      simp only [Act.put, List.setIfInBounds_toArray, List.set_cons_zero, List.set_cons_succ]
      refine ord_skipL _ rfl hS rfl ?_
      simp only [Act.put, List.setIfInBounds_toArray, List.set_cons_zero, List.set_cons_succ]
      refine ord_skipL _ rfl hS rfl ?_
      simp only [Act.put, List.setIfInBounds_toArray, List.set_cons_zero, List.set_cons_succ]
      refine ord_skipL _ rfl hS rfl ?_
      simp only [Act.put, List.setIfInBounds_toArray, List.set_cons_zero, List.set_cons_succ]
      refine ord_quietL _ ?_ rfl hS rfl ?_ ?_
      rotate_left
      · rintro w' ⟨hn, h0, h1, h2, h3, h4, h5, h6, h7⟩; go_simp; first | rfl | (rw [if_pos (by omega)]; done) | (rw [if_pos (by omega)]; rfl) | (rw [if_pos (by omega)]; go_simp; rfl)
      simp only [Act.put, List.setIfInBounds_toArray, List.set_cons_zero, List.set_cons_succ]
      refine ord_quietL _ ?_ rfl hS rfl ?_ ?_
      rotate_left
      · rintro w' ⟨hn, h0, h1, h2, h3, h4, h5, h6, h7⟩; go_simp; first | rfl | (rw [if_pos (by omega)]; done) | (rw [if_pos (by omega)]; rfl) | (rw [if_pos (by omega)]; go_simp; rfl)
      simp only [Act.put, List.setIfInBounds_toArray, List.set_cons_zero, List.set_cons_succ]
      refine ord_quietL _ ?_ rfl hS rfl ?_ ?_
      rotate_left
      · rintro w' ⟨hn, h0, h1, h2, h3, h4, h5, h6, h7⟩; go_simp; first | rfl | (rw [if_pos (by omega)]; done) | (rw [if_pos (by omega)]; rfl) | (rw [if_pos (by omega)]; go_simp; rfl)
      simp only [Act.put, List.setIfInBounds_toArray, List.set_cons_zero, List.set_cons_succ]
      refine ord_quietL _ ?_ rfl hS rfl ?_ ?_
      rotate_left
      · rintro w' ⟨hn, h0, h1, h2, h3, h4, h5, h6, h7⟩; go_simp; first | rfl | (rw [if_pos (by omega)]; done) | (rw [if_pos (by omega)]; rfl) | (rw [if_pos (by omega)]; go_simp; rfl)
      simp only [Act.put, List.setIfInBounds_toArray, List.set_cons_zero, List.set_cons_succ]
      refine ord_quietL _ ?_ rfl hS rfl ?_ ?_
      rotate_left
      · rintro w' ⟨hn, h0, h1, h2, h3, h4, h5, h6, h7⟩; go_simp; first | rfl | (rw [if_pos (by omega)]; done) | (rw [if_pos (by omega)]; rfl) | (rw [if_pos (by omega)]; go_simp; rfl)
      simp only [Act.put, List.setIfInBounds_toArray, List.set_cons_zero, List.set_cons_succ]
      refine ord_quietL _ ?_ rfl hS rfl ?_ ?_
      rotate_left
      · rintro w' ⟨hn, h0, h1, h2, h3, h4, h5, h6, h7⟩; go_simp; first | rfl | (rw [if_pos (by omega)]; done) | (rw [if_pos (by omega)]; rfl) | (rw [if_pos (by omega)]; go_simp; rfl)
      simp only [Act.put, List.setIfInBounds_toArray, List.set_cons_zero, List.set_cons_succ]
      refine ord_actL _ rfl (fun K1 hK1 => ?_)
      have hcon : Hid _ := c_exact z0 z0 y4 (ej.nw m4) (e0.nw m4)
      unfold labV at hcon
      go_wp2_with (go_at_call 12; refine Calls.mono hcon.out ?_; rintro e y6 ⟨r, rfl, q1, qn⟩)
      have m6 := nw_trans m4 qn
      have hr : r = true := q1.2 (by first | exact ⟨rfl, rfl⟩ | simp)
      subst hr
      clear q1
      refine hK1 _ _ (hSofH.out _ m6) ?_
      clear hK1 K1 hcon qn hS
      have hS := hSofH.out _ m6
      refine ord_quietL _ ?_ rfl hS rfl ?_ ?_
      rotate_left
      · rintro w' ⟨hn, h0, h1, h2, h3, h4, h5, h6, h7⟩; go_simp; first | rfl | (rw [if_pos (by omega)]; done) | (rw [if_pos (by omega)]; rfl) | (rw [if_pos (by omega)]; go_simp; rfl)
      simp only [Act.put, List.setIfInBounds_toArray, List.set_cons_zero, List.set_cons_succ]
      refine ord_quietL _ ?_ rfl hS rfl ?_ ?_
      rotate_left
      · rintro w' ⟨hn, h0, h1, h2, h3, h4, h5, h6, h7⟩; go_simp; first | rfl | (rw [if_pos (by omega)]; done) | (rw [if_pos (by omega)]; rfl) | (rw [if_pos (by omega)]; go_simp; rfl)
      simp only [Act.put, List.setIfInBounds_toArray, List.set_cons_zero, List.set_cons_succ]
      refine ord_quietL _ ?_ rfl hS rfl ?_ ?_
      rotate_left
      · rintro w' ⟨hn, h0, h1, h2, h3, h4, h5, h6, h7⟩; go_simp; first | rfl | (rw [if_pos (by omega)]; done) | (rw [if_pos (by omega)]; rfl) | (rw [if_pos (by omega)]; go_simp; rfl)
      simp only [Act.put, List.setIfInBounds_toArray, List.set_cons_zero, List.set_cons_succ]
      refine ord_quietL _ ?_ rfl hS rfl ?_ ?_
      rotate_left
      · rintro w' ⟨hn, h0, h1, h2, h3, h4, h5, h6, h7⟩; go_simp; first | rfl | (rw [if_pos (by omega)]; done) | (rw [if_pos (by omega)]; rfl) | (rw [if_pos (by omega)]; go_simp; rfl)
      simp only [Act.put, List.setIfInBounds_toArray, List.set_cons_zero, List.set_cons_succ]
      refine ord_actL _ rfl (fun K1 hK1 => ?_)
      have hcon : Hid _ := c_exact z1 z1 y6 (em.nw m6) (e1.nw m6)
      unfold labV at hcon
      go_wp2_with (go_at_call 12; refine Calls.mono hcon.out ?_; rintro e y7 ⟨r, rfl, q1, qn⟩)
      have m7 := nw_trans m6 qn
      have hr : r = true := q1.2 (by first | exact ⟨rfl, rfl⟩ | simp)
      subst hr
      clear q1
      refine hK1 _ _ (hSofH.out _ m7) ?_
      clear hK1 K1 hcon qn hS
      have hS := hSofH.out _ m7
      refine ord_quietL _ ?_ rfl hS rfl ?_ ?_
      rotate_left
      · rintro w' ⟨hn, h0, h1, h2, h3, h4, h5, h6, h7⟩; go_simp; first | rfl | (rw [if_pos (by omega)]; done) | (rw [if_pos (by omega)]; rfl) | (rw [if_pos (by omega)]; go_simp; rfl)
      simp only [Act.put, List.setIfInBounds_toArray, List.set_cons_zero, List.set_cons_succ]
      refine ord_tail ?_
      simp only [List.drop_succ_cons, List.drop_zero]
      have hfin := nw_trans nwU m7
      go_wp2
      go_ret
      exact ⟨by first | rfl | simp, hfin⟩
end Go.Proofs.Ytkjmlgdaopafhaa
