/-
  LabelLattice's walk.
-/
import Derived.Test.YtkjmlgdaopafhaaLabA1
import Derived.Test.YtkjmlgdaopafhaaLibGrow2
import Derived.Deep.DeepCutAuto
import Derived.Deep.CutBlock
namespace Go.Proofs.Ytkjmlgdaopafhaa
set_option linter.unusedVariables false
set_option linter.unusedSimpArgs false
set_option maxRecDepth 20000
open Go.RowKit

theorem leq_iff {f g : Int → Int} : (∀ id, decide (f id ≤ g id) = true) ↔ ∀ id, f id ≤ g id := ⟨fun h id => of_decide_eq_true (h id), fun h id => decide_eq_true (h id)⟩
theorem same_iff {f g : Int → Int} : (∀ id, (f id == g id) = true) ↔ ∀ id, f id = g id := ⟨fun h id => by simpa using h id, fun h id => by simpa using h id⟩

/-- Two labels made, and two variables for them, in whatever order. -/
def FJ (W : World) (zj zm : Int) (f g : Int → Int) (n : Nat) : Nat → Value → Nat → Nat → World → Prop
  | 2 => fun v lo hi w => ∃ u ys, v = labV zj u ∧ CSl (fun b => lo ≤ b ∧ b < hi) w u ys ∧ Fm zj ys ∧ (∀ id, lev zj ys id = f id) ∧ ys.length ≤ n
  | 5 => fun v lo hi w => ∃ u ys, v = labV zm u ∧ CSl (fun b => lo ≤ b ∧ b < hi) w u ys ∧ Fm zm ys ∧ (∀ id, lev zm ys id = g id) ∧ ys.length ≤ n
  | 6 => fun v lo hi w => v = .pointer (some ⟨lo, 0, none⟩) ∧ lo < hi ∧ W.heap.size ≤ lo ∧ w.heap[lo]? = some (.cells #[.int .i64 0, .slice none 0 0] 26 (0, 0))
  | 7 => fun v lo hi w => v = .pointer (some ⟨lo, 0, none⟩) ∧ lo < hi ∧ W.heap.size ≤ lo ∧ w.heap[lo]? = some (.cells #[.int .i64 0, .slice none 0 0] 26 (0, 0))
  | _ => fun _ _ _ _ => True

set_option maxRecDepth 20000 in
set_option maxHeartbeats 6400000 in
theorem c_lattice {X Y Z : Nat → Prop} {u0 u1 u2 : Value} {x0 x1 x2 : List Cat} (z0 z1 z2 : Int) (w : World) (w0 : CSl X w u0 x0) (w1 : CSl Y w u1 x1) (w2 : CSl Z w u2 x2) (l0 : x0.length ≤ 1048576) (l1 : x1.length ≤ 1048576) (l2 : x2.length ≤ 1048576) :
    Calls Try.prog 8 #[labV z0 u0, labV z1 u1, labV z2 u2] w fun e w' => e = .returned (.bool true) ∧ Nw w w' := by
  obtain ⟨aa, ac, rfl, ha1, ha2⟩ := w0.form
  obtain ⟨ba, bc, rfl, hb1, hb2⟩ := w1.form
  obtain ⟨ca, cc, rfl, hc1, hc2⟩ := w2.form
  obtain ⟨W, hW⟩ : ∃ W, Hid (W = ((w.alloc (.cells #[.int .i64 z0, .slice aa x0.length ac] 26)).alloc (.cells #[.int .i64 z1, .slice ba x1.length bc] 26)).alloc (.cells #[.int .i64 z2, .slice ca x2.length cc] 26)) := ⟨_, rfl⟩
  have nW : Nw w W := by rw [hW.out]; exact nw_alloc (nw_alloc (nw_alloc (nw_refl w) _) _) _
  have hA : W.heap[w.heap.size]? = some (.cells #[.int .i64 z0, .slice aa x0.length ac] 26 (0, 0)) := by
    rw [hW.out, Below.heap_alloc _ _ _ (by simp; try omega)]; exact heap_alloc2_old w _ _
  have hB : W.heap[w.heap.size + 1]? = some (.cells #[.int .i64 z1, .slice ba x1.length bc] 26 (0, 0)) := by
    rw [hW.out, Below.heap_alloc _ _ _ (by simp; try omega)]; exact heap_alloc2_new w _ _
  have hC : W.heap[w.heap.size + 1 + 1]? = some (.cells #[.int .i64 z2, .slice ca x2.length cc] 26 (0, 0)) := by
    rw [hW.out]
    have := heap_alloc_new ((w.alloc (.cells #[.int .i64 z0, .slice aa x0.length ac] 26)).alloc (.cells #[.int .i64 z1, .slice ba x1.length bc] 26)) (.cells #[.int .i64 z2, .slice ca x2.length cc] 26)
    simpa using this
  have e0 := w0.nw nW
  have e1 := w1.nw nW
  have e2 := w2.nw nW
  unfold labV
  go_enter Try.func8, Try.ntmps8
  go_upto_region 1 with fail
  rw [← hW.out]
  clear hW w0 w1 w2
  go_upto_region 3 with (go_at_call 9; refine Calls.mono (c_alive _) ?_; rintro e W' ⟨rfl, n1⟩)
  replace hA := (n1.block _ (heap_lt hA) (fun h => h)).trans hA
  replace hB := (n1.block _ (heap_lt hB) (fun h => h)).trans hB
  replace hC := (n1.block _ (heap_lt hC) (fun h => h)).trans hC
  replace e0 := e0.nw n1
  replace e1 := e1.nw n1
  replace e2 := e2.nw n1
  replace nW := nw_trans nW n1
  clear n1 W
  have hNl := heap_lt hC
  obtain ⟨W, rfl⟩ : ∃ W, W = W' := ⟨_, rfl⟩
  generalize hNN : w.heap.size = N at *
  replace hNN : Hid _ := hNN
  have hSof : ∀ w', Nw W w' → (fun w' : World => Nw W w' ∧ w'.cell? ⟨N, 0, none⟩ = some (.int .i64 z0) ∧ w'.cell? ⟨N, 1, none⟩ = some (.slice aa x0.length ac) ∧ w'.cell? ⟨N + 1, 0, none⟩ = some (.int .i64 z1) ∧ w'.cell? ⟨N + 1, 1, none⟩ = some (.slice ba x1.length bc) ∧ w'.cell? ⟨N + 1 + 1, 0, none⟩ = some (.int .i64 z2) ∧ w'.cell? ⟨N + 1 + 1, 1, none⟩ = some (.slice ca x2.length cc)) w' := fun w' hw => ⟨hw, cell_blk ((hw.block _ (heap_lt hA) (fun h => h)).trans hA) rfl, cell_blk ((hw.block _ (heap_lt hA) (fun h => h)).trans hA) rfl, cell_blk ((hw.block _ (heap_lt hB) (fun h => h)).trans hB) rfl, cell_blk ((hw.block _ (heap_lt hB) (fun h => h)).trans hB) rfl, cell_blk ((hw.block _ (heap_lt hC) (fun h => h)).trans hC) rfl, cell_blk ((hw.block _ (heap_lt hC) (fun h => h)).trans hC) rfl⟩
  have hW0 : Nw W W.drew := Fr.drew (Fr.refl _ W)
  have hS := hSof _ hW0
  have hgrp : Hid (∀ w', Nw W w' → (Calls Try.prog 21 #[.agg #[.int .i64 z0, .slice aa x0.length ac], .agg #[.int .i64 z1, .slice ba x1.length bc]] w' (MadeL w' (max z0 z1) (fun id => max (lev z0 x0 id) (lev z1 x1 id)) (x0.length + x1.length))) ∧ (Calls Try.prog 23 #[.agg #[.int .i64 z0, .slice aa x0.length ac], .agg #[.int .i64 z1, .slice ba x1.length bc]] w' (MadeL w' (min z0 z1) (fun id => min (lev z0 x0 id) (lev z1 x1 id)) (x0.length + x1.length)))) := fun w' hw => ⟨c_join z0 z1 w' (e0.nw hw) (e1.nw hw) (by omega), c_meet z0 z1 w' (e0.nw hw) (e1.nw hw) (by omega)⟩
  refine wp_region_plan [] 8 [(0, []), (1, []), (3, []), (4, []), (0, [(2, []), (5, [2]), (6, []), (7, [])])] (fun w' : World => Nw W w' ∧ w'.cell? ⟨N, 0, none⟩ = some (.int .i64 z0) ∧ w'.cell? ⟨N, 1, none⟩ = some (.slice aa x0.length ac) ∧ w'.cell? ⟨N + 1, 0, none⟩ = some (.int .i64 z1) ∧ w'.cell? ⟨N + 1, 1, none⟩ = some (.slice ba x1.length bc) ∧ w'.cell? ⟨N + 1 + 1, 0, none⟩ = some (.int .i64 z2) ∧ w'.cell? ⟨N + 1 + 1, 1, none⟩ = some (.slice ca x2.length cc)) (by kernel_rfl) (by kernel_rfl) ?_
  refine plan_quiet _ ?_ rfl hS rfl ?_ ?_
  rotate_left
  · rintro w' ⟨hn, h0, h1, h2, h3, h4, h5⟩; go_simp; first | rfl | (rw [if_pos (by omega)]; done) | (rw [if_pos (by omega)]; rfl) | (rw [if_pos (by omega)]; go_simp; rfl)
  simp only [Act.put, List.setIfInBounds_toArray, List.set_cons_zero, List.set_cons_succ]
  refine plan_quiet _ ?_ rfl hS rfl ?_ ?_
  rotate_left
  · rintro w' ⟨hn, h0, h1, h2, h3, h4, h5⟩; go_simp; first | rfl | (rw [if_pos (by omega)]; done) | (rw [if_pos (by omega)]; rfl) | (rw [if_pos (by omega)]; go_simp; rfl)
  simp only [Act.put, List.setIfInBounds_toArray, List.set_cons_zero, List.set_cons_succ]
  refine plan_quiet _ ?_ rfl hS rfl ?_ ?_
  rotate_left
  · rintro w' ⟨hn, h0, h1, h2, h3, h4, h5⟩; go_simp; first | rfl | (rw [if_pos (by omega)]; done) | (rw [if_pos (by omega)]; rfl) | (rw [if_pos (by omega)]; go_simp; rfl)
  simp only [Act.put, List.setIfInBounds_toArray, List.set_cons_zero, List.set_cons_succ]
  refine plan_quiet _ ?_ rfl hS rfl ?_ ?_
  rotate_left
  · rintro w' ⟨hn, h0, h1, h2, h3, h4, h5⟩; go_simp; first | rfl | (rw [if_pos (by omega)]; done) | (rw [if_pos (by omega)]; rfl) | (rw [if_pos (by omega)]; go_simp; rfl)
  simp only [Act.put, List.setIfInBounds_toArray, List.set_cons_zero, List.set_cons_succ]
  refine plan_group2 (fun | 2 => 13 | 5 => 16 | 6 => 7 | 7 => 8 | _ => 0) (FJ W (max z0 z1) (min z0 z1) (fun id => max (lev z0 x0 id) (lev z1 x1 id)) (fun id => min (lev z0 x0 id) (lev z1 x1 id)) (x0.length + x1.length)) Nw (by decide) (by decide) (by decide) (fun a b ha hb => hSof b (nw_trans ha.1 hb)) (fun a b h => h.size) ?FG hS ?steps ?fin
  case FG =>
    intro p hp v lo hi w1 w2 h1 h2
    simp only [List.mem_cons, List.not_mem_nil, or_false] at hp
    rcases hp with rfl | rfl | rfl | rfl
    · obtain ⟨u, ys, q1, q2, q3⟩ := h1
      exact ⟨u, ys, q1, q2.nw h2, q3⟩
    · obtain ⟨u, ys, q1, q2, q3⟩ := h1
      exact ⟨u, ys, q1, q2.nw h2, q3⟩
    · obtain ⟨q1, q2, q3, q4⟩ := h1
      exact ⟨q1, q2, q3, (h2.block _ (heap_lt q4) (fun h => h)).trans q4⟩
    · obtain ⟨q1, q2, q3, q4⟩ := h1
      exact ⟨q1, q2, q3, (h2.block _ (heap_lt q4) (fun h => h)).trans q4⟩
  case steps =>
    intro p hp x lo hi w2 hS2 hd
    simp only [List.mem_cons, List.not_mem_nil, or_false] at hp
    have hws := hS2.1.size
    rcases hp with rfl | rfl | rfl | rfl
    · refine ⟨_, rfl, fun K hK => ?_⟩
      simp only [putAll, Act.put, List.setIfInBounds_toArray, List.set_cons_zero, List.set_cons_succ] at hK ⊢
      have hcon := (hgrp.out w2 hS2.1).1
      clear hd hS
      go_wp2_with (go_at_call 21; refine Calls.mono hcon ?_; rintro e w3 ⟨u, ys, rfl, q1, q2, q3, q4, q5⟩; refine stop_here ?_)
      unfold Hid
      obtain ⟨ja, jc, rfl, _, _⟩ := q1.form
      unfold labV
      go_wp2
      exact hK _ _ q5 ⟨_, ys, rfl, q1.mono (fun b hb h => ⟨hb, h⟩), q2, q3, q4⟩
    · refine ⟨_, rfl, fun K hK => ?_⟩
      simp only [putAll, Act.put, List.setIfInBounds_toArray, List.set_cons_zero, List.set_cons_succ] at hK ⊢
      have hcon := (hgrp.out w2 hS2.1).2
      clear hd hS
      go_wp2_with (go_at_call 23; refine Calls.mono hcon ?_; rintro e w3 ⟨u, ys, rfl, q1, q2, q3, q4, q5⟩; refine stop_here ?_)
      unfold Hid
      obtain ⟨ja, jc, rfl, _, _⟩ := q1.form
      unfold labV
      go_wp2
      exact hK _ _ q5 ⟨_, ys, rfl, q1.mono (fun b hb h => ⟨hb, h⟩), q2, q3, q4⟩
    · refine ⟨_, rfl, fun K hK => ?_⟩
      simp only [putAll, Act.put, List.setIfInBounds_toArray, List.set_cons_zero, List.set_cons_succ] at hK ⊢
      clear hd hS
      go_wp2
      exact hK _ _ (nw_alloc (nw_refl w2) _) ⟨rfl, by simp, hws, heap_alloc_new w2 _⟩
    · refine ⟨_, rfl, fun K hK => ?_⟩
      simp only [putAll, Act.put, List.setIfInBounds_toArray, List.set_cons_zero, List.set_cons_succ] at hK ⊢
      clear hd hS
      go_wp2
      exact hK _ _ (nw_alloc (nw_refl w2) _) ⟨rfl, by simp, hws, heap_alloc_new w2 _⟩
  case fin =>
    intro x lo hi w2 hS2 hF hR
    obtain ⟨⟨uj, yj, hj1, hj2, hj3, hj4, hj5⟩, hj6⟩ := hF (2, []) (by simp)
    obtain ⟨⟨um, ym, hm1, hm2, hm3, hm4, hm5⟩, hm6⟩ := hF (5, [2]) (by simp)
    obtain ⟨⟨p1, p2, p3, p4⟩, p5⟩ := hF (6, []) (by simp)
    obtain ⟨⟨q1, q2, q3, q4⟩, q5⟩ := hF (7, []) (by simp)
    have r26 := hR (2, []) (by simp) (6, []) (by simp) (by decide)
    have r27 := hR (2, []) (by simp) (7, []) (by simp) (by decide)
    have r56 := hR (5, [2]) (by simp) (6, []) (by simp) (by decide)
    have r57 := hR (5, [2]) (by simp) (7, []) (by simp) (by decide)
    have r67 := hR (6, []) (by simp) (7, []) (by simp) (by decide)
    simp only at hj1 hj2 hj6 hm1 hm2 hm6 p1 p2 p3 p4 p5 q1 q2 q3 q4 q5 r26 r27 r56 r57 r67
    obtain ⟨ja, jc, rfl, _, _⟩ := hj2.form
    obtain ⟨ma, mc, rfl, _, _⟩ := hm2.form
    refine plan_tail ?_
    simp only [putAll, Act.put, List.setIfInBounds_toArray, List.set_cons_zero, List.set_cons_succ, List.drop_succ_cons, List.drop_zero, hj1, hm1, p1, q1]
    generalize lo 6 = gj at *
    generalize lo 7 = gm at *
    generalize hi 6 = hj at *
    generalize hi 7 = hm at *
    generalize lo 2 = l2' at *
    generalize hi 2 = h2' at *
    generalize lo 5 = l5' at *
    generalize hi 5 = h5' at *
    clear hF hR hj1 hm1 p1 q1
    have hne : gj ≠ gm := by omega
    obtain ⟨zj, hzj⟩ : ∃ zj, Hid (zj = max z0 z1) := ⟨_, rfl⟩
    obtain ⟨zm, hzm⟩ : ∃ zm, Hid (zm = min z0 z1) := ⟨_, rfl⟩
    rw [← hzj.out] at hj3 hj4 ⊢
    rw [← hzm.out] at hm3 hm4 ⊢
    obtain ⟨U, hU⟩ : ∃ U, Hid (U = (((w2.setCell ⟨gj, 0, none⟩ (.int .i64 zj)).setCell ⟨gj, 1, none⟩ (.slice ja yj.length jc)).setCell ⟨gm, 0, none⟩ (.int .i64 zm)).setCell ⟨gm, 1, none⟩ (.slice ma ym.length mc)) := ⟨_, rfl⟩
    have hfA : Fr (fun k => k = gj) w2 ((w2.setCell ⟨gj, 0, none⟩ (.int .i64 zj)).setCell ⟨gj, 1, none⟩ (.slice ja yj.length jc)) := ((Fr.refl (fun k => k = gj) w2).setCell (p := ⟨gj, 0, none⟩) (.inl rfl) _).setCell (p := ⟨gj, 1, none⟩) (.inl rfl) _
    have hA1 : ((w2.setCell ⟨gj, 0, none⟩ (.int .i64 zj)).setCell ⟨gj, 1, none⟩ (.slice ja yj.length jc)).heap[gj]? = some (.cells #[.int .i64 zj, .slice ja yj.length jc] 26 (0, 0)) := by rw [blk_setCell (blk_setCell p4)]; rfl
    have hA2 : ((w2.setCell ⟨gj, 0, none⟩ (.int .i64 zj)).setCell ⟨gj, 1, none⟩ (.slice ja yj.length jc)).heap[gm]? = some (.cells #[.int .i64 0, .slice none 0 0] 26 (0, 0)) := (hfA.block gm (heap_lt q4) (fun h => hne h.symm)).trans q4
    have hfB : Fr (fun k => k = gj ∨ k = gm) w2 U := by
      rw [hU.out]
      exact ((hfA.mono (fun k hk => .inl hk)).setCell (p := ⟨gm, 0, none⟩) (.inl (.inr rfl)) _).setCell (p := ⟨gm, 1, none⟩) (.inl (.inr rfl)) _
    have hfC : Fr (fun k => k = gm) ((w2.setCell ⟨gj, 0, none⟩ (.int .i64 zj)).setCell ⟨gj, 1, none⟩ (.slice ja yj.length jc)) U := by
      rw [hU.out]
      exact ((Fr.refl (fun k => k = gm) _).setCell (p := ⟨gm, 0, none⟩) (.inl rfl) _).setCell (p := ⟨gm, 1, none⟩) (.inl rfl) _
    have bJ : U.heap[gj]? = some (.cells #[.int .i64 zj, .slice ja yj.length jc] 26 (0, 0)) := (hfC.block gj (heap_lt hA1) hne).trans hA1
    have bM : U.heap[gm]? = some (.cells #[.int .i64 zm, .slice ma ym.length mc] 26 (0, 0)) := by rw [hU.out, blk_setCell (blk_setCell hA2)]; rfl
    have nU0 := hS2.1
    have bA : U.heap[N]? = _ := (hfB.block N (Nat.lt_of_lt_of_le (heap_lt hA) nU0.size) (by omega)).trans ((nU0.block _ (heap_lt hA) (fun h => h)).trans hA)
    have bB : U.heap[N + 1]? = _ := (hfB.block (N + 1) (Nat.lt_of_lt_of_le (heap_lt hB) nU0.size) (by omega)).trans ((nU0.block _ (heap_lt hB) (fun h => h)).trans hB)
    have bC : U.heap[N + 1 + 1]? = _ := (hfB.block (N + 1 + 1) (Nat.lt_of_lt_of_le (heap_lt hC) nU0.size) (by omega)).trans ((nU0.block _ (heap_lt hC) (fun h => h)).trans hC)
    have nWU : Nw W U := Fr.trans nU0 hfB (fun k hk => .inr (by rcases hk with rfl | rfl <;> omega))
    have ej : CSl (fun _ => True) U (.slice ja yj.length jc) yj := hj2.keep hfB (fun b hb _ h => by rcases h with h | h <;> omega) (fun _ _ _ => trivial)
    have em : CSl (fun _ => True) U (.slice ma ym.length mc) ym := hm2.keep hfB (fun b hb _ h => by rcases h with h | h <;> omega) (fun _ _ _ => trivial)
    replace e0 := e0.nw nWU
    replace e1 := e1.nw nWU
    replace e2 := e2.nw nWU
    have lj : Hid (∀ id, lev zj yj id = max (lev z0 x0 id) (lev z1 x1 id)) := hj4
    have lm : Hid (∀ id, lev zm ym id = min (lev z0 x0 id) (lev z1 x1 id)) := hm4
    have c1 : w2.cell? ⟨gj, 0, none⟩ = some (.int .i64 0) := cell_blk p4 rfl
    have c2 : w2.cell? ⟨gj, 1, none⟩ = some (.slice none 0 0) := cell_blk p4 rfl
    have c3 : w2.cell? ⟨gm, 0, none⟩ = some (.int .i64 0) := cell_blk q4 rfl
    have c4 : w2.cell? ⟨gm, 1, none⟩ = some (.slice none 0 0) := cell_blk q4 rfl
    have f1 : ∀ k, w2.frozen? ⟨gj, k, none⟩ = false := fun k => free_blk p4
    have f2 : ∀ k, w2.frozen? ⟨gm, k, none⟩ = false := fun k => free_blk q4
    have hne2 : gm ≠ gj := fun h => hne h.symm
    have nwU := nw_trans nW nWU
    clear hj2 hm2 hj3 hm3 hj4 hm4 hfA hA1 hA2 hfB hfC p4 q4 nU0 hS2 hgrp hS hW0 hSof hA hB hC nWU nW r26 r27 r56 r57 r67 hj6 hm6 p2 p3 p5 q2 q3 q5
    unfold labV
    go_upto_region 4 with fail
    rw [← hU.out]
    clear hU c1 c2 c3 c4 f1 f2
    have hSof : ∀ w', Nw U w' → (fun w' : World => Nw U w' ∧ w'.cell? ⟨N, 0, none⟩ = some (.int .i64 z0) ∧ w'.cell? ⟨N, 1, none⟩ = some (.slice aa x0.length ac) ∧ w'.cell? ⟨N + 1, 0, none⟩ = some (.int .i64 z1) ∧ w'.cell? ⟨N + 1, 1, none⟩ = some (.slice ba x1.length bc) ∧ w'.cell? ⟨N + 1 + 1, 0, none⟩ = some (.int .i64 z2) ∧ w'.cell? ⟨N + 1 + 1, 1, none⟩ = some (.slice ca x2.length cc) ∧ w'.cell? ⟨gj, 0, none⟩ = some (.int .i64 zj) ∧ w'.cell? ⟨gj, 1, none⟩ = some (.slice ja yj.length jc) ∧ w'.cell? ⟨gm, 0, none⟩ = some (.int .i64 zm) ∧ w'.cell? ⟨gm, 1, none⟩ = some (.slice ma ym.length mc)) w' := fun w' hw => ⟨hw, cell_blk ((hw.block _ (heap_lt bA) (fun h => h)).trans bA) rfl, cell_blk ((hw.block _ (heap_lt bA) (fun h => h)).trans bA) rfl, cell_blk ((hw.block _ (heap_lt bB) (fun h => h)).trans bB) rfl, cell_blk ((hw.block _ (heap_lt bB) (fun h => h)).trans bB) rfl, cell_blk ((hw.block _ (heap_lt bC) (fun h => h)).trans bC) rfl, cell_blk ((hw.block _ (heap_lt bC) (fun h => h)).trans bC) rfl, cell_blk ((hw.block _ (heap_lt bJ) (fun h => h)).trans bJ) rfl, cell_blk ((hw.block _ (heap_lt bJ) (fun h => h)).trans bJ) rfl, cell_blk ((hw.block _ (heap_lt bM) (fun h => h)).trans bM) rfl, cell_blk ((hw.block _ (heap_lt bM) (fun h => h)).trans bM) rfl⟩
    have hSofH : Hid _ := hSof
    clear hSof
    have nV : Nw U U := nw_refl U
    obtain ⟨V, hVU⟩ : ∃ V, V = U := ⟨_, rfl⟩
    rw [← hVU] at nV ⊢
    replace nV : Nw U V := by rw [hVU]; exact nw_refl U
    clear hVU
    have ga : Hid (∀ x y : Int, x ≤ max x y ∧ y ≤ max x y ∧ min x y ≤ x ∧ min x y ≤ y) := fun x y => by omega
    obtain ⟨_, h0, h1, h2, h3, h4, h5, h6, h7, h8, h9⟩ := hSofH.out V nV
    have hcon : Hid _ := c_leq z0 z0 V (e0.nw nV) (e0.nw nV) (by omega) (by omega)
    unfold labV at hcon
    go_wp2_with (go_at_call 18; refine Calls.mono hcon.out ?_; rintro e V1 ⟨r, rfl, q1, q2⟩; refine stop_here ?_)
    unfold Hid
    have hr : r = true := q1.2 (leq_iff.2 (fun id => Int.le_refl _))
    subst hr
    have n1 := nw_trans nV q2
    clear hcon q1 q2 h0 h1 h2 h3 h4 h5 h6 h7 h8 h9 nV
    obtain ⟨_, h0, h1, h2, h3, h4, h5, h6, h7, h8, h9⟩ := hSofH.out V1 n1
    have hcon : Hid _ := c_leq z0 zj V1 (e0.nw n1) (ej.nw n1) (by omega) (by omega)
    unfold labV at hcon
    go_wp2_with (go_at_call 18; refine Calls.mono hcon.out ?_; rintro e V2 ⟨r, rfl, q1, q2⟩; refine stop_here ?_)
    unfold Hid
    have hr : r = true := q1.2 (leq_iff.2 (fun id => by rw [lj.out id]; exact (ga.out _ _).1))
    subst hr
    have n2 := nw_trans n1 q2
    clear hcon q1 q2 h0 h1 h2 h3 h4 h5 h6 h7 h8 h9 n1
    obtain ⟨_, h0, h1, h2, h3, h4, h5, h6, h7, h8, h9⟩ := hSofH.out V2 n2
    have hcon : Hid _ := c_leq z1 zj V2 (e1.nw n2) (ej.nw n2) (by omega) (by omega)
    unfold labV at hcon
    go_wp2_with (go_at_call 18; refine Calls.mono hcon.out ?_; rintro e V3 ⟨r, rfl, q1, q2⟩; refine stop_here ?_)
    unfold Hid
    have hr : r = true := q1.2 (leq_iff.2 (fun id => by rw [lj.out id]; exact (ga.out _ _).2.1))
    subst hr
    have n3 := nw_trans n2 q2
    clear hcon q1 q2 h0 h1 h2 h3 h4 h5 h6 h7 h8 h9 n2
    obtain ⟨_, h0, h1, h2, h3, h4, h5, h6, h7, h8, h9⟩ := hSofH.out V3 n3
    have hcon : Hid _ := c_leq zm z0 V3 (em.nw n3) (e0.nw n3) (by omega) (by omega)
    unfold labV at hcon
    go_wp2_with (go_at_call 18; refine Calls.mono hcon.out ?_; rintro e V4 ⟨r, rfl, q1, q2⟩; refine stop_here ?_)
    unfold Hid
    have hr : r = true := q1.2 (leq_iff.2 (fun id => by rw [lm.out id]; exact (ga.out _ _).2.2.1))
    subst hr
    have n4 := nw_trans n3 q2
    clear hcon q1 q2 h0 h1 h2 h3 h4 h5 h6 h7 h8 h9 n3
    obtain ⟨_, h0, h1, h2, h3, h4, h5, h6, h7, h8, h9⟩ := hSofH.out V4 n4
    have hcon : Hid _ := c_leq zm z1 V4 (em.nw n4) (e1.nw n4) (by omega) (by omega)
    unfold labV at hcon
    go_wp2_with (go_at_call 18; refine Calls.mono hcon.out ?_; rintro e V5 ⟨r, rfl, q1, q2⟩; refine stop_here ?_)
    unfold Hid
    have hr : r = true := q1.2 (leq_iff.2 (fun id => by rw [lm.out id]; exact (ga.out _ _).2.2.2))
    subst hr
    have n5 := nw_trans n4 q2
    clear hcon q1 q2 h0 h1 h2 h3 h4 h5 h6 h7 h8 h9 n4
    go_upto_region 6 with fail
    go_cut [58] (fun v wc => v = .bool false ∧ Nw U wc)
    case first =>
      as_aux_lemma =>
      obtain ⟨_, h0, h1, h2, h3, h4, h5, h6, h7, h8, h9⟩ := hSofH.out V5 n5
      have hcon : Hid _ := c_leq z0 z1 V5 (e0.nw n5) (e1.nw n5) (by omega) (by omega)
      unfold labV at hcon
      go_wp2_with (go_at_call 18; refine Calls.mono hcon.out ?_; rintro e V6 ⟨r, rfl, q1, q2⟩; refine stop_here ?_)
      unfold Hid
      have n6 := nw_trans n5 q2
      have t1 : Hid _ := q1
      clear hcon q1 q2 h0 h1 h2 h3 h4 h5 h6 h7 h8 h9
      cases r with
      | false =>
        go_wp2
        go_meet
        case rel => exact ⟨rfl, n6⟩
      | true =>
        obtain ⟨_, h0, h1, h2, h3, h4, h5, h6, h7, h8, h9⟩ := hSofH.out V6 n6
        have hcon : Hid _ := c_leq z1 z2 V6 (e1.nw n6) (e2.nw n6) (by omega) (by omega)
        unfold labV at hcon
        go_wp2_with (go_at_call 18; refine Calls.mono hcon.out ?_; rintro e V7 ⟨r, rfl, q1, q2⟩; refine stop_here ?_)
        unfold Hid
        have n7 := nw_trans n6 q2
        have t2 : Hid _ := q1
        clear hcon q1 q2 h0 h1 h2 h3 h4 h5 h6 h7 h8 h9
        cases r with
        | false =>
          go_wp2
          go_meet
          case rel => exact ⟨rfl, n7⟩
        | true =>
          obtain ⟨_, h0, h1, h2, h3, h4, h5, h6, h7, h8, h9⟩ := hSofH.out V7 n7
          have hcon : Hid _ := c_leq z0 z2 V7 (e0.nw n7) (e2.nw n7) (by omega) (by omega)
          unfold labV at hcon
          go_wp2_with (go_at_call 18; refine Calls.mono hcon.out ?_; rintro e V8 ⟨r, rfl, q1, q2⟩; refine stop_here ?_)
          unfold Hid
          have n8 := nw_trans n7 q2
          have hr : r = true := q1.2 (leq_iff.2 (fun id => Int.le_trans (leq_iff.1 (t1.out.1 (by first | trivial | rfl)) id) (leq_iff.1 (t2.out.1 (by first | trivial | rfl)) id)))
          subst hr
          clear hcon q1 q2 h0 h1 h2 h3 h4 h5 h6 h7 h8 h9
          go_wp2
          go_meet
          case rel => exact ⟨rfl, n8⟩
    case rest =>
      obtain ⟨rfl, nC⟩ := hcut
      clear n5
      obtain ⟨V, rfl⟩ : ∃ V, V = wc := ⟨_, rfl⟩
      go_upto_region 8 with fail
      go_cut [70] (fun v wc => v = .bool false ∧ Nw U wc)
      case first =>
        as_aux_lemma =>
          have hW0 : Nw U V.drew := Fr.drew nC
          have hS := hSofH.out _ hW0
          by_cases hg : ∀ id, lev z0 x0 id ≤ lev z2 x2 id
          · have hg : Hid _ := hg
            refine wp_region_ord [] 11 [(0, true), (1, true), (2, false), (3, true), (4, true), (5, true), (7, true), (8, true), (6, false), (9, false), (10, true)] (fun w' : World => Nw U w' ∧ w'.cell? ⟨N, 0, none⟩ = some (.int .i64 z0) ∧ w'.cell? ⟨N, 1, none⟩ = some (.slice aa x0.length ac) ∧ w'.cell? ⟨N + 1, 0, none⟩ = some (.int .i64 z1) ∧ w'.cell? ⟨N + 1, 1, none⟩ = some (.slice ba x1.length bc) ∧ w'.cell? ⟨N + 1 + 1, 0, none⟩ = some (.int .i64 z2) ∧ w'.cell? ⟨N + 1 + 1, 1, none⟩ = some (.slice ca x2.length cc) ∧ w'.cell? ⟨gj, 0, none⟩ = some (.int .i64 zj) ∧ w'.cell? ⟨gj, 1, none⟩ = some (.slice ja yj.length jc) ∧ w'.cell? ⟨gm, 0, none⟩ = some (.int .i64 zm) ∧ w'.cell? ⟨gm, 1, none⟩ = some (.slice ma ym.length mc)) (by kernel_rfl) (by kernel_rfl) ?_
            refine ord_quietL _ ?_ rfl hS rfl ?_ ?_
            rotate_left
            · rintro w' ⟨hn, h0, h1, h2, h3, h4, h5, h6, h7, h8, h9⟩; go_simp; first | rfl | (rw [if_pos (by omega)]; done) | (rw [if_pos (by omega)]; rfl) | (rw [if_pos (by omega)]; go_simp; rfl)
            simp only [Act.put, List.setIfInBounds_toArray, List.set_cons_zero, List.set_cons_succ]
            refine ord_quietL _ ?_ rfl hS rfl ?_ ?_
            rotate_left
            · rintro w' ⟨hn, h0, h1, h2, h3, h4, h5, h6, h7, h8, h9⟩; go_simp; first | rfl | (rw [if_pos (by omega)]; done) | (rw [if_pos (by omega)]; rfl) | (rw [if_pos (by omega)]; go_simp; rfl)
            simp only [Act.put, List.setIfInBounds_toArray, List.set_cons_zero, List.set_cons_succ]
            refine ord_actL _ rfl (fun K1 hK1 => ?_)
            have hcon : Hid _ := c_leq z0 z2 V.drew (e0.nw hW0) (e2.nw hW0) (by omega) (by omega)
            unfold labV at hcon
            go_wp2_with (go_at_call 18; refine Calls.mono hcon.out ?_; rintro e y1 ⟨r, rfl, q1, q2⟩)
            have hr : r = true := q1.2 (leq_iff.2 hg.out)
            subst hr
            have m1 := nw_trans hW0 q2
            refine hK1 _ _ (hSofH.out _ m1) ?_
            clear hK1 K1 hcon q1 q2 hS
            have hS := hSofH.out _ m1
            refine ord_quietL _ ?_ rfl hS rfl ?_ ?_
            rotate_left
            · rintro w' ⟨hn, h0, h1, h2, h3, h4, h5, h6, h7, h8, h9⟩; go_simp; first | rfl | (rw [if_pos (by omega)]; done) | (rw [if_pos (by omega)]; rfl) | (rw [if_pos (by omega)]; go_simp; rfl)
            simp only [Act.put, List.setIfInBounds_toArray, List.set_cons_zero, List.set_cons_succ]
            refine ord_quietL _ ?_ rfl hS rfl ?_ ?_
            rotate_left
            · rintro w' ⟨hn, h0, h1, h2, h3, h4, h5, h6, h7, h8, h9⟩; go_simp; first | rfl | (rw [if_pos (by omega)]; done) | (rw [if_pos (by omega)]; rfl) | (rw [if_pos (by omega)]; go_simp; rfl)
            simp only [Act.put, List.setIfInBounds_toArray, List.set_cons_zero, List.set_cons_succ]
            refine ord_quietL _ ?_ rfl hS rfl ?_ ?_
            rotate_left
            · rintro w' ⟨hn, h0, h1, h2, h3, h4, h5, h6, h7, h8, h9⟩; go_simp; first | rfl | (rw [if_pos (by omega)]; done) | (rw [if_pos (by omega)]; rfl) | (rw [if_pos (by omega)]; go_simp; rfl)
            simp only [Act.put, List.setIfInBounds_toArray, List.set_cons_zero, List.set_cons_succ]
            refine ord_quietL _ ?_ rfl hS rfl ?_ ?_
            rotate_left
            · rintro w' ⟨hn, h0, h1, h2, h3, h4, h5, h6, h7, h8, h9⟩; go_simp; first | rfl | (rw [if_pos (by omega)]; done) | (rw [if_pos (by omega)]; rfl) | (rw [if_pos (by omega)]; go_simp; rfl)
            simp only [Act.put, List.setIfInBounds_toArray, List.set_cons_zero, List.set_cons_succ]
            refine ord_quietL _ ?_ rfl hS rfl ?_ ?_
            rotate_left
            · rintro w' ⟨hn, h0, h1, h2, h3, h4, h5, h6, h7, h8, h9⟩; go_simp; first | rfl | (rw [if_pos (by omega)]; done) | (rw [if_pos (by omega)]; rfl) | (rw [if_pos (by omega)]; go_simp; rfl)
            simp only [Act.put, List.setIfInBounds_toArray, List.set_cons_zero, List.set_cons_succ]
            refine ord_actL _ rfl (fun K1 hK1 => ?_)
            have hcon : Hid _ := c_leq z1 z2 y1 (e1.nw m1) (e2.nw m1) (by omega) (by omega)
            unfold labV at hcon
            go_wp2_with (go_at_call 18; refine Calls.mono hcon.out ?_; rintro e y2 ⟨r1, rfl, q1, q2⟩)
            have s1 : Hid _ := q1
            have m2 := nw_trans m1 q2
            refine hK1 _ _ (hSofH.out _ m2) ?_
            clear hK1 K1 hcon q1 q2 hS
            have hS := hSofH.out _ m2
            refine ord_actL _ rfl (fun K1 hK1 => ?_)
            have hcon : Hid _ := c_leq zj z2 y2 (ej.nw m2) (e2.nw m2) (by omega) (by omega)
            unfold labV at hcon
            go_wp2_with (go_at_call 18; refine Calls.mono hcon.out ?_; rintro e y3 ⟨r2, rfl, q1, q2⟩)
            have hr : r1 = r2 := Bool.eq_iff_iff.2 ⟨fun h => q1.2 (leq_iff.2 (fun id => by rw [lj.out id]; have u1 := hg.out id; have u2 := leq_iff.1 (s1.out.1 h) id; omega)), fun h => s1.out.2 (leq_iff.2 (fun id => by have u2 := leq_iff.1 (q1.1 h) id; rw [lj.out id] at u2; omega))⟩
            subst hr
            have m3 := nw_trans m2 q2
            refine hK1 _ _ (hSofH.out _ m3) ?_
            clear hK1 K1 hcon q1 q2 hS s1
            have hS := hSofH.out _ m3
            have hbb : (r1 != r1) = false := by simp
            refine ord_quietL _ ?_ rfl hS rfl ?_ ?_
            rotate_left
            · rintro w' ⟨hn, h0, h1, h2, h3, h4, h5, h6, h7, h8, h9⟩; go_simp; first | rfl | (rw [if_pos (by omega)]; done) | (rw [if_pos (by omega)]; rfl) | (rw [if_pos (by omega)]; go_simp; rfl)
            simp only [Act.put, List.setIfInBounds_toArray, List.set_cons_zero, List.set_cons_succ]
            refine ord_tail ?_
            simp only [List.drop_succ_cons, List.drop_zero]
            go_wp2
            go_meet
            case rel => exact ⟨by simp, m3⟩
          · have hg : Hid _ := hg
            refine wp_region_ord [] 11 [(0, true), (1, true), (2, false), (3, true), (4, true), (5, true), (6, true), (7, true), (8, true), (9, true), (10, true)] (fun w' : World => Nw U w' ∧ w'.cell? ⟨N, 0, none⟩ = some (.int .i64 z0) ∧ w'.cell? ⟨N, 1, none⟩ = some (.slice aa x0.length ac) ∧ w'.cell? ⟨N + 1, 0, none⟩ = some (.int .i64 z1) ∧ w'.cell? ⟨N + 1, 1, none⟩ = some (.slice ba x1.length bc) ∧ w'.cell? ⟨N + 1 + 1, 0, none⟩ = some (.int .i64 z2) ∧ w'.cell? ⟨N + 1 + 1, 1, none⟩ = some (.slice ca x2.length cc) ∧ w'.cell? ⟨gj, 0, none⟩ = some (.int .i64 zj) ∧ w'.cell? ⟨gj, 1, none⟩ = some (.slice ja yj.length jc) ∧ w'.cell? ⟨gm, 0, none⟩ = some (.int .i64 zm) ∧ w'.cell? ⟨gm, 1, none⟩ = some (.slice ma ym.length mc)) (by kernel_rfl) (by kernel_rfl) ?_
            refine ord_quietL _ ?_ rfl hS rfl ?_ ?_
            rotate_left
            · rintro w' ⟨hn, h0, h1, h2, h3, h4, h5, h6, h7, h8, h9⟩; go_simp; first | rfl | (rw [if_pos (by omega)]; done) | (rw [if_pos (by omega)]; rfl) | (rw [if_pos (by omega)]; go_simp; rfl)
            simp only [Act.put, List.setIfInBounds_toArray, List.set_cons_zero, List.set_cons_succ]
            refine ord_quietL _ ?_ rfl hS rfl ?_ ?_
            rotate_left
            · rintro w' ⟨hn, h0, h1, h2, h3, h4, h5, h6, h7, h8, h9⟩; go_simp; first | rfl | (rw [if_pos (by omega)]; done) | (rw [if_pos (by omega)]; rfl) | (rw [if_pos (by omega)]; go_simp; rfl)
            simp only [Act.put, List.setIfInBounds_toArray, List.set_cons_zero, List.set_cons_succ]
            refine ord_actL _ rfl (fun K1 hK1 => ?_)
            have hcon : Hid _ := c_leq z0 z2 V.drew (e0.nw hW0) (e2.nw hW0) (by omega) (by omega)
            unfold labV at hcon
            go_wp2_with (go_at_call 18; refine Calls.mono hcon.out ?_; rintro e y1 ⟨r, rfl, q1, q2⟩)
            have hr : r = false := by
              cases r with
              | false => rfl
              | true => exact absurd (leq_iff.1 (q1.1 rfl)) hg.out
            subst hr
            have m1 := nw_trans hW0 q2
            refine hK1 _ _ (hSofH.out _ m1) ?_
            clear hK1 K1 hcon q1 q2 hS
            have hS := hSofH.out _ m1
            refine ord_quietL _ ?_ rfl hS rfl ?_ ?_
            rotate_left
            · rintro w' ⟨hn, h0, h1, h2, h3, h4, h5, h6, h7, h8, h9⟩; go_simp; first | rfl | (rw [if_pos (by omega)]; done) | (rw [if_pos (by omega)]; rfl) | (rw [if_pos (by omega)]; go_simp; rfl)
            simp only [Act.put, List.setIfInBounds_toArray, List.set_cons_zero, List.set_cons_succ]
            refine ord_skipL _ rfl hS rfl ?_
            simp only [Act.put, List.setIfInBounds_toArray, List.set_cons_zero, List.set_cons_succ]
            refine ord_skipL _ rfl hS rfl ?_
            simp only [Act.put, List.setIfInBounds_toArray, List.set_cons_zero, List.set_cons_succ]
            refine ord_skipL _ rfl hS rfl ?_
            simp only [Act.put, List.setIfInBounds_toArray, List.set_cons_zero, List.set_cons_succ]
            refine ord_skipL _ rfl hS rfl ?_
            simp only [Act.put, List.setIfInBounds_toArray, List.set_cons_zero, List.set_cons_succ]
            refine ord_skipL _ rfl hS rfl ?_
            simp only [Act.put, List.setIfInBounds_toArray, List.set_cons_zero, List.set_cons_succ]
            refine ord_skipL _ rfl hS rfl ?_
            simp only [Act.put, List.setIfInBounds_toArray, List.set_cons_zero, List.set_cons_succ]
            refine ord_skipL _ rfl hS rfl ?_
            simp only [Act.put, List.setIfInBounds_toArray, List.set_cons_zero, List.set_cons_succ]
            refine ord_tail ?_
            simp only [List.drop_succ_cons, List.drop_zero]
            go_wp2
            go_meet
            case rel => exact ⟨rfl, m1⟩
      case rest =>
        obtain ⟨rfl, nD⟩ := hcut
        clear nC
        obtain ⟨V, rfl⟩ : ∃ V, V = wc := ⟨_, rfl⟩
        have nC := nD
        clear nD
        go_upto_region 10 with fail
        go_cut [82] (fun v wc => v = .bool false ∧ Nw U wc)
        case first =>
          as_aux_lemma =>
            have hW0 : Nw U V.drew := Fr.drew nC
            have hS := hSofH.out _ hW0
            by_cases hg : ∀ id, lev z2 x2 id ≤ lev z0 x0 id
            · have hg : Hid _ := hg
              refine wp_region_ord [] 11 [(0, true), (1, true), (2, false), (3, true), (4, true), (5, true), (7, true), (8, true), (6, false), (9, false), (10, true)] (fun w' : World => Nw U w' ∧ w'.cell? ⟨N, 0, none⟩ = some (.int .i64 z0) ∧ w'.cell? ⟨N, 1, none⟩ = some (.slice aa x0.length ac) ∧ w'.cell? ⟨N + 1, 0, none⟩ = some (.int .i64 z1) ∧ w'.cell? ⟨N + 1, 1, none⟩ = some (.slice ba x1.length bc) ∧ w'.cell? ⟨N + 1 + 1, 0, none⟩ = some (.int .i64 z2) ∧ w'.cell? ⟨N + 1 + 1, 1, none⟩ = some (.slice ca x2.length cc) ∧ w'.cell? ⟨gj, 0, none⟩ = some (.int .i64 zj) ∧ w'.cell? ⟨gj, 1, none⟩ = some (.slice ja yj.length jc) ∧ w'.cell? ⟨gm, 0, none⟩ = some (.int .i64 zm) ∧ w'.cell? ⟨gm, 1, none⟩ = some (.slice ma ym.length mc)) (by kernel_rfl) (by kernel_rfl) ?_
              refine ord_quietL _ ?_ rfl hS rfl ?_ ?_
              rotate_left
              · rintro w' ⟨hn, h0, h1, h2, h3, h4, h5, h6, h7, h8, h9⟩; go_simp; first | rfl | (rw [if_pos (by omega)]; done) | (rw [if_pos (by omega)]; rfl) | (rw [if_pos (by omega)]; go_simp; rfl)
              simp only [Act.put, List.setIfInBounds_toArray, List.set_cons_zero, List.set_cons_succ]
              refine ord_quietL _ ?_ rfl hS rfl ?_ ?_
              rotate_left
              · rintro w' ⟨hn, h0, h1, h2, h3, h4, h5, h6, h7, h8, h9⟩; go_simp; first | rfl | (rw [if_pos (by omega)]; done) | (rw [if_pos (by omega)]; rfl) | (rw [if_pos (by omega)]; go_simp; rfl)
              simp only [Act.put, List.setIfInBounds_toArray, List.set_cons_zero, List.set_cons_succ]
              refine ord_actL _ rfl (fun K1 hK1 => ?_)
              have hcon : Hid _ := c_leq z2 z0 V.drew (e2.nw hW0) (e0.nw hW0) (by omega) (by omega)
              unfold labV at hcon
              go_wp2_with (go_at_call 18; refine Calls.mono hcon.out ?_; rintro e y1 ⟨r, rfl, q1, q2⟩)
              have hr : r = true := q1.2 (leq_iff.2 hg.out)
              subst hr
              have m1 := nw_trans hW0 q2
              refine hK1 _ _ (hSofH.out _ m1) ?_
              clear hK1 K1 hcon q1 q2 hS
              have hS := hSofH.out _ m1
              refine ord_quietL _ ?_ rfl hS rfl ?_ ?_
              rotate_left
              · rintro w' ⟨hn, h0, h1, h2, h3, h4, h5, h6, h7, h8, h9⟩; go_simp; first | rfl | (rw [if_pos (by omega)]; done) | (rw [if_pos (by omega)]; rfl) | (rw [if_pos (by omega)]; go_simp; rfl)
              simp only [Act.put, List.setIfInBounds_toArray, List.set_cons_zero, List.set_cons_succ]
              refine ord_quietL _ ?_ rfl hS rfl ?_ ?_
              rotate_left
              · rintro w' ⟨hn, h0, h1, h2, h3, h4, h5, h6, h7, h8, h9⟩; go_simp; first | rfl | (rw [if_pos (by omega)]; done) | (rw [if_pos (by omega)]; rfl) | (rw [if_pos (by omega)]; go_simp; rfl)
              simp only [Act.put, List.setIfInBounds_toArray, List.set_cons_zero, List.set_cons_succ]
              refine ord_quietL _ ?_ rfl hS rfl ?_ ?_
              rotate_left
              · rintro w' ⟨hn, h0, h1, h2, h3, h4, h5, h6, h7, h8, h9⟩; go_simp; first | rfl | (rw [if_pos (by omega)]; done) | (rw [if_pos (by omega)]; rfl) | (rw [if_pos (by omega)]; go_simp; rfl)
              simp only [Act.put, List.setIfInBounds_toArray, List.set_cons_zero, List.set_cons_succ]
              refine ord_quietL _ ?_ rfl hS rfl ?_ ?_
              rotate_left
              · rintro w' ⟨hn, h0, h1, h2, h3, h4, h5, h6, h7, h8, h9⟩; go_simp; first | rfl | (rw [if_pos (by omega)]; done) | (rw [if_pos (by omega)]; rfl) | (rw [if_pos (by omega)]; go_simp; rfl)
              simp only [Act.put, List.setIfInBounds_toArray, List.set_cons_zero, List.set_cons_succ]
              refine ord_quietL _ ?_ rfl hS rfl ?_ ?_
              rotate_left
              · rintro w' ⟨hn, h0, h1, h2, h3, h4, h5, h6, h7, h8, h9⟩; go_simp; first | rfl | (rw [if_pos (by omega)]; done) | (rw [if_pos (by omega)]; rfl) | (rw [if_pos (by omega)]; go_simp; rfl)
              simp only [Act.put, List.setIfInBounds_toArray, List.set_cons_zero, List.set_cons_succ]
              refine ord_actL _ rfl (fun K1 hK1 => ?_)
              have hcon : Hid _ := c_leq z2 z1 y1 (e2.nw m1) (e1.nw m1) (by omega) (by omega)
              unfold labV at hcon
              go_wp2_with (go_at_call 18; refine Calls.mono hcon.out ?_; rintro e y2 ⟨r1, rfl, q1, q2⟩)
              have s1 : Hid _ := q1
              have m2 := nw_trans m1 q2
              refine hK1 _ _ (hSofH.out _ m2) ?_
              clear hK1 K1 hcon q1 q2 hS
              have hS := hSofH.out _ m2
              refine ord_actL _ rfl (fun K1 hK1 => ?_)
              have hcon : Hid _ := c_leq z2 zm y2 (e2.nw m2) (em.nw m2) (by omega) (by omega)
              unfold labV at hcon
              go_wp2_with (go_at_call 18; refine Calls.mono hcon.out ?_; rintro e y3 ⟨r2, rfl, q1, q2⟩)
              have hr : r1 = r2 := Bool.eq_iff_iff.2 ⟨fun h => q1.2 (leq_iff.2 (fun id => by rw [lm.out id]; have u1 := hg.out id; have u2 := leq_iff.1 (s1.out.1 h) id; omega)), fun h => s1.out.2 (leq_iff.2 (fun id => by have u2 := leq_iff.1 (q1.1 h) id; rw [lm.out id] at u2; omega))⟩
              subst hr
              have m3 := nw_trans m2 q2
              refine hK1 _ _ (hSofH.out _ m3) ?_
              clear hK1 K1 hcon q1 q2 hS s1
              have hS := hSofH.out _ m3
              have hbb : (r1 != r1) = false := by simp
              refine ord_quietL _ ?_ rfl hS rfl ?_ ?_
              rotate_left
              · rintro w' ⟨hn, h0, h1, h2, h3, h4, h5, h6, h7, h8, h9⟩; go_simp; first | rfl | (rw [if_pos (by omega)]; done) | (rw [if_pos (by omega)]; rfl) | (rw [if_pos (by omega)]; go_simp; rfl)
              simp only [Act.put, List.setIfInBounds_toArray, List.set_cons_zero, List.set_cons_succ]
              refine ord_tail ?_
              simp only [List.drop_succ_cons, List.drop_zero]
              go_wp2
              go_meet
              case rel => exact ⟨by simp, m3⟩
            · have hg : Hid _ := hg
              refine wp_region_ord [] 11 [(0, true), (1, true), (2, false), (3, true), (4, true), (5, true), (6, true), (7, true), (8, true), (9, true), (10, true)] (fun w' : World => Nw U w' ∧ w'.cell? ⟨N, 0, none⟩ = some (.int .i64 z0) ∧ w'.cell? ⟨N, 1, none⟩ = some (.slice aa x0.length ac) ∧ w'.cell? ⟨N + 1, 0, none⟩ = some (.int .i64 z1) ∧ w'.cell? ⟨N + 1, 1, none⟩ = some (.slice ba x1.length bc) ∧ w'.cell? ⟨N + 1 + 1, 0, none⟩ = some (.int .i64 z2) ∧ w'.cell? ⟨N + 1 + 1, 1, none⟩ = some (.slice ca x2.length cc) ∧ w'.cell? ⟨gj, 0, none⟩ = some (.int .i64 zj) ∧ w'.cell? ⟨gj, 1, none⟩ = some (.slice ja yj.length jc) ∧ w'.cell? ⟨gm, 0, none⟩ = some (.int .i64 zm) ∧ w'.cell? ⟨gm, 1, none⟩ = some (.slice ma ym.length mc)) (by kernel_rfl) (by kernel_rfl) ?_
              refine ord_quietL _ ?_ rfl hS rfl ?_ ?_
              rotate_left
              · rintro w' ⟨hn, h0, h1, h2, h3, h4, h5, h6, h7, h8, h9⟩; go_simp; first | rfl | (rw [if_pos (by omega)]; done) | (rw [if_pos (by omega)]; rfl) | (rw [if_pos (by omega)]; go_simp; rfl)
              simp only [Act.put, List.setIfInBounds_toArray, List.set_cons_zero, List.set_cons_succ]
              refine ord_quietL _ ?_ rfl hS rfl ?_ ?_
              rotate_left
              · rintro w' ⟨hn, h0, h1, h2, h3, h4, h5, h6, h7, h8, h9⟩; go_simp; first | rfl | (rw [if_pos (by omega)]; done) | (rw [if_pos (by omega)]; rfl) | (rw [if_pos (by omega)]; go_simp; rfl)
              simp only [Act.put, List.setIfInBounds_toArray, List.set_cons_zero, List.set_cons_succ]
              refine ord_actL _ rfl (fun K1 hK1 => ?_)
              have hcon : Hid _ := c_leq z2 z0 V.drew (e2.nw hW0) (e0.nw hW0) (by omega) (by omega)
              unfold labV at hcon
              go_wp2_with (go_at_call 18; refine Calls.mono hcon.out ?_; rintro e y1 ⟨r, rfl, q1, q2⟩)
              have hr : r = false := by
                cases r with
                | false => rfl
                | true => exact absurd (leq_iff.1 (q1.1 rfl)) hg.out
              subst hr
              have m1 := nw_trans hW0 q2
              refine hK1 _ _ (hSofH.out _ m1) ?_
              clear hK1 K1 hcon q1 q2 hS
              have hS := hSofH.out _ m1
              refine ord_quietL _ ?_ rfl hS rfl ?_ ?_
              rotate_left
              · rintro w' ⟨hn, h0, h1, h2, h3, h4, h5, h6, h7, h8, h9⟩; go_simp; first | rfl | (rw [if_pos (by omega)]; done) | (rw [if_pos (by omega)]; rfl) | (rw [if_pos (by omega)]; go_simp; rfl)
              simp only [Act.put, List.setIfInBounds_toArray, List.set_cons_zero, List.set_cons_succ]
              refine ord_skipL _ rfl hS rfl ?_
              simp only [Act.put, List.setIfInBounds_toArray, List.set_cons_zero, List.set_cons_succ]
              refine ord_skipL _ rfl hS rfl ?_
              simp only [Act.put, List.setIfInBounds_toArray, List.set_cons_zero, List.set_cons_succ]
              refine ord_skipL _ rfl hS rfl ?_
              simp only [Act.put, List.setIfInBounds_toArray, List.set_cons_zero, List.set_cons_succ]
              refine ord_skipL _ rfl hS rfl ?_
              simp only [Act.put, List.setIfInBounds_toArray, List.set_cons_zero, List.set_cons_succ]
              refine ord_skipL _ rfl hS rfl ?_
              simp only [Act.put, List.setIfInBounds_toArray, List.set_cons_zero, List.set_cons_succ]
              refine ord_skipL _ rfl hS rfl ?_
              simp only [Act.put, List.setIfInBounds_toArray, List.set_cons_zero, List.set_cons_succ]
              refine ord_skipL _ rfl hS rfl ?_
              simp only [Act.put, List.setIfInBounds_toArray, List.set_cons_zero, List.set_cons_succ]
              refine ord_tail ?_
              simp only [List.drop_succ_cons, List.drop_zero]
              go_wp2
              go_meet
              case rel => exact ⟨rfl, m1⟩
        case rest =>
          obtain ⟨rfl, nD⟩ := hcut
          clear nC
          obtain ⟨V, rfl⟩ : ∃ V, V = wc := ⟨_, rfl⟩
          go_upto_region 12 with fail
          have hW0 : Nw U V.drew := Fr.drew nD
          have hS := hSofH.out _ hW0
          refine wp_region_ord [] 27 [(0, true), (1, true), (3, true), (4, true), (2, false), (5, false), (6, false), (7, true), (8, true), (9, true), (10, true), (13, true), (11, false), (12, false), (14, false), (15, true), (16, true), (17, true), (18, true), (20, true), (21, true), (23, true), (19, false), (22, false), (24, false), (25, true), (26, true)] (fun w' : World => Nw U w' ∧ w'.cell? ⟨N, 0, none⟩ = some (.int .i64 z0) ∧ w'.cell? ⟨N, 1, none⟩ = some (.slice aa x0.length ac) ∧ w'.cell? ⟨N + 1, 0, none⟩ = some (.int .i64 z1) ∧ w'.cell? ⟨N + 1, 1, none⟩ = some (.slice ba x1.length bc) ∧ w'.cell? ⟨N + 1 + 1, 0, none⟩ = some (.int .i64 z2) ∧ w'.cell? ⟨N + 1 + 1, 1, none⟩ = some (.slice ca x2.length cc) ∧ w'.cell? ⟨gj, 0, none⟩ = some (.int .i64 zj) ∧ w'.cell? ⟨gj, 1, none⟩ = some (.slice ja yj.length jc) ∧ w'.cell? ⟨gm, 0, none⟩ = some (.int .i64 zm) ∧ w'.cell? ⟨gm, 1, none⟩ = some (.slice ma ym.length mc)) (by kernel_rfl) (by kernel_rfl) ?_
          refine ord_quietL _ ?_ rfl hS rfl ?_ ?_
          rotate_left
          · rintro w' ⟨hn, h0, h1, h2, h3, h4, h5, h6, h7, h8, h9⟩; go_simp; first | rfl | (rw [if_pos (by omega)]; done) | (rw [if_pos (by omega)]; rfl) | (rw [if_pos (by omega)]; go_simp; rfl)
          simp only [Act.put, List.setIfInBounds_toArray, List.set_cons_zero, List.set_cons_succ]
          refine ord_quietL _ ?_ rfl hS rfl ?_ ?_
          rotate_left
          · rintro w' ⟨hn, h0, h1, h2, h3, h4, h5, h6, h7, h8, h9⟩; go_simp; first | rfl | (rw [if_pos (by omega)]; done) | (rw [if_pos (by omega)]; rfl) | (rw [if_pos (by omega)]; go_simp; rfl)
          simp only [Act.put, List.setIfInBounds_toArray, List.set_cons_zero, List.set_cons_succ]
          refine ord_quietL _ ?_ rfl hS rfl ?_ ?_
          rotate_left
          · rintro w' ⟨hn, h0, h1, h2, h3, h4, h5, h6, h7, h8, h9⟩; go_simp; first | rfl | (rw [if_pos (by omega)]; done) | (rw [if_pos (by omega)]; rfl) | (rw [if_pos (by omega)]; go_simp; rfl)
          simp only [Act.put, List.setIfInBounds_toArray, List.set_cons_zero, List.set_cons_succ]
          refine ord_quietL _ ?_ rfl hS rfl ?_ ?_
          rotate_left
          · rintro w' ⟨hn, h0, h1, h2, h3, h4, h5, h6, h7, h8, h9⟩; go_simp; first | rfl | (rw [if_pos (by omega)]; done) | (rw [if_pos (by omega)]; rfl) | (rw [if_pos (by omega)]; go_simp; rfl)
          simp only [Act.put, List.setIfInBounds_toArray, List.set_cons_zero, List.set_cons_succ]
          refine ord_actL _ rfl (fun K1 hK1 => ?_)
          have hcon : Hid _ := c_join z0 z1 V.drew (e0.nw hW0) (e1.nw hW0) (by omega)
          unfold labV at hcon
          go_wp2_with (go_at_call 21; refine Calls.mono hcon.out ?_; rintro e y1 ⟨p, yp, rfl, tp1, tp2, tp3, tp4, qn⟩)
          have m1 := nw_trans hW0 qn
          obtain ⟨pa, pc, rfl, _, _⟩ := tp1.form
          replace tp1 := tp1.any
          replace tp3 : Hid _ := tp3
          clear tp2
          refine hK1 _ _ (hSofH.out _ m1) ?_
          clear hK1 K1 hcon qn hS
          have hS := hSofH.out _ m1
          refine ord_actL _ rfl (fun K1 hK1 => ?_)
          have hcon : Hid _ := c_join z1 z0 y1 (e1.nw m1) (e0.nw m1) (by omega)
          unfold labV at hcon
          go_wp2_with (go_at_call 21; refine Calls.mono hcon.out ?_; rintro e y2 ⟨r, yr, rfl, tr1, tr2, tr3, tr4, qn⟩)
          have m2 := nw_trans m1 qn
          replace tp1 := tp1.nw qn
          obtain ⟨ra, rc, rfl, _, _⟩ := tr1.form
          replace tr1 := tr1.any
          replace tr3 : Hid _ := tr3
          clear tr2
          refine hK1 _ _ (hSofH.out _ m2) ?_
          clear hK1 K1 hcon qn hS
          have hS := hSofH.out _ m2
          refine ord_actL _ rfl (fun K1 hK1 => ?_)
          have hcon : Hid _ := c_same (max z0 z1) (max z1 z0) y2 tp1 tr1 (by omega) (by omega)
          unfold labV at hcon
          go_wp2_with (go_at_call 20; refine Calls.mono hcon.out ?_; rintro e y3 ⟨b, rfl, q1, qn⟩)
          have m3 := nw_trans m2 qn
          have hb : b = true := q1.2 (same_iff.2 (fun id => by rw [tp3.out id, tr3.out id]; omega))
          subst hb
          clear q1 tp1 tr1 tp3 tr3
          refine hK1 _ _ (hSofH.out _ m3) ?_
          clear hK1 K1 hcon qn hS
          have hS := hSofH.out _ m3
          refine ord_quietL _ ?_ rfl hS rfl ?_ ?_
          rotate_left
          · rintro w' ⟨hn, h0, h1, h2, h3, h4, h5, h6, h7, h8, h9⟩; go_simp; first | rfl | (rw [if_pos (by omega)]; done) | (rw [if_pos (by omega)]; rfl) | (rw [if_pos (by omega)]; go_simp; rfl)
          simp only [Act.put, List.setIfInBounds_toArray, List.set_cons_zero, List.set_cons_succ]
          refine ord_quietL _ ?_ rfl hS rfl ?_ ?_
          rotate_left
          · rintro w' ⟨hn, h0, h1, h2, h3, h4, h5, h6, h7, h8, h9⟩; go_simp; first | rfl | (rw [if_pos (by omega)]; done) | (rw [if_pos (by omega)]; rfl) | (rw [if_pos (by omega)]; go_simp; rfl)
          simp only [Act.put, List.setIfInBounds_toArray, List.set_cons_zero, List.set_cons_succ]
          refine ord_quietL _ ?_ rfl hS rfl ?_ ?_
          rotate_left
          · rintro w' ⟨hn, h0, h1, h2, h3, h4, h5, h6, h7, h8, h9⟩; go_simp; first | rfl | (rw [if_pos (by omega)]; done) | (rw [if_pos (by omega)]; rfl) | (rw [if_pos (by omega)]; go_simp; rfl)
          simp only [Act.put, List.setIfInBounds_toArray, List.set_cons_zero, List.set_cons_succ]
          refine ord_quietL _ ?_ rfl hS rfl ?_ ?_
          rotate_left
          · rintro w' ⟨hn, h0, h1, h2, h3, h4, h5, h6, h7, h8, h9⟩; go_simp; first | rfl | (rw [if_pos (by omega)]; done) | (rw [if_pos (by omega)]; rfl) | (rw [if_pos (by omega)]; go_simp; rfl)
          simp only [Act.put, List.setIfInBounds_toArray, List.set_cons_zero, List.set_cons_succ]
          refine ord_quietL _ ?_ rfl hS rfl ?_ ?_
          rotate_left
          · rintro w' ⟨hn, h0, h1, h2, h3, h4, h5, h6, h7, h8, h9⟩; go_simp; first | rfl | (rw [if_pos (by omega)]; done) | (rw [if_pos (by omega)]; rfl) | (rw [if_pos (by omega)]; go_simp; rfl)
          simp only [Act.put, List.setIfInBounds_toArray, List.set_cons_zero, List.set_cons_succ]
          refine ord_actL _ rfl (fun K1 hK1 => ?_)
          have hcon : Hid _ := c_join z0 z1 y3 (e0.nw m3) (e1.nw m3) (by omega)
          unfold labV at hcon
          go_wp2_with (go_at_call 21; refine Calls.mono hcon.out ?_; rintro e y4 ⟨p, yp, rfl, tp1, tp2, tp3, tp4, qn⟩)
          have m4 := nw_trans m3 qn
          obtain ⟨pa, pc, rfl, _, _⟩ := tp1.form
          replace tp1 := tp1.any
          replace tp3 : Hid _ := tp3
          clear tp2
          refine hK1 _ _ (hSofH.out _ m4) ?_
          clear hK1 K1 hcon qn hS
          have hS := hSofH.out _ m4
          refine ord_actL _ rfl (fun K1 hK1 => ?_)
          have hcon : Hid _ := c_meet z0 (max z0 z1) y4 (e0.nw m4) tp1 (by omega)
          unfold labV at hcon
          go_wp2_with (go_at_call 23; refine Calls.mono hcon.out ?_; rintro e y5 ⟨r, yr, rfl, tr1, tr2, tr3, tr4, qn⟩)
          have m5 := nw_trans m4 qn
          obtain ⟨ra, rc, rfl, _, _⟩ := tr1.form
          replace tr1 := tr1.any
          replace tr3 : Hid _ := tr3
          clear tr2
          refine hK1 _ _ (hSofH.out _ m5) ?_
          clear hK1 K1 hcon qn hS
          have hS := hSofH.out _ m5
          refine ord_actL _ rfl (fun K1 hK1 => ?_)
          have hcon : Hid _ := c_same (min z0 (max z0 z1)) z0 y5 tr1 (e0.nw m5) (by omega) (by omega)
          unfold labV at hcon
          go_wp2_with (go_at_call 20; refine Calls.mono hcon.out ?_; rintro e y6 ⟨b, rfl, q1, qn⟩)
          have m6 := nw_trans m5 qn
          have hb : b = true := q1.2 (same_iff.2 (fun id => by rw [tr3.out id, tp3.out id]; omega))
          subst hb
          clear q1 tp1 tr1 tp3 tr3
          refine hK1 _ _ (hSofH.out _ m6) ?_
          clear hK1 K1 hcon qn hS
          have hS := hSofH.out _ m6
          refine ord_quietL _ ?_ rfl hS rfl ?_ ?_
          rotate_left
          · rintro w' ⟨hn, h0, h1, h2, h3, h4, h5, h6, h7, h8, h9⟩; go_simp; first | rfl | (rw [if_pos (by omega)]; done) | (rw [if_pos (by omega)]; rfl) | (rw [if_pos (by omega)]; go_simp; rfl)
          simp only [Act.put, List.setIfInBounds_toArray, List.set_cons_zero, List.set_cons_succ]
          refine ord_quietL _ ?_ rfl hS rfl ?_ ?_
          rotate_left
          · rintro w' ⟨hn, h0, h1, h2, h3, h4, h5, h6, h7, h8, h9⟩; go_simp; first | rfl | (rw [if_pos (by omega)]; done) | (rw [if_pos (by omega)]; rfl) | (rw [if_pos (by omega)]; go_simp; rfl)
          simp only [Act.put, List.setIfInBounds_toArray, List.set_cons_zero, List.set_cons_succ]
          refine ord_quietL _ ?_ rfl hS rfl ?_ ?_
          rotate_left
          · rintro w' ⟨hn, h0, h1, h2, h3, h4, h5, h6, h7, h8, h9⟩; go_simp; first | rfl | (rw [if_pos (by omega)]; done) | (rw [if_pos (by omega)]; rfl) | (rw [if_pos (by omega)]; go_simp; rfl)
          simp only [Act.put, List.setIfInBounds_toArray, List.set_cons_zero, List.set_cons_succ]
          refine ord_quietL _ ?_ rfl hS rfl ?_ ?_
          rotate_left
          · rintro w' ⟨hn, h0, h1, h2, h3, h4, h5, h6, h7, h8, h9⟩; go_simp; first | rfl | (rw [if_pos (by omega)]; done) | (rw [if_pos (by omega)]; rfl) | (rw [if_pos (by omega)]; go_simp; rfl)
          simp only [Act.put, List.setIfInBounds_toArray, List.set_cons_zero, List.set_cons_succ]
          refine ord_quietL _ ?_ rfl hS rfl ?_ ?_
          rotate_left
          · rintro w' ⟨hn, h0, h1, h2, h3, h4, h5, h6, h7, h8, h9⟩; go_simp; first | rfl | (rw [if_pos (by omega)]; done) | (rw [if_pos (by omega)]; rfl) | (rw [if_pos (by omega)]; go_simp; rfl)
          simp only [Act.put, List.setIfInBounds_toArray, List.set_cons_zero, List.set_cons_succ]
          refine ord_quietL _ ?_ rfl hS rfl ?_ ?_
          rotate_left
          · rintro w' ⟨hn, h0, h1, h2, h3, h4, h5, h6, h7, h8, h9⟩; go_simp; first | rfl | (rw [if_pos (by omega)]; done) | (rw [if_pos (by omega)]; rfl) | (rw [if_pos (by omega)]; go_simp; rfl)
          simp only [Act.put, List.setIfInBounds_toArray, List.set_cons_zero, List.set_cons_succ]
          refine ord_quietL _ ?_ rfl hS rfl ?_ ?_
          rotate_left
          · rintro w' ⟨hn, h0, h1, h2, h3, h4, h5, h6, h7, h8, h9⟩; go_simp; first | rfl | (rw [if_pos (by omega)]; done) | (rw [if_pos (by omega)]; rfl) | (rw [if_pos (by omega)]; go_simp; rfl)
          simp only [Act.put, List.setIfInBounds_toArray, List.set_cons_zero, List.set_cons_succ]
          refine ord_actL _ rfl (fun K1 hK1 => ?_)
          have hcon : Hid _ := c_leq z0 z1 y6 (e0.nw m6) (e1.nw m6) (by omega) (by omega)
          unfold labV at hcon
          go_wp2_with (go_at_call 18; refine Calls.mono hcon.out ?_; rintro e y7 ⟨b1, rfl, q1, qn⟩)
          have m7 := nw_trans m6 qn
          have s1 : Hid _ := q1
          clear q1
          refine hK1 _ _ (hSofH.out _ m7) ?_
          clear hK1 K1 hcon qn hS
          have hS := hSofH.out _ m7
          refine ord_actL _ rfl (fun K1 hK1 => ?_)
          have hcon : Hid _ := c_join z0 z1 y7 (e0.nw m7) (e1.nw m7) (by omega)
          unfold labV at hcon
          go_wp2_with (go_at_call 21; refine Calls.mono hcon.out ?_; rintro e y8 ⟨p, yp, rfl, tp1, tp2, tp3, tp4, qn⟩)
          have m8 := nw_trans m7 qn
          obtain ⟨pa, pc, rfl, _, _⟩ := tp1.form
          replace tp1 := tp1.any
          replace tp3 : Hid _ := tp3
          clear tp2
          refine hK1 _ _ (hSofH.out _ m8) ?_
          clear hK1 K1 hcon qn hS
          have hS := hSofH.out _ m8
          refine ord_actL _ rfl (fun K1 hK1 => ?_)
          have hcon : Hid _ := c_same (max z0 z1) z1 y8 tp1 (e1.nw m8) (by omega) (by omega)
          unfold labV at hcon
          go_wp2_with (go_at_call 20; refine Calls.mono hcon.out ?_; rintro e y9 ⟨b2, rfl, q1, qn⟩)
          have m9 := nw_trans m8 qn
          have hb : b1 = b2 := Bool.eq_iff_iff.2 ⟨fun h => q1.2 (same_iff.2 (fun id => by rw [tp3.out id]; have := leq_iff.1 (s1.out.1 h) id; omega)), fun h => s1.out.2 (leq_iff.2 (fun id => by have := same_iff.1 (q1.1 h) id; rw [tp3.out id] at this; omega))⟩
          subst hb
          clear q1 tp1 tp3 s1
          refine hK1 _ _ (hSofH.out _ m9) ?_
          clear hK1 K1 hcon qn hS
          have hS := hSofH.out _ m9
          have hbb : (b1 == b1) = true := by simp
          refine ord_quietL _ ?_ rfl hS rfl ?_ ?_
          rotate_left
          · rintro w' ⟨hn, h0, h1, h2, h3, h4, h5, h6, h7, h8, h9⟩; go_simp; first | rfl | (rw [if_pos (by omega)]; done) | (rw [if_pos (by omega)]; rfl) | (rw [if_pos (by omega)]; go_simp; rfl)
          simp only [Act.put, List.setIfInBounds_toArray, List.set_cons_zero, List.set_cons_succ]
          refine ord_quietL _ ?_ rfl hS rfl ?_ ?_
          rotate_left
          · rintro w' ⟨hn, h0, h1, h2, h3, h4, h5, h6, h7, h8, h9⟩; go_simp; first | rfl | (rw [if_pos (by omega)]; done) | (rw [if_pos (by omega)]; rfl) | (rw [if_pos (by omega)]; go_simp; rfl)
          simp only [Act.put, List.setIfInBounds_toArray, List.set_cons_zero, List.set_cons_succ]
          refine ord_tail ?_
          simp only [List.drop_succ_cons, List.drop_zero]
          have hfin := nw_trans nwU m9
          go_wp2
          go_ret
          exact ⟨by first | rfl | simp, hfin⟩
end Go.Proofs.Ytkjmlgdaopafhaa
