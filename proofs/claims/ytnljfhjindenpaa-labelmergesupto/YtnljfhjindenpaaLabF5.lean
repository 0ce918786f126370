/-
  LabelMerges' walk.
-/
import Derived.Test.YtnljfhjindenpaaLabA1
import Derived.Test.YtnljfhjindenpaaLabR7
import Derived.Test.YtnljfhjindenpaaLabR8
import Derived.Test.YtnljfhjindenpaaLabR9
import Derived.Test.YtnljfhjindenpaaLabI8
import Derived.Test.YtnljfhjindenpaaLibGrow2
namespace Go.Proofs.Ytnljfhjindenpaa
set_option linter.unusedVariables false
set_option linter.unusedSimpArgs false
set_option maxRecDepth 20000
open Go.RowKit

/-- Two labels copied, and two variables for them, in whatever order. -/
def FO (W : World) (z0 z1 : Int) (x0 x1 : List Cat) : Nat → Value → Nat → Nat → World → Prop
  | 1 => fun v lo hi w => ∃ u, v = labV z0 u ∧ CSl (fun b => lo ≤ b ∧ b < hi) w u x0
  | 3 => fun v lo hi w => ∃ u, v = labV z1 u ∧ CSl (fun b => lo ≤ b ∧ b < hi) w u x1
  | 4 => fun v lo hi w => v = .pointer (some ⟨lo, 0, none⟩) ∧ lo < hi ∧ W.heap.size ≤ lo ∧ w.heap[lo]? = some (.cells #[.int .i64 0, .slice none 0 0] 24 (0, 0))
  | 5 => fun v lo hi w => v = .pointer (some ⟨lo, 0, none⟩) ∧ lo < hi ∧ W.heap.size ≤ lo ∧ w.heap[lo]? = some (.cells #[.int .i64 0, .slice none 0 0] 24 (0, 0))
  | _ => fun _ _ _ _ => True

set_option maxRecDepth 20000 in
set_option maxHeartbeats 6400000 in
theorem c_merges {X Y : Nat → Prop} {u0 u1 : Value} {x0 x1 : List Cat} (z0 z1 : Int) (c : Cat) (w : World) (w0 : CSl X w u0 x0) (w1 : CSl Y w u1 x1) (l0 : x0.length ≤ 1048576) (l1 : x1.length ≤ 1048576) :
    Calls Try.prog 3 #[labV z0 u0, labV z1 u1, catV c] w fun e w' => e = .returned (.bool true) ∧ Nw w w' := by
  obtain ⟨aa, ac, rfl, ha1, ha2⟩ := w0.form
  obtain ⟨ba, bc, rfl, hb1, hb2⟩ := w1.form
  obtain ⟨c1, c2⟩ := c
  obtain ⟨W, hW⟩ : ∃ W, Hid (W = (((w.alloc (.cells #[.int .i64 z0, .slice aa x0.length ac] 24)).alloc (.cells #[.int .i64 z1, .slice ba x1.length bc] 24)).alloc (.cells #[.int .u64 c1, .int .i64 c2] 27))) := ⟨_, rfl⟩
  have nW : Nw w W := by rw [hW.out]; exact nw_alloc (nw_alloc (nw_alloc (nw_refl w) _) _) _
  have hA : W.heap[w.heap.size]? = some (.cells #[.int .i64 z0, .slice aa x0.length ac] 24 (0, 0)) := by
    rw [hW.out, Below.heap_alloc _ _ _ (by simp; try omega)]; exact heap_alloc2_old w _ _
  have hB : W.heap[w.heap.size + 1]? = some (.cells #[.int .i64 z1, .slice ba x1.length bc] 24 (0, 0)) := by
    rw [hW.out, Below.heap_alloc _ _ _ (by simp; try omega)]; exact heap_alloc2_new w _ _
  have hC : W.heap[w.heap.size + 1 + 1]? = some (.cells #[.int .u64 c1, .int .i64 c2] 27 (0, 0)) := by
    rw [hW.out]
    have := heap_alloc_new ((w.alloc (.cells #[.int .i64 z0, .slice aa x0.length ac] 24)).alloc (.cells #[.int .i64 z1, .slice ba x1.length bc] 24)) (.cells #[.int .u64 c1, .int .i64 c2] 27)
    simpa using this
  have e0 := w0.nw nW
  have e1 := w1.nw nW
  unfold labV catV
  go_enter Try.func3, Try.ntmps3
  go_upto_region 1 with fail
  rw [← hW.out]
  clear hW w0 w1
  have hNl := heap_lt hC
  generalize hNN : w.heap.size = N at *
  replace hNN : Hid _ := hNN
  have hSof : ∀ w', Nw W w' → (fun w' : World => Nw W w' ∧ w'.cell? ⟨N, 0, none⟩ = some (.int .i64 z0) ∧ w'.cell? ⟨N, 1, none⟩ = some (.slice aa x0.length ac) ∧ w'.cell? ⟨N + 1, 0, none⟩ = some (.int .i64 z1) ∧ w'.cell? ⟨N + 1, 1, none⟩ = some (.slice ba x1.length bc)) w' := fun w' hw => ⟨hw, cell_blk ((hw.block _ (heap_lt hA) (fun h => h)).trans hA) rfl, cell_blk ((hw.block _ (heap_lt hA) (fun h => h)).trans hA) rfl, cell_blk ((hw.block _ (heap_lt hB) (fun h => h)).trans hB) rfl, cell_blk ((hw.block _ (heap_lt hB) (fun h => h)).trans hB) rfl⟩
  have hW0 : Nw W W.drew := Fr.drew (Fr.refl _ W)
  have hS := hSof _ hW0
  have hgrp : Hid (∀ w', Nw W w' → (Calls Try.prog 9 #[.agg #[.int .i64 z0, .slice aa x0.length ac]] w' fun e w'' => ∃ u, e = .returned (labV z0 u) ∧ CSl (fun b => w'.heap.size ≤ b) w'' u x0 ∧ Nw w' w'') ∧ (Calls Try.prog 9 #[.agg #[.int .i64 z1, .slice ba x1.length bc]] w' fun e w'' => ∃ u, e = .returned (labV z1 u) ∧ CSl (fun b => w'.heap.size ≤ b) w'' u x1 ∧ Nw w' w'')) := fun w' hw => ⟨c_copy z0 w' (e0.nw hw) (by omega), c_copy z1 w' (e1.nw hw) (by omega)⟩
  refine wp_region_plan [] 6 [(0, []), (2, []), (0, [(1, []), (3, [1]), (4, []), (5, [])])] (fun w' : World => Nw W w' ∧ w'.cell? ⟨N, 0, none⟩ = some (.int .i64 z0) ∧ w'.cell? ⟨N, 1, none⟩ = some (.slice aa x0.length ac) ∧ w'.cell? ⟨N + 1, 0, none⟩ = some (.int .i64 z1) ∧ w'.cell? ⟨N + 1, 1, none⟩ = some (.slice ba x1.length bc)) (by kernel_rfl) (by kernel_rfl) ?_
  refine plan_quiet _ ?_ rfl hS rfl ?_ ?_
  rotate_left
  · rintro w' ⟨hn, h0, h1, h2, h3⟩; go_simp; first | rfl | (rw [if_pos (by omega)]; done) | (rw [if_pos (by omega)]; rfl) | (rw [if_pos (by omega)]; go_simp; rfl)
  simp only [Act.put, List.setIfInBounds_toArray, List.set_cons_zero, List.set_cons_succ]
  refine plan_quiet _ ?_ rfl hS rfl ?_ ?_
  rotate_left
  · rintro w' ⟨hn, h0, h1, h2, h3⟩; go_simp; first | rfl | (rw [if_pos (by omega)]; done) | (rw [if_pos (by omega)]; rfl) | (rw [if_pos (by omega)]; go_simp; rfl)
  simp only [Act.put, List.setIfInBounds_toArray, List.set_cons_zero, List.set_cons_succ]
  refine plan_group2 (fun | 1 => 10 | 3 => 12 | 4 => 7 | 5 => 8 | _ => 0) (FO W z0 z1 x0 x1) Nw (by decide) (by decide) (by decide) (fun a b ha hb => hSof b (nw_trans ha.1 hb)) (fun a b h => h.size) ?FG hS ?steps ?fin
  case FG =>
    intro p hp v lo hi w1 w2 h1 h2
    simp only [List.mem_cons, List.not_mem_nil, or_false] at hp
    rcases hp with rfl | rfl | rfl | rfl
    · obtain ⟨u, q1, q2⟩ := h1
      exact ⟨u, q1, q2.nw h2⟩
    · obtain ⟨u, q1, q2⟩ := h1
      exact ⟨u, q1, q2.nw h2⟩
    · obtain ⟨q1, q2, q3, q4⟩ := h1
      exact ⟨q1, q2, q3, (h2.block _ (heap_lt q4) (fun h => h)).trans q4⟩
    · obtain ⟨q1, q2, q3, q4⟩ := h1
      exact ⟨q1, q2, q3, (h2.block _ (heap_lt q4) (fun h => h)).trans q4⟩
  case steps =>
    intro p hp x lo hi w2 hS2 hd
    simp only [List.mem_cons, List.not_mem_nil, or_false] at hp
    have hws := hS2.1.size
    rcases hp with rfl | rfl | rfl | rfl
    · refine ⟨_, rfl, fun K hK => ?_⟩
      simp only [putAll, Act.put, List.setIfInBounds_toArray, List.set_cons_zero, List.set_cons_succ] at hK ⊢
      have hcon := (hgrp.out w2 hS2.1).1
      clear hd hS
      go_wp2_with (go_at_call 9; refine Calls.mono hcon ?_; rintro e w3 ⟨u, rfl, q1, q5⟩; refine stop_here ?_)
      unfold Hid
      obtain ⟨ja, jc, rfl, _, _⟩ := q1.form
      unfold labV
      go_wp2
      exact hK _ _ q5 ⟨_, rfl, q1.mono (fun b hb h => ⟨hb, h⟩)⟩
    · refine ⟨_, rfl, fun K hK => ?_⟩
      simp only [putAll, Act.put, List.setIfInBounds_toArray, List.set_cons_zero, List.set_cons_succ] at hK ⊢
      have hcon := (hgrp.out w2 hS2.1).2
      clear hd hS
      go_wp2_with (go_at_call 9; refine Calls.mono hcon ?_; rintro e w3 ⟨u, rfl, q1, q5⟩; refine stop_here ?_)
      unfold Hid
      obtain ⟨ja, jc, rfl, _, _⟩ := q1.form
      unfold labV
      go_wp2
      exact hK _ _ q5 ⟨_, rfl, q1.mono (fun b hb h => ⟨hb, h⟩)⟩
    · refine ⟨_, rfl, fun K hK => ?_⟩
      simp only [putAll, Act.put, List.setIfInBounds_toArray, List.set_cons_zero, List.set_cons_succ] at hK ⊢
      clear hd hS
      go_wp2
      exact hK _ _ (nw_alloc (nw_refl w2) _) ⟨rfl, by simp, hws, heap_alloc_new w2 _⟩
    · refine ⟨_, rfl, fun K hK => ?_⟩
      simp only [putAll, Act.put, List.setIfInBounds_toArray, List.set_cons_zero, List.set_cons_succ] at hK ⊢
      clear hd hS
      go_wp2
      exact hK _ _ (nw_alloc (nw_refl w2) _) ⟨rfl, by simp, hws, heap_alloc_new w2 _⟩
  case fin =>
    intro x lo hi w2 hS2 hF hR
    obtain ⟨⟨uj, hj1, hj2⟩, hj6⟩ := hF (1, []) (by simp)
    obtain ⟨⟨um, hm1, hm2⟩, hm6⟩ := hF (3, [1]) (by simp)
    obtain ⟨⟨p1, p2, p3, p4⟩, p5⟩ := hF (4, []) (by simp)
    obtain ⟨⟨q1, q2, q3, q4⟩, q5⟩ := hF (5, []) (by simp)
    have r26 := hR (1, []) (by simp) (4, []) (by simp) (by decide)
    have r27 := hR (1, []) (by simp) (5, []) (by simp) (by decide)
    have r56 := hR (3, [1]) (by simp) (4, []) (by simp) (by decide)
    have r57 := hR (3, [1]) (by simp) (5, []) (by simp) (by decide)
    have r67 := hR (4, []) (by simp) (5, []) (by simp) (by decide)
    simp only at hj1 hj2 hj6 hm1 hm2 hm6 p1 p2 p3 p4 p5 q1 q2 q3 q4 q5 r26 r27 r56 r57 r67
    obtain ⟨ja, jc, rfl, _, _⟩ := hj2.form
    obtain ⟨ma, mc, rfl, _, _⟩ := hm2.form
    refine plan_tail ?_
    simp only [putAll, Act.put, List.setIfInBounds_toArray, List.set_cons_zero, List.set_cons_succ, List.drop_succ_cons, List.drop_zero, hj1, hm1, p1, q1]
    generalize lo 4 = gj at *
    generalize lo 5 = gm at *
    generalize hi 4 = hj at *
    generalize hi 5 = hm at *
    generalize lo 1 = l2' at *
    generalize hi 1 = h2' at *
    generalize lo 3 = l5' at *
    generalize hi 3 = h5' at *
    clear hF hR hj1 hm1 p1 q1
    have hne : gj ≠ gm := by omega
    obtain ⟨U, hU⟩ : ∃ U, Hid (U = (((w2.setCell ⟨gj, 0, none⟩ (.int .i64 z0)).setCell ⟨gj, 1, none⟩ (.slice ja x0.length jc)).setCell ⟨gm, 0, none⟩ (.int .i64 z1)).setCell ⟨gm, 1, none⟩ (.slice ma x1.length mc)) := ⟨_, rfl⟩
    have hfA : Fr (fun k => k = gj) w2 ((w2.setCell ⟨gj, 0, none⟩ (.int .i64 z0)).setCell ⟨gj, 1, none⟩ (.slice ja x0.length jc)) := ((Fr.refl (fun k => k = gj) w2).setCell (p := ⟨gj, 0, none⟩) (.inl rfl) _).setCell (p := ⟨gj, 1, none⟩) (.inl rfl) _
    have hA1 : ((w2.setCell ⟨gj, 0, none⟩ (.int .i64 z0)).setCell ⟨gj, 1, none⟩ (.slice ja x0.length jc)).heap[gj]? = some (.cells #[.int .i64 z0, .slice ja x0.length jc] 24 (0, 0)) := by rw [blk_setCell (blk_setCell p4)]; rfl
    have hA2 : ((w2.setCell ⟨gj, 0, none⟩ (.int .i64 z0)).setCell ⟨gj, 1, none⟩ (.slice ja x0.length jc)).heap[gm]? = some (.cells #[.int .i64 0, .slice none 0 0] 24 (0, 0)) := (hfA.block gm (heap_lt q4) (fun h => hne h.symm)).trans q4
    have hfB : Fr (fun k => k = gj ∨ k = gm) w2 U := by
      rw [hU.out]
      exact ((hfA.mono (fun k hk => .inl hk)).setCell (p := ⟨gm, 0, none⟩) (.inl (.inr rfl)) _).setCell (p := ⟨gm, 1, none⟩) (.inl (.inr rfl)) _
    have hfC : Fr (fun k => k = gm) ((w2.setCell ⟨gj, 0, none⟩ (.int .i64 z0)).setCell ⟨gj, 1, none⟩ (.slice ja x0.length jc)) U := by
      rw [hU.out]
      exact ((Fr.refl (fun k => k = gm) _).setCell (p := ⟨gm, 0, none⟩) (.inl rfl) _).setCell (p := ⟨gm, 1, none⟩) (.inl rfl) _
    have bJ : U.heap[gj]? = some (.cells #[.int .i64 z0, .slice ja x0.length jc] 24 (0, 0)) := (hfC.block gj (heap_lt hA1) hne).trans hA1
    have bM : U.heap[gm]? = some (.cells #[.int .i64 z1, .slice ma x1.length mc] 24 (0, 0)) := by rw [hU.out, blk_setCell (blk_setCell hA2)]; rfl
    have nU0 := hS2.1
    have bA : U.heap[N]? = _ := (hfB.block N (Nat.lt_of_lt_of_le (heap_lt hA) nU0.size) (by omega)).trans ((nU0.block _ (heap_lt hA) (fun h => h)).trans hA)
    have bB : U.heap[N + 1]? = _ := (hfB.block (N + 1) (Nat.lt_of_lt_of_le (heap_lt hB) nU0.size) (by omega)).trans ((nU0.block _ (heap_lt hB) (fun h => h)).trans hB)
    have bC : U.heap[N + 1 + 1]? = _ := (hfB.block (N + 1 + 1) (Nat.lt_of_lt_of_le (heap_lt hC) nU0.size) (by omega)).trans ((nU0.block _ (heap_lt hC) (fun h => h)).trans hC)
    have nWU : Nw W U := Fr.trans nU0 hfB (fun k hk => .inr (by rcases hk with rfl | rfl <;> omega))
    have ej : CSl (fun _ => True) U (.slice ja x0.length jc) x0 := hj2.keep hfB (fun b hb _ h => by rcases h with h | h <;> omega) (fun _ _ _ => trivial)
    have em : CSl (fun _ => True) U (.slice ma x1.length mc) x1 := hm2.keep hfB (fun b hb _ h => by rcases h with h | h <;> omega) (fun _ _ _ => trivial)
    replace e0 := e0.nw nWU
    replace e1 := e1.nw nWU
    have c1' : w2.cell? ⟨gj, 0, none⟩ = some (.int .i64 0) := cell_blk p4 rfl
    have c2' : w2.cell? ⟨gj, 1, none⟩ = some (.slice none 0 0) := cell_blk p4 rfl
    have c3' : w2.cell? ⟨gm, 0, none⟩ = some (.int .i64 0) := cell_blk q4 rfl
    have c4' : w2.cell? ⟨gm, 1, none⟩ = some (.slice none 0 0) := cell_blk q4 rfl
    have f1 : ∀ k, w2.frozen? ⟨gj, k, none⟩ = false := fun k => free_blk p4
    have f2 : ∀ k, w2.frozen? ⟨gm, k, none⟩ = false := fun k => free_blk q4
    have hne2 : gm ≠ gj := fun h => hne h.symm
    have nwU := nw_trans nW nWU
    clear hj2 hm2 hfA hA1 hA2 hfB hfC p4 q4 nU0 hS2 hgrp hS hW0 hSof hA hB hC nWU nW r26 r27 r56 r57 r67 hj6 hm6 p2 p3 p5 q2 q3 q5
    unfold labV
    go_upto_region 2 with fail
    rw [← hU.out]
    clear hU c1' c2' c3' c4' f1 f2
    obtain ⟨D, hD⟩ : ∃ D, Hid (max z0 z1 = D) := ⟨_, rfl⟩
    obtain ⟨E, hE⟩ : ∃ E, Hid (min z0 z1 = E) := ⟨_, rfl⟩
    obtain ⟨R, hR⟩ : ∃ R, Hid (tn 0 5 z0 = R) := ⟨_, rfl⟩
    obtain ⟨T, hT⟩ : ∃ T, Hid (tn 5 0 z0 = T) := ⟨_, rfl⟩
    have hSof : ∀ w', Nw U w' → (fun w' : World => Nw U w' ∧ w'.cell? ⟨N, 0, none⟩ = some (.int .i64 z0) ∧ w'.cell? ⟨N, 1, none⟩ = some (.slice aa x0.length ac) ∧ w'.cell? ⟨N + 1, 0, none⟩ = some (.int .i64 z1) ∧ w'.cell? ⟨N + 1, 1, none⟩ = some (.slice ba x1.length bc) ∧ w'.cell? ⟨N + 1 + 1, 0, none⟩ = some (.int .u64 c1) ∧ w'.cell? ⟨N + 1 + 1, 1, none⟩ = some (.int .i64 c2) ∧ w'.cell? ⟨gj, 0, none⟩ = some (.int .i64 z0) ∧ w'.cell? ⟨gj, 1, none⟩ = some (.slice ja x0.length jc) ∧ w'.cell? ⟨gm, 0, none⟩ = some (.int .i64 z1) ∧ w'.cell? ⟨gm, 1, none⟩ = some (.slice ma x1.length mc)) w' := fun w' hw => ⟨hw, cell_blk ((hw.block _ (heap_lt bA) (fun h => h)).trans bA) rfl, cell_blk ((hw.block _ (heap_lt bA) (fun h => h)).trans bA) rfl, cell_blk ((hw.block _ (heap_lt bB) (fun h => h)).trans bB) rfl, cell_blk ((hw.block _ (heap_lt bB) (fun h => h)).trans bB) rfl, cell_blk ((hw.block _ (heap_lt bC) (fun h => h)).trans bC) rfl, cell_blk ((hw.block _ (heap_lt bC) (fun h => h)).trans bC) rfl, cell_blk ((hw.block _ (heap_lt bJ) (fun h => h)).trans bJ) rfl, cell_blk ((hw.block _ (heap_lt bJ) (fun h => h)).trans bJ) rfl, cell_blk ((hw.block _ (heap_lt bM) (fun h => h)).trans bM) rfl, cell_blk ((hw.block _ (heap_lt bM) (fun h => h)).trans bM) rfl⟩
    have hW0 : Nw U U.drew := Fr.drew (Fr.refl _ U)
    have hS := hSof _ hW0
    replace e0 := e0.nw hW0
    replace e1 := e1.nw hW0
    replace ej := ej.nw hW0
    replace em := em.nw hW0
    replace hSof : Hid _ := hSof
    refine wp_region_ord [] 21 [(0, false), (1, true), (2, true), (3, true), (4, true), (6, true), (7, true), (5, false), (8, false), (9, false), (10, true), (11, true), (12, true), (13, true), (14, true), (16, true), (17, true), (15, false), (18, false), (19, false), (20, true)] (fun w' : World => Nw U w' ∧ w'.cell? ⟨N, 0, none⟩ = some (.int .i64 z0) ∧ w'.cell? ⟨N, 1, none⟩ = some (.slice aa x0.length ac) ∧ w'.cell? ⟨N + 1, 0, none⟩ = some (.int .i64 z1) ∧ w'.cell? ⟨N + 1, 1, none⟩ = some (.slice ba x1.length bc) ∧ w'.cell? ⟨N + 1 + 1, 0, none⟩ = some (.int .u64 c1) ∧ w'.cell? ⟨N + 1 + 1, 1, none⟩ = some (.int .i64 c2) ∧ w'.cell? ⟨gj, 0, none⟩ = some (.int .i64 z0) ∧ w'.cell? ⟨gj, 1, none⟩ = some (.slice ja x0.length jc) ∧ w'.cell? ⟨gm, 0, none⟩ = some (.int .i64 z1) ∧ w'.cell? ⟨gm, 1, none⟩ = some (.slice ma x1.length mc)) (by kernel_rfl) (by kernel_rfl) ?_
    refine ord_actL _ rfl (fun K1 hK1 => ?_)
    have hcon : Hid _ := c_alive U.drew
    skip
    go_wp2_with (go_at_call 10; refine Calls.mono hcon.out ?_; rintro e wk0 ⟨rfl, qn⟩)
    have m0 := nw_trans hW0 qn
    replace e0 := e0.nw qn
    replace e1 := e1.nw qn
    replace ej := ej.nw qn
    replace em := em.nw qn
    refine hK1 _ _ (hSof.out _ m0) ?_
    clear hK1 K1 hcon qn hS hW0
    have hS := hSof.out _ m0
    refine ord_quietL _ ?_ rfl hS rfl ?_ ?_
    rotate_left
    · rintro w' ⟨hn, h0, h1, h2, h3, h4, h5, h6, h7, h8, h9⟩; go_simp; first | rfl | (rw [if_pos (by omega)]; done) | (rw [if_pos (by omega)]; rfl) | (rw [if_pos (by omega)]; go_simp; rfl)
    simp only [Act.put, List.setIfInBounds_toArray, List.set_cons_zero, List.set_cons_succ]
    refine ord_quietL _ ?_ rfl hS rfl ?_ ?_
    rotate_left
    · rintro w' ⟨hn, h0, h1, h2, h3, h4, h5, h6, h7, h8, h9⟩; go_simp; first | rfl | (rw [if_pos (by omega)]; done) | (rw [if_pos (by omega)]; rfl) | (rw [if_pos (by omega)]; go_simp; rfl)
    simp only [Act.put, List.setIfInBounds_toArray, List.set_cons_zero, List.set_cons_succ]
    refine ord_quietL _ ?_ rfl hS rfl ?_ ?_
    rotate_left
    · rintro w' ⟨hn, h0, h1, h2, h3, h4, h5, h6, h7, h8, h9⟩; go_simp; first | rfl | (rw [if_pos (by omega)]; done) | (rw [if_pos (by omega)]; rfl) | (rw [if_pos (by omega)]; go_simp; rfl)
    simp only [Act.put, List.setIfInBounds_toArray, List.set_cons_zero, List.set_cons_succ]
    refine ord_quietL _ ?_ rfl hS rfl ?_ ?_
    rotate_left
    · rintro w' ⟨hn, h0, h1, h2, h3, h4, h5, h6, h7, h8, h9⟩; go_simp; first | rfl | (rw [if_pos (by omega)]; done) | (rw [if_pos (by omega)]; rfl) | (rw [if_pos (by omega)]; go_simp; rfl)
    simp only [Act.put, List.setIfInBounds_toArray, List.set_cons_zero, List.set_cons_succ]
    refine ord_quietL _ ?_ rfl hS rfl ?_ ?_
    rotate_left
    · rintro w' ⟨hn, h0, h1, h2, h3, h4, h5, h6, h7, h8, h9⟩; go_simp; first | rfl | (rw [if_pos (by omega)]; done) | (rw [if_pos (by omega)]; rfl) | (rw [if_pos (by omega)]; go_simp; rfl)
    simp only [Act.put, List.setIfInBounds_toArray, List.set_cons_zero, List.set_cons_succ]
    refine ord_quietL _ ?_ rfl hS rfl ?_ ?_
    rotate_left
    · rintro w' ⟨hn, h0, h1, h2, h3, h4, h5, h6, h7, h8, h9⟩; go_simp; first | rfl | (rw [if_pos (by omega)]; done) | (rw [if_pos (by omega)]; rfl) | (rw [if_pos (by omega)]; go_simp; rfl)
    simp only [Act.put, List.setIfInBounds_toArray, List.set_cons_zero, List.set_cons_succ]
    refine ord_actL _ rfl (fun K1 hK1 => ?_)
    have hcon : Hid _ := c_join z0 z1 wk0 ej em (by omega)
    unfold MadeL at hcon
    rw [hD.out] at hcon
    unfold labV at hcon
    go_wp2_with (go_at_call 12; refine Calls.mono hcon.out ?_; rintro e wk1 ⟨u3, y3, rfl, q1, q2, q3, q4, qn⟩)
    have m1 := nw_trans m0 qn
    replace e0 := e0.nw qn
    replace e1 := e1.nw qn
    replace ej := ej.nw qn
    replace em := em.nw qn
    obtain ⟨a3, c3, rfl, _, _⟩ := q1.form
    have e3 := q1.any
    have g3 : Hid _ := And.intro q2 q3
    refine hK1 _ _ (hSof.out _ m1) ?_
    clear hK1 K1 hcon qn hS m0 q1 q2 q3 q4
    have hS := hSof.out _ m1
    refine ord_actL _ rfl (fun K1 hK1 => ?_)
    have hcon : Hid _ := c_rmerge true z0 z1 wk1 e0 e1 (by omega)
    simp only [pk_max, pk_min] at hcon
    unfold MadeL at hcon
    rw [hD.out] at hcon
    unfold labV at hcon
    go_wp2_with (go_at_call 13; refine Calls.mono hcon.out ?_; rintro e wk2 ⟨u4, y4, rfl, q1, q2, q3, q4, qn⟩)
    have m2 := nw_trans m1 qn
    replace e0 := e0.nw qn
    replace e1 := e1.nw qn
    replace ej := ej.nw qn
    replace em := em.nw qn
    replace e3 := e3.nw qn
    obtain ⟨a4, c4, rfl, _, _⟩ := q1.form
    have e4 := q1.any
    have g4 : Hid _ := And.intro q2 q3
    refine hK1 _ _ (hSof.out _ m2) ?_
    clear hK1 K1 hcon qn hS m1 q1 q2 q3 q4
    have hS := hSof.out _ m2
    refine ord_actL _ rfl (fun K1 hK1 => ?_)
    have hcon : Hid _ := c_exact D D wk2 e3 e4
    unfold labV at hcon
    go_wp2_with (go_at_call 11; refine Calls.mono hcon.out ?_; rintro e wk3 ⟨r, rfl, q1, qn⟩)
    have m3 := nw_trans m2 qn
    replace e0 := e0.nw qn
    replace e1 := e1.nw qn
    replace ej := ej.nw qn
    replace em := em.nw qn
    replace e3 := e3.nw qn
    replace e4 := e4.nw qn
    have hr : r = true := q1.2 ⟨by first | rfl | trivial, form_unique g3.out.1 g4.out.1 (fun id => (g3.out.2 id).trans (g4.out.2 id).symm)⟩
    subst hr
    refine hK1 _ _ (hSof.out _ m3) ?_
    clear hK1 K1 hcon qn hS m2 q1 g3 g4 e3 e4
    have hS := hSof.out _ m3
    refine ord_quietL _ ?_ rfl hS rfl ?_ ?_
    rotate_left
    · rintro w' ⟨hn, h0, h1, h2, h3, h4, h5, h6, h7, h8, h9⟩; go_simp; first | rfl | (rw [if_pos (by omega)]; done) | (rw [if_pos (by omega)]; rfl) | (rw [if_pos (by omega)]; go_simp; rfl)
    simp only [Act.put, List.setIfInBounds_toArray, List.set_cons_zero, List.set_cons_succ]
    refine ord_quietL _ ?_ rfl hS rfl ?_ ?_
    rotate_left
    · rintro w' ⟨hn, h0, h1, h2, h3, h4, h5, h6, h7, h8, h9⟩; go_simp; first | rfl | (rw [if_pos (by omega)]; done) | (rw [if_pos (by omega)]; rfl) | (rw [if_pos (by omega)]; go_simp; rfl)
    simp only [Act.put, List.setIfInBounds_toArray, List.set_cons_zero, List.set_cons_succ]
    refine ord_quietL _ ?_ rfl hS rfl ?_ ?_
    rotate_left
    · rintro w' ⟨hn, h0, h1, h2, h3, h4, h5, h6, h7, h8, h9⟩; go_simp; first | rfl | (rw [if_pos (by omega)]; done) | (rw [if_pos (by omega)]; rfl) | (rw [if_pos (by omega)]; go_simp; rfl)
    simp only [Act.put, List.setIfInBounds_toArray, List.set_cons_zero, List.set_cons_succ]
    refine ord_quietL _ ?_ rfl hS rfl ?_ ?_
    rotate_left
    · rintro w' ⟨hn, h0, h1, h2, h3, h4, h5, h6, h7, h8, h9⟩; go_simp; first | rfl | (rw [if_pos (by omega)]; done) | (rw [if_pos (by omega)]; rfl) | (rw [if_pos (by omega)]; go_simp; rfl)
    simp only [Act.put, List.setIfInBounds_toArray, List.set_cons_zero, List.set_cons_succ]
    refine ord_quietL _ ?_ rfl hS rfl ?_ ?_
    rotate_left
    · rintro w' ⟨hn, h0, h1, h2, h3, h4, h5, h6, h7, h8, h9⟩; go_simp; first | rfl | (rw [if_pos (by omega)]; done) | (rw [if_pos (by omega)]; rfl) | (rw [if_pos (by omega)]; go_simp; rfl)
    simp only [Act.put, List.setIfInBounds_toArray, List.set_cons_zero, List.set_cons_succ]
    refine ord_quietL _ ?_ rfl hS rfl ?_ ?_
    rotate_left
    · rintro w' ⟨hn, h0, h1, h2, h3, h4, h5, h6, h7, h8, h9⟩; go_simp; first | rfl | (rw [if_pos (by omega)]; done) | (rw [if_pos (by omega)]; rfl) | (rw [if_pos (by omega)]; go_simp; rfl)
    simp only [Act.put, List.setIfInBounds_toArray, List.set_cons_zero, List.set_cons_succ]
    refine ord_quietL _ ?_ rfl hS rfl ?_ ?_
    rotate_left
    · rintro w' ⟨hn, h0, h1, h2, h3, h4, h5, h6, h7, h8, h9⟩; go_simp; first | rfl | (rw [if_pos (by omega)]; done) | (rw [if_pos (by omega)]; rfl) | (rw [if_pos (by omega)]; go_simp; rfl)
    simp only [Act.put, List.setIfInBounds_toArray, List.set_cons_zero, List.set_cons_succ]
    refine ord_actL _ rfl (fun K1 hK1 => ?_)
    have hcon : Hid _ := c_meet z0 z1 wk3 ej em (by omega)
    unfold MadeL at hcon
    rw [hE.out] at hcon
    unfold labV at hcon
    go_wp2_with (go_at_call 14; refine Calls.mono hcon.out ?_; rintro e wk4 ⟨u3, y3, rfl, q1, q2, q3, q4, qn⟩)
    have m4 := nw_trans m3 qn
    replace e0 := e0.nw qn
    replace e1 := e1.nw qn
    replace ej := ej.nw qn
    replace em := em.nw qn
    obtain ⟨a3, c3, rfl, _, _⟩ := q1.form
    have e3 := q1.any
    have g3 : Hid _ := And.intro q2 q3
    refine hK1 _ _ (hSof.out _ m4) ?_
    clear hK1 K1 hcon qn hS m3 q1 q2 q3 q4
    have hS := hSof.out _ m4
    refine ord_actL _ rfl (fun K1 hK1 => ?_)
    have hcon : Hid _ := c_rmerge false z0 z1 wk4 e0 e1 (by omega)
    simp only [pk_max, pk_min] at hcon
    unfold MadeL at hcon
    rw [hE.out] at hcon
    unfold labV at hcon
    go_wp2_with (go_at_call 13; refine Calls.mono hcon.out ?_; rintro e wk5 ⟨u4, y4, rfl, q1, q2, q3, q4, qn⟩)
    have m5 := nw_trans m4 qn
    replace e0 := e0.nw qn
    replace e1 := e1.nw qn
    replace ej := ej.nw qn
    replace em := em.nw qn
    replace e3 := e3.nw qn
    obtain ⟨a4, c4, rfl, _, _⟩ := q1.form
    have e4 := q1.any
    have g4 : Hid _ := And.intro q2 q3
    refine hK1 _ _ (hSof.out _ m5) ?_
    clear hK1 K1 hcon qn hS m4 q1 q2 q3 q4
    have hS := hSof.out _ m5
    refine ord_actL _ rfl (fun K1 hK1 => ?_)
    have hcon : Hid _ := c_exact E E wk5 e3 e4
    unfold labV at hcon
    go_wp2_with (go_at_call 11; refine Calls.mono hcon.out ?_; rintro e wk6 ⟨r, rfl, q1, qn⟩)
    have m6 := nw_trans m5 qn
    replace e0 := e0.nw qn
    replace e1 := e1.nw qn
    replace ej := ej.nw qn
    replace em := em.nw qn
    replace e3 := e3.nw qn
    replace e4 := e4.nw qn
    have hr : r = true := q1.2 ⟨by first | rfl | trivial, form_unique g3.out.1 g4.out.1 (fun id => (g3.out.2 id).trans (g4.out.2 id).symm)⟩
    subst hr
    refine hK1 _ _ (hSof.out _ m6) ?_
    clear hK1 K1 hcon qn hS m5 q1 g3 g4 e3 e4
    have hS := hSof.out _ m6
    refine ord_quietL _ ?_ rfl hS rfl ?_ ?_
    rotate_left
    · rintro w' ⟨hn, h0, h1, h2, h3, h4, h5, h6, h7, h8, h9⟩; go_simp; first | rfl | (rw [if_pos (by omega)]; done) | (rw [if_pos (by omega)]; rfl) | (rw [if_pos (by omega)]; go_simp; rfl)
    simp only [Act.put, List.setIfInBounds_toArray, List.set_cons_zero, List.set_cons_succ]
    refine ord_tail ?_
    simp only [List.drop_succ_cons, List.drop_zero]
    replace nwU := nw_trans nwU m6
    replace bA := (m6.block _ (heap_lt bA) (fun h => h)).trans bA
    replace bB := (m6.block _ (heap_lt bB) (fun h => h)).trans bB
    replace bC := (m6.block _ (heap_lt bC) (fun h => h)).trans bC
    replace bJ := (m6.block _ (heap_lt bJ) (fun h => h)).trans bJ
    replace bM := (m6.block _ (heap_lt bM) (fun h => h)).trans bM
    go_upto_region 4 with fail
    clear m6 hSof hS
    skip
    skip
    have hSof : ∀ w', Nw wk6 w' → (fun w' : World => Nw wk6 w' ∧ w'.cell? ⟨N, 0, none⟩ = some (.int .i64 z0) ∧ w'.cell? ⟨N, 1, none⟩ = some (.slice aa x0.length ac) ∧ w'.cell? ⟨N + 1, 0, none⟩ = some (.int .i64 z1) ∧ w'.cell? ⟨N + 1, 1, none⟩ = some (.slice ba x1.length bc) ∧ w'.cell? ⟨N + 1 + 1, 0, none⟩ = some (.int .u64 c1) ∧ w'.cell? ⟨N + 1 + 1, 1, none⟩ = some (.int .i64 c2) ∧ w'.cell? ⟨gj, 0, none⟩ = some (.int .i64 z0) ∧ w'.cell? ⟨gj, 1, none⟩ = some (.slice ja x0.length jc) ∧ w'.cell? ⟨gm, 0, none⟩ = some (.int .i64 z1) ∧ w'.cell? ⟨gm, 1, none⟩ = some (.slice ma x1.length mc)) w' := fun w' hw => ⟨hw, cell_blk ((hw.block _ (heap_lt bA) (fun h => h)).trans bA) rfl, cell_blk ((hw.block _ (heap_lt bA) (fun h => h)).trans bA) rfl, cell_blk ((hw.block _ (heap_lt bB) (fun h => h)).trans bB) rfl, cell_blk ((hw.block _ (heap_lt bB) (fun h => h)).trans bB) rfl, cell_blk ((hw.block _ (heap_lt bC) (fun h => h)).trans bC) rfl, cell_blk ((hw.block _ (heap_lt bC) (fun h => h)).trans bC) rfl, cell_blk ((hw.block _ (heap_lt bJ) (fun h => h)).trans bJ) rfl, cell_blk ((hw.block _ (heap_lt bJ) (fun h => h)).trans bJ) rfl, cell_blk ((hw.block _ (heap_lt bM) (fun h => h)).trans bM) rfl, cell_blk ((hw.block _ (heap_lt bM) (fun h => h)).trans bM) rfl⟩
    have hW0 : Nw wk6 wk6.drew := Fr.drew (Fr.refl _ wk6)
    have hS := hSof _ hW0
    replace e0 := e0.nw hW0
    replace e1 := e1.nw hW0
    replace ej := ej.nw hW0
    replace em := em.nw hW0
    replace hSof : Hid _ := hSof
    refine wp_region_ord [] 32 [(0, true), (2, true), (1, false), (3, false), (4, false), (5, true), (6, true), (8, true), (7, false), (9, false), (10, false), (11, true), (12, true), (13, true), (14, true), (16, true), (19, true), (20, true), (22, true), (15, true), (17, true), (21, true), (23, true), (18, false), (24, false), (25, false), (26, true), (27, true), (28, true), (29, true), (30, false), (31, true)] (fun w' : World => Nw wk6 w' ∧ w'.cell? ⟨N, 0, none⟩ = some (.int .i64 z0) ∧ w'.cell? ⟨N, 1, none⟩ = some (.slice aa x0.length ac) ∧ w'.cell? ⟨N + 1, 0, none⟩ = some (.int .i64 z1) ∧ w'.cell? ⟨N + 1, 1, none⟩ = some (.slice ba x1.length bc) ∧ w'.cell? ⟨N + 1 + 1, 0, none⟩ = some (.int .u64 c1) ∧ w'.cell? ⟨N + 1 + 1, 1, none⟩ = some (.int .i64 c2) ∧ w'.cell? ⟨gj, 0, none⟩ = some (.int .i64 z0) ∧ w'.cell? ⟨gj, 1, none⟩ = some (.slice ja x0.length jc) ∧ w'.cell? ⟨gm, 0, none⟩ = some (.int .i64 z1) ∧ w'.cell? ⟨gm, 1, none⟩ = some (.slice ma x1.length mc)) (by kernel_rfl) (by kernel_rfl) ?_
    refine ord_quietL _ ?_ rfl hS rfl ?_ ?_
    rotate_left
    · rintro w' ⟨hn, h0, h1, h2, h3, h4, h5, h6, h7, h8, h9⟩; go_simp; first | rfl | (rw [if_pos (by omega)]; done) | (rw [if_pos (by omega)]; rfl) | (rw [if_pos (by omega)]; go_simp; rfl)
    simp only [Act.put, List.setIfInBounds_toArray, List.set_cons_zero, List.set_cons_succ]
    refine ord_quietL _ ?_ rfl hS rfl ?_ ?_
    rotate_left
    · rintro w' ⟨hn, h0, h1, h2, h3, h4, h5, h6, h7, h8, h9⟩; go_simp; first | rfl | (rw [if_pos (by omega)]; done) | (rw [if_pos (by omega)]; rfl) | (rw [if_pos (by omega)]; go_simp; rfl)
    simp only [Act.put, List.setIfInBounds_toArray, List.set_cons_zero, List.set_cons_succ]
    refine ord_actL _ rfl (fun K1 hK1 => ?_)
    have hcon : Hid _ := c_raise z0 wk6.drew ej (by omega)
    unfold MadeL at hcon
    rw [hR.out] at hcon
    unfold labV at hcon
    go_wp2_with (go_at_call 15; refine Calls.mono hcon.out ?_; rintro e wk0 ⟨u3, y3, rfl, q1, q2, q3, q4, qn⟩)
    have m0 := nw_trans hW0 qn
    replace e0 := e0.nw qn
    replace e1 := e1.nw qn
    replace ej := ej.nw qn
    replace em := em.nw qn
    obtain ⟨a3, c3, rfl, _, _⟩ := q1.form
    have e3 := q1.any
    have g3 : Hid _ := And.intro q2 q3
    refine hK1 _ _ (hSof.out _ m0) ?_
    clear hK1 K1 hcon qn hS hW0 q1 q2 q3 q4
    have hS := hSof.out _ m0
    refine ord_actL _ rfl (fun K1 hK1 => ?_)
    have hcon : Hid _ := c_rturn z0 0 5 wk0 e0 (by omega)
    unfold MadeL at hcon
    rw [hR.out] at hcon
    unfold labV at hcon
    go_wp2_with (go_at_call 16; refine Calls.mono hcon.out ?_; rintro e wk1 ⟨u4, y4, rfl, q1, q2, q3, q4, qn⟩)
    have m1 := nw_trans m0 qn
    replace e0 := e0.nw qn
    replace e1 := e1.nw qn
    replace ej := ej.nw qn
    replace em := em.nw qn
    replace e3 := e3.nw qn
    obtain ⟨a4, c4, rfl, _, _⟩ := q1.form
    have e4 := q1.any
    have g4 : Hid _ := And.intro q2 q3
    refine hK1 _ _ (hSof.out _ m1) ?_
    clear hK1 K1 hcon qn hS m0 q1 q2 q3 q4
    have hS := hSof.out _ m1
    refine ord_actL _ rfl (fun K1 hK1 => ?_)
    have hcon : Hid _ := c_exact R R wk1 e3 e4
    unfold labV at hcon
    go_wp2_with (go_at_call 11; refine Calls.mono hcon.out ?_; rintro e wk2 ⟨r, rfl, q1, qn⟩)
    have m2 := nw_trans m1 qn
    replace e0 := e0.nw qn
    replace e1 := e1.nw qn
    replace ej := ej.nw qn
    replace em := em.nw qn
    replace e3 := e3.nw qn
    replace e4 := e4.nw qn
    have hr : r = true := q1.2 ⟨by first | rfl | trivial, form_unique g3.out.1 g4.out.1 (fun id => (g3.out.2 id).trans (g4.out.2 id).symm)⟩
    subst hr
    refine hK1 _ _ (hSof.out _ m2) ?_
    clear hK1 K1 hcon qn hS m1 q1 g3 g4 e3 e4
    have hS := hSof.out _ m2
    refine ord_quietL _ ?_ rfl hS rfl ?_ ?_
    rotate_left
    · rintro w' ⟨hn, h0, h1, h2, h3, h4, h5, h6, h7, h8, h9⟩; go_simp; first | rfl | (rw [if_pos (by omega)]; done) | (rw [if_pos (by omega)]; rfl) | (rw [if_pos (by omega)]; go_simp; rfl)
    simp only [Act.put, List.setIfInBounds_toArray, List.set_cons_zero, List.set_cons_succ]
    refine ord_quietL _ ?_ rfl hS rfl ?_ ?_
    rotate_left
    · rintro w' ⟨hn, h0, h1, h2, h3, h4, h5, h6, h7, h8, h9⟩; go_simp; first | rfl | (rw [if_pos (by omega)]; done) | (rw [if_pos (by omega)]; rfl) | (rw [if_pos (by omega)]; go_simp; rfl)
    simp only [Act.put, List.setIfInBounds_toArray, List.set_cons_zero, List.set_cons_succ]
    refine ord_quietL _ ?_ rfl hS rfl ?_ ?_
    rotate_left
    · rintro w' ⟨hn, h0, h1, h2, h3, h4, h5, h6, h7, h8, h9⟩; go_simp; first | rfl | (rw [if_pos (by omega)]; done) | (rw [if_pos (by omega)]; rfl) | (rw [if_pos (by omega)]; go_simp; rfl)
    simp only [Act.put, List.setIfInBounds_toArray, List.set_cons_zero, List.set_cons_succ]
    refine ord_actL _ rfl (fun K1 hK1 => ?_)
    have hcon : Hid _ := c_lower z0 wk2 ej (by omega)
    unfold MadeL at hcon
    rw [hT.out] at hcon
    unfold labV at hcon
    go_wp2_with (go_at_call 17; refine Calls.mono hcon.out ?_; rintro e wk3 ⟨u3, y3, rfl, q1, q2, q3, q4, qn⟩)
    have m3 := nw_trans m2 qn
    replace e0 := e0.nw qn
    replace e1 := e1.nw qn
    replace ej := ej.nw qn
    replace em := em.nw qn
    obtain ⟨a3, c3, rfl, _, _⟩ := q1.form
    have e3 := q1.any
    have g3 : Hid _ := And.intro q2 q3
    refine hK1 _ _ (hSof.out _ m3) ?_
    clear hK1 K1 hcon qn hS m2 q1 q2 q3 q4
    have hS := hSof.out _ m3
    refine ord_actL _ rfl (fun K1 hK1 => ?_)
    have hcon : Hid _ := c_rturn z0 5 0 wk3 e0 (by omega)
    unfold MadeL at hcon
    rw [hT.out] at hcon
    unfold labV at hcon
    go_wp2_with (go_at_call 16; refine Calls.mono hcon.out ?_; rintro e wk4 ⟨u4, y4, rfl, q1, q2, q3, q4, qn⟩)
    have m4 := nw_trans m3 qn
    replace e0 := e0.nw qn
    replace e1 := e1.nw qn
    replace ej := ej.nw qn
    replace em := em.nw qn
    replace e3 := e3.nw qn
    obtain ⟨a4, c4, rfl, _, _⟩ := q1.form
    have e4 := q1.any
    have g4 : Hid _ := And.intro q2 q3
    refine hK1 _ _ (hSof.out _ m4) ?_
    clear hK1 K1 hcon qn hS m3 q1 q2 q3 q4
    have hS := hSof.out _ m4
    refine ord_actL _ rfl (fun K1 hK1 => ?_)
    have hcon : Hid _ := c_exact T T wk4 e3 e4
    unfold labV at hcon
    go_wp2_with (go_at_call 11; refine Calls.mono hcon.out ?_; rintro e wk5 ⟨r, rfl, q1, qn⟩)
    have m5 := nw_trans m4 qn
    replace e0 := e0.nw qn
    replace e1 := e1.nw qn
    replace ej := ej.nw qn
    replace em := em.nw qn
    replace e3 := e3.nw qn
    replace e4 := e4.nw qn
    have hr : r = true := q1.2 ⟨by first | rfl | trivial, form_unique g3.out.1 g4.out.1 (fun id => (g3.out.2 id).trans (g4.out.2 id).symm)⟩
    subst hr
    refine hK1 _ _ (hSof.out _ m5) ?_
    clear hK1 K1 hcon qn hS m4 q1 g3 g4 e3 e4
    have hS := hSof.out _ m5
    refine ord_quietL _ ?_ rfl hS rfl ?_ ?_
    rotate_left
    · rintro w' ⟨hn, h0, h1, h2, h3, h4, h5, h6, h7, h8, h9⟩; go_simp; first | rfl | (rw [if_pos (by omega)]; done) | (rw [if_pos (by omega)]; rfl) | (rw [if_pos (by omega)]; go_simp; rfl)
    simp only [Act.put, List.setIfInBounds_toArray, List.set_cons_zero, List.set_cons_succ]
    refine ord_quietL _ ?_ rfl hS rfl ?_ ?_
    rotate_left
    · rintro w' ⟨hn, h0, h1, h2, h3, h4, h5, h6, h7, h8, h9⟩; go_simp; first | rfl | (rw [if_pos (by omega)]; done) | (rw [if_pos (by omega)]; rfl) | (rw [if_pos (by omega)]; go_simp; rfl)
    simp only [Act.put, List.setIfInBounds_toArray, List.set_cons_zero, List.set_cons_succ]
    refine ord_quietL _ ?_ rfl hS rfl ?_ ?_
    rotate_left
    · rintro w' ⟨hn, h0, h1, h2, h3, h4, h5, h6, h7, h8, h9⟩; go_simp; first | rfl | (rw [if_pos (by omega)]; done) | (rw [if_pos (by omega)]; rfl) | (rw [if_pos (by omega)]; go_simp; rfl)
    simp only [Act.put, List.setIfInBounds_toArray, List.set_cons_zero, List.set_cons_succ]
    refine ord_quietL _ ?_ rfl hS rfl ?_ ?_
    rotate_left
    · rintro w' ⟨hn, h0, h1, h2, h3, h4, h5, h6, h7, h8, h9⟩; go_simp; first | rfl | (rw [if_pos (by omega)]; done) | (rw [if_pos (by omega)]; rfl) | (rw [if_pos (by omega)]; go_simp; rfl)
    simp only [Act.put, List.setIfInBounds_toArray, List.set_cons_zero, List.set_cons_succ]
    refine ord_quietL _ ?_ rfl hS rfl ?_ ?_
    rotate_left
    · rintro w' ⟨hn, h0, h1, h2, h3, h4, h5, h6, h7, h8, h9⟩; go_simp; first | rfl | (rw [if_pos (by omega)]; done) | (rw [if_pos (by omega)]; rfl) | (rw [if_pos (by omega)]; go_simp; rfl)
    simp only [Act.put, List.setIfInBounds_toArray, List.set_cons_zero, List.set_cons_succ]
    refine ord_quietL _ ?_ rfl hS rfl ?_ ?_
    rotate_left
    · rintro w' ⟨hn, h0, h1, h2, h3, h4, h5, h6, h7, h8, h9⟩; go_simp; first | rfl | (rw [if_pos (by omega)]; done) | (rw [if_pos (by omega)]; rfl) | (rw [if_pos (by omega)]; go_simp; rfl)
    simp only [Act.put, List.setIfInBounds_toArray, List.set_cons_zero, List.set_cons_succ]
    refine ord_quietL _ ?_ rfl hS rfl ?_ ?_
    rotate_left
    · rintro w' ⟨hn, h0, h1, h2, h3, h4, h5, h6, h7, h8, h9⟩; go_simp; first | rfl | (rw [if_pos (by omega)]; done) | (rw [if_pos (by omega)]; rfl) | (rw [if_pos (by omega)]; go_simp; rfl)
    simp only [Act.put, List.setIfInBounds_toArray, List.set_cons_zero, List.set_cons_succ]
    refine ord_quietL _ ?_ rfl hS rfl ?_ ?_
    rotate_left
    · rintro w' ⟨hn, h0, h1, h2, h3, h4, h5, h6, h7, h8, h9⟩; go_simp; first | rfl | (rw [if_pos (by omega)]; done) | (rw [if_pos (by omega)]; rfl) | (rw [if_pos (by omega)]; go_simp; rfl)
    simp only [Act.put, List.setIfInBounds_toArray, List.set_cons_zero, List.set_cons_succ]
    refine ord_quietL _ ?_ rfl hS rfl ?_ ?_
    rotate_left
    · rintro w' ⟨hn, h0, h1, h2, h3, h4, h5, h6, h7, h8, h9⟩; go_simp; first | rfl | (rw [if_pos (by omega)]; done) | (rw [if_pos (by omega)]; rfl) | (rw [if_pos (by omega)]; go_simp; rfl)
    simp only [Act.put, List.setIfInBounds_toArray, List.set_cons_zero, List.set_cons_succ]
    refine ord_quietL _ ?_ rfl hS rfl ?_ ?_
    rotate_left
    · rintro w' ⟨hn, h0, h1, h2, h3, h4, h5, h6, h7, h8, h9⟩; go_simp; first | rfl | (rw [if_pos (by omega)]; done) | (rw [if_pos (by omega)]; rfl) | (rw [if_pos (by omega)]; go_simp; rfl)
    simp only [Act.put, List.setIfInBounds_toArray, List.set_cons_zero, List.set_cons_succ]
    refine ord_quietL _ ?_ rfl hS rfl ?_ ?_
    rotate_left
    · rintro w' ⟨hn, h0, h1, h2, h3, h4, h5, h6, h7, h8, h9⟩; go_simp; first | rfl | (rw [if_pos (by omega)]; done) | (rw [if_pos (by omega)]; rfl) | (rw [if_pos (by omega)]; go_simp; rfl)
    simp only [Act.put, List.setIfInBounds_toArray, List.set_cons_zero, List.set_cons_succ]
    refine ord_quietL _ ?_ rfl hS rfl ?_ ?_
    rotate_left
    · rintro w' ⟨hn, h0, h1, h2, h3, h4, h5, h6, h7, h8, h9⟩; go_simp; first | rfl | (rw [if_pos (by omega)]; done) | (rw [if_pos (by omega)]; rfl) | (rw [if_pos (by omega)]; go_simp; rfl)
    simp only [Act.put, List.setIfInBounds_toArray, List.set_cons_zero, List.set_cons_succ]
    refine ord_actL _ rfl (fun K1 hK1 => ?_)
    have hcon : Hid _ := c_set z0 c1 c2 wk5 ej (by omega)
    unfold MadeL labV at hcon
    go_wp2_with (go_at_call 18; refine Calls.mono hcon.out ?_; rintro e wk6 ⟨u3, y3, rfl, q1, q2, q3, q4, qn⟩)
    have m6 := nw_trans m5 qn
    replace e0 := e0.nw qn
    replace e1 := e1.nw qn
    replace ej := ej.nw qn
    replace em := em.nw qn
    obtain ⟨a3, c3, rfl, _, _⟩ := q1.form
    have e3 := q1.any
    have g3 : Hid _ := And.intro q2 q3
    refine hK1 _ _ (hSof.out _ m6) ?_
    clear hK1 K1 hcon qn hS m5 q1 q2 q3 q4
    have hS := hSof.out _ m6
    refine ord_actL _ rfl (fun K1 hK1 => ?_)
    have hcon : Hid _ := c_rset z0 c1 c2 wk6 e0 (by omega)
    unfold MadeL labV at hcon
    go_wp2_with (go_at_call 19; refine Calls.mono hcon.out ?_; rintro e wk7 ⟨u4, y4, rfl, q1, q2, q3, q4, qn⟩)
    have m7 := nw_trans m6 qn
    replace e0 := e0.nw qn
    replace e1 := e1.nw qn
    replace ej := ej.nw qn
    replace em := em.nw qn
    replace e3 := e3.nw qn
    obtain ⟨a4, c4, rfl, _, _⟩ := q1.form
    have e4 := q1.any
    have g4 : Hid _ := And.intro q2 q3
    refine hK1 _ _ (hSof.out _ m7) ?_
    clear hK1 K1 hcon qn hS m6 q1 q2 q3 q4
    have hS := hSof.out _ m7
    refine ord_actL _ rfl (fun K1 hK1 => ?_)
    have hcon : Hid _ := c_exact z0 z0 wk7 e3 e4
    unfold labV at hcon
    go_wp2_with (go_at_call 11; refine Calls.mono hcon.out ?_; rintro e wk8 ⟨r, rfl, q1, qn⟩)
    have m8 := nw_trans m7 qn
    replace e0 := e0.nw qn
    replace e1 := e1.nw qn
    replace ej := ej.nw qn
    replace em := em.nw qn
    replace e3 := e3.nw qn
    replace e4 := e4.nw qn
    have hr : r = true := q1.2 ⟨by first | rfl | trivial, form_unique g3.out.1 g4.out.1 (fun id => (g3.out.2 id).trans (g4.out.2 id).symm)⟩
    subst hr
    refine hK1 _ _ (hSof.out _ m8) ?_
    clear hK1 K1 hcon qn hS m7 q1 g3 g4 e3 e4
    have hS := hSof.out _ m8
    refine ord_quietL _ ?_ rfl hS rfl ?_ ?_
    rotate_left
    · rintro w' ⟨hn, h0, h1, h2, h3, h4, h5, h6, h7, h8, h9⟩; go_simp; first | rfl | (rw [if_pos (by omega)]; done) | (rw [if_pos (by omega)]; rfl) | (rw [if_pos (by omega)]; go_simp; rfl)
    simp only [Act.put, List.setIfInBounds_toArray, List.set_cons_zero, List.set_cons_succ]
    refine ord_quietL _ ?_ rfl hS rfl ?_ ?_
    rotate_left
    · rintro w' ⟨hn, h0, h1, h2, h3, h4, h5, h6, h7, h8, h9⟩; go_simp; first | rfl | (rw [if_pos (by omega)]; done) | (rw [if_pos (by omega)]; rfl) | (rw [if_pos (by omega)]; go_simp; rfl)
    simp only [Act.put, List.setIfInBounds_toArray, List.set_cons_zero, List.set_cons_succ]
    refine ord_quietL _ ?_ rfl hS rfl ?_ ?_
    rotate_left
    · rintro w' ⟨hn, h0, h1, h2, h3, h4, h5, h6, h7, h8, h9⟩; go_simp; first | rfl | (rw [if_pos (by omega)]; done) | (rw [if_pos (by omega)]; rfl) | (rw [if_pos (by omega)]; go_simp; rfl)
    simp only [Act.put, List.setIfInBounds_toArray, List.set_cons_zero, List.set_cons_succ]
    refine ord_quietL _ ?_ rfl hS rfl ?_ ?_
    rotate_left
    · rintro w' ⟨hn, h0, h1, h2, h3, h4, h5, h6, h7, h8, h9⟩; go_simp; first | rfl | (rw [if_pos (by omega)]; done) | (rw [if_pos (by omega)]; rfl) | (rw [if_pos (by omega)]; go_simp; rfl)
    simp only [Act.put, List.setIfInBounds_toArray, List.set_cons_zero, List.set_cons_succ]
    refine ord_actL _ rfl (fun K1 hK1 => ?_)
    have hcon : Hid _ := c_exact z0 z0 wk8 ej e0
    unfold labV at hcon
    go_wp2_with (go_at_call 11; refine Calls.mono hcon.out ?_; rintro e wk9 ⟨r, rfl, q1, qn⟩)
    have m9 := nw_trans m8 qn
    replace e0 := e0.nw qn
    replace e1 := e1.nw qn
    replace ej := ej.nw qn
    replace em := em.nw qn
    have hr : r = true := q1.2 (by first | exact ⟨rfl, rfl⟩ | simp)
    subst hr
    refine hK1 _ _ (hSof.out _ m9) ?_
    clear hK1 K1 hcon qn hS m8 q1
    have hS := hSof.out _ m9
    refine ord_quietL _ ?_ rfl hS rfl ?_ ?_
    rotate_left
    · rintro w' ⟨hn, h0, h1, h2, h3, h4, h5, h6, h7, h8, h9⟩; go_simp; first | rfl | (rw [if_pos (by omega)]; done) | (rw [if_pos (by omega)]; rfl) | (rw [if_pos (by omega)]; go_simp; rfl)
    simp only [Act.put, List.setIfInBounds_toArray, List.set_cons_zero, List.set_cons_succ]
    refine ord_tail ?_
    simp only [List.drop_succ_cons, List.drop_zero]
    have hfin := nw_trans nwU m9
    go_wp2
    go_ret
    exact ⟨by first | rfl | simp, hfin⟩
end Go.Proofs.Ytnljfhjindenpaa
