/-
  Package flow: Clears.
-/
import Derived.Test.YtnljfhjindenpaaFlowW1
import Derived.Test.YtnljfhjindenpaaLabD7
import Derived.Test.YtnljfhjindenpaaLibGrow2
namespace Go.Proofs.Ytnljfhjindenpaa
set_option linter.unusedVariables false
set_option linter.unusedSimpArgs false
set_option maxRecDepth 20000
open Go.RowKit

/-- A label raised, one joined, and a variable, in whatever order. -/
def FClr (W : World) (D E : Int) (f g : Int → Int) (n m : Nat) : Nat → Value → Nat → Nat → World → Prop
  | 4 => fun v lo hi w => ∃ u ys, v = labV D u ∧ CSl (fun b => lo ≤ b ∧ b < hi) w u ys ∧ (∀ id, lev D ys id = f id) ∧ ys.length ≤ n
  | 5 => fun v lo hi w => ∃ u ys, v = labV E u ∧ CSl (fun b => lo ≤ b ∧ b < hi) w u ys ∧ (∀ id, lev E ys id = g id) ∧ ys.length ≤ m
  | 6 => fun v lo hi w => v = .pointer (some ⟨lo, 0, none⟩) ∧ lo < hi ∧ W.heap.size ≤ lo ∧ w.heap[lo]? = some (.cells #[.int .i64 0, .slice none 0 0] 24 (0, 0))
  | _ => fun _ _ _ _ => True

set_option maxRecDepth 20000 in
set_option maxHeartbeats 3200000 in
theorem c_fclears {Xt Xc Xk : Nat → Prop} {ut uc uk : Value} {xt xc xk : List Cat} (zt zc zk : Int) (w : World) (et : CSl Xt w ut xt) (ec : CSl Xc w uc xc) (ek : CSl Xk w uk xk) (lt : xt.length ≤ 8796093021952) (lc : xc.length ≤ 8796093021952) (lk : xk.length ≤ 8796093021952) (ltc : xc.length + xt.length ≤ 8796093021952) :
    Calls Try.prog 35 #[whoV zt ut zc uc, labV zk uk] w (AnsP (Rgt zk xk ∧ Pu zk xk ∧ leL (lev zt xt) (lev zk xk) ∧ leL (lev zk xk) (fun id => max (lev zc xc id) (tn 0 5 (lev zt xt id)))) w) := by
  obtain ⟨adt, cpt, rfl, _, _⟩ := et.form
  obtain ⟨adc, cpc, rfl, _, _⟩ := ec.form
  obtain ⟨adk, cpk, rfl, _, _⟩ := ek.form
  obtain ⟨W, hW⟩ : ∃ W, Hid (W = ((w.alloc (.cells #[.int .i64 zt, .slice adt xt.length cpt, .int .i64 zc, .slice adc xc.length cpc] 40)).alloc (.cells #[.int .i64 zk, .slice adk xk.length cpk] 24))) := ⟨_, rfl⟩
  have nW : Nw w W := by rw [hW.out]; exact nw_alloc (nw_alloc (nw_refl w) _) _
  have ht : W.heap[w.heap.size]? = some (.cells #[.int .i64 zt, .slice adt xt.length cpt, .int .i64 zc, .slice adc xc.length cpc] 40 (0, 0)) := by
    rw [hW.out, Below.heap_alloc _ _ _ (by simp; try omega)]
    have := heap_alloc_new w (.cells #[.int .i64 zt, .slice adt xt.length cpt, .int .i64 zc, .slice adc xc.length cpc] 40)
    simpa using this
  have hk : W.heap[w.heap.size + 1]? = some (.cells #[.int .i64 zk, .slice adk xk.length cpk] 24 (0, 0)) := by
    rw [hW.out]
    have := heap_alloc_new (w.alloc (.cells #[.int .i64 zt, .slice adt xt.length cpt, .int .i64 zc, .slice adc xc.length cpc] 40)) (.cells #[.int .i64 zk, .slice adk xk.length cpk] 24)
    simpa using this
  replace et := et.nw nW
  replace ec := ec.nw nW
  replace ek := ek.nw nW
  unfold whoV labV
  go_enter Try.func35, Try.ntmps35
  go_upto_region 1 with fail
  rw [← hW.out]
  clear hW
  generalize w.heap.size = N at *
  have hNl := heap_lt hk
  have hSof : ∀ w', Nw W w' → (fun w' : World => Nw W w' ∧ w'.cell? ⟨N, 0, none⟩ = some (.int .i64 zt) ∧ w'.cell? ⟨N, 1, none⟩ = some (.slice adt xt.length cpt) ∧ w'.cell? ⟨N, 2, none⟩ = some (.int .i64 zc) ∧ w'.cell? ⟨N, 3, none⟩ = some (.slice adc xc.length cpc)) w' := fun w' hw => ⟨hw, cell_blk ((hw.block _ (heap_lt ht) (fun h => h)).trans ht) rfl, cell_blk ((hw.block _ (heap_lt ht) (fun h => h)).trans ht) rfl, cell_blk ((hw.block _ (heap_lt ht) (fun h => h)).trans ht) rfl, cell_blk ((hw.block _ (heap_lt ht) (fun h => h)).trans ht) rfl⟩
  have hW0 : Nw W W.drew := Fr.drew (Fr.refl _ W)
  have hS := hSof _ hW0
  replace hSof : Hid _ := hSof
  obtain ⟨D, hD⟩ : ∃ D, Hid (tn 0 5 zt = D) := ⟨_, rfl⟩
  obtain ⟨E, hE⟩ : ∃ E, Hid (max zc D = E) := ⟨_, rfl⟩
  obtain ⟨f, hf⟩ : ∃ f : Int → Int, Hid (f = fun id => tn 0 5 (lev zt xt id)) := ⟨_, rfl⟩
  obtain ⟨g, hg⟩ : ∃ g : Int → Int, Hid (g = fun id => max (lev zc xc id) (tn 0 5 (lev zt xt id))) := ⟨_, rfl⟩
  have hg1 : Hid (∀ w', Nw W w' → Calls Try.prog 15 #[.agg #[.int .i64 zt, .slice adt xt.length cpt]] w' (MadeL w' D f xt.length)) := fun w' hw => by
    have := c_raise zt w' (et.nw hw) (by omega)
    rw [hD.out] at this
    rw [hf.out]
    exact this
  have hg2 : Hid (∀ w' u ys, Nw W w' → CSl (fun _ => True) w' u ys → (∀ id, lev D ys id = f id) → ys.length ≤ xt.length → Calls Try.prog 12 #[.agg #[.int .i64 zc, .slice adc xc.length cpc], labV D u] w' (MadeL w' E g (xc.length + xt.length))) := fun w' u ys hw h1 h2 h3 => by
    refine (c_join zc D w' (ec.nw hw) h1 (by omega)).mono ?_
    rintro e w'' ⟨u', ys', k1, k2, k3, k4, k5, k6⟩
    rw [hE.out] at k1 k3 k4
    exact ⟨u', ys', k1, k2, k3, fun id => by rw [k4 id]; show max (lev zc xc id) (lev D ys id) = g id; rw [h2 id, hg.out, hf.out], by omega, k6⟩
  refine wp_region_plan [] 7 [(0, []), (1, []), (2, []), (3, []), (0, [(4, []), (5, [4]), (6, [])])] (fun w' : World => Nw W w' ∧ w'.cell? ⟨N, 0, none⟩ = some (.int .i64 zt) ∧ w'.cell? ⟨N, 1, none⟩ = some (.slice adt xt.length cpt) ∧ w'.cell? ⟨N, 2, none⟩ = some (.int .i64 zc) ∧ w'.cell? ⟨N, 3, none⟩ = some (.slice adc xc.length cpc)) (by kernel_rfl) (by kernel_rfl) ?_
  refine plan_quiet _ ?_ rfl hS rfl ?_ ?_
  rotate_left
  · rintro w' ⟨hn, h0, h1, h2, h3⟩; go_simp; first | rfl | (rw [if_pos (by omega)]; done) | (rw [if_pos (by omega)]; rfl) | (rw [if_pos (by omega)]; go_simp; rfl)
  simp only [Act.put, List.setIfInBounds_toArray, List.set_cons_zero, List.set_cons_succ]
  refine plan_quiet _ ?_ rfl hS rfl ?_ ?_
  rotate_left
  · rintro w' ⟨hn, h0, h1, h2, h3⟩; go_simp; first | rfl | (rw [if_pos (by omega)]; done) | (rw [if_pos (by omega)]; rfl) | (rw [if_pos (by omega)]; go_simp; rfl)
  simp only [Act.put, List.setIfInBounds_toArray, List.set_cons_zero, List.set_cons_succ]
  refine plan_quiet _ ?_ rfl hS rfl ?_ ?_
  rotate_left
  · rintro w' ⟨hn, h0, h1, h2, h3⟩; go_simp; first | rfl | (rw [if_pos (by omega)]; done) | (rw [if_pos (by omega)]; rfl) | (rw [if_pos (by omega)]; go_simp; rfl)
  simp only [Act.put, List.setIfInBounds_toArray, List.set_cons_zero, List.set_cons_succ]
  refine plan_quiet _ ?_ rfl hS rfl ?_ ?_
  rotate_left
  · rintro w' ⟨hn, h0, h1, h2, h3⟩; go_simp; first | rfl | (rw [if_pos (by omega)]; done) | (rw [if_pos (by omega)]; rfl) | (rw [if_pos (by omega)]; go_simp; rfl)
  simp only [Act.put, List.setIfInBounds_toArray, List.set_cons_zero, List.set_cons_succ]
  refine plan_group2 (fun | 4 => 10 | 5 => 11 | 6 => 5 | _ => 0) (FClr W D E f g xt.length (xc.length + xt.length)) Nw (by decide) (by decide) (by decide) (fun a b ha hb => hSof.out b (nw_trans ha.1 hb)) (fun a b h => h.size) ?FG hS ?steps ?fin
  case FG =>
    intro p hp v lo hi w1 w2 h1 h2
    simp only [List.mem_cons, List.not_mem_nil, or_false] at hp
    rcases hp with rfl | rfl | rfl
    · obtain ⟨u, ys, q1, q2, q3⟩ := h1
      exact ⟨u, ys, q1, q2.nw h2, q3⟩
    · obtain ⟨u, ys, q1, q2, q3⟩ := h1
      exact ⟨u, ys, q1, q2.nw h2, q3⟩
    · obtain ⟨q1, q2, q3, q4⟩ := h1
      exact ⟨q1, q2, q3, (h2.block _ (heap_lt q4) (fun h => h)).trans q4⟩
  case steps =>
    intro p hp x lo hi w2 hS2 hd
    simp only [List.mem_cons, List.not_mem_nil, or_false] at hp
    have hws := hS2.1.size
    rcases hp with rfl | rfl | rfl
    · refine ⟨_, rfl, fun K hK => ?_⟩
      simp only [putAll, Act.put, List.setIfInBounds_toArray, List.set_cons_zero, List.set_cons_succ] at hK ⊢
      have hcon := hg1.out w2 hS2.1
      clear hd hS
      go_wp2_with (go_at_call 15; refine Calls.mono hcon ?_; rintro e w3 ⟨u, ys, rfl, q1, q2, q3, q4, q5⟩; refine stop_here ?_)
      unfold Hid
      obtain ⟨ja, jc, rfl, _, _⟩ := q1.form
      unfold labV
      go_wp2
      exact hK _ _ q5 ⟨_, ys, rfl, q1.mono (fun b hb h => ⟨hb, h⟩), q3, q4⟩
    · refine ⟨_, rfl, fun K hK => ?_⟩
      obtain ⟨u4, y4, r1, r2, r3, r4⟩ := hd 4 (by simp)
      simp only [putAll, Act.put, List.setIfInBounds_toArray, List.set_cons_zero, List.set_cons_succ, r1] at hK ⊢
      have hcon := hg2.out w2 u4 y4 hS2.1 r2.any r3 r4
      obtain ⟨ia, ic, rfl, _, _⟩ := r2.form
      unfold labV at hcon hK ⊢
      clear hd hS r1 r2 r3 r4
      go_wp2_with (go_at_call 12; refine Calls.mono hcon ?_; rintro e w3 ⟨u, ys, rfl, q1, q2, q3, q4, q5⟩; refine stop_here ?_)
      unfold Hid
      obtain ⟨ja, jc, rfl, _, _⟩ := q1.form
      unfold labV
      go_wp2
      exact hK _ _ q5 ⟨_, ys, rfl, q1.mono (fun b hb h => ⟨hb, h⟩), q3, q4⟩
    · refine ⟨_, rfl, fun K hK => ?_⟩
      simp only [putAll, Act.put, List.setIfInBounds_toArray, List.set_cons_zero, List.set_cons_succ] at hK ⊢
      clear hd hS
      go_wp2
      exact hK _ _ (nw_alloc (nw_refl w2) _) ⟨rfl, by simp, hws, heap_alloc_new w2 _⟩
  case fin =>
    intro x lo hi w2 hS2 hF hR
    obtain ⟨⟨ui, yi, hi1, hi2, hi3⟩, hi6⟩ := hF (4, []) (by simp)
    obtain ⟨⟨uj, yj, hj1, hj2, hj3, hj4⟩, hj6⟩ := hF (5, [4]) (by simp)
    obtain ⟨⟨p1, p2, p3, p4⟩, p5⟩ := hF (6, []) (by simp)
    have r56 := hR (5, [4]) (by simp) (6, []) (by simp) (by decide)
    simp only at hi1 hj1 hj2 hj6 p1 p2 p3 p4 p5 r56
    obtain ⟨ja, jc, rfl, _, _⟩ := hj2.form
    obtain ⟨ia, ic, rfl, _, _⟩ := hi2.form
    refine plan_tail ?_
    simp only [putAll, Act.put, List.setIfInBounds_toArray, List.set_cons_zero, List.set_cons_succ, List.drop_succ_cons, List.drop_zero, hi1, hj1, p1]
    generalize lo 6 = gj at *
    generalize hi 6 = hj at *
    generalize lo 5 = l5 at *
    generalize hi 5 = h5 at *
    clear hF hR hi1 hj1 p1 hi2 hi3 hi6
    obtain ⟨U, hU⟩ : ∃ U, Hid (U = (w2.setCell ⟨gj, 0, none⟩ (.int .i64 E)).setCell ⟨gj, 1, none⟩ (.slice ja yj.length jc)) := ⟨_, rfl⟩
    have hfB : Fr (fun k => k = gj) w2 U := by
      rw [hU.out]
      exact ((Fr.refl (fun k => k = gj) w2).setCell (p := ⟨gj, 0, none⟩) (.inl rfl) _).setCell (p := ⟨gj, 1, none⟩) (.inl rfl) _
    have bJ : U.heap[gj]? = some (.cells #[.int .i64 E, .slice ja yj.length jc] 24 (0, 0)) := by rw [hU.out, blk_setCell (blk_setCell p4)]; rfl
    have nU0 := hS2.1
    have nWU : Nw W U := Fr.trans nU0 hfB (fun k hk => .inr (by omega))
    replace ht := (nWU.block _ (heap_lt ht) (fun h => h)).trans ht
    replace hk := (nWU.block _ (heap_lt hk) (fun h => h)).trans hk
    have ej : CSl (fun _ => True) U (.slice ja yj.length jc) yj := hj2.keep hfB (fun b hb _ h => by omega) (fun _ _ _ => trivial)
    replace et := et.nw nWU
    replace ec := ec.nw nWU
    replace ek := ek.nw nWU
    have c1 : w2.cell? ⟨gj, 0, none⟩ = some (.int .i64 0) := cell_blk p4 rfl
    have c2 : w2.cell? ⟨gj, 1, none⟩ = some (.slice none 0 0) := cell_blk p4 rfl
    have f1 : ∀ k, w2.frozen? ⟨gj, k, none⟩ = false := fun k => free_blk p4
    replace nW := nw_trans nW nWU
    have hgE : Hid (∀ id, lev E yj id = max (lev zc xc id) (tn 0 5 (lev zt xt id))) := fun id => by rw [hj3 id, hg.out]
    have hly : yj.length ≤ 8796093021952 := by omega
    clear hj2 hj3 hj4 hfB p4 nU0 hS2 hg1 hg2 hS hW0 hSof nWU r56 hj6 p2 p3 p5 hf hg hD hE
    unfold labV
    go_upto_region 2 with fail
    rw [← hU.out]
    clear hU c1 c2 f1
    have g0 : U.cell? ⟨N, 0, none⟩ = some (.int .i64 zt) := cell_blk ht rfl
    have g1 : U.cell? ⟨N, 1, none⟩ = some (.slice adt xt.length cpt) := cell_blk ht rfl
    have g2 : U.cell? ⟨N, 2, none⟩ = some (.int .i64 zc) := cell_blk ht rfl
    have g3 : U.cell? ⟨N, 3, none⟩ = some (.slice adc xc.length cpc) := cell_blk ht rfl
    have g4 : U.cell? ⟨N + 1, 0, none⟩ = some (.int .i64 zk) := cell_blk hk rfl
    have g5 : U.cell? ⟨N + 1, 1, none⟩ = some (.slice adk xk.length cpk) := cell_blk hk rfl
    have g6 : U.cell? ⟨gj, 0, none⟩ = some (.int .i64 E) := cell_blk bJ rfl
    have g7 : U.cell? ⟨gj, 1, none⟩ = some (.slice ja yj.length jc) := cell_blk bJ rfl
    have hcon : Hid _ := c_rap zk U ek (by omega)
    unfold labV at hcon
    go_wp2_with (go_at_call 55; refine Calls.mono hcon.out ?_; rintro e wk0 ⟨r, rfl, q1, qn⟩; refine stop_here ?_)
    unfold Hid
    have m0 := qn
    replace et := et.nw qn
    replace ec := ec.nw qn
    replace ek := ek.nw qn
    replace ej := ej.nw qn
    cases r with
    | true =>
      have s1 : Hid _ := q1.1 rfl
      clear hcon g0 g1 g2 g3 g4 g5 g6 g7 q1
      have g0 : wk0.cell? ⟨N, 0, none⟩ = some (.int .i64 zt) := cell_blk ((m0.block _ (heap_lt ht) (fun h => h)).trans ht) rfl
      have g1 : wk0.cell? ⟨N, 1, none⟩ = some (.slice adt xt.length cpt) := cell_blk ((m0.block _ (heap_lt ht) (fun h => h)).trans ht) rfl
      have g2 : wk0.cell? ⟨N, 2, none⟩ = some (.int .i64 zc) := cell_blk ((m0.block _ (heap_lt ht) (fun h => h)).trans ht) rfl
      have g3 : wk0.cell? ⟨N, 3, none⟩ = some (.slice adc xc.length cpc) := cell_blk ((m0.block _ (heap_lt ht) (fun h => h)).trans ht) rfl
      have g4 : wk0.cell? ⟨N + 1, 0, none⟩ = some (.int .i64 zk) := cell_blk ((m0.block _ (heap_lt hk) (fun h => h)).trans hk) rfl
      have g5 : wk0.cell? ⟨N + 1, 1, none⟩ = some (.slice adk xk.length cpk) := cell_blk ((m0.block _ (heap_lt hk) (fun h => h)).trans hk) rfl
      have g6 : wk0.cell? ⟨gj, 0, none⟩ = some (.int .i64 E) := cell_blk ((m0.block _ (heap_lt bJ) (fun h => h)).trans bJ) rfl
      have g7 : wk0.cell? ⟨gj, 1, none⟩ = some (.slice ja yj.length jc) := cell_blk ((m0.block _ (heap_lt bJ) (fun h => h)).trans bJ) rfl
      have hcon : Hid _ := c_between zt zk E wk0 et ek ej (by omega) (by omega) (by omega)
      unfold labV at hcon
      go_wp2_with (go_at_call 56; refine Calls.mono hcon.out ?_; rintro e wk1 ⟨r, rfl, q1, qn⟩; refine stop_here ?_)
      unfold Hid
      have m1 := nw_trans m0 qn
      replace et := et.nw qn
      replace ec := ec.nw qn
      replace ek := ek.nw qn
      replace ej := ej.nw qn
      cases r with
      | true =>
        have s7 : Hid _ := q1.1 rfl
        clear hcon g0 g1 g2 g3 g4 g5 g6 g7 q1
        have g0 : wk1.cell? ⟨N, 0, none⟩ = some (.int .i64 zt) := cell_blk ((m1.block _ (heap_lt ht) (fun h => h)).trans ht) rfl
        have g1 : wk1.cell? ⟨N, 1, none⟩ = some (.slice adt xt.length cpt) := cell_blk ((m1.block _ (heap_lt ht) (fun h => h)).trans ht) rfl
        have g2 : wk1.cell? ⟨N, 2, none⟩ = some (.int .i64 zc) := cell_blk ((m1.block _ (heap_lt ht) (fun h => h)).trans ht) rfl
        have g3 : wk1.cell? ⟨N, 3, none⟩ = some (.slice adc xc.length cpc) := cell_blk ((m1.block _ (heap_lt ht) (fun h => h)).trans ht) rfl
        have g4 : wk1.cell? ⟨N + 1, 0, none⟩ = some (.int .i64 zk) := cell_blk ((m1.block _ (heap_lt hk) (fun h => h)).trans hk) rfl
        have g5 : wk1.cell? ⟨N + 1, 1, none⟩ = some (.slice adk xk.length cpk) := cell_blk ((m1.block _ (heap_lt hk) (fun h => h)).trans hk) rfl
        have g6 : wk1.cell? ⟨gj, 0, none⟩ = some (.int .i64 E) := cell_blk ((m1.block _ (heap_lt bJ) (fun h => h)).trans bJ) rfl
        have g7 : wk1.cell? ⟨gj, 1, none⟩ = some (.slice ja yj.length jc) := cell_blk ((m1.block _ (heap_lt bJ) (fun h => h)).trans bJ) rfl
        have hfin := nw_trans nW m1
        have hP : Hid (Rgt zk xk ∧ Pu zk xk ∧ leL (lev zt xt) (lev zk xk) ∧ leL (lev zk xk) (fun id => max (lev zc xc id) (tn 0 5 (lev zt xt id)))) := ⟨s1.out.1, s1.out.2, s7.out.1, fun id => by have := s7.out.2 id; rw [hgE.out] at this; exact this⟩
        go_wp2
        go_ret
        exact ans_yes hP.out hfin
      | false =>
        have s7 : Hid _ := not_of_false q1
        clear hcon g0 g1 g2 g3 g4 g5 g6 g7 q1
        have g0 : wk1.cell? ⟨N, 0, none⟩ = some (.int .i64 zt) := cell_blk ((m1.block _ (heap_lt ht) (fun h => h)).trans ht) rfl
        have g1 : wk1.cell? ⟨N, 1, none⟩ = some (.slice adt xt.length cpt) := cell_blk ((m1.block _ (heap_lt ht) (fun h => h)).trans ht) rfl
        have g2 : wk1.cell? ⟨N, 2, none⟩ = some (.int .i64 zc) := cell_blk ((m1.block _ (heap_lt ht) (fun h => h)).trans ht) rfl
        have g3 : wk1.cell? ⟨N, 3, none⟩ = some (.slice adc xc.length cpc) := cell_blk ((m1.block _ (heap_lt ht) (fun h => h)).trans ht) rfl
        have g4 : wk1.cell? ⟨N + 1, 0, none⟩ = some (.int .i64 zk) := cell_blk ((m1.block _ (heap_lt hk) (fun h => h)).trans hk) rfl
        have g5 : wk1.cell? ⟨N + 1, 1, none⟩ = some (.slice adk xk.length cpk) := cell_blk ((m1.block _ (heap_lt hk) (fun h => h)).trans hk) rfl
        have g6 : wk1.cell? ⟨gj, 0, none⟩ = some (.int .i64 E) := cell_blk ((m1.block _ (heap_lt bJ) (fun h => h)).trans bJ) rfl
        have g7 : wk1.cell? ⟨gj, 1, none⟩ = some (.slice ja yj.length jc) := cell_blk ((m1.block _ (heap_lt bJ) (fun h => h)).trans bJ) rfl
        have hfin := nw_trans nW m1
        have hP : Hid (¬ (Rgt zk xk ∧ Pu zk xk ∧ leL (lev zt xt) (lev zk xk) ∧ leL (lev zk xk) (fun id => max (lev zc xc id) (tn 0 5 (lev zt xt id))))) := fun h => s7.out (⟨h.2.2.1, fun id => by rw [hgE.out]; exact h.2.2.2 id⟩)
        go_wp2
        go_ret
        exact ans_no hP.out hfin
    | false =>
      have s1 : Hid _ := not_of_false q1
      clear hcon g0 g1 g2 g3 g4 g5 g6 g7 q1
      have g0 : wk0.cell? ⟨N, 0, none⟩ = some (.int .i64 zt) := cell_blk ((m0.block _ (heap_lt ht) (fun h => h)).trans ht) rfl
      have g1 : wk0.cell? ⟨N, 1, none⟩ = some (.slice adt xt.length cpt) := cell_blk ((m0.block _ (heap_lt ht) (fun h => h)).trans ht) rfl
      have g2 : wk0.cell? ⟨N, 2, none⟩ = some (.int .i64 zc) := cell_blk ((m0.block _ (heap_lt ht) (fun h => h)).trans ht) rfl
      have g3 : wk0.cell? ⟨N, 3, none⟩ = some (.slice adc xc.length cpc) := cell_blk ((m0.block _ (heap_lt ht) (fun h => h)).trans ht) rfl
      have g4 : wk0.cell? ⟨N + 1, 0, none⟩ = some (.int .i64 zk) := cell_blk ((m0.block _ (heap_lt hk) (fun h => h)).trans hk) rfl
      have g5 : wk0.cell? ⟨N + 1, 1, none⟩ = some (.slice adk xk.length cpk) := cell_blk ((m0.block _ (heap_lt hk) (fun h => h)).trans hk) rfl
      have g6 : wk0.cell? ⟨gj, 0, none⟩ = some (.int .i64 E) := cell_blk ((m0.block _ (heap_lt bJ) (fun h => h)).trans bJ) rfl
      have g7 : wk0.cell? ⟨gj, 1, none⟩ = some (.slice ja yj.length jc) := cell_blk ((m0.block _ (heap_lt bJ) (fun h => h)).trans bJ) rfl
      have hfin := nw_trans nW m0
      have hP : Hid (¬ (Rgt zk xk ∧ Pu zk xk ∧ leL (lev zt xt) (lev zk xk) ∧ leL (lev zk xk) (fun id => max (lev zc xc id) (tn 0 5 (lev zt xt id))))) := fun h => s1.out (⟨h.1, h.2.1⟩)
      go_wp2
      go_ret
      exact ans_no hP.out hfin
end Go.Proofs.Ytnljfhjindenpaa
