/-
  The document's flow: Clears.
-/
import Derived.Test.YtnljfhjindenpaaFlowR1
import Derived.Test.YtnljfhjindenpaaFlowW2
import Derived.Test.YtnljfhjindenpaaLabR7
namespace Go.Proofs.Ytnljfhjindenpaa
set_option linter.unusedVariables false
set_option linter.unusedSimpArgs false
set_option maxRecDepth 20000
open Go.RowKit

set_option maxRecDepth 20000 in
set_option maxHeartbeats 3200000 in
theorem c_rclears {Xt Xc Xk : Nat → Prop} {ut uc uk : Value} {xt xc xk : List Cat} (zt zc zk : Int) (w : World) (et : CSl Xt w ut xt) (ec : CSl Xc w uc xc) (ek : CSl Xk w uk xk) (lt : xt.length ≤ 8796093021952) (lc : xc.length ≤ 8796093021952) (lk : xk.length ≤ 8796093021952) (ltc : xc.length + xt.length ≤ 8796093021952) :
    Calls Try.prog 36 #[labV zt ut, labV zc uc, labV zk uk] w (AnsP (Rgt zk xk ∧ Pu zk xk ∧ leL (lev zt xt) (lev zk xk) ∧ leL (lev zk xk) (fun id => max (lev zc xc id) (tn 0 5 (lev zt xt id)))) w) := by
  obtain ⟨adt, cpt, rfl, _, _⟩ := et.form
  obtain ⟨adc, cpc, rfl, _, _⟩ := ec.form
  obtain ⟨adk, cpk, rfl, _, _⟩ := ek.form
  obtain ⟨W, hW⟩ : ∃ W, Hid (W = (((w.alloc (.cells #[.int .i64 zt, .slice adt xt.length cpt] 24)).alloc (.cells #[.int .i64 zc, .slice adc xc.length cpc] 24)).alloc (.cells #[.int .i64 zk, .slice adk xk.length cpk] 24))) := ⟨_, rfl⟩
  have nW : Nw w W := by rw [hW.out]; exact nw_alloc (nw_alloc (nw_alloc (nw_refl w) _) _) _
  have ht : W.heap[w.heap.size]? = some (.cells #[.int .i64 zt, .slice adt xt.length cpt] 24 (0, 0)) := by
    rw [hW.out, Below.heap_alloc _ _ _ (by simp; try omega), Below.heap_alloc _ _ _ (by simp; try omega)]
    have := heap_alloc_new w (.cells #[.int .i64 zt, .slice adt xt.length cpt] 24)
    simpa using this
  have hc : W.heap[w.heap.size + 1]? = some (.cells #[.int .i64 zc, .slice adc xc.length cpc] 24 (0, 0)) := by
    rw [hW.out, Below.heap_alloc _ _ _ (by simp; try omega)]
    have := heap_alloc_new (w.alloc (.cells #[.int .i64 zt, .slice adt xt.length cpt] 24)) (.cells #[.int .i64 zc, .slice adc xc.length cpc] 24)
    simpa using this
  have hk : W.heap[w.heap.size + 1 + 1]? = some (.cells #[.int .i64 zk, .slice adk xk.length cpk] 24 (0, 0)) := by
    rw [hW.out]
    have := heap_alloc_new ((w.alloc (.cells #[.int .i64 zt, .slice adt xt.length cpt] 24)).alloc (.cells #[.int .i64 zc, .slice adc xc.length cpc] 24)) (.cells #[.int .i64 zk, .slice adk xk.length cpk] 24)
    simpa using this
  replace et := et.nw nW
  replace ec := ec.nw nW
  replace ek := ek.nw nW
  unfold labV
  go_enter Try.func36, Try.ntmps36
  go_upto_region 1 with fail
  rw [← hW.out]
  clear hW
  generalize w.heap.size = N at *
  have hSof : ∀ w', Nw W w' → (fun w' : World => Nw W w' ∧ w'.cell? ⟨N, 0, none⟩ = some (.int .i64 zt) ∧ w'.cell? ⟨N, 1, none⟩ = some (.slice adt xt.length cpt) ∧ w'.cell? ⟨N + 1, 0, none⟩ = some (.int .i64 zc) ∧ w'.cell? ⟨N + 1, 1, none⟩ = some (.slice adc xc.length cpc) ∧ w'.cell? ⟨N + 1 + 1, 0, none⟩ = some (.int .i64 zk) ∧ w'.cell? ⟨N + 1 + 1, 1, none⟩ = some (.slice adk xk.length cpk)) w' := fun w' hw => ⟨hw, cell_blk ((hw.block _ (heap_lt ht) (fun h => h)).trans ht) rfl, cell_blk ((hw.block _ (heap_lt ht) (fun h => h)).trans ht) rfl, cell_blk ((hw.block _ (heap_lt hc) (fun h => h)).trans hc) rfl, cell_blk ((hw.block _ (heap_lt hc) (fun h => h)).trans hc) rfl, cell_blk ((hw.block _ (heap_lt hk) (fun h => h)).trans hk) rfl, cell_blk ((hw.block _ (heap_lt hk) (fun h => h)).trans hk) rfl⟩
  have hW0 : Nw W W.drew := Fr.drew (Fr.refl _ W)
  have hS := hSof _ hW0
  replace et := et.nw hW0
  replace ec := ec.nw hW0
  replace ek := ek.nw hW0
  replace hSof : Hid _ := hSof
  refine wp_region_ord [] 19 [(0, true), (1, false), (2, true), (3, true), (4, false), (5, true), (6, true), (7, true), (8, true), (9, false), (10, true), (11, true), (12, true), (13, true), (14, true), (15, false), (16, false), (17, false), (18, true)] (fun w' : World => Nw W w' ∧ w'.cell? ⟨N, 0, none⟩ = some (.int .i64 zt) ∧ w'.cell? ⟨N, 1, none⟩ = some (.slice adt xt.length cpt) ∧ w'.cell? ⟨N + 1, 0, none⟩ = some (.int .i64 zc) ∧ w'.cell? ⟨N + 1, 1, none⟩ = some (.slice adc xc.length cpc) ∧ w'.cell? ⟨N + 1 + 1, 0, none⟩ = some (.int .i64 zk) ∧ w'.cell? ⟨N + 1 + 1, 1, none⟩ = some (.slice adk xk.length cpk)) (by kernel_rfl) (by kernel_rfl) ?_
  refine ord_quietL _ ?_ rfl hS rfl ?_ ?_
  rotate_left
  · rintro w' ⟨hn, h0, h1, h2, h3, h4, h5⟩; go_simp; first | rfl | (rw [if_pos (by omega)]; done) | (rw [if_pos (by omega)]; rfl) | (rw [if_pos (by omega)]; go_simp; rfl)
  simp only [Act.put, List.setIfInBounds_toArray, List.set_cons_zero, List.set_cons_succ]
  refine ord_actL _ rfl (fun K1 hK1 => ?_)
  have hcon : Hid _ := c_rright zk W.drew ek (by omega)
  unfold RgtP at hcon
  unfold labV at hcon
  go_wp2_with (go_at_call 57; refine Calls.mono hcon.out ?_; rintro e wk0 ⟨r, rfl, q1, qn⟩)
  have m0 := nw_trans hW0 qn
  replace et := et.nw qn
  replace ec := ec.nw qn
  replace ek := ek.nw qn
  cases r with
  | true =>
    have s1 : Hid _ := q1.1 rfl
    refine hK1 _ _ (hSof.out _ m0) ?_
    clear hK1 K1 hcon qn hS hW0 q1
    have hS := hSof.out _ m0
    refine ord_quietL _ ?_ rfl hS rfl ?_ ?_
    rotate_left
    · rintro w' ⟨hn, h0, h1, h2, h3, h4, h5⟩; go_simp; first | rfl | (rw [if_pos (by omega)]; done) | (rw [if_pos (by omega)]; rfl) | (rw [if_pos (by omega)]; go_simp; rfl)
    simp only [Act.put, List.setIfInBounds_toArray, List.set_cons_zero, List.set_cons_succ]
    refine ord_quietL _ ?_ rfl hS rfl ?_ ?_
    rotate_left
    · rintro w' ⟨hn, h0, h1, h2, h3, h4, h5⟩; go_simp; first | rfl | (rw [if_pos (by omega)]; done) | (rw [if_pos (by omega)]; rfl) | (rw [if_pos (by omega)]; go_simp; rfl)
    simp only [Act.put, List.setIfInBounds_toArray, List.set_cons_zero, List.set_cons_succ]
    refine ord_actL _ rfl (fun K1 hK1 => ?_)
    have hcon : Hid _ := c_rpure zk wk0 ek
    unfold labV at hcon
    go_wp2_with (go_at_call 58; refine Calls.mono hcon.out ?_; rintro e wk1 ⟨r, rfl, q1, qn⟩)
    have m1 := nw_trans m0 qn
    replace et := et.nw qn
    replace ec := ec.nw qn
    replace ek := ek.nw qn
    cases r with
    | true =>
      have s4 : Hid _ := q1.1 rfl
      refine hK1 _ _ (hSof.out _ m1) ?_
      clear hK1 K1 hcon qn hS m0 q1
      have hS := hSof.out _ m1
      refine ord_quietL _ ?_ rfl hS rfl ?_ ?_
      rotate_left
      · rintro w' ⟨hn, h0, h1, h2, h3, h4, h5⟩; go_simp; first | rfl | (rw [if_pos (by omega)]; done) | (rw [if_pos (by omega)]; rfl) | (rw [if_pos (by omega)]; go_simp; rfl)
      simp only [Act.put, List.setIfInBounds_toArray, List.set_cons_zero, List.set_cons_succ]
      refine ord_quietL _ ?_ rfl hS rfl ?_ ?_
      rotate_left
      · rintro w' ⟨hn, h0, h1, h2, h3, h4, h5⟩; go_simp; first | rfl | (rw [if_pos (by omega)]; done) | (rw [if_pos (by omega)]; rfl) | (rw [if_pos (by omega)]; go_simp; rfl)
      simp only [Act.put, List.setIfInBounds_toArray, List.set_cons_zero, List.set_cons_succ]
      refine ord_quietL _ ?_ rfl hS rfl ?_ ?_
      rotate_left
      · rintro w' ⟨hn, h0, h1, h2, h3, h4, h5⟩; go_simp; first | rfl | (rw [if_pos (by omega)]; done) | (rw [if_pos (by omega)]; rfl) | (rw [if_pos (by omega)]; go_simp; rfl)
      simp only [Act.put, List.setIfInBounds_toArray, List.set_cons_zero, List.set_cons_succ]
      refine ord_quietL _ ?_ rfl hS rfl ?_ ?_
      rotate_left
      · rintro w' ⟨hn, h0, h1, h2, h3, h4, h5⟩; go_simp; first | rfl | (rw [if_pos (by omega)]; done) | (rw [if_pos (by omega)]; rfl) | (rw [if_pos (by omega)]; go_simp; rfl)
      simp only [Act.put, List.setIfInBounds_toArray, List.set_cons_zero, List.set_cons_succ]
      refine ord_actL _ rfl (fun K1 hK1 => ?_)
      have hcon : Hid _ := c_rleq2 zt zk wk1 et ek (by omega)
      unfold labV at hcon
      go_wp2_with (go_at_call 53; refine Calls.mono hcon.out ?_; rintro e wk2 ⟨r, rfl, q1, qn⟩)
      have m2 := nw_trans m1 qn
      replace et := et.nw qn
      replace ec := ec.nw qn
      replace ek := ek.nw qn
      cases r with
      | true =>
        have s9 : Hid _ := q1.1 rfl
        refine hK1 _ _ (hSof.out _ m2) ?_
        clear hK1 K1 hcon qn hS m1 q1
        have hS := hSof.out _ m2
        refine ord_quietL _ ?_ rfl hS rfl ?_ ?_
        rotate_left
        · rintro w' ⟨hn, h0, h1, h2, h3, h4, h5⟩; go_simp; first | rfl | (rw [if_pos (by omega)]; done) | (rw [if_pos (by omega)]; rfl) | (rw [if_pos (by omega)]; go_simp; rfl)
        simp only [Act.put, List.setIfInBounds_toArray, List.set_cons_zero, List.set_cons_succ]
        refine ord_quietL _ ?_ rfl hS rfl ?_ ?_
        rotate_left
        · rintro w' ⟨hn, h0, h1, h2, h3, h4, h5⟩; go_simp; first | rfl | (rw [if_pos (by omega)]; done) | (rw [if_pos (by omega)]; rfl) | (rw [if_pos (by omega)]; go_simp; rfl)
        simp only [Act.put, List.setIfInBounds_toArray, List.set_cons_zero, List.set_cons_succ]
        refine ord_quietL _ ?_ rfl hS rfl ?_ ?_
        rotate_left
        · rintro w' ⟨hn, h0, h1, h2, h3, h4, h5⟩; go_simp; first | rfl | (rw [if_pos (by omega)]; done) | (rw [if_pos (by omega)]; rfl) | (rw [if_pos (by omega)]; go_simp; rfl)
        simp only [Act.put, List.setIfInBounds_toArray, List.set_cons_zero, List.set_cons_succ]
        refine ord_quietL _ ?_ rfl hS rfl ?_ ?_
        rotate_left
        · rintro w' ⟨hn, h0, h1, h2, h3, h4, h5⟩; go_simp; first | rfl | (rw [if_pos (by omega)]; done) | (rw [if_pos (by omega)]; rfl) | (rw [if_pos (by omega)]; go_simp; rfl)
        simp only [Act.put, List.setIfInBounds_toArray, List.set_cons_zero, List.set_cons_succ]
        refine ord_quietL _ ?_ rfl hS rfl ?_ ?_
        rotate_left
        · rintro w' ⟨hn, h0, h1, h2, h3, h4, h5⟩; go_simp; first | rfl | (rw [if_pos (by omega)]; done) | (rw [if_pos (by omega)]; rfl) | (rw [if_pos (by omega)]; go_simp; rfl)
        simp only [Act.put, List.setIfInBounds_toArray, List.set_cons_zero, List.set_cons_succ]
        refine ord_actL _ rfl (fun K1 hK1 => ?_)
        have hcon : Hid _ := c_rraise zt wk2 et (by omega)
        unfold MadeL labV at hcon
        go_wp2_with (go_at_call 54; refine Calls.mono hcon.out ?_; rintro e wk3 ⟨u3, x3, rfl, q1, q2, q3, q4, qn⟩)
        have m3 := nw_trans m2 qn
        replace et := et.nw qn
        replace ec := ec.nw qn
        replace ek := ek.nw qn
        obtain ⟨a3, c3, rfl, _, _⟩ := q1.form
        have e3 := q1.any
        have g3 : Hid (∀ id, lev (tn 0 5 zt) x3 id = tn 0 5 (lev zt xt id)) := q3
        generalize tn 0 5 zt = z3 at *
        refine hK1 _ _ (hSof.out _ m3) ?_
        clear hK1 K1 hcon qn hS m2 q1 q2 q3
        have hS := hSof.out _ m3
        refine ord_actL _ rfl (fun K1 hK1 => ?_)
        have hcon : Hid _ := c_rmerge true zc z3 wk3 ec e3 (by omega)
        unfold MadeL labV at hcon
        simp only [pk_max] at hcon
        go_wp2_with (go_at_call 13; refine Calls.mono hcon.out ?_; rintro e wk4 ⟨u4, x4, rfl, q1, q2, q5, q6, qn⟩)
        have m4 := nw_trans m3 qn
        replace et := et.nw qn
        replace ec := ec.nw qn
        replace ek := ek.nw qn
        replace e3 := e3.nw qn
        obtain ⟨a4, c4, rfl, _, _⟩ := q1.form
        have e4 := q1.any
        have gE : Hid (∀ id, lev (max zc z3) x4 id = max (lev zc xc id) (tn 0 5 (lev zt xt id))) := fun id => by rw [q5 id, g3.out]
        generalize max zc z3 = z4 at *
        refine hK1 _ _ (hSof.out _ m4) ?_
        clear hK1 K1 hcon qn hS m3 q1 q2 q5
        have hS := hSof.out _ m4
        refine ord_actL _ rfl (fun K1 hK1 => ?_)
        have hcon : Hid _ := c_rleq2 zk z4 wk4 ek e4 (by omega)
        unfold labV at hcon
        go_wp2_with (go_at_call 53; refine Calls.mono hcon.out ?_; rintro e wk5 ⟨r, rfl, q1, qn⟩)
        have m5 := nw_trans m4 qn
        replace et := et.nw qn
        replace ec := ec.nw qn
        replace ek := ek.nw qn
        replace e3 := e3.nw qn
        replace e4 := e4.nw qn
        cases r with
        | true =>
          have s17 : Hid _ := q1.1 rfl
          refine hK1 _ _ (hSof.out _ m5) ?_
          clear hK1 K1 hcon qn hS m4 q1
          have hS := hSof.out _ m5
          refine ord_quietL _ ?_ rfl hS rfl ?_ ?_
          rotate_left
          · rintro w' ⟨hn, h0, h1, h2, h3, h4, h5⟩; go_simp; first | rfl | (rw [if_pos (by omega)]; done) | (rw [if_pos (by omega)]; rfl) | (rw [if_pos (by omega)]; go_simp; rfl)
          simp only [Act.put, List.setIfInBounds_toArray, List.set_cons_zero, List.set_cons_succ]
          refine ord_tail ?_
          simp only [List.drop_succ_cons, List.drop_zero]
          have hfin := nw_trans nW m5
          have hP : Hid (Rgt zk xk ∧ Pu zk xk ∧ leL (lev zt xt) (lev zk xk) ∧ leL (lev zk xk) (fun id => max (lev zc xc id) (tn 0 5 (lev zt xt id)))) := ⟨s1.out, s4.out, s9.out, fun id => by have := s17.out id; rw [gE.out] at this; exact this⟩
          go_wp2
          go_ret
          exact ans_yes hP.out hfin
        | false =>
          have s17 : Hid _ := not_of_false q1
          refine hK1 _ _ (hSof.out _ m5) ?_
          clear hK1 K1 hcon qn hS m4 q1
          have hS := hSof.out _ m5
          refine ord_quietL _ ?_ rfl hS rfl ?_ ?_
          rotate_left
          · rintro w' ⟨hn, h0, h1, h2, h3, h4, h5⟩; go_simp; first | rfl | (rw [if_pos (by omega)]; done) | (rw [if_pos (by omega)]; rfl) | (rw [if_pos (by omega)]; go_simp; rfl)
          simp only [Act.put, List.setIfInBounds_toArray, List.set_cons_zero, List.set_cons_succ]
          refine ord_tail ?_
          simp only [List.drop_succ_cons, List.drop_zero]
          have hfin := nw_trans nW m5
          have hP : Hid (¬ (Rgt zk xk ∧ Pu zk xk ∧ leL (lev zt xt) (lev zk xk) ∧ leL (lev zk xk) (fun id => max (lev zc xc id) (tn 0 5 (lev zt xt id))))) := fun h => s17.out ((fun id => by rw [gE.out]; exact h.2.2.2 id))
          go_wp2
          go_ret
          exact ans_no hP.out hfin
      | false =>
        have s9 : Hid _ := not_of_false q1
        refine hK1 _ _ (hSof.out _ m2) ?_
        clear hK1 K1 hcon qn hS m1 q1
        have hS := hSof.out _ m2
        refine ord_quietL _ ?_ rfl hS rfl ?_ ?_
        rotate_left
        · rintro w' ⟨hn, h0, h1, h2, h3, h4, h5⟩; go_simp; first | rfl | (rw [if_pos (by omega)]; done) | (rw [if_pos (by omega)]; rfl) | (rw [if_pos (by omega)]; go_simp; rfl)
        simp only [Act.put, List.setIfInBounds_toArray, List.set_cons_zero, List.set_cons_succ]
        refine ord_quietL _ ?_ rfl hS rfl ?_ ?_
        rotate_left
        · rintro w' ⟨hn, h0, h1, h2, h3, h4, h5⟩; go_simp; first | rfl | (rw [if_pos (by omega)]; done) | (rw [if_pos (by omega)]; rfl) | (rw [if_pos (by omega)]; go_simp; rfl)
        simp only [Act.put, List.setIfInBounds_toArray, List.set_cons_zero, List.set_cons_succ]
        refine ord_skipL _ rfl hS rfl ?_
        simp only [Act.put, List.setIfInBounds_toArray, List.set_cons_zero, List.set_cons_succ]
        refine ord_skipL _ rfl hS rfl ?_
        simp only [Act.put, List.setIfInBounds_toArray, List.set_cons_zero, List.set_cons_succ]
        refine ord_skipL _ rfl hS rfl ?_
        simp only [Act.put, List.setIfInBounds_toArray, List.set_cons_zero, List.set_cons_succ]
        refine ord_actL _ rfl (fun K1 hK1 => ?_)
        go_wp2
        refine hK1 _ _ (hSof.out _ m2) ?_
        clear hK1 K1
        refine ord_actL _ rfl (fun K1 hK1 => ?_)
        go_wp2
        refine hK1 _ _ (hSof.out _ m2) ?_
        clear hK1 K1
        refine ord_actL _ rfl (fun K1 hK1 => ?_)
        go_wp2
        refine hK1 _ _ (hSof.out _ m2) ?_
        clear hK1 K1
        refine ord_quietL _ ?_ rfl hS rfl ?_ ?_
        rotate_left
        · rintro w' ⟨hn, h0, h1, h2, h3, h4, h5⟩; go_simp; first | rfl | (rw [if_pos (by omega)]; done) | (rw [if_pos (by omega)]; rfl) | (rw [if_pos (by omega)]; go_simp; rfl)
        simp only [Act.put, List.setIfInBounds_toArray, List.set_cons_zero, List.set_cons_succ]
        refine ord_tail ?_
        simp only [List.drop_succ_cons, List.drop_zero]
        have hfin := nw_trans nW m2
        have hP : Hid (¬ (Rgt zk xk ∧ Pu zk xk ∧ leL (lev zt xt) (lev zk xk) ∧ leL (lev zk xk) (fun id => max (lev zc xc id) (tn 0 5 (lev zt xt id))))) := fun h => s9.out (h.2.2.1)
        go_wp2
        go_ret
        exact ans_no hP.out hfin
    | false =>
      have s4 : Hid _ := not_of_false q1
      refine hK1 _ _ (hSof.out _ m1) ?_
      clear hK1 K1 hcon qn hS m0 q1
      have hS := hSof.out _ m1
      refine ord_quietL _ ?_ rfl hS rfl ?_ ?_
      rotate_left
      · rintro w' ⟨hn, h0, h1, h2, h3, h4, h5⟩; go_simp; first | rfl | (rw [if_pos (by omega)]; done) | (rw [if_pos (by omega)]; rfl) | (rw [if_pos (by omega)]; go_simp; rfl)
      simp only [Act.put, List.setIfInBounds_toArray, List.set_cons_zero, List.set_cons_succ]
      refine ord_quietL _ ?_ rfl hS rfl ?_ ?_
      rotate_left
      · rintro w' ⟨hn, h0, h1, h2, h3, h4, h5⟩; go_simp; first | rfl | (rw [if_pos (by omega)]; done) | (rw [if_pos (by omega)]; rfl) | (rw [if_pos (by omega)]; go_simp; rfl)
      simp only [Act.put, List.setIfInBounds_toArray, List.set_cons_zero, List.set_cons_succ]
      refine ord_skipL _ rfl hS rfl ?_
      simp only [Act.put, List.setIfInBounds_toArray, List.set_cons_zero, List.set_cons_succ]
      refine ord_skipL _ rfl hS rfl ?_
      simp only [Act.put, List.setIfInBounds_toArray, List.set_cons_zero, List.set_cons_succ]
      refine ord_actL _ rfl (fun K1 hK1 => ?_)
      go_wp2
      refine hK1 _ _ (hSof.out _ m1) ?_
      clear hK1 K1
      refine ord_quietL _ ?_ rfl hS rfl ?_ ?_
      rotate_left
      · rintro w' ⟨hn, h0, h1, h2, h3, h4, h5⟩; go_simp; first | rfl | (rw [if_pos (by omega)]; done) | (rw [if_pos (by omega)]; rfl) | (rw [if_pos (by omega)]; go_simp; rfl)
      simp only [Act.put, List.setIfInBounds_toArray, List.set_cons_zero, List.set_cons_succ]
      refine ord_quietL _ ?_ rfl hS rfl ?_ ?_
      rotate_left
      · rintro w' ⟨hn, h0, h1, h2, h3, h4, h5⟩; go_simp; first | rfl | (rw [if_pos (by omega)]; done) | (rw [if_pos (by omega)]; rfl) | (rw [if_pos (by omega)]; go_simp; rfl)
      simp only [Act.put, List.setIfInBounds_toArray, List.set_cons_zero, List.set_cons_succ]
      refine ord_skipL _ rfl hS rfl ?_
      simp only [Act.put, List.setIfInBounds_toArray, List.set_cons_zero, List.set_cons_succ]
      refine ord_skipL _ rfl hS rfl ?_
      simp only [Act.put, List.setIfInBounds_toArray, List.set_cons_zero, List.set_cons_succ]
      refine ord_skipL _ rfl hS rfl ?_
      simp only [Act.put, List.setIfInBounds_toArray, List.set_cons_zero, List.set_cons_succ]
      refine ord_actL _ rfl (fun K1 hK1 => ?_)
      go_wp2
      refine hK1 _ _ (hSof.out _ m1) ?_
      clear hK1 K1
      refine ord_actL _ rfl (fun K1 hK1 => ?_)
      go_wp2
      refine hK1 _ _ (hSof.out _ m1) ?_
      clear hK1 K1
      refine ord_actL _ rfl (fun K1 hK1 => ?_)
      go_wp2
      refine hK1 _ _ (hSof.out _ m1) ?_
      clear hK1 K1
      refine ord_quietL _ ?_ rfl hS rfl ?_ ?_
      rotate_left
      · rintro w' ⟨hn, h0, h1, h2, h3, h4, h5⟩; go_simp; first | rfl | (rw [if_pos (by omega)]; done) | (rw [if_pos (by omega)]; rfl) | (rw [if_pos (by omega)]; go_simp; rfl)
      simp only [Act.put, List.setIfInBounds_toArray, List.set_cons_zero, List.set_cons_succ]
      refine ord_tail ?_
      simp only [List.drop_succ_cons, List.drop_zero]
      have hfin := nw_trans nW m1
      have hP : Hid (¬ (Rgt zk xk ∧ Pu zk xk ∧ leL (lev zt xt) (lev zk xk) ∧ leL (lev zk xk) (fun id => max (lev zc xc id) (tn 0 5 (lev zt xt id))))) := fun h => s4.out (h.2.1)
      go_wp2
      go_ret
      exact ans_no hP.out hfin
  | false =>
    have s1 : Hid _ := not_of_false q1
    refine hK1 _ _ (hSof.out _ m0) ?_
    clear hK1 K1 hcon qn hS hW0 q1
    have hS := hSof.out _ m0
    refine ord_quietL _ ?_ rfl hS rfl ?_ ?_
    rotate_left
    · rintro w' ⟨hn, h0, h1, h2, h3, h4, h5⟩; go_simp; first | rfl | (rw [if_pos (by omega)]; done) | (rw [if_pos (by omega)]; rfl) | (rw [if_pos (by omega)]; go_simp; rfl)
    simp only [Act.put, List.setIfInBounds_toArray, List.set_cons_zero, List.set_cons_succ]
    refine ord_skipL _ rfl hS rfl ?_
    simp only [Act.put, List.setIfInBounds_toArray, List.set_cons_zero, List.set_cons_succ]
    refine ord_actL _ rfl (fun K1 hK1 => ?_)
    go_wp2
    refine hK1 _ _ (hSof.out _ m0) ?_
    clear hK1 K1
    refine ord_quietL _ ?_ rfl hS rfl ?_ ?_
    rotate_left
    · rintro w' ⟨hn, h0, h1, h2, h3, h4, h5⟩; go_simp; first | rfl | (rw [if_pos (by omega)]; done) | (rw [if_pos (by omega)]; rfl) | (rw [if_pos (by omega)]; go_simp; rfl)
    simp only [Act.put, List.setIfInBounds_toArray, List.set_cons_zero, List.set_cons_succ]
    refine ord_quietL _ ?_ rfl hS rfl ?_ ?_
    rotate_left
    · rintro w' ⟨hn, h0, h1, h2, h3, h4, h5⟩; go_simp; first | rfl | (rw [if_pos (by omega)]; done) | (rw [if_pos (by omega)]; rfl) | (rw [if_pos (by omega)]; go_simp; rfl)
    simp only [Act.put, List.setIfInBounds_toArray, List.set_cons_zero, List.set_cons_succ]
    refine ord_skipL _ rfl hS rfl ?_
    simp only [Act.put, List.setIfInBounds_toArray, List.set_cons_zero, List.set_cons_succ]
    refine ord_skipL _ rfl hS rfl ?_
    simp only [Act.put, List.setIfInBounds_toArray, List.set_cons_zero, List.set_cons_succ]
    refine ord_actL _ rfl (fun K1 hK1 => ?_)
    go_wp2
    refine hK1 _ _ (hSof.out _ m0) ?_
    clear hK1 K1
    refine ord_quietL _ ?_ rfl hS rfl ?_ ?_
    rotate_left
    · rintro w' ⟨hn, h0, h1, h2, h3, h4, h5⟩; go_simp; first | rfl | (rw [if_pos (by omega)]; done) | (rw [if_pos (by omega)]; rfl) | (rw [if_pos (by omega)]; go_simp; rfl)
    simp only [Act.put, List.setIfInBounds_toArray, List.set_cons_zero, List.set_cons_succ]
    refine ord_quietL _ ?_ rfl hS rfl ?_ ?_
    rotate_left
    · rintro w' ⟨hn, h0, h1, h2, h3, h4, h5⟩; go_simp; first | rfl | (rw [if_pos (by omega)]; done) | (rw [if_pos (by omega)]; rfl) | (rw [if_pos (by omega)]; go_simp; rfl)
    simp only [Act.put, List.setIfInBounds_toArray, List.set_cons_zero, List.set_cons_succ]
    refine ord_skipL _ rfl hS rfl ?_
    simp only [Act.put, List.setIfInBounds_toArray, List.set_cons_zero, List.set_cons_succ]
    refine ord_skipL _ rfl hS rfl ?_
    simp only [Act.put, List.setIfInBounds_toArray, List.set_cons_zero, List.set_cons_succ]
    refine ord_skipL _ rfl hS rfl ?_
    simp only [Act.put, List.setIfInBounds_toArray, List.set_cons_zero, List.set_cons_succ]
    refine ord_actL _ rfl (fun K1 hK1 => ?_)
    go_wp2
    refine hK1 _ _ (hSof.out _ m0) ?_
    clear hK1 K1
    refine ord_actL _ rfl (fun K1 hK1 => ?_)
    go_wp2
    refine hK1 _ _ (hSof.out _ m0) ?_
    clear hK1 K1
    refine ord_actL _ rfl (fun K1 hK1 => ?_)
    go_wp2
    refine hK1 _ _ (hSof.out _ m0) ?_
    clear hK1 K1
    refine ord_quietL _ ?_ rfl hS rfl ?_ ?_
    rotate_left
    · rintro w' ⟨hn, h0, h1, h2, h3, h4, h5⟩; go_simp; first | rfl | (rw [if_pos (by omega)]; done) | (rw [if_pos (by omega)]; rfl) | (rw [if_pos (by omega)]; go_simp; rfl)
    simp only [Act.put, List.setIfInBounds_toArray, List.set_cons_zero, List.set_cons_succ]
    refine ord_tail ?_
    simp only [List.drop_succ_cons, List.drop_zero]
    have hfin := nw_trans nW m0
    have hP : Hid (¬ (Rgt zk xk ∧ Pu zk xk ∧ leL (lev zt xt) (lev zk xk) ∧ leL (lev zk xk) (fun id => max (lev zc xc id) (tn 0 5 (lev zt xt id))))) := fun h => s1.out (h.1)
    go_wp2
    go_ret
    exact ans_no hP.out hfin
end Go.Proofs.Ytnljfhjindenpaa
