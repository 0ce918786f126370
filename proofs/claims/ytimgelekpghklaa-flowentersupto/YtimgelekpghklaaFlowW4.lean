/-
  Package flow: Enters.
-/
import Derived.Test.YtimgelekpghklaaFlowW3
namespace Go.Proofs.Ytimgelekpghklaa
set_option linter.unusedVariables false
set_option linter.unusedSimpArgs false
set_option maxRecDepth 20000
open Go.RowKit

/-- What Enters asks. -/
def ENP (zt zc zs zk zl zv : Int) (xt xc xs xk xl xv : List Cat) : Prop := Rgt zl xl ∧ Rgt zv xv ∧ Pu zv xv ∧ leL (lev zt xt) (lev zk xk) ∧ leL (fun id => bo (lev zt xt id) (lev zs xs id)) (lev zl xl) ∧ leL (lev zl xl) (lev zv xv) ∧ leL (lev zv xv) (fun id => max (lev zc xc id) (lev zk xk id))

set_option maxRecDepth 20000 in
set_option maxHeartbeats 3200000 in
theorem c_fenters {Xt Xc Xs Xk Xl Xv : Nat → Prop} {ut uc us uk ul uv : Value} {xt xc xs xk xl xv : List Cat} (zt zc zs zk zl zv : Int) (w : World) (et : CSl Xt w ut xt) (ec : CSl Xc w uc xc) (es : CSl Xs w us xs) (ek : CSl Xk w uk xk) (el : CSl Xl w ul xl) (ev : CSl Xv w uv xv) (lt : xt.length ≤ 8796093021952) (lc : xc.length ≤ 8796093021952) (ls : xs.length ≤ 8796093021952) (lk : xk.length ≤ 8796093021952) (ll : xl.length ≤ 8796093021952) (lv : xv.length ≤ 8796093021952) (lts : xt.length + xs.length ≤ 8796093021952) (lck : xc.length + xk.length ≤ 8796093021952) :
    Calls Try.prog 6 #[whoV zt ut zc uc, whoV zs us zk uk, whoV zl ul zv uv] w (AnsP (ENP zt zc zs zk zl zv xt xc xs xk xl xv) w) := by
  obtain ⟨adt, cpt, rfl, _, _⟩ := et.form
  obtain ⟨adc, cpc, rfl, _, _⟩ := ec.form
  obtain ⟨ads, cps, rfl, _, _⟩ := es.form
  obtain ⟨adk, cpk, rfl, _, _⟩ := ek.form
  obtain ⟨adl, cpl, rfl, _, _⟩ := el.form
  obtain ⟨adv, cpv, rfl, _, _⟩ := ev.form
  obtain ⟨W, hW⟩ : ∃ W, Hid (W = (((w.alloc (.cells #[.int .i64 zt, .slice adt xt.length cpt, .int .i64 zc, .slice adc xc.length cpc] 26)).alloc (.cells #[.int .i64 zs, .slice ads xs.length cps, .int .i64 zk, .slice adk xk.length cpk] 26)).alloc (.cells #[.int .i64 zl, .slice adl xl.length cpl, .int .i64 zv, .slice adv xv.length cpv] 26))) := ⟨_, rfl⟩
  have nW : Nw w W := by rw [hW.out]; exact nw_alloc (nw_alloc (nw_alloc (nw_refl w) _) _) _
  have ht : W.heap[w.heap.size]? = some (.cells #[.int .i64 zt, .slice adt xt.length cpt, .int .i64 zc, .slice adc xc.length cpc] 26 (0, 0)) := by
    rw [hW.out, Below.heap_alloc _ _ _ (by simp; try omega), Below.heap_alloc _ _ _ (by simp; try omega)]
    have := heap_alloc_new w (.cells #[.int .i64 zt, .slice adt xt.length cpt, .int .i64 zc, .slice adc xc.length cpc] 26)
    simpa using this
  have hs : W.heap[w.heap.size + 1]? = some (.cells #[.int .i64 zs, .slice ads xs.length cps, .int .i64 zk, .slice adk xk.length cpk] 26 (0, 0)) := by
    rw [hW.out, Below.heap_alloc _ _ _ (by simp; try omega)]
    have := heap_alloc_new (w.alloc (.cells #[.int .i64 zt, .slice adt xt.length cpt, .int .i64 zc, .slice adc xc.length cpc] 26)) (.cells #[.int .i64 zs, .slice ads xs.length cps, .int .i64 zk, .slice adk xk.length cpk] 26)
    simpa using this
  have hl : W.heap[w.heap.size + 1 + 1]? = some (.cells #[.int .i64 zl, .slice adl xl.length cpl, .int .i64 zv, .slice adv xv.length cpv] 26 (0, 0)) := by
    rw [hW.out]
    have := heap_alloc_new ((w.alloc (.cells #[.int .i64 zt, .slice adt xt.length cpt, .int .i64 zc, .slice adc xc.length cpc] 26)).alloc (.cells #[.int .i64 zs, .slice ads xs.length cps, .int .i64 zk, .slice adk xk.length cpk] 26)) (.cells #[.int .i64 zl, .slice adl xl.length cpl, .int .i64 zv, .slice adv xv.length cpv] 26)
    simpa using this
  replace et := et.nw nW
  replace ec := ec.nw nW
  replace es := es.nw nW
  replace ek := ek.nw nW
  replace el := el.nw nW
  replace ev := ev.nw nW
  unfold whoV
  go_enter Try.func6, Try.ntmps6
  go_upto_region 1 with fail
  rw [← hW.out]
  clear hW
  generalize w.heap.size = N at *
  have y0 : W.cell? ⟨N, 0, none⟩ = some (.int .i64 zt) := cell_blk ht rfl
  have y1 : W.cell? ⟨N, 1, none⟩ = some (.slice adt xt.length cpt) := cell_blk ht rfl
  have y2 : W.cell? ⟨N, 2, none⟩ = some (.int .i64 zc) := cell_blk ht rfl
  have y3 : W.cell? ⟨N, 3, none⟩ = some (.slice adc xc.length cpc) := cell_blk ht rfl
  have y4 : W.cell? ⟨N + 1, 0, none⟩ = some (.int .i64 zs) := cell_blk hs rfl
  have y5 : W.cell? ⟨N + 1, 1, none⟩ = some (.slice ads xs.length cps) := cell_blk hs rfl
  have y6 : W.cell? ⟨N + 1, 2, none⟩ = some (.int .i64 zk) := cell_blk hs rfl
  have y7 : W.cell? ⟨N + 1, 3, none⟩ = some (.slice adk xk.length cpk) := cell_blk hs rfl
  have y8 : W.cell? ⟨N + 1 + 1, 0, none⟩ = some (.int .i64 zl) := cell_blk hl rfl
  have y9 : W.cell? ⟨N + 1 + 1, 1, none⟩ = some (.slice adl xl.length cpl) := cell_blk hl rfl
  have y10 : W.cell? ⟨N + 1 + 1, 2, none⟩ = some (.int .i64 zv) := cell_blk hl rfl
  have y11 : W.cell? ⟨N + 1 + 1, 3, none⟩ = some (.slice adv xv.length cpv) := cell_blk hl rfl
  have hcon : Hid _ := c_join zc zk W ec ek (by omega)
  obtain ⟨zj, hzj⟩ : ∃ D, Hid (max zc zk = D) := ⟨_, rfl⟩
  unfold MadeL at hcon
  rw [hzj.out] at hcon
  unfold labV at hcon
  go_wp2_with (go_at_call 16; refine Calls.mono hcon.out ?_; rintro e WB ⟨uj, xj, rfl, q1, q2, q3, q4, qn⟩; refine stop_here ?_)
  unfold Hid
  obtain ⟨adj, cpj, rfl, _, _⟩ := q1.form
  have ej := q1.any
  have gj : Hid (∀ id, lev zj xj id = max (lev zc xc id) (lev zk xk id)) := q3
  have nj : xj.length ≤ 8796093021952 := by omega
  replace nW := nw_trans nW qn
  replace et := et.nw qn
  replace ec := ec.nw qn
  replace es := es.nw qn
  replace ek := ek.nw qn
  replace el := el.nw qn
  replace ev := ev.nw qn
  replace ht := (qn.block _ (heap_lt ht) (fun h => h)).trans ht
  replace hs := (qn.block _ (heap_lt hs) (fun h => h)).trans hs
  replace hl := (qn.block _ (heap_lt hl) (fun h => h)).trans hl
  clear q1 q2 q3 q4 qn hcon y0 y1 y2 y3 y4 y5 y6 y7 y8 y9 y10 y11
  have nV : Nw WB (WB.alloc (.cells #[.int .i64 zj, .slice adj xj.length cpj] 24)) := nw_alloc (nw_refl WB) _
  have hj : (WB.alloc (.cells #[.int .i64 zj, .slice adj xj.length cpj] 24)).heap[WB.heap.size]? = some (.cells #[.int .i64 zj, .slice adj xj.length cpj] 24 (0, 0)) := heap_alloc_new WB _
  go_upto_region 2 with fail
  generalize (WB.alloc (.cells #[.int .i64 zj, .slice adj xj.length cpj] 24)) = U at *
  replace nW := nw_trans nW nV
  replace et := et.nw nV
  replace ec := ec.nw nV
  replace es := es.nw nV
  replace ek := ek.nw nV
  replace el := el.nw nV
  replace ev := ev.nw nV
  replace ej := ej.nw nV
  replace ht := (nV.block _ (heap_lt ht) (fun h => h)).trans ht
  replace hs := (nV.block _ (heap_lt hs) (fun h => h)).trans hs
  replace hl := (nV.block _ (heap_lt hl) (fun h => h)).trans hl
  generalize WB.heap.size = V at *
  clear nV WB
  obtain ⟨zb, hzb⟩ : ∃ D, Hid (bo zt zs = D) := ⟨_, rfl⟩
  have hSof : ∀ w', Nw U w' → (fun w' : World => Nw U w' ∧ w'.cell? ⟨N, 0, none⟩ = some (.int .i64 zt) ∧ w'.cell? ⟨N, 1, none⟩ = some (.slice adt xt.length cpt) ∧ w'.cell? ⟨N, 2, none⟩ = some (.int .i64 zc) ∧ w'.cell? ⟨N, 3, none⟩ = some (.slice adc xc.length cpc) ∧ w'.cell? ⟨N + 1, 0, none⟩ = some (.int .i64 zs) ∧ w'.cell? ⟨N + 1, 1, none⟩ = some (.slice ads xs.length cps) ∧ w'.cell? ⟨N + 1, 2, none⟩ = some (.int .i64 zk) ∧ w'.cell? ⟨N + 1, 3, none⟩ = some (.slice adk xk.length cpk) ∧ w'.cell? ⟨N + 1 + 1, 0, none⟩ = some (.int .i64 zl) ∧ w'.cell? ⟨N + 1 + 1, 1, none⟩ = some (.slice adl xl.length cpl) ∧ w'.cell? ⟨N + 1 + 1, 2, none⟩ = some (.int .i64 zv) ∧ w'.cell? ⟨N + 1 + 1, 3, none⟩ = some (.slice adv xv.length cpv) ∧ w'.cell? ⟨V, 0, none⟩ = some (.int .i64 zj) ∧ w'.cell? ⟨V, 1, none⟩ = some (.slice adj xj.length cpj)) w' := fun w' hw => ⟨hw, cell_blk ((hw.block _ (heap_lt ht) (fun h => h)).trans ht) rfl, cell_blk ((hw.block _ (heap_lt ht) (fun h => h)).trans ht) rfl, cell_blk ((hw.block _ (heap_lt ht) (fun h => h)).trans ht) rfl, cell_blk ((hw.block _ (heap_lt ht) (fun h => h)).trans ht) rfl, cell_blk ((hw.block _ (heap_lt hs) (fun h => h)).trans hs) rfl, cell_blk ((hw.block _ (heap_lt hs) (fun h => h)).trans hs) rfl, cell_blk ((hw.block _ (heap_lt hs) (fun h => h)).trans hs) rfl, cell_blk ((hw.block _ (heap_lt hs) (fun h => h)).trans hs) rfl, cell_blk ((hw.block _ (heap_lt hl) (fun h => h)).trans hl) rfl, cell_blk ((hw.block _ (heap_lt hl) (fun h => h)).trans hl) rfl, cell_blk ((hw.block _ (heap_lt hl) (fun h => h)).trans hl) rfl, cell_blk ((hw.block _ (heap_lt hl) (fun h => h)).trans hl) rfl, cell_blk ((hw.block _ (heap_lt hj) (fun h => h)).trans hj) rfl, cell_blk ((hw.block _ (heap_lt hj) (fun h => h)).trans hj) rfl⟩
  have hW0 : Nw U U.drew := Fr.drew (Fr.refl _ U)
  have hS := hSof _ hW0
  replace et := et.nw hW0
  replace ec := ec.nw hW0
  replace es := es.nw hW0
  replace ek := ek.nw hW0
  replace el := el.nw hW0
  replace ev := ev.nw hW0
  replace ej := ej.nw hW0
  replace hSof : Hid _ := hSof
  refine wp_region_ord [] 33 [(0, true), (1, true), (2, false), (3, true), (4, true), (5, true), (6, false), (7, true), (8, true), (9, true), (11, true), (10, true), (12, true), (13, false), (14, true), (15, true), (16, true), (18, true), (21, true), (23, true), (17, true), (19, true), (22, true), (24, true), (20, false), (25, false), (26, true), (27, true), (28, true), (30, true), (29, true), (31, false), (32, true)] (fun w' : World => Nw U w' ∧ w'.cell? ⟨N, 0, none⟩ = some (.int .i64 zt) ∧ w'.cell? ⟨N, 1, none⟩ = some (.slice adt xt.length cpt) ∧ w'.cell? ⟨N, 2, none⟩ = some (.int .i64 zc) ∧ w'.cell? ⟨N, 3, none⟩ = some (.slice adc xc.length cpc) ∧ w'.cell? ⟨N + 1, 0, none⟩ = some (.int .i64 zs) ∧ w'.cell? ⟨N + 1, 1, none⟩ = some (.slice ads xs.length cps) ∧ w'.cell? ⟨N + 1, 2, none⟩ = some (.int .i64 zk) ∧ w'.cell? ⟨N + 1, 3, none⟩ = some (.slice adk xk.length cpk) ∧ w'.cell? ⟨N + 1 + 1, 0, none⟩ = some (.int .i64 zl) ∧ w'.cell? ⟨N + 1 + 1, 1, none⟩ = some (.slice adl xl.length cpl) ∧ w'.cell? ⟨N + 1 + 1, 2, none⟩ = some (.int .i64 zv) ∧ w'.cell? ⟨N + 1 + 1, 3, none⟩ = some (.slice adv xv.length cpv) ∧ w'.cell? ⟨V, 0, none⟩ = some (.int .i64 zj) ∧ w'.cell? ⟨V, 1, none⟩ = some (.slice adj xj.length cpj)) (by kernel_rfl) (by kernel_rfl) ?_
  refine ord_quietL _ ?_ rfl hS rfl ?_ ?_
  rotate_left
  · rintro w' ⟨hn, h0, h1, h2, h3, h4, h5, h6, h7, h8, h9, h10, h11, h12, h13⟩; go_simp; first | rfl | (rw [if_pos (by omega)]; done) | (rw [if_pos (by omega)]; rfl) | (rw [if_pos (by omega)]; go_simp; rfl)
  simp only [Act.put, List.setIfInBounds_toArray, List.set_cons_zero, List.set_cons_succ]
  refine ord_quietL _ ?_ rfl hS rfl ?_ ?_
  rotate_left
  · rintro w' ⟨hn, h0, h1, h2, h3, h4, h5, h6, h7, h8, h9, h10, h11, h12, h13⟩; go_simp; first | rfl | (rw [if_pos (by omega)]; done) | (rw [if_pos (by omega)]; rfl) | (rw [if_pos (by omega)]; go_simp; rfl)
  simp only [Act.put, List.setIfInBounds_toArray, List.set_cons_zero, List.set_cons_succ]
  refine ord_actL _ rfl (fun K1 hK1 => ?_)
  have hcon : Hid _ := c_right zl U.drew el (by omega)
  unfold RgtP at hcon
  unfold labV at hcon
  go_wp2_with (go_at_call 8; refine Calls.mono hcon.out ?_; rintro e wk0 ⟨r, rfl, q1, qn⟩)
  have m0 := nw_trans hW0 qn
  replace et := et.nw qn
  replace ec := ec.nw qn
  replace es := es.nw qn
  replace ek := ek.nw qn
  replace el := el.nw qn
  replace ev := ev.nw qn
  replace ej := ej.nw qn
  cases r with
  | true =>
    have s2 : Hid _ := q1.1 rfl
    refine hK1 _ _ (hSof.out _ m0) ?_
    clear hK1 K1 hcon qn hS hW0 q1
    have hS := hSof.out _ m0
    refine ord_quietL _ ?_ rfl hS rfl ?_ ?_
    rotate_left
    · rintro w' ⟨hn, h0, h1, h2, h3, h4, h5, h6, h7, h8, h9, h10, h11, h12, h13⟩; go_simp; first | rfl | (rw [if_pos (by omega)]; done) | (rw [if_pos (by omega)]; rfl) | (rw [if_pos (by omega)]; go_simp; rfl)
    simp only [Act.put, List.setIfInBounds_toArray, List.set_cons_zero, List.set_cons_succ]
    refine ord_quietL _ ?_ rfl hS rfl ?_ ?_
    rotate_left
    · rintro w' ⟨hn, h0, h1, h2, h3, h4, h5, h6, h7, h8, h9, h10, h11, h12, h13⟩; go_simp; first | rfl | (rw [if_pos (by omega)]; done) | (rw [if_pos (by omega)]; rfl) | (rw [if_pos (by omega)]; go_simp; rfl)
    simp only [Act.put, List.setIfInBounds_toArray, List.set_cons_zero, List.set_cons_succ]
    refine ord_quietL _ ?_ rfl hS rfl ?_ ?_
    rotate_left
    · rintro w' ⟨hn, h0, h1, h2, h3, h4, h5, h6, h7, h8, h9, h10, h11, h12, h13⟩; go_simp; first | rfl | (rw [if_pos (by omega)]; done) | (rw [if_pos (by omega)]; rfl) | (rw [if_pos (by omega)]; go_simp; rfl)
    simp only [Act.put, List.setIfInBounds_toArray, List.set_cons_zero, List.set_cons_succ]
    refine ord_actL _ rfl (fun K1 hK1 => ?_)
    have hcon : Hid _ := c_rap zv wk0 ev (by omega)
    unfold labV at hcon
    go_wp2_with (go_at_call 17; refine Calls.mono hcon.out ?_; rintro e wk1 ⟨r, rfl, q1, qn⟩)
    have m1 := nw_trans m0 qn
    replace et := et.nw qn
    replace ec := ec.nw qn
    replace es := es.nw qn
    replace ek := ek.nw qn
    replace el := el.nw qn
    replace ev := ev.nw qn
    replace ej := ej.nw qn
    cases r with
    | true =>
      have s6 : Hid _ := q1.1 rfl
      refine hK1 _ _ (hSof.out _ m1) ?_
      clear hK1 K1 hcon qn hS m0 q1
      have hS := hSof.out _ m1
      refine ord_quietL _ ?_ rfl hS rfl ?_ ?_
      rotate_left
      · rintro w' ⟨hn, h0, h1, h2, h3, h4, h5, h6, h7, h8, h9, h10, h11, h12, h13⟩; go_simp; first | rfl | (rw [if_pos (by omega)]; done) | (rw [if_pos (by omega)]; rfl) | (rw [if_pos (by omega)]; go_simp; rfl)
      simp only [Act.put, List.setIfInBounds_toArray, List.set_cons_zero, List.set_cons_succ]
      refine ord_quietL _ ?_ rfl hS rfl ?_ ?_
      rotate_left
      · rintro w' ⟨hn, h0, h1, h2, h3, h4, h5, h6, h7, h8, h9, h10, h11, h12, h13⟩; go_simp; first | rfl | (rw [if_pos (by omega)]; done) | (rw [if_pos (by omega)]; rfl) | (rw [if_pos (by omega)]; go_simp; rfl)
      simp only [Act.put, List.setIfInBounds_toArray, List.set_cons_zero, List.set_cons_succ]
      refine ord_quietL _ ?_ rfl hS rfl ?_ ?_
      rotate_left
      · rintro w' ⟨hn, h0, h1, h2, h3, h4, h5, h6, h7, h8, h9, h10, h11, h12, h13⟩; go_simp; first | rfl | (rw [if_pos (by omega)]; done) | (rw [if_pos (by omega)]; rfl) | (rw [if_pos (by omega)]; go_simp; rfl)
      simp only [Act.put, List.setIfInBounds_toArray, List.set_cons_zero, List.set_cons_succ]
      refine ord_quietL _ ?_ rfl hS rfl ?_ ?_
      rotate_left
      · rintro w' ⟨hn, h0, h1, h2, h3, h4, h5, h6, h7, h8, h9, h10, h11, h12, h13⟩; go_simp; first | rfl | (rw [if_pos (by omega)]; done) | (rw [if_pos (by omega)]; rfl) | (rw [if_pos (by omega)]; go_simp; rfl)
      simp only [Act.put, List.setIfInBounds_toArray, List.set_cons_zero, List.set_cons_succ]
      refine ord_quietL _ ?_ rfl hS rfl ?_ ?_
      rotate_left
      · rintro w' ⟨hn, h0, h1, h2, h3, h4, h5, h6, h7, h8, h9, h10, h11, h12, h13⟩; go_simp; first | rfl | (rw [if_pos (by omega)]; done) | (rw [if_pos (by omega)]; rfl) | (rw [if_pos (by omega)]; go_simp; rfl)
      simp only [Act.put, List.setIfInBounds_toArray, List.set_cons_zero, List.set_cons_succ]
      refine ord_quietL _ ?_ rfl hS rfl ?_ ?_
      rotate_left
      · rintro w' ⟨hn, h0, h1, h2, h3, h4, h5, h6, h7, h8, h9, h10, h11, h12, h13⟩; go_simp; first | rfl | (rw [if_pos (by omega)]; done) | (rw [if_pos (by omega)]; rfl) | (rw [if_pos (by omega)]; go_simp; rfl)
      simp only [Act.put, List.setIfInBounds_toArray, List.set_cons_zero, List.set_cons_succ]
      refine ord_actL _ rfl (fun K1 hK1 => ?_)
      have hcon : Hid _ := c_leq2 zt zk wk1 et ek (by omega) (by omega)
      unfold labV at hcon
      go_wp2_with (go_at_call 18; refine Calls.mono hcon.out ?_; rintro e wk2 ⟨r, rfl, q1, qn⟩)
      have m2 := nw_trans m1 qn
      replace et := et.nw qn
      replace ec := ec.nw qn
      replace es := es.nw qn
      replace ek := ek.nw qn
      replace el := el.nw qn
      replace ev := ev.nw qn
      replace ej := ej.nw qn
      cases r with
      | true =>
        have s13 : Hid _ := q1.1 rfl
        refine hK1 _ _ (hSof.out _ m2) ?_
        clear hK1 K1 hcon qn hS m1 q1
        have hS := hSof.out _ m2
        refine ord_quietL _ ?_ rfl hS rfl ?_ ?_
        rotate_left
        · rintro w' ⟨hn, h0, h1, h2, h3, h4, h5, h6, h7, h8, h9, h10, h11, h12, h13⟩; go_simp; first | rfl | (rw [if_pos (by omega)]; done) | (rw [if_pos (by omega)]; rfl) | (rw [if_pos (by omega)]; go_simp; rfl)
        simp only [Act.put, List.setIfInBounds_toArray, List.set_cons_zero, List.set_cons_succ]
        refine ord_quietL _ ?_ rfl hS rfl ?_ ?_
        rotate_left
        · rintro w' ⟨hn, h0, h1, h2, h3, h4, h5, h6, h7, h8, h9, h10, h11, h12, h13⟩; go_simp; first | rfl | (rw [if_pos (by omega)]; done) | (rw [if_pos (by omega)]; rfl) | (rw [if_pos (by omega)]; go_simp; rfl)
        simp only [Act.put, List.setIfInBounds_toArray, List.set_cons_zero, List.set_cons_succ]
        refine ord_quietL _ ?_ rfl hS rfl ?_ ?_
        rotate_left
        · rintro w' ⟨hn, h0, h1, h2, h3, h4, h5, h6, h7, h8, h9, h10, h11, h12, h13⟩; go_simp; first | rfl | (rw [if_pos (by omega)]; done) | (rw [if_pos (by omega)]; rfl) | (rw [if_pos (by omega)]; go_simp; rfl)
        simp only [Act.put, List.setIfInBounds_toArray, List.set_cons_zero, List.set_cons_succ]
        refine ord_quietL _ ?_ rfl hS rfl ?_ ?_
        rotate_left
        · rintro w' ⟨hn, h0, h1, h2, h3, h4, h5, h6, h7, h8, h9, h10, h11, h12, h13⟩; go_simp; first | rfl | (rw [if_pos (by omega)]; done) | (rw [if_pos (by omega)]; rfl) | (rw [if_pos (by omega)]; go_simp; rfl)
        simp only [Act.put, List.setIfInBounds_toArray, List.set_cons_zero, List.set_cons_succ]
        refine ord_quietL _ ?_ rfl hS rfl ?_ ?_
        rotate_left
        · rintro w' ⟨hn, h0, h1, h2, h3, h4, h5, h6, h7, h8, h9, h10, h11, h12, h13⟩; go_simp; first | rfl | (rw [if_pos (by omega)]; done) | (rw [if_pos (by omega)]; rfl) | (rw [if_pos (by omega)]; go_simp; rfl)
        simp only [Act.put, List.setIfInBounds_toArray, List.set_cons_zero, List.set_cons_succ]
        refine ord_quietL _ ?_ rfl hS rfl ?_ ?_
        rotate_left
        · rintro w' ⟨hn, h0, h1, h2, h3, h4, h5, h6, h7, h8, h9, h10, h11, h12, h13⟩; go_simp; first | rfl | (rw [if_pos (by omega)]; done) | (rw [if_pos (by omega)]; rfl) | (rw [if_pos (by omega)]; go_simp; rfl)
        simp only [Act.put, List.setIfInBounds_toArray, List.set_cons_zero, List.set_cons_succ]
        refine ord_quietL _ ?_ rfl hS rfl ?_ ?_
        rotate_left
        · rintro w' ⟨hn, h0, h1, h2, h3, h4, h5, h6, h7, h8, h9, h10, h11, h12, h13⟩; go_simp; first | rfl | (rw [if_pos (by omega)]; done) | (rw [if_pos (by omega)]; rfl) | (rw [if_pos (by omega)]; go_simp; rfl)
        simp only [Act.put, List.setIfInBounds_toArray, List.set_cons_zero, List.set_cons_succ]
        refine ord_quietL _ ?_ rfl hS rfl ?_ ?_
        rotate_left
        · rintro w' ⟨hn, h0, h1, h2, h3, h4, h5, h6, h7, h8, h9, h10, h11, h12, h13⟩; go_simp; first | rfl | (rw [if_pos (by omega)]; done) | (rw [if_pos (by omega)]; rfl) | (rw [if_pos (by omega)]; go_simp; rfl)
        simp only [Act.put, List.setIfInBounds_toArray, List.set_cons_zero, List.set_cons_succ]
        refine ord_quietL _ ?_ rfl hS rfl ?_ ?_
        rotate_left
        · rintro w' ⟨hn, h0, h1, h2, h3, h4, h5, h6, h7, h8, h9, h10, h11, h12, h13⟩; go_simp; first | rfl | (rw [if_pos (by omega)]; done) | (rw [if_pos (by omega)]; rfl) | (rw [if_pos (by omega)]; go_simp; rfl)
        simp only [Act.put, List.setIfInBounds_toArray, List.set_cons_zero, List.set_cons_succ]
        refine ord_quietL _ ?_ rfl hS rfl ?_ ?_
        rotate_left
        · rintro w' ⟨hn, h0, h1, h2, h3, h4, h5, h6, h7, h8, h9, h10, h11, h12, h13⟩; go_simp; first | rfl | (rw [if_pos (by omega)]; done) | (rw [if_pos (by omega)]; rfl) | (rw [if_pos (by omega)]; go_simp; rfl)
        simp only [Act.put, List.setIfInBounds_toArray, List.set_cons_zero, List.set_cons_succ]
        refine ord_actL _ rfl (fun K1 hK1 => ?_)
        have hcon : Hid _ := c_both zt zs wk2 et es (by omega)
        unfold MadeL at hcon
        rw [hzb.out] at hcon
        unfold labV at hcon
        go_wp2_with (go_at_call 20; refine Calls.mono hcon.out ?_; rintro e wk3 ⟨ub, xb, rfl, q1, q2, q3, q4, qn⟩)
        have m3 := nw_trans m2 qn
        replace et := et.nw qn
        replace ec := ec.nw qn
        replace es := es.nw qn
        replace ek := ek.nw qn
        replace el := el.nw qn
        replace ev := ev.nw qn
        replace ej := ej.nw qn
        obtain ⟨adb, cpb, rfl, _, _⟩ := q1.form
        have eb := q1.any
        have gb : Hid (∀ id, lev zb xb id = bo (lev zt xt id) (lev zs xs id)) := q3
        have nb : xb.length ≤ 8796093021952 := by omega
        refine hK1 _ _ (hSof.out _ m3) ?_
        clear hK1 K1 hcon qn hS m2 q1 q2 q3 q4
        have hS := hSof.out _ m3
        refine ord_actL _ rfl (fun K1 hK1 => ?_)
        have hcon : Hid _ := c_between zb zl zv wk3 eb el ev (by omega) (by omega) (by omega)
        unfold labV at hcon
        go_wp2_with (go_at_call 19; refine Calls.mono hcon.out ?_; rintro e wk4 ⟨r, rfl, q1, qn⟩)
        have m4 := nw_trans m3 qn
        replace et := et.nw qn
        replace ec := ec.nw qn
        replace es := es.nw qn
        replace ek := ek.nw qn
        replace el := el.nw qn
        replace ev := ev.nw qn
        replace ej := ej.nw qn
        replace eb := eb.nw qn
        cases r with
        | true =>
          have s25 : Hid _ := q1.1 rfl
          refine hK1 _ _ (hSof.out _ m4) ?_
          clear hK1 K1 hcon qn hS m3 q1
          have hS := hSof.out _ m4
          refine ord_quietL _ ?_ rfl hS rfl ?_ ?_
          rotate_left
          · rintro w' ⟨hn, h0, h1, h2, h3, h4, h5, h6, h7, h8, h9, h10, h11, h12, h13⟩; go_simp; first | rfl | (rw [if_pos (by omega)]; done) | (rw [if_pos (by omega)]; rfl) | (rw [if_pos (by omega)]; go_simp; rfl)
          simp only [Act.put, List.setIfInBounds_toArray, List.set_cons_zero, List.set_cons_succ]
          refine ord_quietL _ ?_ rfl hS rfl ?_ ?_
          rotate_left
          · rintro w' ⟨hn, h0, h1, h2, h3, h4, h5, h6, h7, h8, h9, h10, h11, h12, h13⟩; go_simp; first | rfl | (rw [if_pos (by omega)]; done) | (rw [if_pos (by omega)]; rfl) | (rw [if_pos (by omega)]; go_simp; rfl)
          simp only [Act.put, List.setIfInBounds_toArray, List.set_cons_zero, List.set_cons_succ]
          refine ord_quietL _ ?_ rfl hS rfl ?_ ?_
          rotate_left
          · rintro w' ⟨hn, h0, h1, h2, h3, h4, h5, h6, h7, h8, h9, h10, h11, h12, h13⟩; go_simp; first | rfl | (rw [if_pos (by omega)]; done) | (rw [if_pos (by omega)]; rfl) | (rw [if_pos (by omega)]; go_simp; rfl)
          simp only [Act.put, List.setIfInBounds_toArray, List.set_cons_zero, List.set_cons_succ]
          refine ord_quietL _ ?_ rfl hS rfl ?_ ?_
          rotate_left
          · rintro w' ⟨hn, h0, h1, h2, h3, h4, h5, h6, h7, h8, h9, h10, h11, h12, h13⟩; go_simp; first | rfl | (rw [if_pos (by omega)]; done) | (rw [if_pos (by omega)]; rfl) | (rw [if_pos (by omega)]; go_simp; rfl)
          simp only [Act.put, List.setIfInBounds_toArray, List.set_cons_zero, List.set_cons_succ]
          refine ord_quietL _ ?_ rfl hS rfl ?_ ?_
          rotate_left
          · rintro w' ⟨hn, h0, h1, h2, h3, h4, h5, h6, h7, h8, h9, h10, h11, h12, h13⟩; go_simp; first | rfl | (rw [if_pos (by omega)]; done) | (rw [if_pos (by omega)]; rfl) | (rw [if_pos (by omega)]; go_simp; rfl)
          simp only [Act.put, List.setIfInBounds_toArray, List.set_cons_zero, List.set_cons_succ]
          refine ord_actL _ rfl (fun K1 hK1 => ?_)
          have hcon : Hid _ := c_leq2 zv zj wk4 ev ej (by omega) (by omega)
          unfold labV at hcon
          go_wp2_with (go_at_call 18; refine Calls.mono hcon.out ?_; rintro e wk5 ⟨r, rfl, q1, qn⟩)
          have m5 := nw_trans m4 qn
          replace et := et.nw qn
          replace ec := ec.nw qn
          replace es := es.nw qn
          replace ek := ek.nw qn
          replace el := el.nw qn
          replace ev := ev.nw qn
          replace ej := ej.nw qn
          replace eb := eb.nw qn
          cases r with
          | true =>
            have s31 : Hid _ := q1.1 rfl
            refine hK1 _ _ (hSof.out _ m5) ?_
            clear hK1 K1 hcon qn hS m4 q1
            have hS := hSof.out _ m5
            refine ord_quietL _ ?_ rfl hS rfl ?_ ?_
            rotate_left
            · rintro w' ⟨hn, h0, h1, h2, h3, h4, h5, h6, h7, h8, h9, h10, h11, h12, h13⟩; go_simp; first | rfl | (rw [if_pos (by omega)]; done) | (rw [if_pos (by omega)]; rfl) | (rw [if_pos (by omega)]; go_simp; rfl)
            simp only [Act.put, List.setIfInBounds_toArray, List.set_cons_zero, List.set_cons_succ]
            refine ord_tail ?_
            simp only [List.drop_succ_cons, List.drop_zero]
            have hfin := nw_trans nW m5
            have hP : Hid (ENP zt zc zs zk zl zv xt xc xs xk xl xv) := ⟨s2.out, s6.out.1, s6.out.2, s13.out, (fun id => by have := s25.out.1 id; rw [gb.out] at this; exact this), s25.out.2, (fun id => by have := s31.out id; rw [gj.out] at this; exact this)⟩
            go_wp2
            go_ret
            exact ans_yes hP.out hfin
          | false =>
            have s31 : Hid _ := not_of_false q1
            refine hK1 _ _ (hSof.out _ m5) ?_
            clear hK1 K1 hcon qn hS m4 q1
            have hS := hSof.out _ m5
            refine ord_quietL _ ?_ rfl hS rfl ?_ ?_
            rotate_left
            · rintro w' ⟨hn, h0, h1, h2, h3, h4, h5, h6, h7, h8, h9, h10, h11, h12, h13⟩; go_simp; first | rfl | (rw [if_pos (by omega)]; done) | (rw [if_pos (by omega)]; rfl) | (rw [if_pos (by omega)]; go_simp; rfl)
            simp only [Act.put, List.setIfInBounds_toArray, List.set_cons_zero, List.set_cons_succ]
            refine ord_tail ?_
            simp only [List.drop_succ_cons, List.drop_zero]
            have hfin := nw_trans nW m5
            have hP : Hid (¬ ENP zt zc zs zk zl zv xt xc xs xk xl xv) := fun h => s31.out ((fun id => by rw [gj.out]; exact (h.2.2.2.2.2.2) id))
            go_wp2
            go_ret
            exact ans_no hP.out hfin
        | false =>
          have s25 : Hid _ := not_of_false q1
          refine hK1 _ _ (hSof.out _ m4) ?_
          clear hK1 K1 hcon qn hS m3 q1
          have hS := hSof.out _ m4
          refine ord_quietL _ ?_ rfl hS rfl ?_ ?_
          rotate_left
          · rintro w' ⟨hn, h0, h1, h2, h3, h4, h5, h6, h7, h8, h9, h10, h11, h12, h13⟩; go_simp; first | rfl | (rw [if_pos (by omega)]; done) | (rw [if_pos (by omega)]; rfl) | (rw [if_pos (by omega)]; go_simp; rfl)
          simp only [Act.put, List.setIfInBounds_toArray, List.set_cons_zero, List.set_cons_succ]
          refine ord_quietL _ ?_ rfl hS rfl ?_ ?_
          rotate_left
          · rintro w' ⟨hn, h0, h1, h2, h3, h4, h5, h6, h7, h8, h9, h10, h11, h12, h13⟩; go_simp; first | rfl | (rw [if_pos (by omega)]; done) | (rw [if_pos (by omega)]; rfl) | (rw [if_pos (by omega)]; go_simp; rfl)
          simp only [Act.put, List.setIfInBounds_toArray, List.set_cons_zero, List.set_cons_succ]
          refine ord_skipL _ rfl hS rfl ?_
          simp only [Act.put, List.setIfInBounds_toArray, List.set_cons_zero, List.set_cons_succ]
          refine ord_skipL _ rfl hS rfl ?_
          simp only [Act.put, List.setIfInBounds_toArray, List.set_cons_zero, List.set_cons_succ]
          refine ord_skipL _ rfl hS rfl ?_
          simp only [Act.put, List.setIfInBounds_toArray, List.set_cons_zero, List.set_cons_succ]
          refine ord_actL _ rfl (fun K1 hK1 => ?_)
          go_wp2
          refine hK1 _ _ (hSof.out _ m4) ?_
          clear hK1 K1
          refine ord_quietL _ ?_ rfl hS rfl ?_ ?_
          rotate_left
          · rintro w' ⟨hn, h0, h1, h2, h3, h4, h5, h6, h7, h8, h9, h10, h11, h12, h13⟩; go_simp; first | rfl | (rw [if_pos (by omega)]; done) | (rw [if_pos (by omega)]; rfl) | (rw [if_pos (by omega)]; go_simp; rfl)
          simp only [Act.put, List.setIfInBounds_toArray, List.set_cons_zero, List.set_cons_succ]
          refine ord_tail ?_
          simp only [List.drop_succ_cons, List.drop_zero]
          have hfin := nw_trans nW m4
          have hP : Hid (¬ ENP zt zc zs zk zl zv xt xc xs xk xl xv) := fun h => s25.out (⟨(fun id => by rw [gb.out]; exact (h.2.2.2.2.1) id), (h.2.2.2.2.2.1)⟩)
          go_wp2
          go_ret
          exact ans_no hP.out hfin
      | false =>
        have s13 : Hid _ := not_of_false q1
        refine hK1 _ _ (hSof.out _ m2) ?_
        clear hK1 K1 hcon qn hS m1 q1
        have hS := hSof.out _ m2
        refine ord_quietL _ ?_ rfl hS rfl ?_ ?_
        rotate_left
        · rintro w' ⟨hn, h0, h1, h2, h3, h4, h5, h6, h7, h8, h9, h10, h11, h12, h13⟩; go_simp; first | rfl | (rw [if_pos (by omega)]; done) | (rw [if_pos (by omega)]; rfl) | (rw [if_pos (by omega)]; go_simp; rfl)
        simp only [Act.put, List.setIfInBounds_toArray, List.set_cons_zero, List.set_cons_succ]
        refine ord_quietL _ ?_ rfl hS rfl ?_ ?_
        rotate_left
        · rintro w' ⟨hn, h0, h1, h2, h3, h4, h5, h6, h7, h8, h9, h10, h11, h12, h13⟩; go_simp; first | rfl | (rw [if_pos (by omega)]; done) | (rw [if_pos (by omega)]; rfl) | (rw [if_pos (by omega)]; go_simp; rfl)
        simp only [Act.put, List.setIfInBounds_toArray, List.set_cons_zero, List.set_cons_succ]
        refine ord_skipL _ rfl hS rfl ?_
        simp only [Act.put, List.setIfInBounds_toArray, List.set_cons_zero, List.set_cons_succ]
        refine ord_skipL _ rfl hS rfl ?_
        simp only [Act.put, List.setIfInBounds_toArray, List.set_cons_zero, List.set_cons_succ]
        refine ord_skipL _ rfl hS rfl ?_
        simp only [Act.put, List.setIfInBounds_toArray, List.set_cons_zero, List.set_cons_succ]
        refine ord_skipL _ rfl hS rfl ?_
        simp only [Act.put, List.setIfInBounds_toArray, List.set_cons_zero, List.set_cons_succ]
        refine ord_skipL _ rfl hS rfl ?_
        simp only [Act.put, List.setIfInBounds_toArray, List.set_cons_zero, List.set_cons_succ]
        refine ord_skipL _ rfl hS rfl ?_
        simp only [Act.put, List.setIfInBounds_toArray, List.set_cons_zero, List.set_cons_succ]
        refine ord_skipL _ rfl hS rfl ?_
        simp only [Act.put, List.setIfInBounds_toArray, List.set_cons_zero, List.set_cons_succ]
        refine ord_skipL _ rfl hS rfl ?_
        simp only [Act.put, List.setIfInBounds_toArray, List.set_cons_zero, List.set_cons_succ]
        refine ord_actL _ rfl (fun K1 hK1 => ?_)
        go_wp2
        refine hK1 _ _ (hSof.out _ m2) ?_
        clear hK1 K1
        refine ord_actL _ rfl (fun K1 hK1 => ?_)
        go_wp2
        refine hK1 _ _ (hSof.out _ m2) ?_
        clear hK1 K1
        refine ord_quietL _ ?_ rfl hS rfl ?_ ?_
        rotate_left
        · rintro w' ⟨hn, h0, h1, h2, h3, h4, h5, h6, h7, h8, h9, h10, h11, h12, h13⟩; go_simp; first | rfl | (rw [if_pos (by omega)]; done) | (rw [if_pos (by omega)]; rfl) | (rw [if_pos (by omega)]; go_simp; rfl)
        simp only [Act.put, List.setIfInBounds_toArray, List.set_cons_zero, List.set_cons_succ]
        refine ord_quietL _ ?_ rfl hS rfl ?_ ?_
        rotate_left
        · rintro w' ⟨hn, h0, h1, h2, h3, h4, h5, h6, h7, h8, h9, h10, h11, h12, h13⟩; go_simp; first | rfl | (rw [if_pos (by omega)]; done) | (rw [if_pos (by omega)]; rfl) | (rw [if_pos (by omega)]; go_simp; rfl)
        simp only [Act.put, List.setIfInBounds_toArray, List.set_cons_zero, List.set_cons_succ]
        refine ord_skipL _ rfl hS rfl ?_
        simp only [Act.put, List.setIfInBounds_toArray, List.set_cons_zero, List.set_cons_succ]
        refine ord_skipL _ rfl hS rfl ?_
        simp only [Act.put, List.setIfInBounds_toArray, List.set_cons_zero, List.set_cons_succ]
        refine ord_skipL _ rfl hS rfl ?_
        simp only [Act.put, List.setIfInBounds_toArray, List.set_cons_zero, List.set_cons_succ]
        refine ord_actL _ rfl (fun K1 hK1 => ?_)
        go_wp2
        refine hK1 _ _ (hSof.out _ m2) ?_
        clear hK1 K1
        refine ord_quietL _ ?_ rfl hS rfl ?_ ?_
        rotate_left
        · rintro w' ⟨hn, h0, h1, h2, h3, h4, h5, h6, h7, h8, h9, h10, h11, h12, h13⟩; go_simp; first | rfl | (rw [if_pos (by omega)]; done) | (rw [if_pos (by omega)]; rfl) | (rw [if_pos (by omega)]; go_simp; rfl)
        simp only [Act.put, List.setIfInBounds_toArray, List.set_cons_zero, List.set_cons_succ]
        refine ord_tail ?_
        simp only [List.drop_succ_cons, List.drop_zero]
        have hfin := nw_trans nW m2
        have hP : Hid (¬ ENP zt zc zs zk zl zv xt xc xs xk xl xv) := fun h => s13.out (h.2.2.2.1)
        go_wp2
        go_ret
        exact ans_no hP.out hfin
    | false =>
      have s6 : Hid _ := not_of_false q1
      refine hK1 _ _ (hSof.out _ m1) ?_
      clear hK1 K1 hcon qn hS m0 q1
      have hS := hSof.out _ m1
      refine ord_quietL _ ?_ rfl hS rfl ?_ ?_
      rotate_left
      · rintro w' ⟨hn, h0, h1, h2, h3, h4, h5, h6, h7, h8, h9, h10, h11, h12, h13⟩; go_simp; first | rfl | (rw [if_pos (by omega)]; done) | (rw [if_pos (by omega)]; rfl) | (rw [if_pos (by omega)]; go_simp; rfl)
      simp only [Act.put, List.setIfInBounds_toArray, List.set_cons_zero, List.set_cons_succ]
      refine ord_quietL _ ?_ rfl hS rfl ?_ ?_
      rotate_left
      · rintro w' ⟨hn, h0, h1, h2, h3, h4, h5, h6, h7, h8, h9, h10, h11, h12, h13⟩; go_simp; first | rfl | (rw [if_pos (by omega)]; done) | (rw [if_pos (by omega)]; rfl) | (rw [if_pos (by omega)]; go_simp; rfl)
      simp only [Act.put, List.setIfInBounds_toArray, List.set_cons_zero, List.set_cons_succ]
      refine ord_skipL _ rfl hS rfl ?_
      simp only [Act.put, List.setIfInBounds_toArray, List.set_cons_zero, List.set_cons_succ]
      refine ord_skipL _ rfl hS rfl ?_
      simp only [Act.put, List.setIfInBounds_toArray, List.set_cons_zero, List.set_cons_succ]
      refine ord_skipL _ rfl hS rfl ?_
      simp only [Act.put, List.setIfInBounds_toArray, List.set_cons_zero, List.set_cons_succ]
      refine ord_skipL _ rfl hS rfl ?_
      simp only [Act.put, List.setIfInBounds_toArray, List.set_cons_zero, List.set_cons_succ]
      refine ord_actL _ rfl (fun K1 hK1 => ?_)
      go_wp2
      refine hK1 _ _ (hSof.out _ m1) ?_
      clear hK1 K1
      refine ord_quietL _ ?_ rfl hS rfl ?_ ?_
      rotate_left
      · rintro w' ⟨hn, h0, h1, h2, h3, h4, h5, h6, h7, h8, h9, h10, h11, h12, h13⟩; go_simp; first | rfl | (rw [if_pos (by omega)]; done) | (rw [if_pos (by omega)]; rfl) | (rw [if_pos (by omega)]; go_simp; rfl)
      simp only [Act.put, List.setIfInBounds_toArray, List.set_cons_zero, List.set_cons_succ]
      refine ord_quietL _ ?_ rfl hS rfl ?_ ?_
      rotate_left
      · rintro w' ⟨hn, h0, h1, h2, h3, h4, h5, h6, h7, h8, h9, h10, h11, h12, h13⟩; go_simp; first | rfl | (rw [if_pos (by omega)]; done) | (rw [if_pos (by omega)]; rfl) | (rw [if_pos (by omega)]; go_simp; rfl)
      simp only [Act.put, List.setIfInBounds_toArray, List.set_cons_zero, List.set_cons_succ]
      refine ord_skipL _ rfl hS rfl ?_
      simp only [Act.put, List.setIfInBounds_toArray, List.set_cons_zero, List.set_cons_succ]
      refine ord_skipL _ rfl hS rfl ?_
      simp only [Act.put, List.setIfInBounds_toArray, List.set_cons_zero, List.set_cons_succ]
      refine ord_skipL _ rfl hS rfl ?_
      simp only [Act.put, List.setIfInBounds_toArray, List.set_cons_zero, List.set_cons_succ]
      refine ord_skipL _ rfl hS rfl ?_
      simp only [Act.put, List.setIfInBounds_toArray, List.set_cons_zero, List.set_cons_succ]
      refine ord_skipL _ rfl hS rfl ?_
      simp only [Act.put, List.setIfInBounds_toArray, List.set_cons_zero, List.set_cons_succ]
      refine ord_skipL _ rfl hS rfl ?_
      simp only [Act.put, List.setIfInBounds_toArray, List.set_cons_zero, List.set_cons_succ]
      refine ord_skipL _ rfl hS rfl ?_
      simp only [Act.put, List.setIfInBounds_toArray, List.set_cons_zero, List.set_cons_succ]
      refine ord_skipL _ rfl hS rfl ?_
      simp only [Act.put, List.setIfInBounds_toArray, List.set_cons_zero, List.set_cons_succ]
      refine ord_actL _ rfl (fun K1 hK1 => ?_)
      go_wp2
      refine hK1 _ _ (hSof.out _ m1) ?_
      clear hK1 K1
      refine ord_actL _ rfl (fun K1 hK1 => ?_)
      go_wp2
      refine hK1 _ _ (hSof.out _ m1) ?_
      clear hK1 K1
      refine ord_quietL _ ?_ rfl hS rfl ?_ ?_
      rotate_left
      · rintro w' ⟨hn, h0, h1, h2, h3, h4, h5, h6, h7, h8, h9, h10, h11, h12, h13⟩; go_simp; first | rfl | (rw [if_pos (by omega)]; done) | (rw [if_pos (by omega)]; rfl) | (rw [if_pos (by omega)]; go_simp; rfl)
      simp only [Act.put, List.setIfInBounds_toArray, List.set_cons_zero, List.set_cons_succ]
      refine ord_quietL _ ?_ rfl hS rfl ?_ ?_
      rotate_left
      · rintro w' ⟨hn, h0, h1, h2, h3, h4, h5, h6, h7, h8, h9, h10, h11, h12, h13⟩; go_simp; first | rfl | (rw [if_pos (by omega)]; done) | (rw [if_pos (by omega)]; rfl) | (rw [if_pos (by omega)]; go_simp; rfl)
      simp only [Act.put, List.setIfInBounds_toArray, List.set_cons_zero, List.set_cons_succ]
      refine ord_skipL _ rfl hS rfl ?_
      simp only [Act.put, List.setIfInBounds_toArray, List.set_cons_zero, List.set_cons_succ]
      refine ord_skipL _ rfl hS rfl ?_
      simp only [Act.put, List.setIfInBounds_toArray, List.set_cons_zero, List.set_cons_succ]
      refine ord_skipL _ rfl hS rfl ?_
      simp only [Act.put, List.setIfInBounds_toArray, List.set_cons_zero, List.set_cons_succ]
      refine ord_actL _ rfl (fun K1 hK1 => ?_)
      go_wp2
      refine hK1 _ _ (hSof.out _ m1) ?_
      clear hK1 K1
      refine ord_quietL _ ?_ rfl hS rfl ?_ ?_
      rotate_left
      · rintro w' ⟨hn, h0, h1, h2, h3, h4, h5, h6, h7, h8, h9, h10, h11, h12, h13⟩; go_simp; first | rfl | (rw [if_pos (by omega)]; done) | (rw [if_pos (by omega)]; rfl) | (rw [if_pos (by omega)]; go_simp; rfl)
      simp only [Act.put, List.setIfInBounds_toArray, List.set_cons_zero, List.set_cons_succ]
      refine ord_tail ?_
      simp only [List.drop_succ_cons, List.drop_zero]
      have hfin := nw_trans nW m1
      have hP : Hid (¬ ENP zt zc zs zk zl zv xt xc xs xk xl xv) := fun h => s6.out (⟨h.2.1, h.2.2.1⟩)
      go_wp2
      go_ret
      exact ans_no hP.out hfin
  | false =>
    have s2 : Hid _ := not_of_false q1
    refine hK1 _ _ (hSof.out _ m0) ?_
    clear hK1 K1 hcon qn hS hW0 q1
    have hS := hSof.out _ m0
    refine ord_quietL _ ?_ rfl hS rfl ?_ ?_
    rotate_left
    · rintro w' ⟨hn, h0, h1, h2, h3, h4, h5, h6, h7, h8, h9, h10, h11, h12, h13⟩; go_simp; first | rfl | (rw [if_pos (by omega)]; done) | (rw [if_pos (by omega)]; rfl) | (rw [if_pos (by omega)]; go_simp; rfl)
    simp only [Act.put, List.setIfInBounds_toArray, List.set_cons_zero, List.set_cons_succ]
    refine ord_skipL _ rfl hS rfl ?_
    simp only [Act.put, List.setIfInBounds_toArray, List.set_cons_zero, List.set_cons_succ]
    refine ord_skipL _ rfl hS rfl ?_
    simp only [Act.put, List.setIfInBounds_toArray, List.set_cons_zero, List.set_cons_succ]
    refine ord_actL _ rfl (fun K1 hK1 => ?_)
    go_wp2
    refine hK1 _ _ (hSof.out _ m0) ?_
    clear hK1 K1
    refine ord_quietL _ ?_ rfl hS rfl ?_ ?_
    rotate_left
    · rintro w' ⟨hn, h0, h1, h2, h3, h4, h5, h6, h7, h8, h9, h10, h11, h12, h13⟩; go_simp; first | rfl | (rw [if_pos (by omega)]; done) | (rw [if_pos (by omega)]; rfl) | (rw [if_pos (by omega)]; go_simp; rfl)
    simp only [Act.put, List.setIfInBounds_toArray, List.set_cons_zero, List.set_cons_succ]
    refine ord_quietL _ ?_ rfl hS rfl ?_ ?_
    rotate_left
    · rintro w' ⟨hn, h0, h1, h2, h3, h4, h5, h6, h7, h8, h9, h10, h11, h12, h13⟩; go_simp; first | rfl | (rw [if_pos (by omega)]; done) | (rw [if_pos (by omega)]; rfl) | (rw [if_pos (by omega)]; go_simp; rfl)
    simp only [Act.put, List.setIfInBounds_toArray, List.set_cons_zero, List.set_cons_succ]
    refine ord_skipL _ rfl hS rfl ?_
    simp only [Act.put, List.setIfInBounds_toArray, List.set_cons_zero, List.set_cons_succ]
    refine ord_skipL _ rfl hS rfl ?_
    simp only [Act.put, List.setIfInBounds_toArray, List.set_cons_zero, List.set_cons_succ]
    refine ord_skipL _ rfl hS rfl ?_
    simp only [Act.put, List.setIfInBounds_toArray, List.set_cons_zero, List.set_cons_succ]
    refine ord_skipL _ rfl hS rfl ?_
    simp only [Act.put, List.setIfInBounds_toArray, List.set_cons_zero, List.set_cons_succ]
    refine ord_actL _ rfl (fun K1 hK1 => ?_)
    go_wp2
    refine hK1 _ _ (hSof.out _ m0) ?_
    clear hK1 K1
    refine ord_quietL _ ?_ rfl hS rfl ?_ ?_
    rotate_left
    · rintro w' ⟨hn, h0, h1, h2, h3, h4, h5, h6, h7, h8, h9, h10, h11, h12, h13⟩; go_simp; first | rfl | (rw [if_pos (by omega)]; done) | (rw [if_pos (by omega)]; rfl) | (rw [if_pos (by omega)]; go_simp; rfl)
    simp only [Act.put, List.setIfInBounds_toArray, List.set_cons_zero, List.set_cons_succ]
    refine ord_quietL _ ?_ rfl hS rfl ?_ ?_
    rotate_left
    · rintro w' ⟨hn, h0, h1, h2, h3, h4, h5, h6, h7, h8, h9, h10, h11, h12, h13⟩; go_simp; first | rfl | (rw [if_pos (by omega)]; done) | (rw [if_pos (by omega)]; rfl) | (rw [if_pos (by omega)]; go_simp; rfl)
    simp only [Act.put, List.setIfInBounds_toArray, List.set_cons_zero, List.set_cons_succ]
    refine ord_skipL _ rfl hS rfl ?_
    simp only [Act.put, List.setIfInBounds_toArray, List.set_cons_zero, List.set_cons_succ]
    refine ord_skipL _ rfl hS rfl ?_
    simp only [Act.put, List.setIfInBounds_toArray, List.set_cons_zero, List.set_cons_succ]
    refine ord_skipL _ rfl hS rfl ?_
    simp only [Act.put, List.setIfInBounds_toArray, List.set_cons_zero, List.set_cons_succ]
    refine ord_skipL _ rfl hS rfl ?_
    simp only [Act.put, List.setIfInBounds_toArray, List.set_cons_zero, List.set_cons_succ]
    refine ord_skipL _ rfl hS rfl ?_
    simp only [Act.put, List.setIfInBounds_toArray, List.set_cons_zero, List.set_cons_succ]
    refine ord_skipL _ rfl hS rfl ?_
    simp only [Act.put, List.setIfInBounds_toArray, List.set_cons_zero, List.set_cons_succ]
    refine ord_skipL _ rfl hS rfl ?_
    simp only [Act.put, List.setIfInBounds_toArray, List.set_cons_zero, List.set_cons_succ]
    refine ord_skipL _ rfl hS rfl ?_
    simp only [Act.put, List.setIfInBounds_toArray, List.set_cons_zero, List.set_cons_succ]
    refine ord_actL _ rfl (fun K1 hK1 => ?_)
    go_wp2
    refine hK1 _ _ (hSof.out _ m0) ?_
    clear hK1 K1
    refine ord_actL _ rfl (fun K1 hK1 => ?_)
    go_wp2
    refine hK1 _ _ (hSof.out _ m0) ?_
    clear hK1 K1
    refine ord_quietL _ ?_ rfl hS rfl ?_ ?_
    rotate_left
    · rintro w' ⟨hn, h0, h1, h2, h3, h4, h5, h6, h7, h8, h9, h10, h11, h12, h13⟩; go_simp; first | rfl | (rw [if_pos (by omega)]; done) | (rw [if_pos (by omega)]; rfl) | (rw [if_pos (by omega)]; go_simp; rfl)
    simp only [Act.put, List.setIfInBounds_toArray, List.set_cons_zero, List.set_cons_succ]
    refine ord_quietL _ ?_ rfl hS rfl ?_ ?_
    rotate_left
    · rintro w' ⟨hn, h0, h1, h2, h3, h4, h5, h6, h7, h8, h9, h10, h11, h12, h13⟩; go_simp; first | rfl | (rw [if_pos (by omega)]; done) | (rw [if_pos (by omega)]; rfl) | (rw [if_pos (by omega)]; go_simp; rfl)
    simp only [Act.put, List.setIfInBounds_toArray, List.set_cons_zero, List.set_cons_succ]
    refine ord_skipL _ rfl hS rfl ?_
    simp only [Act.put, List.setIfInBounds_toArray, List.set_cons_zero, List.set_cons_succ]
    refine ord_skipL _ rfl hS rfl ?_
    simp only [Act.put, List.setIfInBounds_toArray, List.set_cons_zero, List.set_cons_succ]
    refine ord_skipL _ rfl hS rfl ?_
    simp only [Act.put, List.setIfInBounds_toArray, List.set_cons_zero, List.set_cons_succ]
    refine ord_actL _ rfl (fun K1 hK1 => ?_)
    go_wp2
    refine hK1 _ _ (hSof.out _ m0) ?_
    clear hK1 K1
    refine ord_quietL _ ?_ rfl hS rfl ?_ ?_
    rotate_left
    · rintro w' ⟨hn, h0, h1, h2, h3, h4, h5, h6, h7, h8, h9, h10, h11, h12, h13⟩; go_simp; first | rfl | (rw [if_pos (by omega)]; done) | (rw [if_pos (by omega)]; rfl) | (rw [if_pos (by omega)]; go_simp; rfl)
    simp only [Act.put, List.setIfInBounds_toArray, List.set_cons_zero, List.set_cons_succ]
    refine ord_tail ?_
    simp only [List.drop_succ_cons, List.drop_zero]
    have hfin := nw_trans nW m0
    have hP : Hid (¬ ENP zt zc zs zk zl zv xt xc xs xk xl xv) := fun h => s2.out (h.1)
    go_wp2
    go_ret
    exact ans_no hP.out hfin
end Go.Proofs.Ytimgelekpghklaa
