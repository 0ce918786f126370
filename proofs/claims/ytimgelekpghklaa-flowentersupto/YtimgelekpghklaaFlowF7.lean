/-
  FlowEnters' walk.
-/
import Derived.Test.YtimgelekpghklaaFlowF1
import Derived.Test.YtimgelekpghklaaFlowR3
namespace Go.Proofs.Ytimgelekpghklaa
set_option linter.unusedVariables false
set_option linter.unusedSimpArgs false
set_option maxRecDepth 20000
open Go.RowKit

set_option maxRecDepth 20000 in
set_option maxHeartbeats 3200000 in
theorem c_lenters {Xt Xc Xs Xk Xl Xv : Nat → Prop} {ut uc us uk ul uv : Value} {xt xc xs xk xl xv : List Cat} (zt zc zs zk zl zv : Int) (w : World) (et : CSl Xt w ut xt) (ec : CSl Xc w uc xc) (es : CSl Xs w us xs) (ek : CSl Xk w uk xk) (el : CSl Xl w ul xl) (ev : CSl Xv w uv xv) (lt : xt.length ≤ 8796093021952) (lc : xc.length ≤ 8796093021952) (ls : xs.length ≤ 8796093021952) (lk : xk.length ≤ 8796093021952) (ll : xl.length ≤ 8796093021952) (lv : xv.length ≤ 8796093021952) (lts : xt.length + xs.length ≤ 8796093021952) (lck : xc.length + xk.length ≤ 8796093021952) :
    Calls Try.prog 3 #[whoV zt ut zc uc, whoV zs us zk uk, whoV zl ul zv uv] w fun e w' => e = .returned (.bool true) ∧ Nw w w' := by
  obtain ⟨adt, cpt, rfl, _, _⟩ := et.form
  obtain ⟨adc, cpc, rfl, _, _⟩ := ec.form
  obtain ⟨ads, cps, rfl, _, _⟩ := es.form
  obtain ⟨adk, cpk, rfl, _, _⟩ := ek.form
  obtain ⟨adl, cpl, rfl, _, _⟩ := el.form
  obtain ⟨adv, cpv, rfl, _, _⟩ := ev.form
  obtain ⟨W, hW⟩ : ∃ W, Hid (W = (((w.alloc (.cells #[.int .i64 zt, .slice adt xt.length cpt, .int .i64 zc, .slice adc xc.length cpc] 26)).alloc (.cells #[.int .i64 zs, .slice ads xs.length cps, .int .i64 zk, .slice adk xk.length cpk] 26)).alloc (.cells #[.int .i64 zl, .slice adl xl.length cpl, .int .i64 zv, .slice adv xv.length cpv] 26))) := ⟨_, rfl⟩
  have nW : Nw w W := by rw [hW.out]; exact nw_alloc (nw_alloc (nw_alloc (nw_refl w) _) _) _
  have ht : W.heap[w.heap.size]? = some (.cells #[.int .i64 zt, .slice adt xt.length cpt, .int .i64 zc, .slice adc xc.length cpc] 26 (0, 0)) := by
    rw [hW.out, Below.heap_alloc _ _ _ (by simp; try omega), Below.heap_alloc _ _ _ (by simp; try omega)]
    have := heap_alloc_new w (.cells #[.int .i64 zt, .slice adt xt.length cpt, .int .i64 zc, .slice adc xc.length cpc] 26)
    simpa using this
  have hs : W.heap[w.heap.size + 1]? = some (.cells #[.int .i64 zs, .slice ads xs.length cps, .int .i64 zk, .slice adk xk.length cpk] 26 (0, 0)) := by
    rw [hW.out, Below.heap_alloc _ _ _ (by simp; try omega)]
    have := heap_alloc_new (w.alloc (.cells #[.int .i64 zt, .slice adt xt.length cpt, .int .i64 zc, .slice adc xc.length cpc] 26)) (.cells #[.int .i64 zs, .slice ads xs.length cps, .int .i64 zk, .slice adk xk.length cpk] 26)
    simpa using this
  have hl : W.heap[w.heap.size + 1 + 1]? = some (.cells #[.int .i64 zl, .slice adl xl.length cpl, .int .i64 zv, .slice adv xv.length cpv] 26 (0, 0)) := by
    rw [hW.out]
    have := heap_alloc_new ((w.alloc (.cells #[.int .i64 zt, .slice adt xt.length cpt, .int .i64 zc, .slice adc xc.length cpc] 26)).alloc (.cells #[.int .i64 zs, .slice ads xs.length cps, .int .i64 zk, .slice adk xk.length cpk] 26)) (.cells #[.int .i64 zl, .slice adl xl.length cpl, .int .i64 zv, .slice adv xv.length cpv] 26)
    simpa using this
  replace et := et.nw nW
  replace ec := ec.nw nW
  replace es := es.nw nW
  replace ek := ek.nw nW
  replace el := el.nw nW
  replace ev := ev.nw nW
  unfold whoV
  go_enter Try.func3, Try.ntmps3
  go_upto_region 1 with fail
  rw [← hW.out]
  clear hW
  generalize w.heap.size = N at *
  have hSof : ∀ w', Nw W w' → (fun w' : World => Nw W w' ∧ w'.cell? ⟨N, 0, none⟩ = some (.int .i64 zt) ∧ w'.cell? ⟨N, 1, none⟩ = some (.slice adt xt.length cpt) ∧ w'.cell? ⟨N, 2, none⟩ = some (.int .i64 zc) ∧ w'.cell? ⟨N, 3, none⟩ = some (.slice adc xc.length cpc) ∧ w'.cell? ⟨N + 1, 0, none⟩ = some (.int .i64 zs) ∧ w'.cell? ⟨N + 1, 1, none⟩ = some (.slice ads xs.length cps) ∧ w'.cell? ⟨N + 1, 2, none⟩ = some (.int .i64 zk) ∧ w'.cell? ⟨N + 1, 3, none⟩ = some (.slice adk xk.length cpk) ∧ w'.cell? ⟨N + 1 + 1, 0, none⟩ = some (.int .i64 zl) ∧ w'.cell? ⟨N + 1 + 1, 1, none⟩ = some (.slice adl xl.length cpl) ∧ w'.cell? ⟨N + 1 + 1, 2, none⟩ = some (.int .i64 zv) ∧ w'.cell? ⟨N + 1 + 1, 3, none⟩ = some (.slice adv xv.length cpv)) w' := fun w' hw => ⟨hw, cell_blk ((hw.block _ (heap_lt ht) (fun h => h)).trans ht) rfl, cell_blk ((hw.block _ (heap_lt ht) (fun h => h)).trans ht) rfl, cell_blk ((hw.block _ (heap_lt ht) (fun h => h)).trans ht) rfl, cell_blk ((hw.block _ (heap_lt ht) (fun h => h)).trans ht) rfl, cell_blk ((hw.block _ (heap_lt hs) (fun h => h)).trans hs) rfl, cell_blk ((hw.block _ (heap_lt hs) (fun h => h)).trans hs) rfl, cell_blk ((hw.block _ (heap_lt hs) (fun h => h)).trans hs) rfl, cell_blk ((hw.block _ (heap_lt hs) (fun h => h)).trans hs) rfl, cell_blk ((hw.block _ (heap_lt hl) (fun h => h)).trans hl) rfl, cell_blk ((hw.block _ (heap_lt hl) (fun h => h)).trans hl) rfl, cell_blk ((hw.block _ (heap_lt hl) (fun h => h)).trans hl) rfl, cell_blk ((hw.block _ (heap_lt hl) (fun h => h)).trans hl) rfl⟩
  have hW0 : Nw W W.drew := Fr.drew (Fr.refl _ W)
  have hS := hSof _ hW0
  replace et := et.nw hW0
  replace ec := ec.nw hW0
  replace es := es.nw hW0
  replace ek := ek.nw hW0
  replace el := el.nw hW0
  replace ev := ev.nw hW0
  replace hSof : Hid _ := hSof
  refine wp_region_ord [] 21 [(0, false), (1, true), (2, true), (3, true), (4, true), (6, true), (8, true), (10, true), (12, true), (14, true), (16, true), (7, true), (9, true), (11, true), (13, true), (15, true), (17, true), (5, false), (18, false), (19, true), (20, true)] (fun w' : World => Nw W w' ∧ w'.cell? ⟨N, 0, none⟩ = some (.int .i64 zt) ∧ w'.cell? ⟨N, 1, none⟩ = some (.slice adt xt.length cpt) ∧ w'.cell? ⟨N, 2, none⟩ = some (.int .i64 zc) ∧ w'.cell? ⟨N, 3, none⟩ = some (.slice adc xc.length cpc) ∧ w'.cell? ⟨N + 1, 0, none⟩ = some (.int .i64 zs) ∧ w'.cell? ⟨N + 1, 1, none⟩ = some (.slice ads xs.length cps) ∧ w'.cell? ⟨N + 1, 2, none⟩ = some (.int .i64 zk) ∧ w'.cell? ⟨N + 1, 3, none⟩ = some (.slice adk xk.length cpk) ∧ w'.cell? ⟨N + 1 + 1, 0, none⟩ = some (.int .i64 zl) ∧ w'.cell? ⟨N + 1 + 1, 1, none⟩ = some (.slice adl xl.length cpl) ∧ w'.cell? ⟨N + 1 + 1, 2, none⟩ = some (.int .i64 zv) ∧ w'.cell? ⟨N + 1 + 1, 3, none⟩ = some (.slice adv xv.length cpv)) (by kernel_rfl) (by kernel_rfl) ?_
  refine ord_actL _ rfl (fun K1 hK1 => ?_)
  have hcon : Hid _ := c_falive W.drew
  skip
  go_wp2_with (go_at_call 5; refine Calls.mono hcon.out ?_; rintro e wk0 ⟨rfl, qn⟩)
  have m0 := nw_trans hW0 qn
  replace et := et.nw qn
  replace ec := ec.nw qn
  replace es := es.nw qn
  replace ek := ek.nw qn
  replace el := el.nw qn
  replace ev := ev.nw qn
  refine hK1 _ _ (hSof.out _ m0) ?_
  clear hK1 K1 hcon qn hS hW0
  have hS := hSof.out _ m0
  refine ord_quietL _ ?_ rfl hS rfl ?_ ?_
  rotate_left
  · rintro w' ⟨hn, h0, h1, h2, h3, h4, h5, h6, h7, h8, h9, h10, h11⟩; go_simp; first | rfl | (rw [if_pos (by omega)]; done) | (rw [if_pos (by omega)]; rfl) | (rw [if_pos (by omega)]; go_simp; rfl)
  simp only [Act.put, List.setIfInBounds_toArray, List.set_cons_zero, List.set_cons_succ]
  refine ord_quietL _ ?_ rfl hS rfl ?_ ?_
  rotate_left
  · rintro w' ⟨hn, h0, h1, h2, h3, h4, h5, h6, h7, h8, h9, h10, h11⟩; go_simp; first | rfl | (rw [if_pos (by omega)]; done) | (rw [if_pos (by omega)]; rfl) | (rw [if_pos (by omega)]; go_simp; rfl)
  simp only [Act.put, List.setIfInBounds_toArray, List.set_cons_zero, List.set_cons_succ]
  refine ord_quietL _ ?_ rfl hS rfl ?_ ?_
  rotate_left
  · rintro w' ⟨hn, h0, h1, h2, h3, h4, h5, h6, h7, h8, h9, h10, h11⟩; go_simp; first | rfl | (rw [if_pos (by omega)]; done) | (rw [if_pos (by omega)]; rfl) | (rw [if_pos (by omega)]; go_simp; rfl)
  simp only [Act.put, List.setIfInBounds_toArray, List.set_cons_zero, List.set_cons_succ]
  refine ord_quietL _ ?_ rfl hS rfl ?_ ?_
  rotate_left
  · rintro w' ⟨hn, h0, h1, h2, h3, h4, h5, h6, h7, h8, h9, h10, h11⟩; go_simp; first | rfl | (rw [if_pos (by omega)]; done) | (rw [if_pos (by omega)]; rfl) | (rw [if_pos (by omega)]; go_simp; rfl)
  simp only [Act.put, List.setIfInBounds_toArray, List.set_cons_zero, List.set_cons_succ]
  refine ord_quietL _ ?_ rfl hS rfl ?_ ?_
  rotate_left
  · rintro w' ⟨hn, h0, h1, h2, h3, h4, h5, h6, h7, h8, h9, h10, h11⟩; go_simp; first | rfl | (rw [if_pos (by omega)]; done) | (rw [if_pos (by omega)]; rfl) | (rw [if_pos (by omega)]; go_simp; rfl)
  simp only [Act.put, List.setIfInBounds_toArray, List.set_cons_zero, List.set_cons_succ]
  refine ord_quietL _ ?_ rfl hS rfl ?_ ?_
  rotate_left
  · rintro w' ⟨hn, h0, h1, h2, h3, h4, h5, h6, h7, h8, h9, h10, h11⟩; go_simp; first | rfl | (rw [if_pos (by omega)]; done) | (rw [if_pos (by omega)]; rfl) | (rw [if_pos (by omega)]; go_simp; rfl)
  simp only [Act.put, List.setIfInBounds_toArray, List.set_cons_zero, List.set_cons_succ]
  refine ord_quietL _ ?_ rfl hS rfl ?_ ?_
  rotate_left
  · rintro w' ⟨hn, h0, h1, h2, h3, h4, h5, h6, h7, h8, h9, h10, h11⟩; go_simp; first | rfl | (rw [if_pos (by omega)]; done) | (rw [if_pos (by omega)]; rfl) | (rw [if_pos (by omega)]; go_simp; rfl)
  simp only [Act.put, List.setIfInBounds_toArray, List.set_cons_zero, List.set_cons_succ]
  refine ord_quietL _ ?_ rfl hS rfl ?_ ?_
  rotate_left
  · rintro w' ⟨hn, h0, h1, h2, h3, h4, h5, h6, h7, h8, h9, h10, h11⟩; go_simp; first | rfl | (rw [if_pos (by omega)]; done) | (rw [if_pos (by omega)]; rfl) | (rw [if_pos (by omega)]; go_simp; rfl)
  simp only [Act.put, List.setIfInBounds_toArray, List.set_cons_zero, List.set_cons_succ]
  refine ord_quietL _ ?_ rfl hS rfl ?_ ?_
  rotate_left
  · rintro w' ⟨hn, h0, h1, h2, h3, h4, h5, h6, h7, h8, h9, h10, h11⟩; go_simp; first | rfl | (rw [if_pos (by omega)]; done) | (rw [if_pos (by omega)]; rfl) | (rw [if_pos (by omega)]; go_simp; rfl)
  simp only [Act.put, List.setIfInBounds_toArray, List.set_cons_zero, List.set_cons_succ]
  refine ord_quietL _ ?_ rfl hS rfl ?_ ?_
  rotate_left
  · rintro w' ⟨hn, h0, h1, h2, h3, h4, h5, h6, h7, h8, h9, h10, h11⟩; go_simp; first | rfl | (rw [if_pos (by omega)]; done) | (rw [if_pos (by omega)]; rfl) | (rw [if_pos (by omega)]; go_simp; rfl)
  simp only [Act.put, List.setIfInBounds_toArray, List.set_cons_zero, List.set_cons_succ]
  refine ord_quietL _ ?_ rfl hS rfl ?_ ?_
  rotate_left
  · rintro w' ⟨hn, h0, h1, h2, h3, h4, h5, h6, h7, h8, h9, h10, h11⟩; go_simp; first | rfl | (rw [if_pos (by omega)]; done) | (rw [if_pos (by omega)]; rfl) | (rw [if_pos (by omega)]; go_simp; rfl)
  simp only [Act.put, List.setIfInBounds_toArray, List.set_cons_zero, List.set_cons_succ]
  refine ord_quietL _ ?_ rfl hS rfl ?_ ?_
  rotate_left
  · rintro w' ⟨hn, h0, h1, h2, h3, h4, h5, h6, h7, h8, h9, h10, h11⟩; go_simp; first | rfl | (rw [if_pos (by omega)]; done) | (rw [if_pos (by omega)]; rfl) | (rw [if_pos (by omega)]; go_simp; rfl)
  simp only [Act.put, List.setIfInBounds_toArray, List.set_cons_zero, List.set_cons_succ]
  refine ord_quietL _ ?_ rfl hS rfl ?_ ?_
  rotate_left
  · rintro w' ⟨hn, h0, h1, h2, h3, h4, h5, h6, h7, h8, h9, h10, h11⟩; go_simp; first | rfl | (rw [if_pos (by omega)]; done) | (rw [if_pos (by omega)]; rfl) | (rw [if_pos (by omega)]; go_simp; rfl)
  simp only [Act.put, List.setIfInBounds_toArray, List.set_cons_zero, List.set_cons_succ]
  refine ord_quietL _ ?_ rfl hS rfl ?_ ?_
  rotate_left
  · rintro w' ⟨hn, h0, h1, h2, h3, h4, h5, h6, h7, h8, h9, h10, h11⟩; go_simp; first | rfl | (rw [if_pos (by omega)]; done) | (rw [if_pos (by omega)]; rfl) | (rw [if_pos (by omega)]; go_simp; rfl)
  simp only [Act.put, List.setIfInBounds_toArray, List.set_cons_zero, List.set_cons_succ]
  refine ord_quietL _ ?_ rfl hS rfl ?_ ?_
  rotate_left
  · rintro w' ⟨hn, h0, h1, h2, h3, h4, h5, h6, h7, h8, h9, h10, h11⟩; go_simp; first | rfl | (rw [if_pos (by omega)]; done) | (rw [if_pos (by omega)]; rfl) | (rw [if_pos (by omega)]; go_simp; rfl)
  simp only [Act.put, List.setIfInBounds_toArray, List.set_cons_zero, List.set_cons_succ]
  refine ord_quietL _ ?_ rfl hS rfl ?_ ?_
  rotate_left
  · rintro w' ⟨hn, h0, h1, h2, h3, h4, h5, h6, h7, h8, h9, h10, h11⟩; go_simp; first | rfl | (rw [if_pos (by omega)]; done) | (rw [if_pos (by omega)]; rfl) | (rw [if_pos (by omega)]; go_simp; rfl)
  simp only [Act.put, List.setIfInBounds_toArray, List.set_cons_zero, List.set_cons_succ]
  refine ord_actL _ rfl (fun K1 hK1 => ?_)
  have hcon : Hid _ := c_fenters zt zc zs zk zl zv wk0 et ec es ek el ev (by omega) (by omega) (by omega) (by omega) (by omega) (by omega) (by omega) (by omega)
  unfold whoV at hcon
  go_wp2_with (go_at_call 6; refine Calls.mono hcon.out ?_; rintro e wk1 ⟨r5, rfl, q1, qn⟩)
  have m1 := nw_trans m0 qn
  replace et := et.nw qn
  replace ec := ec.nw qn
  replace es := es.nw qn
  replace ek := ek.nw qn
  replace el := el.nw qn
  replace ev := ev.nw qn
  have s5 : Hid _ := q1
  refine hK1 _ _ (hSof.out _ m1) ?_
  clear hK1 K1 hcon qn hS m0 q1
  have hS := hSof.out _ m1
  refine ord_actL _ rfl (fun K1 hK1 => ?_)
  have hcon : Hid _ := c_renters zt zc zs zk zl zv wk1 et ec es ek el ev (by omega) (by omega) (by omega) (by omega) (by omega) (by omega) (by omega) (by omega)
  unfold labV at hcon
  go_wp2_with (go_at_call 7; refine Calls.mono hcon.out ?_; rintro e wk2 ⟨r, rfl, q1, qn⟩)
  have m2 := nw_trans m1 qn
  replace et := et.nw qn
  replace ec := ec.nw qn
  replace es := es.nw qn
  replace ek := ek.nw qn
  replace el := el.nw qn
  replace ev := ev.nw qn
  have hr : r5 = r := Bool.eq_iff_iff.2 (s5.out.trans ((show ENP zt zc zs zk zl zv xt xc xs xk xl xv ↔ END zt zc zs zk zl zv xt xc xs xk xl xv from Iff.rfl).trans q1.symm))
  subst hr
  have hb5 : (r5 == r5) = true := by simp
  refine hK1 _ _ (hSof.out _ m2) ?_
  clear hK1 K1 hcon qn hS m1 q1 s5
  have hS := hSof.out _ m2
  refine ord_quietL _ ?_ rfl hS rfl ?_ ?_
  rotate_left
  · rintro w' ⟨hn, h0, h1, h2, h3, h4, h5, h6, h7, h8, h9, h10, h11⟩; go_simp; first | rfl | (rw [if_pos (by omega)]; done) | (rw [if_pos (by omega)]; rfl) | (rw [if_pos (by omega)]; go_simp; rfl)
  simp only [Act.put, List.setIfInBounds_toArray, List.set_cons_zero, List.set_cons_succ]
  refine ord_quietL _ ?_ rfl hS rfl ?_ ?_
  rotate_left
  · rintro w' ⟨hn, h0, h1, h2, h3, h4, h5, h6, h7, h8, h9, h10, h11⟩; go_simp; first | rfl | (rw [if_pos (by omega)]; done) | (rw [if_pos (by omega)]; rfl) | (rw [if_pos (by omega)]; go_simp; rfl)
  simp only [Act.put, List.setIfInBounds_toArray, List.set_cons_zero, List.set_cons_succ]
  refine ord_tail ?_
  simp only [List.drop_succ_cons, List.drop_zero]
  have hfin := nw_trans nW m2
  go_wp2
  go_ret
  exact ⟨by first | rfl | simp, hfin⟩

end Go.Proofs.Ytimgelekpghklaa
