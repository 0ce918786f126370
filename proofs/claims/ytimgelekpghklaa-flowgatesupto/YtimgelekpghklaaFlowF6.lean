/-
  FlowGates' walk.
-/
import Derived.Test.YtimgelekpghklaaFlowF1
import Derived.Test.YtimgelekpghklaaFlowW4
import Derived.Deep.DeepCutAuto
import Derived.Deep.CutBlock
namespace Go.Proofs.Ytimgelekpghklaa
set_option linter.unusedVariables false
set_option linter.unusedSimpArgs false
set_option maxRecDepth 20000
open Go.RowKit

theorem bo_max {x y : Int} (hx : ¬ x = 0) (hy : ¬ y = 0) (h1 : x ≤ 4) (h2 : y ≤ 4) : bo x y = max x y := by
  unfold bo
  have e1 : tn 0 5 x = x := by unfold tn; rw [if_neg hx]
  have e2 : tn 0 5 y = y := by unfold tn; rw [if_neg hy]
  rw [e1, e2]
  unfold tn
  rw [if_neg (by omega)]

theorem rgt_le4 {d : Int} {xs : List Cat} (h : Rgt d xs) (id : Int) : lev d xs id ≤ 4 := by
  have hhi := h.hi
  have key : ∀ ys : List Cat, (∀ c ∈ ys, c.2 ≤ 4) → lev d ys id ≤ 4 := by
    intro ys
    induction ys with
    | nil => intro _; simp only [lev]; omega
    | cons c r ih =>
      intro hc
      simp only [lev]
      split
      · exact hc c List.mem_cons_self
      · exact ih (fun x hx => hc x (List.mem_cons_of_mem _ hx))
  refine key xs (fun c hc => ?_)
  obtain ⟨i, hi, he⟩ := List.mem_iff_getElem.1 hc
  have := h.each i hi
  rw [he] at this
  omega

set_option maxRecDepth 20000 in
set_option maxHeartbeats 3200000 in
theorem c_lgates {Xt Xc Xs Xk Xl Xv : Nat → Prop} {ut uc us uk ul uv : Value} {xt xc xs xk xl xv : List Cat} (zt zc zs zk zl zv : Int) (w : World) (et : CSl Xt w ut xt) (ec : CSl Xc w uc xc) (es : CSl Xs w us xs) (ek : CSl Xk w uk xk) (el : CSl Xl w ul xl) (ev : CSl Xv w uv xv) (lt : xt.length ≤ 1048576) (lc : xc.length ≤ 1048576) (ls : xs.length ≤ 1048576) (lk : xk.length ≤ 1048576) (ll : xl.length ≤ 1048576) (lv : xv.length ≤ 1048576) :
    Calls Try.prog 4 #[whoV zt ut zc uc, whoV zs us zk uk, whoV zl ul zv uv] w fun e w' => e = .returned (.bool true) ∧ Nw w w' := by
  obtain ⟨adt, cpt, rfl, _, _⟩ := et.form
  obtain ⟨adc, cpc, rfl, _, _⟩ := ec.form
  obtain ⟨ads, cps, rfl, _, _⟩ := es.form
  obtain ⟨adk, cpk, rfl, _, _⟩ := ek.form
  obtain ⟨adl, cpl, rfl, _, _⟩ := el.form
  obtain ⟨adv, cpv, rfl, _, _⟩ := ev.form
  obtain ⟨W, hW⟩ : ∃ W, Hid (W = (((w.alloc (.cells #[.int .i64 zt, .slice adt xt.length cpt, .int .i64 zc, .slice adc xc.length cpc] 26)).alloc (.cells #[.int .i64 zs, .slice ads xs.length cps, .int .i64 zk, .slice adk xk.length cpk] 26)).alloc (.cells #[.int .i64 zl, .slice adl xl.length cpl, .int .i64 zv, .slice adv xv.length cpv] 26))) := ⟨_, rfl⟩
  have nW : Nw w W := by rw [hW.out]; exact nw_alloc (nw_alloc (nw_alloc (nw_refl w) _) _) _
  have ht : W.heap[w.heap.size]? = some (.cells #[.int .i64 zt, .slice adt xt.length cpt, .int .i64 zc, .slice adc xc.length cpc] 26 (0, 0)) := by
    rw [hW.out, Below.heap_alloc _ _ _ (by simp; try omega), Below.heap_alloc _ _ _ (by simp; try omega)]
    have := heap_alloc_new w (.cells #[.int .i64 zt, .slice adt xt.length cpt, .int .i64 zc, .slice adc xc.length cpc] 26)
    simpa using this
  have hs : W.heap[w.heap.size + 1]? = some (.cells #[.int .i64 zs, .slice ads xs.length cps, .int .i64 zk, .slice adk xk.length cpk] 26 (0, 0)) := by
    rw [hW.out, Below.heap_alloc _ _ _ (by simp; try omega)]
    have := heap_alloc_new (w.alloc (.cells #[.int .i64 zt, .slice adt xt.length cpt, .int .i64 zc, .slice adc xc.length cpc] 26)) (.cells #[.int .i64 zs, .slice ads xs.length cps, .int .i64 zk, .slice adk xk.length cpk] 26)
    simpa using this
  have hl : W.heap[w.heap.size + 1 + 1]? = some (.cells #[.int .i64 zl, .slice adl xl.length cpl, .int .i64 zv, .slice adv xv.length cpv] 26 (0, 0)) := by
    rw [hW.out]
    have := heap_alloc_new ((w.alloc (.cells #[.int .i64 zt, .slice adt xt.length cpt, .int .i64 zc, .slice adc xc.length cpc] 26)).alloc (.cells #[.int .i64 zs, .slice ads xs.length cps, .int .i64 zk, .slice adk xk.length cpk] 26)) (.cells #[.int .i64 zl, .slice adl xl.length cpl, .int .i64 zv, .slice adv xv.length cpv] 26)
    simpa using this
  replace et := et.nw nW
  replace ec := ec.nw nW
  replace es := es.nw nW
  replace ek := ek.nw nW
  replace el := el.nw nW
  replace ev := ev.nw nW
  unfold whoV
  go_enter Try.func4, Try.ntmps4
  go_upto_region 1 with fail
  rw [← hW.out]
  clear hW
  generalize w.heap.size = N at *
  go_wp2_with (go_at_call 5; refine Calls.mono (c_falive _) ?_; rintro e Y ⟨rfl, qn⟩; refine stop_here ?_)
  unfold Hid
  replace nW := nw_trans nW qn
  replace et := et.nw qn
  replace ec := ec.nw qn
  replace es := es.nw qn
  replace ek := ek.nw qn
  replace el := el.nw qn
  replace ev := ev.nw qn
  replace ht := (qn.block _ (heap_lt ht) (fun h => h)).trans ht
  replace hs := (qn.block _ (heap_lt hs) (fun h => h)).trans hs
  replace hl := (qn.block _ (heap_lt hl) (fun h => h)).trans hl
  clear qn
  go_upto_region 3 with fail
  have g0 : Y.cell? ⟨N, 0, none⟩ = some (.int .i64 zt) := cell_blk ht rfl
  have g1 : Y.cell? ⟨N, 1, none⟩ = some (.slice adt xt.length cpt) := cell_blk ht rfl
  have g2 : Y.cell? ⟨N, 2, none⟩ = some (.int .i64 zc) := cell_blk ht rfl
  have g3 : Y.cell? ⟨N, 3, none⟩ = some (.slice adc xc.length cpc) := cell_blk ht rfl
  have g4 : Y.cell? ⟨N + 1, 0, none⟩ = some (.int .i64 zs) := cell_blk hs rfl
  have g5 : Y.cell? ⟨N + 1, 1, none⟩ = some (.slice ads xs.length cps) := cell_blk hs rfl
  have g6 : Y.cell? ⟨N + 1, 2, none⟩ = some (.int .i64 zk) := cell_blk hs rfl
  have g7 : Y.cell? ⟨N + 1, 3, none⟩ = some (.slice adk xk.length cpk) := cell_blk hs rfl
  have g8 : Y.cell? ⟨N + 1 + 1, 0, none⟩ = some (.int .i64 zl) := cell_blk hl rfl
  have g9 : Y.cell? ⟨N + 1 + 1, 1, none⟩ = some (.slice adl xl.length cpl) := cell_blk hl rfl
  have g10 : Y.cell? ⟨N + 1 + 1, 2, none⟩ = some (.int .i64 zv) := cell_blk hl rfl
  have g11 : Y.cell? ⟨N + 1 + 1, 3, none⟩ = some (.slice adv xv.length cpv) := cell_blk hl rfl
  have hcon : Hid _ := c_right zt Y et (by omega)
  unfold RgtP labV at hcon
  go_wp2_with (go_at_call 8; refine Calls.mono hcon.out ?_; rintro e wk0 ⟨r, rfl, q1, qn⟩; refine stop_here ?_)
  unfold Hid
  have m0 := qn
  replace et := et.nw qn
  replace ec := ec.nw qn
  replace es := es.nw qn
  replace ek := ek.nw qn
  replace el := el.nw qn
  replace ev := ev.nw qn
  cases r with
  | true =>
    have hft : Hid (∀ id, lev zt xt id ≤ 4) := rgt_le4 (q1.1 rfl)
    clear hcon qn g0 g1 g2 g3 g4 g5 g6 g7 g8 g9 g10 g11 q1
    have g0 : wk0.cell? ⟨N, 0, none⟩ = some (.int .i64 zt) := cell_blk ((m0.block _ (heap_lt ht) (fun h => h)).trans ht) rfl
    have g1 : wk0.cell? ⟨N, 1, none⟩ = some (.slice adt xt.length cpt) := cell_blk ((m0.block _ (heap_lt ht) (fun h => h)).trans ht) rfl
    have g2 : wk0.cell? ⟨N, 2, none⟩ = some (.int .i64 zc) := cell_blk ((m0.block _ (heap_lt ht) (fun h => h)).trans ht) rfl
    have g3 : wk0.cell? ⟨N, 3, none⟩ = some (.slice adc xc.length cpc) := cell_blk ((m0.block _ (heap_lt ht) (fun h => h)).trans ht) rfl
    have g4 : wk0.cell? ⟨N + 1, 0, none⟩ = some (.int .i64 zs) := cell_blk ((m0.block _ (heap_lt hs) (fun h => h)).trans hs) rfl
    have g5 : wk0.cell? ⟨N + 1, 1, none⟩ = some (.slice ads xs.length cps) := cell_blk ((m0.block _ (heap_lt hs) (fun h => h)).trans hs) rfl
    have g6 : wk0.cell? ⟨N + 1, 2, none⟩ = some (.int .i64 zk) := cell_blk ((m0.block _ (heap_lt hs) (fun h => h)).trans hs) rfl
    have g7 : wk0.cell? ⟨N + 1, 3, none⟩ = some (.slice adk xk.length cpk) := cell_blk ((m0.block _ (heap_lt hs) (fun h => h)).trans hs) rfl
    have g8 : wk0.cell? ⟨N + 1 + 1, 0, none⟩ = some (.int .i64 zl) := cell_blk ((m0.block _ (heap_lt hl) (fun h => h)).trans hl) rfl
    have g9 : wk0.cell? ⟨N + 1 + 1, 1, none⟩ = some (.slice adl xl.length cpl) := cell_blk ((m0.block _ (heap_lt hl) (fun h => h)).trans hl) rfl
    have g10 : wk0.cell? ⟨N + 1 + 1, 2, none⟩ = some (.int .i64 zv) := cell_blk ((m0.block _ (heap_lt hl) (fun h => h)).trans hl) rfl
    have g11 : wk0.cell? ⟨N + 1 + 1, 3, none⟩ = some (.slice adv xv.length cpv) := cell_blk ((m0.block _ (heap_lt hl) (fun h => h)).trans hl) rfl
    have hcon : Hid _ := c_right zs wk0 es (by omega)
    unfold RgtP labV at hcon
    go_wp2_with (go_at_call 8; refine Calls.mono hcon.out ?_; rintro e wk1 ⟨r, rfl, q1, qn⟩; refine stop_here ?_)
    unfold Hid
    have m1 := nw_trans m0 qn
    replace et := et.nw qn
    replace ec := ec.nw qn
    replace es := es.nw qn
    replace ek := ek.nw qn
    replace el := el.nw qn
    replace ev := ev.nw qn
    cases r with
    | true =>
      have hfs : Hid (∀ id, lev zs xs id ≤ 4) := rgt_le4 (q1.1 rfl)
      clear hcon qn g0 g1 g2 g3 g4 g5 g6 g7 g8 g9 g10 g11 q1
      have g0 : wk1.cell? ⟨N, 0, none⟩ = some (.int .i64 zt) := cell_blk ((m1.block _ (heap_lt ht) (fun h => h)).trans ht) rfl
      have g1 : wk1.cell? ⟨N, 1, none⟩ = some (.slice adt xt.length cpt) := cell_blk ((m1.block _ (heap_lt ht) (fun h => h)).trans ht) rfl
      have g2 : wk1.cell? ⟨N, 2, none⟩ = some (.int .i64 zc) := cell_blk ((m1.block _ (heap_lt ht) (fun h => h)).trans ht) rfl
      have g3 : wk1.cell? ⟨N, 3, none⟩ = some (.slice adc xc.length cpc) := cell_blk ((m1.block _ (heap_lt ht) (fun h => h)).trans ht) rfl
      have g4 : wk1.cell? ⟨N + 1, 0, none⟩ = some (.int .i64 zs) := cell_blk ((m1.block _ (heap_lt hs) (fun h => h)).trans hs) rfl
      have g5 : wk1.cell? ⟨N + 1, 1, none⟩ = some (.slice ads xs.length cps) := cell_blk ((m1.block _ (heap_lt hs) (fun h => h)).trans hs) rfl
      have g6 : wk1.cell? ⟨N + 1, 2, none⟩ = some (.int .i64 zk) := cell_blk ((m1.block _ (heap_lt hs) (fun h => h)).trans hs) rfl
      have g7 : wk1.cell? ⟨N + 1, 3, none⟩ = some (.slice adk xk.length cpk) := cell_blk ((m1.block _ (heap_lt hs) (fun h => h)).trans hs) rfl
      have g8 : wk1.cell? ⟨N + 1 + 1, 0, none⟩ = some (.int .i64 zl) := cell_blk ((m1.block _ (heap_lt hl) (fun h => h)).trans hl) rfl
      have g9 : wk1.cell? ⟨N + 1 + 1, 1, none⟩ = some (.slice adl xl.length cpl) := cell_blk ((m1.block _ (heap_lt hl) (fun h => h)).trans hl) rfl
      have g10 : wk1.cell? ⟨N + 1 + 1, 2, none⟩ = some (.int .i64 zv) := cell_blk ((m1.block _ (heap_lt hl) (fun h => h)).trans hl) rfl
      have g11 : wk1.cell? ⟨N + 1 + 1, 3, none⟩ = some (.slice adv xv.length cpv) := cell_blk ((m1.block _ (heap_lt hl) (fun h => h)).trans hl) rfl
      replace nW := nw_trans nW m1
      replace ht := (m1.block _ (heap_lt ht) (fun h => h)).trans ht
      replace hs := (m1.block _ (heap_lt hs) (fun h => h)).trans hs
      replace hl := (m1.block _ (heap_lt hl) (fun h => h)).trans hl
      clear m1
      clear g0 g1 g2 g3 g4 g5 g6 g7 g8 g9 g10 g11 m0 wk0 Y
      obtain ⟨Y, rfl⟩ : ∃ Y, Y = wk1 := ⟨_, rfl⟩
      obtain ⟨i0, hj, hj0, hj1, hj2⟩ := info_parts3 Try.infoC
      go_upto_region 5 with fail
      have nA : Nw Y (Y.alloc (.cells #[] 33)) := nw_alloc (nw_refl Y) _
      have hrA : (Y.alloc (.cells #[] 33)).ownsRow Y.heap.size 33 2 (.slice (some ⟨Y.heap.size, 0, none⟩) 0 0) 0 [] := ⟨rfl, .inr ⟨Y.heap.size, 0, #[], rfl, Nat.le_refl _, heap_alloc_new Y _, Nat.le_refl _, Nat.zero_le _, rfl, rfl⟩⟩
      have sa := (et.nw nA).sl
      have ka : (ccells xt).length = xt.length * 2 := ccells_length xt
      have oa := ccells_oneCell xt
      have kb : (ccells xs).length = xs.length * 2 := ccells_length xs
      have ob := ccells_oneCell xs
      have kl : (ccells xl).length = xl.length * 2 := ccells_length xl
      have ol := ccells_oneCell xl
      have hNY := heap_lt ht
      have y0 : Y.cell? ⟨N, 1, none⟩ = some (.slice adt xt.length cpt) := cell_blk ht rfl
      have y1 : (Y.alloc (.cells #[] 33)).cell? ⟨N, 1, none⟩ = some (.slice adt xt.length cpt) := cell_blk ((nA.block _ (heap_lt ht) (fun h => h)).trans ht) rfl
      go_wp2_with (first | (refine wpList_buildSlice0 rfl 22 33 rfl Try.underlying22 (by kernel_rfl) ?_) | (at_builtin; refine wpList_append_sl _ rfl _ _ 22 rfl Y.heap.size 33 i0 _ 2 16 Try.underlying22 hj hj0 hj1 hj2 rfl (by decide) _ _ _ rfl hrA _ _ _ _ rfl sa ka oa ?d2 ?d3 ?d4 ?_))
      case d2 => unfold maxLen; omega
      case d3 => omega
      case d4 => simp
      intro v1 w1 hown1 hgrow1 hat1
      have n1 : Nw Y w1 := Fr.grown nA hgrow1 (fun q hq => .inr (hrA.lt q hq).1)
      obtain ⟨ao1, cap1, rfl⟩ := owns_form hown1
      clear hgrow1 hat1 hrA sa ka oa y0 y1 nA
      have sb := (es.nw n1).sl
      have y0 : w1.cell? ⟨N + 1, 1, none⟩ = some (.slice ads xs.length cps) := cell_blk ((n1.block _ (heap_lt hs) (fun h => h)).trans hs) rfl
      go_wp2_with (at_builtin; refine wpList_append_sl _ rfl _ _ 22 rfl Y.heap.size 33 i0 _ 2 16 Try.underlying22 hj hj0 hj1 hj2 rfl (by decide) _ _ _ rfl hown1 _ _ _ _ rfl sb kb ob ?e2 ?e3 ?e4 ?_)
      case e2 => unfold maxLen; omega
      case e3 => omega
      case e4 => exact n1.size
      intro v2 w2 hown2 hgrow2 hat2
      have n2 : Nw Y w2 := Fr.grown n1 hgrow2 (fun q hq => .inr (hown1.lt q hq).1)
      obtain ⟨ao2, cap2, rfl⟩ := owns_form hown2
      clear hgrow2 hat2 hown1 sb kb ob y0 n1
      have sc := (el.nw n2).sl
      have y0 : w2.cell? ⟨N + 1 + 1, 1, none⟩ = some (.slice adl xl.length cpl) := cell_blk ((n2.block _ (heap_lt hl) (fun h => h)).trans hl) rfl
      go_wp2_with (at_builtin; refine wpList_append_sl _ rfl _ _ 22 rfl Y.heap.size 33 i0 _ 2 16 Try.underlying22 hj hj0 hj1 hj2 rfl (by decide) _ _ _ rfl hown2 _ _ _ _ rfl sc kl ol ?f2 ?f3 ?f4 ?_)
      case f2 => unfold maxLen; omega
      case f3 => omega
      case f4 => exact n2.size
      intro v3 w3 hown3 hgrow3 hat3
      have n3 : Nw Y w3 := Fr.grown n2 hgrow3 (fun q hq => .inr (hown2.lt q hq).1)
      obtain ⟨ao3, cap3, rfl⟩ := owns_form hown3
      clear hgrow3 hat3 hown2 sc kl ol y0 n2
      have sd := (csl_lit w3 4611686018427387904 0 33).sl
      have n4 : Nw Y (w3.alloc (.cells #[.int .u64 4611686018427387904, .int .i64 0] 33)) := nw_alloc n3 _
      have hownA := hown3.alloc (.cells #[.int .u64 4611686018427387904, .int .i64 0] 33)
      go_wp2_with (at_builtin; refine wpList_append_sl _ rfl _ _ 22 rfl Y.heap.size 33 i0 _ 2 16 Try.underlying22 hj hj0 hj1 hj2 rfl (by decide) _ _ _ rfl hownA _ _ _ _ rfl sd (by rfl) (ccells_oneCell _) ?g2 ?g3 ?g4 ?_)
      case g2 => unfold maxLen; simp; omega
      case g3 => simp; omega
      case g4 => exact n4.size
      intro v5 w5 hown5 hgrow5 hat5
      have n5 : Nw Y w5 := Fr.grown n4 hgrow5 (fun q hq => .inr (hownA.lt q hq).1)
      obtain ⟨cats, hcats⟩ : ∃ cats : List Cat, cats = xt ++ xs ++ xl ++ [(4611686018427387904, 0)] := ⟨_, rfl⟩
      have hlen : xt.length + xs.length + xl.length + 1 = cats.length := by rw [hcats]; simp; omega
      have hcel : ccells xt ++ ccells xs ++ ccells xl ++ ccells [(4611686018427387904, 0)] = ccells cats := by rw [hcats, ccells_append, ccells_append, ccells_append]
      have hown6 : w5.ownsRow Y.heap.size 33 2 v5 cats.length (ccells cats) := by
        rw [← hlen, ← hcel]
        simpa using hown5
      have ed := (mk_of_owns hown6).csl.any
      obtain ⟨ad6, cp6, rfl, _, _⟩ := ed.form
      replace nW := nw_trans nW n5
      replace et := et.nw n5
      replace ec := ec.nw n5
      replace es := es.nw n5
      replace ek := ek.nw n5
      replace el := el.nw n5
      replace ev := ev.nw n5
      replace ht := (n5.block _ (heap_lt ht) (fun h => h)).trans ht
      replace hs := (n5.block _ (heap_lt hs) (fun h => h)).trans hs
      replace hl := (n5.block _ (heap_lt hl) (fun h => h)).trans hl
      have hcl : cats.length ≤ 4194304 := by omega
      clear hown5 hgrow5 hat5 hown6 hownA hown3 sd n4 n3 n5 hcats hlen hcel hNY
      go_upto_region 8 with fail
      go_wp2
      obtain ⟨Z, rfl⟩ : ∃ Z, Z = w5 := ⟨_, rfl⟩
      go_loopw [45] (fun kv wr => ∃ k : Nat, k ≤ cats.length ∧ kv = .int .i64 k ∧ Nw Z wr) (fun kv _ => cats.length - (intOf kv).toNat)
      case atStart => exact ⟨0, Nat.zero_le _, rfl, nw_refl _⟩
      case round =>
        obtain ⟨k, hk', rfl, hw⟩ := hrel
        by_cases hlt : k < cats.length
        · obtain ⟨q, off, rfl, _, d1, d2⟩ := (ed.nw hw).get k hlt
          generalize cats[k] = c at *
          have nV : Nw Z (wr.alloc (.cells #[.int .u64 c.1, .int .i64 c.2] 33)) := nw_alloc hw _
          have hV : (wr.alloc (.cells #[.int .u64 c.1, .int .i64 c.2] 33)).heap[wr.heap.size]? = some (.cells #[.int .u64 c.1, .int .i64 c.2] 33 (0, 0)) := heap_alloc_new wr _
          replace hw : Hid (Nw Z wr) := hw
          go_upto_region 11 with fail
          clear d1 d2
          generalize wr.alloc (.cells #[.int .u64 c.1, .int .i64 c.2] 33) = U at *
          generalize wr.heap.size = V at *
          clear hw
          have etU := et.nw nV
          have ecU := ec.nw nV
          have esU := es.nw nV
          have ekU := ek.nw nV
          have elU := el.nw nV
          have evU := ev.nw nV
          have htU := (nV.block _ (heap_lt ht) (fun h => h)).trans ht
          have hsU := (nV.block _ (heap_lt hs) (fun h => h)).trans hs
          have hlU := (nV.block _ (heap_lt hl) (fun h => h)).trans hl
          have hSof : ∀ w', Nw U w' → (fun w' : World => Nw U w' ∧ w'.cell? ⟨N, 0, none⟩ = some (.int .i64 zt) ∧ w'.cell? ⟨N, 1, none⟩ = some (.slice adt xt.length cpt) ∧ w'.cell? ⟨N, 2, none⟩ = some (.int .i64 zc) ∧ w'.cell? ⟨N, 3, none⟩ = some (.slice adc xc.length cpc) ∧ w'.cell? ⟨N + 1, 0, none⟩ = some (.int .i64 zs) ∧ w'.cell? ⟨N + 1, 1, none⟩ = some (.slice ads xs.length cps) ∧ w'.cell? ⟨N + 1, 2, none⟩ = some (.int .i64 zk) ∧ w'.cell? ⟨N + 1, 3, none⟩ = some (.slice adk xk.length cpk) ∧ w'.cell? ⟨N + 1 + 1, 0, none⟩ = some (.int .i64 zl) ∧ w'.cell? ⟨N + 1 + 1, 1, none⟩ = some (.slice adl xl.length cpl) ∧ w'.cell? ⟨N + 1 + 1, 2, none⟩ = some (.int .i64 zv) ∧ w'.cell? ⟨N + 1 + 1, 3, none⟩ = some (.slice adv xv.length cpv) ∧ w'.cell? ⟨V, 0, none⟩ = some (.int .u64 c.1) ∧ w'.cell? ⟨V, 1, none⟩ = some (.int .i64 c.2)) w' := fun w' hw => ⟨hw, cell_blk ((hw.block _ (heap_lt htU) (fun h => h)).trans htU) rfl, cell_blk ((hw.block _ (heap_lt htU) (fun h => h)).trans htU) rfl, cell_blk ((hw.block _ (heap_lt htU) (fun h => h)).trans htU) rfl, cell_blk ((hw.block _ (heap_lt htU) (fun h => h)).trans htU) rfl, cell_blk ((hw.block _ (heap_lt hsU) (fun h => h)).trans hsU) rfl, cell_blk ((hw.block _ (heap_lt hsU) (fun h => h)).trans hsU) rfl, cell_blk ((hw.block _ (heap_lt hsU) (fun h => h)).trans hsU) rfl, cell_blk ((hw.block _ (heap_lt hsU) (fun h => h)).trans hsU) rfl, cell_blk ((hw.block _ (heap_lt hlU) (fun h => h)).trans hlU) rfl, cell_blk ((hw.block _ (heap_lt hlU) (fun h => h)).trans hlU) rfl, cell_blk ((hw.block _ (heap_lt hlU) (fun h => h)).trans hlU) rfl, cell_blk ((hw.block _ (heap_lt hlU) (fun h => h)).trans hlU) rfl, cell_blk ((hw.block _ (heap_lt hV) (fun h => h)).trans hV) rfl, cell_blk ((hw.block _ (heap_lt hV) (fun h => h)).trans hV) rfl⟩
          have hW0 : Nw U U.drew := Fr.drew (Fr.refl _ U)
          have hS := hSof _ hW0
          replace hSof : Hid _ := hSof
          refine wp_region_ord [] 15 [(0, true), (2, true), (5, true), (7, true), (10, true), (12, true), (1, true), (3, true), (6, true), (8, true), (11, true), (13, true), (4, false), (9, false), (14, false)] (fun w' : World => Nw U w' ∧ w'.cell? ⟨N, 0, none⟩ = some (.int .i64 zt) ∧ w'.cell? ⟨N, 1, none⟩ = some (.slice adt xt.length cpt) ∧ w'.cell? ⟨N, 2, none⟩ = some (.int .i64 zc) ∧ w'.cell? ⟨N, 3, none⟩ = some (.slice adc xc.length cpc) ∧ w'.cell? ⟨N + 1, 0, none⟩ = some (.int .i64 zs) ∧ w'.cell? ⟨N + 1, 1, none⟩ = some (.slice ads xs.length cps) ∧ w'.cell? ⟨N + 1, 2, none⟩ = some (.int .i64 zk) ∧ w'.cell? ⟨N + 1, 3, none⟩ = some (.slice adk xk.length cpk) ∧ w'.cell? ⟨N + 1 + 1, 0, none⟩ = some (.int .i64 zl) ∧ w'.cell? ⟨N + 1 + 1, 1, none⟩ = some (.slice adl xl.length cpl) ∧ w'.cell? ⟨N + 1 + 1, 2, none⟩ = some (.int .i64 zv) ∧ w'.cell? ⟨N + 1 + 1, 3, none⟩ = some (.slice adv xv.length cpv) ∧ w'.cell? ⟨V, 0, none⟩ = some (.int .u64 c.1) ∧ w'.cell? ⟨V, 1, none⟩ = some (.int .i64 c.2)) (by kernel_rfl) (by kernel_rfl) ?_
          refine ord_quietL _ ?_ rfl hS rfl ?_ ?_
          rotate_left
          · rintro w' ⟨hn, h0, h1, h2, h3, h4, h5, h6, h7, h8, h9, h10, h11, h12, h13⟩; go_simp; first | rfl | (rw [if_pos (by omega)]; done) | (rw [if_pos (by omega)]; rfl) | (rw [if_pos (by omega)]; go_simp; rfl)
          simp only [Act.put, List.setIfInBounds_toArray, List.set_cons_zero, List.set_cons_succ]
          refine ord_quietL _ ?_ rfl hS rfl ?_ ?_
          rotate_left
          · rintro w' ⟨hn, h0, h1, h2, h3, h4, h5, h6, h7, h8, h9, h10, h11, h12, h13⟩; go_simp; first | rfl | (rw [if_pos (by omega)]; done) | (rw [if_pos (by omega)]; rfl) | (rw [if_pos (by omega)]; go_simp; rfl)
          simp only [Act.put, List.setIfInBounds_toArray, List.set_cons_zero, List.set_cons_succ]
          refine ord_quietL _ ?_ rfl hS rfl ?_ ?_
          rotate_left
          · rintro w' ⟨hn, h0, h1, h2, h3, h4, h5, h6, h7, h8, h9, h10, h11, h12, h13⟩; go_simp; first | rfl | (rw [if_pos (by omega)]; done) | (rw [if_pos (by omega)]; rfl) | (rw [if_pos (by omega)]; go_simp; rfl)
          simp only [Act.put, List.setIfInBounds_toArray, List.set_cons_zero, List.set_cons_succ]
          refine ord_quietL _ ?_ rfl hS rfl ?_ ?_
          rotate_left
          · rintro w' ⟨hn, h0, h1, h2, h3, h4, h5, h6, h7, h8, h9, h10, h11, h12, h13⟩; go_simp; first | rfl | (rw [if_pos (by omega)]; done) | (rw [if_pos (by omega)]; rfl) | (rw [if_pos (by omega)]; go_simp; rfl)
          simp only [Act.put, List.setIfInBounds_toArray, List.set_cons_zero, List.set_cons_succ]
          refine ord_quietL _ ?_ rfl hS rfl ?_ ?_
          rotate_left
          · rintro w' ⟨hn, h0, h1, h2, h3, h4, h5, h6, h7, h8, h9, h10, h11, h12, h13⟩; go_simp; first | rfl | (rw [if_pos (by omega)]; done) | (rw [if_pos (by omega)]; rfl) | (rw [if_pos (by omega)]; go_simp; rfl)
          simp only [Act.put, List.setIfInBounds_toArray, List.set_cons_zero, List.set_cons_succ]
          refine ord_quietL _ ?_ rfl hS rfl ?_ ?_
          rotate_left
          · rintro w' ⟨hn, h0, h1, h2, h3, h4, h5, h6, h7, h8, h9, h10, h11, h12, h13⟩; go_simp; first | rfl | (rw [if_pos (by omega)]; done) | (rw [if_pos (by omega)]; rfl) | (rw [if_pos (by omega)]; go_simp; rfl)
          simp only [Act.put, List.setIfInBounds_toArray, List.set_cons_zero, List.set_cons_succ]
          refine ord_quietL _ ?_ rfl hS rfl ?_ ?_
          rotate_left
          · rintro w' ⟨hn, h0, h1, h2, h3, h4, h5, h6, h7, h8, h9, h10, h11, h12, h13⟩; go_simp; first | rfl | (rw [if_pos (by omega)]; done) | (rw [if_pos (by omega)]; rfl) | (rw [if_pos (by omega)]; go_simp; rfl)
          simp only [Act.put, List.setIfInBounds_toArray, List.set_cons_zero, List.set_cons_succ]
          refine ord_quietL _ ?_ rfl hS rfl ?_ ?_
          rotate_left
          · rintro w' ⟨hn, h0, h1, h2, h3, h4, h5, h6, h7, h8, h9, h10, h11, h12, h13⟩; go_simp; first | rfl | (rw [if_pos (by omega)]; done) | (rw [if_pos (by omega)]; rfl) | (rw [if_pos (by omega)]; go_simp; rfl)
          simp only [Act.put, List.setIfInBounds_toArray, List.set_cons_zero, List.set_cons_succ]
          refine ord_quietL _ ?_ rfl hS rfl ?_ ?_
          rotate_left
          · rintro w' ⟨hn, h0, h1, h2, h3, h4, h5, h6, h7, h8, h9, h10, h11, h12, h13⟩; go_simp; first | rfl | (rw [if_pos (by omega)]; done) | (rw [if_pos (by omega)]; rfl) | (rw [if_pos (by omega)]; go_simp; rfl)
          simp only [Act.put, List.setIfInBounds_toArray, List.set_cons_zero, List.set_cons_succ]
          refine ord_quietL _ ?_ rfl hS rfl ?_ ?_
          rotate_left
          · rintro w' ⟨hn, h0, h1, h2, h3, h4, h5, h6, h7, h8, h9, h10, h11, h12, h13⟩; go_simp; first | rfl | (rw [if_pos (by omega)]; done) | (rw [if_pos (by omega)]; rfl) | (rw [if_pos (by omega)]; go_simp; rfl)
          simp only [Act.put, List.setIfInBounds_toArray, List.set_cons_zero, List.set_cons_succ]
          refine ord_quietL _ ?_ rfl hS rfl ?_ ?_
          rotate_left
          · rintro w' ⟨hn, h0, h1, h2, h3, h4, h5, h6, h7, h8, h9, h10, h11, h12, h13⟩; go_simp; first | rfl | (rw [if_pos (by omega)]; done) | (rw [if_pos (by omega)]; rfl) | (rw [if_pos (by omega)]; go_simp; rfl)
          simp only [Act.put, List.setIfInBounds_toArray, List.set_cons_zero, List.set_cons_succ]
          refine ord_quietL _ ?_ rfl hS rfl ?_ ?_
          rotate_left
          · rintro w' ⟨hn, h0, h1, h2, h3, h4, h5, h6, h7, h8, h9, h10, h11, h12, h13⟩; go_simp; first | rfl | (rw [if_pos (by omega)]; done) | (rw [if_pos (by omega)]; rfl) | (rw [if_pos (by omega)]; go_simp; rfl)
          simp only [Act.put, List.setIfInBounds_toArray, List.set_cons_zero, List.set_cons_succ]
          refine ord_actL _ rfl (fun K1 hK1 => ?_)
          have hcon : Hid _ := c_level zt c.1 U.drew (etU.nw hW0)
          unfold labV at hcon
          go_wp2_with (go_at_call 9; refine Calls.mono hcon.out ?_; rintro e wk0 ⟨rfl, qn⟩)
          have m0 := nw_trans hW0 qn
          refine hK1 _ _ (hSof.out _ m0) ?_
          clear hK1 K1 hcon qn hS hW0
          have hS := hSof.out _ m0
          refine ord_actL _ rfl (fun K1 hK1 => ?_)
          have hcon : Hid _ := c_level zs c.1 wk0 (esU.nw m0)
          unfold labV at hcon
          go_wp2_with (go_at_call 9; refine Calls.mono hcon.out ?_; rintro e wk1 ⟨rfl, qn⟩)
          have m1 := nw_trans m0 qn
          refine hK1 _ _ (hSof.out _ m1) ?_
          clear hK1 K1 hcon qn hS m0
          have hS := hSof.out _ m1
          refine ord_actL _ rfl (fun K1 hK1 => ?_)
          have hcon : Hid _ := c_level zl c.1 wk1 (elU.nw m1)
          unfold labV at hcon
          go_wp2_with (go_at_call 9; refine Calls.mono hcon.out ?_; rintro e wk2 ⟨rfl, qn⟩)
          have m2 := nw_trans m1 qn
          refine hK1 _ _ (hSof.out _ m2) ?_
          clear hK1 K1 hcon qn hS m1
          have hS := hSof.out _ m2
          refine ord_tail ?_
          simp only [List.drop_succ_cons, List.drop_zero]
          have m1 : Nw U wk2 := m2
          have fT : Hid (Rgt zl xl ∧ leL (lev zt xt) (lev zl xl) ∧ leL (lev zl xl) (lev zc xc) → lev zt xt c.1 ≤ lev zl xl c.1) := fun h => h.2.1 c.1
          have fS : Hid (Rgt zl xl ∧ Rgt zv xv ∧ Pu zv xv ∧ leL (lev zt xt) (lev zl xl) ∧ leL (lev zl xl) (lev zv xv) ∧ leL (lev zv xv) (lev zc xc) → lev zt xt c.1 ≤ lev zl xl c.1) := fun h => h.2.2.2.1 c.1
          have fE : Hid (ENP zt zc zs zk zl zv xt xc xs xk xl xv → ¬ lev zt xt c.1 = 0 → ¬ lev zs xs c.1 = 0 → max (lev zt xt c.1) (lev zs xs c.1) ≤ lev zl xl c.1) := fun h h1 h2 => by have h3 : bo (lev zt xt c.1) (lev zs xs c.1) ≤ lev zl xl c.1 := h.2.2.2.2.1 c.1; rwa [bo_max h1 h2 (hft.out c.1) (hfs.out c.1)] at h3
          generalize lev zt xt c.1 = la at *
          generalize lev zs xs c.1 = lb at *
          generalize lev zl xl c.1 = lo at *
          clear hS hSof m2 hV
          go_upto_region 12 with fail
          obtain ⟨U1, hU1⟩ : ∃ U1, U1 = wk2 := ⟨_, rfl⟩
          rw [← hU1] at m1 ⊢
          clear hU1
          go_cut [80] (fun v wc => v = .bool false ∧ Nw U wc)
          case first =>
            as_aux_lemma =>
              have mB : Nw U U1 := m1
              have et2 := etU.nw m1
              have ec2 := ecU.nw m1
              have es2 := esU.nw m1
              have ek2 := ekU.nw m1
              have el2 := elU.nw m1
              have ev2 := evU.nw m1
              have ht2 := (m1.block _ (heap_lt htU) (fun h => h)).trans htU
              have hs2 := (m1.block _ (heap_lt hsU) (fun h => h)).trans hsU
              have hl2 := (m1.block _ (heap_lt hlU) (fun h => h)).trans hlU
              have g0 : U1.cell? ⟨N, 0, none⟩ = some (.int .i64 zt) := cell_blk ht2 rfl
              have g1 : U1.cell? ⟨N, 1, none⟩ = some (.slice adt xt.length cpt) := cell_blk ht2 rfl
              have g2 : U1.cell? ⟨N, 2, none⟩ = some (.int .i64 zc) := cell_blk ht2 rfl
              have g3 : U1.cell? ⟨N, 3, none⟩ = some (.slice adc xc.length cpc) := cell_blk ht2 rfl
              have g4 : U1.cell? ⟨N + 1, 0, none⟩ = some (.int .i64 zs) := cell_blk hs2 rfl
              have g5 : U1.cell? ⟨N + 1, 1, none⟩ = some (.slice ads xs.length cps) := cell_blk hs2 rfl
              have g6 : U1.cell? ⟨N + 1, 2, none⟩ = some (.int .i64 zk) := cell_blk hs2 rfl
              have g7 : U1.cell? ⟨N + 1, 3, none⟩ = some (.slice adk xk.length cpk) := cell_blk hs2 rfl
              have g8 : U1.cell? ⟨N + 1 + 1, 0, none⟩ = some (.int .i64 zl) := cell_blk hl2 rfl
              have g9 : U1.cell? ⟨N + 1 + 1, 1, none⟩ = some (.slice adl xl.length cpl) := cell_blk hl2 rfl
              have g10 : U1.cell? ⟨N + 1 + 1, 2, none⟩ = some (.int .i64 zv) := cell_blk hl2 rfl
              have g11 : U1.cell? ⟨N + 1 + 1, 3, none⟩ = some (.slice adv xv.length cpv) := cell_blk hl2 rfl
              have hcon : Hid _ := c_ftaints zt zc zl U1 et2 ec2 el2 (by omega) (by omega) (by omega)
              unfold whoV labV at hcon
              go_wp2_with (go_at_call 10; refine Calls.mono hcon.out ?_; rintro e wk0 ⟨r, rfl, q1, qn⟩; refine stop_here ?_)
              unfold Hid
              have m0 := qn
              replace et2 := et2.nw qn
              replace ec2 := ec2.nw qn
              replace es2 := es2.nw qn
              replace ek2 := ek2.nw qn
              replace el2 := el2.nw qn
              replace ev2 := ev2.nw qn
              cases r with
              | true =>
                have hd1 : decide (lo < la) = false := decide_eq_false (by have f1 : la ≤ lo := fT.out (q1.1 rfl); omega)
                clear hcon qn g0 g1 g2 g3 g4 g5 g6 g7 g8 g9 g10 g11 q1
                have g0 : wk0.cell? ⟨N, 0, none⟩ = some (.int .i64 zt) := cell_blk ((m0.block _ (heap_lt ht2) (fun h => h)).trans ht2) rfl
                have g1 : wk0.cell? ⟨N, 1, none⟩ = some (.slice adt xt.length cpt) := cell_blk ((m0.block _ (heap_lt ht2) (fun h => h)).trans ht2) rfl
                have g2 : wk0.cell? ⟨N, 2, none⟩ = some (.int .i64 zc) := cell_blk ((m0.block _ (heap_lt ht2) (fun h => h)).trans ht2) rfl
                have g3 : wk0.cell? ⟨N, 3, none⟩ = some (.slice adc xc.length cpc) := cell_blk ((m0.block _ (heap_lt ht2) (fun h => h)).trans ht2) rfl
                have g4 : wk0.cell? ⟨N + 1, 0, none⟩ = some (.int .i64 zs) := cell_blk ((m0.block _ (heap_lt hs2) (fun h => h)).trans hs2) rfl
                have g5 : wk0.cell? ⟨N + 1, 1, none⟩ = some (.slice ads xs.length cps) := cell_blk ((m0.block _ (heap_lt hs2) (fun h => h)).trans hs2) rfl
                have g6 : wk0.cell? ⟨N + 1, 2, none⟩ = some (.int .i64 zk) := cell_blk ((m0.block _ (heap_lt hs2) (fun h => h)).trans hs2) rfl
                have g7 : wk0.cell? ⟨N + 1, 3, none⟩ = some (.slice adk xk.length cpk) := cell_blk ((m0.block _ (heap_lt hs2) (fun h => h)).trans hs2) rfl
                have g8 : wk0.cell? ⟨N + 1 + 1, 0, none⟩ = some (.int .i64 zl) := cell_blk ((m0.block _ (heap_lt hl2) (fun h => h)).trans hl2) rfl
                have g9 : wk0.cell? ⟨N + 1 + 1, 1, none⟩ = some (.slice adl xl.length cpl) := cell_blk ((m0.block _ (heap_lt hl2) (fun h => h)).trans hl2) rfl
                have g10 : wk0.cell? ⟨N + 1 + 1, 2, none⟩ = some (.int .i64 zv) := cell_blk ((m0.block _ (heap_lt hl2) (fun h => h)).trans hl2) rfl
                have g11 : wk0.cell? ⟨N + 1 + 1, 3, none⟩ = some (.slice adv xv.length cpv) := cell_blk ((m0.block _ (heap_lt hl2) (fun h => h)).trans hl2) rfl
                have hfin := nw_trans mB m0
                go_wp2
                go_meet
                case rel => exact ⟨rfl, hfin⟩
              | false =>
                clear hcon qn g0 g1 g2 g3 g4 g5 g6 g7 g8 g9 g10 g11 q1
                have g0 : wk0.cell? ⟨N, 0, none⟩ = some (.int .i64 zt) := cell_blk ((m0.block _ (heap_lt ht2) (fun h => h)).trans ht2) rfl
                have g1 : wk0.cell? ⟨N, 1, none⟩ = some (.slice adt xt.length cpt) := cell_blk ((m0.block _ (heap_lt ht2) (fun h => h)).trans ht2) rfl
                have g2 : wk0.cell? ⟨N, 2, none⟩ = some (.int .i64 zc) := cell_blk ((m0.block _ (heap_lt ht2) (fun h => h)).trans ht2) rfl
                have g3 : wk0.cell? ⟨N, 3, none⟩ = some (.slice adc xc.length cpc) := cell_blk ((m0.block _ (heap_lt ht2) (fun h => h)).trans ht2) rfl
                have g4 : wk0.cell? ⟨N + 1, 0, none⟩ = some (.int .i64 zs) := cell_blk ((m0.block _ (heap_lt hs2) (fun h => h)).trans hs2) rfl
                have g5 : wk0.cell? ⟨N + 1, 1, none⟩ = some (.slice ads xs.length cps) := cell_blk ((m0.block _ (heap_lt hs2) (fun h => h)).trans hs2) rfl
                have g6 : wk0.cell? ⟨N + 1, 2, none⟩ = some (.int .i64 zk) := cell_blk ((m0.block _ (heap_lt hs2) (fun h => h)).trans hs2) rfl
                have g7 : wk0.cell? ⟨N + 1, 3, none⟩ = some (.slice adk xk.length cpk) := cell_blk ((m0.block _ (heap_lt hs2) (fun h => h)).trans hs2) rfl
                have g8 : wk0.cell? ⟨N + 1 + 1, 0, none⟩ = some (.int .i64 zl) := cell_blk ((m0.block _ (heap_lt hl2) (fun h => h)).trans hl2) rfl
                have g9 : wk0.cell? ⟨N + 1 + 1, 1, none⟩ = some (.slice adl xl.length cpl) := cell_blk ((m0.block _ (heap_lt hl2) (fun h => h)).trans hl2) rfl
                have g10 : wk0.cell? ⟨N + 1 + 1, 2, none⟩ = some (.int .i64 zv) := cell_blk ((m0.block _ (heap_lt hl2) (fun h => h)).trans hl2) rfl
                have g11 : wk0.cell? ⟨N + 1 + 1, 3, none⟩ = some (.slice adv xv.length cpv) := cell_blk ((m0.block _ (heap_lt hl2) (fun h => h)).trans hl2) rfl
                have hcon : Hid _ := c_fspawns zt zc zl zv wk0 et2 ec2 el2 ev2 (by omega) (by omega) (by omega) (by omega)
                unfold whoV labV at hcon
                go_wp2_with (go_at_call 11; refine Calls.mono hcon.out ?_; rintro e wk1 ⟨r, rfl, q1, qn⟩; refine stop_here ?_)
                unfold Hid
                have m1 := nw_trans m0 qn
                replace et2 := et2.nw qn
                replace ec2 := ec2.nw qn
                replace es2 := es2.nw qn
                replace ek2 := ek2.nw qn
                replace el2 := el2.nw qn
                replace ev2 := ev2.nw qn
                cases r with
                | true =>
                  have hd1 : decide (lo < la) = false := decide_eq_false (by have f1 : la ≤ lo := fS.out (q1.1 rfl); omega)
                  clear hcon qn g0 g1 g2 g3 g4 g5 g6 g7 g8 g9 g10 g11 q1
                  have g0 : wk1.cell? ⟨N, 0, none⟩ = some (.int .i64 zt) := cell_blk ((m1.block _ (heap_lt ht2) (fun h => h)).trans ht2) rfl
                  have g1 : wk1.cell? ⟨N, 1, none⟩ = some (.slice adt xt.length cpt) := cell_blk ((m1.block _ (heap_lt ht2) (fun h => h)).trans ht2) rfl
                  have g2 : wk1.cell? ⟨N, 2, none⟩ = some (.int .i64 zc) := cell_blk ((m1.block _ (heap_lt ht2) (fun h => h)).trans ht2) rfl
                  have g3 : wk1.cell? ⟨N, 3, none⟩ = some (.slice adc xc.length cpc) := cell_blk ((m1.block _ (heap_lt ht2) (fun h => h)).trans ht2) rfl
                  have g4 : wk1.cell? ⟨N + 1, 0, none⟩ = some (.int .i64 zs) := cell_blk ((m1.block _ (heap_lt hs2) (fun h => h)).trans hs2) rfl
                  have g5 : wk1.cell? ⟨N + 1, 1, none⟩ = some (.slice ads xs.length cps) := cell_blk ((m1.block _ (heap_lt hs2) (fun h => h)).trans hs2) rfl
                  have g6 : wk1.cell? ⟨N + 1, 2, none⟩ = some (.int .i64 zk) := cell_blk ((m1.block _ (heap_lt hs2) (fun h => h)).trans hs2) rfl
                  have g7 : wk1.cell? ⟨N + 1, 3, none⟩ = some (.slice adk xk.length cpk) := cell_blk ((m1.block _ (heap_lt hs2) (fun h => h)).trans hs2) rfl
                  have g8 : wk1.cell? ⟨N + 1 + 1, 0, none⟩ = some (.int .i64 zl) := cell_blk ((m1.block _ (heap_lt hl2) (fun h => h)).trans hl2) rfl
                  have g9 : wk1.cell? ⟨N + 1 + 1, 1, none⟩ = some (.slice adl xl.length cpl) := cell_blk ((m1.block _ (heap_lt hl2) (fun h => h)).trans hl2) rfl
                  have g10 : wk1.cell? ⟨N + 1 + 1, 2, none⟩ = some (.int .i64 zv) := cell_blk ((m1.block _ (heap_lt hl2) (fun h => h)).trans hl2) rfl
                  have g11 : wk1.cell? ⟨N + 1 + 1, 3, none⟩ = some (.slice adv xv.length cpv) := cell_blk ((m1.block _ (heap_lt hl2) (fun h => h)).trans hl2) rfl
                  have hfin := nw_trans mB m1
                  go_wp2
                  go_meet
                  case rel => exact ⟨rfl, hfin⟩
                | false =>
                  clear hcon qn g0 g1 g2 g3 g4 g5 g6 g7 g8 g9 g10 g11 q1
                  have g0 : wk1.cell? ⟨N, 0, none⟩ = some (.int .i64 zt) := cell_blk ((m1.block _ (heap_lt ht2) (fun h => h)).trans ht2) rfl
                  have g1 : wk1.cell? ⟨N, 1, none⟩ = some (.slice adt xt.length cpt) := cell_blk ((m1.block _ (heap_lt ht2) (fun h => h)).trans ht2) rfl
                  have g2 : wk1.cell? ⟨N, 2, none⟩ = some (.int .i64 zc) := cell_blk ((m1.block _ (heap_lt ht2) (fun h => h)).trans ht2) rfl
                  have g3 : wk1.cell? ⟨N, 3, none⟩ = some (.slice adc xc.length cpc) := cell_blk ((m1.block _ (heap_lt ht2) (fun h => h)).trans ht2) rfl
                  have g4 : wk1.cell? ⟨N + 1, 0, none⟩ = some (.int .i64 zs) := cell_blk ((m1.block _ (heap_lt hs2) (fun h => h)).trans hs2) rfl
                  have g5 : wk1.cell? ⟨N + 1, 1, none⟩ = some (.slice ads xs.length cps) := cell_blk ((m1.block _ (heap_lt hs2) (fun h => h)).trans hs2) rfl
                  have g6 : wk1.cell? ⟨N + 1, 2, none⟩ = some (.int .i64 zk) := cell_blk ((m1.block _ (heap_lt hs2) (fun h => h)).trans hs2) rfl
                  have g7 : wk1.cell? ⟨N + 1, 3, none⟩ = some (.slice adk xk.length cpk) := cell_blk ((m1.block _ (heap_lt hs2) (fun h => h)).trans hs2) rfl
                  have g8 : wk1.cell? ⟨N + 1 + 1, 0, none⟩ = some (.int .i64 zl) := cell_blk ((m1.block _ (heap_lt hl2) (fun h => h)).trans hl2) rfl
                  have g9 : wk1.cell? ⟨N + 1 + 1, 1, none⟩ = some (.slice adl xl.length cpl) := cell_blk ((m1.block _ (heap_lt hl2) (fun h => h)).trans hl2) rfl
                  have g10 : wk1.cell? ⟨N + 1 + 1, 2, none⟩ = some (.int .i64 zv) := cell_blk ((m1.block _ (heap_lt hl2) (fun h => h)).trans hl2) rfl
                  have g11 : wk1.cell? ⟨N + 1 + 1, 3, none⟩ = some (.slice adv xv.length cpv) := cell_blk ((m1.block _ (heap_lt hl2) (fun h => h)).trans hl2) rfl
                  have hfin := nw_trans mB m1
                  go_wp2
                  go_meet
                  case rel => exact ⟨rfl, hfin⟩
          case rest =>
            obtain ⟨rfl, nC⟩ := hcut
            clear m1
            go_upto_region 14 with fail
            go_cut [99] (fun v wc => v = .bool false ∧ Nw U wc)
            case first =>
              as_aux_lemma =>
                have mB : Nw U wc := nC
                have et2 := etU.nw nC
                have ec2 := ecU.nw nC
                have es2 := esU.nw nC
                have ek2 := ekU.nw nC
                have el2 := elU.nw nC
                have ev2 := evU.nw nC
                have ht2 := (nC.block _ (heap_lt htU) (fun h => h)).trans htU
                have hs2 := (nC.block _ (heap_lt hsU) (fun h => h)).trans hsU
                have hl2 := (nC.block _ (heap_lt hlU) (fun h => h)).trans hlU
                obtain ⟨z, hz⟩ : ∃ z : Int, Hid (z = max la lb) := ⟨_, rfl⟩
                have hmx : ∀ (w : World) (ts : Array TypeId) (t : TypeId), (Builtin.max_ ts t #[.int .i64 la, .int .i64 lb]).run Try.prog w = .ok (.int .i64 z) w := fun w ts t => by
                  rw [run_max_int2 w ts t .i64 .i64 la lb, hz.out]; congr 2; split <;> omega
                by_cases p1 : la = 0
                · have hb1 : (la != 0) = false := by simp [p1]
                  replace p1 : Hid _ := p1
                  have g0 : wc.cell? ⟨N, 0, none⟩ = some (.int .i64 zt) := cell_blk ht2 rfl
                  have g1 : wc.cell? ⟨N, 1, none⟩ = some (.slice adt xt.length cpt) := cell_blk ht2 rfl
                  have g2 : wc.cell? ⟨N, 2, none⟩ = some (.int .i64 zc) := cell_blk ht2 rfl
                  have g3 : wc.cell? ⟨N, 3, none⟩ = some (.slice adc xc.length cpc) := cell_blk ht2 rfl
                  have g4 : wc.cell? ⟨N + 1, 0, none⟩ = some (.int .i64 zs) := cell_blk hs2 rfl
                  have g5 : wc.cell? ⟨N + 1, 1, none⟩ = some (.slice ads xs.length cps) := cell_blk hs2 rfl
                  have g6 : wc.cell? ⟨N + 1, 2, none⟩ = some (.int .i64 zk) := cell_blk hs2 rfl
                  have g7 : wc.cell? ⟨N + 1, 3, none⟩ = some (.slice adk xk.length cpk) := cell_blk hs2 rfl
                  have g8 : wc.cell? ⟨N + 1 + 1, 0, none⟩ = some (.int .i64 zl) := cell_blk hl2 rfl
                  have g9 : wc.cell? ⟨N + 1 + 1, 1, none⟩ = some (.slice adl xl.length cpl) := cell_blk hl2 rfl
                  have g10 : wc.cell? ⟨N + 1 + 1, 2, none⟩ = some (.int .i64 zv) := cell_blk hl2 rfl
                  have g11 : wc.cell? ⟨N + 1 + 1, 3, none⟩ = some (.slice adv xv.length cpv) := cell_blk hl2 rfl
                  have hcon : Hid _ := c_fenters zt zc zs zk zl zv wc et2 ec2 es2 ek2 el2 ev2 (by omega) (by omega) (by omega) (by omega) (by omega) (by omega) (by omega) (by omega)
                  unfold whoV at hcon
                  go_wp2_with (go_at_call 6; refine Calls.mono hcon.out ?_; rintro e wk0 ⟨r, rfl, q1, qn⟩; refine stop_here ?_)
                  unfold Hid
                  have m0 := qn
                  replace et2 := et2.nw qn
                  replace ec2 := ec2.nw qn
                  replace es2 := es2.nw qn
                  replace ek2 := ek2.nw qn
                  replace el2 := el2.nw qn
                  replace ev2 := ev2.nw qn
                  cases r with
                  | true =>
                    clear hcon qn g0 g1 g2 g3 g4 g5 g6 g7 g8 g9 g10 g11 q1
                    have g0 : wk0.cell? ⟨N, 0, none⟩ = some (.int .i64 zt) := cell_blk ((m0.block _ (heap_lt ht2) (fun h => h)).trans ht2) rfl
                    have g1 : wk0.cell? ⟨N, 1, none⟩ = some (.slice adt xt.length cpt) := cell_blk ((m0.block _ (heap_lt ht2) (fun h => h)).trans ht2) rfl
                    have g2 : wk0.cell? ⟨N, 2, none⟩ = some (.int .i64 zc) := cell_blk ((m0.block _ (heap_lt ht2) (fun h => h)).trans ht2) rfl
                    have g3 : wk0.cell? ⟨N, 3, none⟩ = some (.slice adc xc.length cpc) := cell_blk ((m0.block _ (heap_lt ht2) (fun h => h)).trans ht2) rfl
                    have g4 : wk0.cell? ⟨N + 1, 0, none⟩ = some (.int .i64 zs) := cell_blk ((m0.block _ (heap_lt hs2) (fun h => h)).trans hs2) rfl
                    have g5 : wk0.cell? ⟨N + 1, 1, none⟩ = some (.slice ads xs.length cps) := cell_blk ((m0.block _ (heap_lt hs2) (fun h => h)).trans hs2) rfl
                    have g6 : wk0.cell? ⟨N + 1, 2, none⟩ = some (.int .i64 zk) := cell_blk ((m0.block _ (heap_lt hs2) (fun h => h)).trans hs2) rfl
                    have g7 : wk0.cell? ⟨N + 1, 3, none⟩ = some (.slice adk xk.length cpk) := cell_blk ((m0.block _ (heap_lt hs2) (fun h => h)).trans hs2) rfl
                    have g8 : wk0.cell? ⟨N + 1 + 1, 0, none⟩ = some (.int .i64 zl) := cell_blk ((m0.block _ (heap_lt hl2) (fun h => h)).trans hl2) rfl
                    have g9 : wk0.cell? ⟨N + 1 + 1, 1, none⟩ = some (.slice adl xl.length cpl) := cell_blk ((m0.block _ (heap_lt hl2) (fun h => h)).trans hl2) rfl
                    have g10 : wk0.cell? ⟨N + 1 + 1, 2, none⟩ = some (.int .i64 zv) := cell_blk ((m0.block _ (heap_lt hl2) (fun h => h)).trans hl2) rfl
                    have g11 : wk0.cell? ⟨N + 1 + 1, 3, none⟩ = some (.slice adv xv.length cpv) := cell_blk ((m0.block _ (heap_lt hl2) (fun h => h)).trans hl2) rfl
                    have hfin := nw_trans mB m0
                    go_wp2
                    go_meet
                    case rel => exact ⟨rfl, hfin⟩
                  | false =>
                    clear hcon qn g0 g1 g2 g3 g4 g5 g6 g7 g8 g9 g10 g11 q1
                    have g0 : wk0.cell? ⟨N, 0, none⟩ = some (.int .i64 zt) := cell_blk ((m0.block _ (heap_lt ht2) (fun h => h)).trans ht2) rfl
                    have g1 : wk0.cell? ⟨N, 1, none⟩ = some (.slice adt xt.length cpt) := cell_blk ((m0.block _ (heap_lt ht2) (fun h => h)).trans ht2) rfl
                    have g2 : wk0.cell? ⟨N, 2, none⟩ = some (.int .i64 zc) := cell_blk ((m0.block _ (heap_lt ht2) (fun h => h)).trans ht2) rfl
                    have g3 : wk0.cell? ⟨N, 3, none⟩ = some (.slice adc xc.length cpc) := cell_blk ((m0.block _ (heap_lt ht2) (fun h => h)).trans ht2) rfl
                    have g4 : wk0.cell? ⟨N + 1, 0, none⟩ = some (.int .i64 zs) := cell_blk ((m0.block _ (heap_lt hs2) (fun h => h)).trans hs2) rfl
                    have g5 : wk0.cell? ⟨N + 1, 1, none⟩ = some (.slice ads xs.length cps) := cell_blk ((m0.block _ (heap_lt hs2) (fun h => h)).trans hs2) rfl
                    have g6 : wk0.cell? ⟨N + 1, 2, none⟩ = some (.int .i64 zk) := cell_blk ((m0.block _ (heap_lt hs2) (fun h => h)).trans hs2) rfl
                    have g7 : wk0.cell? ⟨N + 1, 3, none⟩ = some (.slice adk xk.length cpk) := cell_blk ((m0.block _ (heap_lt hs2) (fun h => h)).trans hs2) rfl
                    have g8 : wk0.cell? ⟨N + 1 + 1, 0, none⟩ = some (.int .i64 zl) := cell_blk ((m0.block _ (heap_lt hl2) (fun h => h)).trans hl2) rfl
                    have g9 : wk0.cell? ⟨N + 1 + 1, 1, none⟩ = some (.slice adl xl.length cpl) := cell_blk ((m0.block _ (heap_lt hl2) (fun h => h)).trans hl2) rfl
                    have g10 : wk0.cell? ⟨N + 1 + 1, 2, none⟩ = some (.int .i64 zv) := cell_blk ((m0.block _ (heap_lt hl2) (fun h => h)).trans hl2) rfl
                    have g11 : wk0.cell? ⟨N + 1 + 1, 3, none⟩ = some (.slice adv xv.length cpv) := cell_blk ((m0.block _ (heap_lt hl2) (fun h => h)).trans hl2) rfl
                    have hfin := nw_trans mB m0
                    go_wp2
                    go_meet
                    case rel => exact ⟨rfl, hfin⟩
                · have hb1 : (la != 0) = true := by simp [p1]
                  have p1 : Hid (¬ la = 0) := p1
                  by_cases p2 : lb = 0
                  · have hb2 : (lb != 0) = false := by simp [p2]
                    replace p2 : Hid _ := p2
                    have g0 : wc.cell? ⟨N, 0, none⟩ = some (.int .i64 zt) := cell_blk ht2 rfl
                    have g1 : wc.cell? ⟨N, 1, none⟩ = some (.slice adt xt.length cpt) := cell_blk ht2 rfl
                    have g2 : wc.cell? ⟨N, 2, none⟩ = some (.int .i64 zc) := cell_blk ht2 rfl
                    have g3 : wc.cell? ⟨N, 3, none⟩ = some (.slice adc xc.length cpc) := cell_blk ht2 rfl
                    have g4 : wc.cell? ⟨N + 1, 0, none⟩ = some (.int .i64 zs) := cell_blk hs2 rfl
                    have g5 : wc.cell? ⟨N + 1, 1, none⟩ = some (.slice ads xs.length cps) := cell_blk hs2 rfl
                    have g6 : wc.cell? ⟨N + 1, 2, none⟩ = some (.int .i64 zk) := cell_blk hs2 rfl
                    have g7 : wc.cell? ⟨N + 1, 3, none⟩ = some (.slice adk xk.length cpk) := cell_blk hs2 rfl
                    have g8 : wc.cell? ⟨N + 1 + 1, 0, none⟩ = some (.int .i64 zl) := cell_blk hl2 rfl
                    have g9 : wc.cell? ⟨N + 1 + 1, 1, none⟩ = some (.slice adl xl.length cpl) := cell_blk hl2 rfl
                    have g10 : wc.cell? ⟨N + 1 + 1, 2, none⟩ = some (.int .i64 zv) := cell_blk hl2 rfl
                    have g11 : wc.cell? ⟨N + 1 + 1, 3, none⟩ = some (.slice adv xv.length cpv) := cell_blk hl2 rfl
                    have hcon : Hid _ := c_fenters zt zc zs zk zl zv wc et2 ec2 es2 ek2 el2 ev2 (by omega) (by omega) (by omega) (by omega) (by omega) (by omega) (by omega) (by omega)
                    unfold whoV at hcon
                    go_wp2_with (go_at_call 6; refine Calls.mono hcon.out ?_; rintro e wk0 ⟨r, rfl, q1, qn⟩; refine stop_here ?_)
                    unfold Hid
                    have m0 := qn
                    replace et2 := et2.nw qn
                    replace ec2 := ec2.nw qn
                    replace es2 := es2.nw qn
                    replace ek2 := ek2.nw qn
                    replace el2 := el2.nw qn
                    replace ev2 := ev2.nw qn
                    cases r with
                    | true =>
                      clear hcon qn g0 g1 g2 g3 g4 g5 g6 g7 g8 g9 g10 g11 q1
                      have g0 : wk0.cell? ⟨N, 0, none⟩ = some (.int .i64 zt) := cell_blk ((m0.block _ (heap_lt ht2) (fun h => h)).trans ht2) rfl
                      have g1 : wk0.cell? ⟨N, 1, none⟩ = some (.slice adt xt.length cpt) := cell_blk ((m0.block _ (heap_lt ht2) (fun h => h)).trans ht2) rfl
                      have g2 : wk0.cell? ⟨N, 2, none⟩ = some (.int .i64 zc) := cell_blk ((m0.block _ (heap_lt ht2) (fun h => h)).trans ht2) rfl
                      have g3 : wk0.cell? ⟨N, 3, none⟩ = some (.slice adc xc.length cpc) := cell_blk ((m0.block _ (heap_lt ht2) (fun h => h)).trans ht2) rfl
                      have g4 : wk0.cell? ⟨N + 1, 0, none⟩ = some (.int .i64 zs) := cell_blk ((m0.block _ (heap_lt hs2) (fun h => h)).trans hs2) rfl
                      have g5 : wk0.cell? ⟨N + 1, 1, none⟩ = some (.slice ads xs.length cps) := cell_blk ((m0.block _ (heap_lt hs2) (fun h => h)).trans hs2) rfl
                      have g6 : wk0.cell? ⟨N + 1, 2, none⟩ = some (.int .i64 zk) := cell_blk ((m0.block _ (heap_lt hs2) (fun h => h)).trans hs2) rfl
                      have g7 : wk0.cell? ⟨N + 1, 3, none⟩ = some (.slice adk xk.length cpk) := cell_blk ((m0.block _ (heap_lt hs2) (fun h => h)).trans hs2) rfl
                      have g8 : wk0.cell? ⟨N + 1 + 1, 0, none⟩ = some (.int .i64 zl) := cell_blk ((m0.block _ (heap_lt hl2) (fun h => h)).trans hl2) rfl
                      have g9 : wk0.cell? ⟨N + 1 + 1, 1, none⟩ = some (.slice adl xl.length cpl) := cell_blk ((m0.block _ (heap_lt hl2) (fun h => h)).trans hl2) rfl
                      have g10 : wk0.cell? ⟨N + 1 + 1, 2, none⟩ = some (.int .i64 zv) := cell_blk ((m0.block _ (heap_lt hl2) (fun h => h)).trans hl2) rfl
                      have g11 : wk0.cell? ⟨N + 1 + 1, 3, none⟩ = some (.slice adv xv.length cpv) := cell_blk ((m0.block _ (heap_lt hl2) (fun h => h)).trans hl2) rfl
                      have hfin := nw_trans mB m0
                      go_wp2
                      go_meet
                      case rel => exact ⟨rfl, hfin⟩
                    | false =>
                      clear hcon qn g0 g1 g2 g3 g4 g5 g6 g7 g8 g9 g10 g11 q1
                      have g0 : wk0.cell? ⟨N, 0, none⟩ = some (.int .i64 zt) := cell_blk ((m0.block _ (heap_lt ht2) (fun h => h)).trans ht2) rfl
                      have g1 : wk0.cell? ⟨N, 1, none⟩ = some (.slice adt xt.length cpt) := cell_blk ((m0.block _ (heap_lt ht2) (fun h => h)).trans ht2) rfl
                      have g2 : wk0.cell? ⟨N, 2, none⟩ = some (.int .i64 zc) := cell_blk ((m0.block _ (heap_lt ht2) (fun h => h)).trans ht2) rfl
                      have g3 : wk0.cell? ⟨N, 3, none⟩ = some (.slice adc xc.length cpc) := cell_blk ((m0.block _ (heap_lt ht2) (fun h => h)).trans ht2) rfl
                      have g4 : wk0.cell? ⟨N + 1, 0, none⟩ = some (.int .i64 zs) := cell_blk ((m0.block _ (heap_lt hs2) (fun h => h)).trans hs2) rfl
                      have g5 : wk0.cell? ⟨N + 1, 1, none⟩ = some (.slice ads xs.length cps) := cell_blk ((m0.block _ (heap_lt hs2) (fun h => h)).trans hs2) rfl
                      have g6 : wk0.cell? ⟨N + 1, 2, none⟩ = some (.int .i64 zk) := cell_blk ((m0.block _ (heap_lt hs2) (fun h => h)).trans hs2) rfl
                      have g7 : wk0.cell? ⟨N + 1, 3, none⟩ = some (.slice adk xk.length cpk) := cell_blk ((m0.block _ (heap_lt hs2) (fun h => h)).trans hs2) rfl
                      have g8 : wk0.cell? ⟨N + 1 + 1, 0, none⟩ = some (.int .i64 zl) := cell_blk ((m0.block _ (heap_lt hl2) (fun h => h)).trans hl2) rfl
                      have g9 : wk0.cell? ⟨N + 1 + 1, 1, none⟩ = some (.slice adl xl.length cpl) := cell_blk ((m0.block _ (heap_lt hl2) (fun h => h)).trans hl2) rfl
                      have g10 : wk0.cell? ⟨N + 1 + 1, 2, none⟩ = some (.int .i64 zv) := cell_blk ((m0.block _ (heap_lt hl2) (fun h => h)).trans hl2) rfl
                      have g11 : wk0.cell? ⟨N + 1 + 1, 3, none⟩ = some (.slice adv xv.length cpv) := cell_blk ((m0.block _ (heap_lt hl2) (fun h => h)).trans hl2) rfl
                      have hfin := nw_trans mB m0
                      go_wp2
                      go_meet
                      case rel => exact ⟨rfl, hfin⟩
                  · have hb2 : (lb != 0) = true := by simp [p2]
                    have p2 : Hid (¬ lb = 0) := p2
                    have g0 : wc.cell? ⟨N, 0, none⟩ = some (.int .i64 zt) := cell_blk ht2 rfl
                    have g1 : wc.cell? ⟨N, 1, none⟩ = some (.slice adt xt.length cpt) := cell_blk ht2 rfl
                    have g2 : wc.cell? ⟨N, 2, none⟩ = some (.int .i64 zc) := cell_blk ht2 rfl
                    have g3 : wc.cell? ⟨N, 3, none⟩ = some (.slice adc xc.length cpc) := cell_blk ht2 rfl
                    have g4 : wc.cell? ⟨N + 1, 0, none⟩ = some (.int .i64 zs) := cell_blk hs2 rfl
                    have g5 : wc.cell? ⟨N + 1, 1, none⟩ = some (.slice ads xs.length cps) := cell_blk hs2 rfl
                    have g6 : wc.cell? ⟨N + 1, 2, none⟩ = some (.int .i64 zk) := cell_blk hs2 rfl
                    have g7 : wc.cell? ⟨N + 1, 3, none⟩ = some (.slice adk xk.length cpk) := cell_blk hs2 rfl
                    have g8 : wc.cell? ⟨N + 1 + 1, 0, none⟩ = some (.int .i64 zl) := cell_blk hl2 rfl
                    have g9 : wc.cell? ⟨N + 1 + 1, 1, none⟩ = some (.slice adl xl.length cpl) := cell_blk hl2 rfl
                    have g10 : wc.cell? ⟨N + 1 + 1, 2, none⟩ = some (.int .i64 zv) := cell_blk hl2 rfl
                    have g11 : wc.cell? ⟨N + 1 + 1, 3, none⟩ = some (.slice adv xv.length cpv) := cell_blk hl2 rfl
                    have hcon : Hid _ := c_fenters zt zc zs zk zl zv wc et2 ec2 es2 ek2 el2 ev2 (by omega) (by omega) (by omega) (by omega) (by omega) (by omega) (by omega) (by omega)
                    unfold whoV at hcon
                    go_wp2_with (go_at_call 6; refine Calls.mono hcon.out ?_; rintro e wk0 ⟨r, rfl, q1, qn⟩; refine stop_here ?_)
                    unfold Hid
                    have m0 := qn
                    replace et2 := et2.nw qn
                    replace ec2 := ec2.nw qn
                    replace es2 := es2.nw qn
                    replace ek2 := ek2.nw qn
                    replace el2 := el2.nw qn
                    replace ev2 := ev2.nw qn
                    cases r with
                    | true =>
                      have hd1 : decide (lo < z) = false := decide_eq_false (by have f1 : max la lb ≤ lo := fE.out (q1.1 rfl) p1.out p2.out; rw [hz.out]; omega)
                      clear hcon qn g0 g1 g2 g3 g4 g5 g6 g7 g8 g9 g10 g11 q1
                      have g0 : wk0.cell? ⟨N, 0, none⟩ = some (.int .i64 zt) := cell_blk ((m0.block _ (heap_lt ht2) (fun h => h)).trans ht2) rfl
                      have g1 : wk0.cell? ⟨N, 1, none⟩ = some (.slice adt xt.length cpt) := cell_blk ((m0.block _ (heap_lt ht2) (fun h => h)).trans ht2) rfl
                      have g2 : wk0.cell? ⟨N, 2, none⟩ = some (.int .i64 zc) := cell_blk ((m0.block _ (heap_lt ht2) (fun h => h)).trans ht2) rfl
                      have g3 : wk0.cell? ⟨N, 3, none⟩ = some (.slice adc xc.length cpc) := cell_blk ((m0.block _ (heap_lt ht2) (fun h => h)).trans ht2) rfl
                      have g4 : wk0.cell? ⟨N + 1, 0, none⟩ = some (.int .i64 zs) := cell_blk ((m0.block _ (heap_lt hs2) (fun h => h)).trans hs2) rfl
                      have g5 : wk0.cell? ⟨N + 1, 1, none⟩ = some (.slice ads xs.length cps) := cell_blk ((m0.block _ (heap_lt hs2) (fun h => h)).trans hs2) rfl
                      have g6 : wk0.cell? ⟨N + 1, 2, none⟩ = some (.int .i64 zk) := cell_blk ((m0.block _ (heap_lt hs2) (fun h => h)).trans hs2) rfl
                      have g7 : wk0.cell? ⟨N + 1, 3, none⟩ = some (.slice adk xk.length cpk) := cell_blk ((m0.block _ (heap_lt hs2) (fun h => h)).trans hs2) rfl
                      have g8 : wk0.cell? ⟨N + 1 + 1, 0, none⟩ = some (.int .i64 zl) := cell_blk ((m0.block _ (heap_lt hl2) (fun h => h)).trans hl2) rfl
                      have g9 : wk0.cell? ⟨N + 1 + 1, 1, none⟩ = some (.slice adl xl.length cpl) := cell_blk ((m0.block _ (heap_lt hl2) (fun h => h)).trans hl2) rfl
                      have g10 : wk0.cell? ⟨N + 1 + 1, 2, none⟩ = some (.int .i64 zv) := cell_blk ((m0.block _ (heap_lt hl2) (fun h => h)).trans hl2) rfl
                      have g11 : wk0.cell? ⟨N + 1 + 1, 3, none⟩ = some (.slice adv xv.length cpv) := cell_blk ((m0.block _ (heap_lt hl2) (fun h => h)).trans hl2) rfl
                      have hfin := nw_trans mB m0
                      go_wp2
                      go_meet
                      case rel => exact ⟨rfl, hfin⟩
                    | false =>
                      clear hcon qn g0 g1 g2 g3 g4 g5 g6 g7 g8 g9 g10 g11 q1
                      have g0 : wk0.cell? ⟨N, 0, none⟩ = some (.int .i64 zt) := cell_blk ((m0.block _ (heap_lt ht2) (fun h => h)).trans ht2) rfl
                      have g1 : wk0.cell? ⟨N, 1, none⟩ = some (.slice adt xt.length cpt) := cell_blk ((m0.block _ (heap_lt ht2) (fun h => h)).trans ht2) rfl
                      have g2 : wk0.cell? ⟨N, 2, none⟩ = some (.int .i64 zc) := cell_blk ((m0.block _ (heap_lt ht2) (fun h => h)).trans ht2) rfl
                      have g3 : wk0.cell? ⟨N, 3, none⟩ = some (.slice adc xc.length cpc) := cell_blk ((m0.block _ (heap_lt ht2) (fun h => h)).trans ht2) rfl
                      have g4 : wk0.cell? ⟨N + 1, 0, none⟩ = some (.int .i64 zs) := cell_blk ((m0.block _ (heap_lt hs2) (fun h => h)).trans hs2) rfl
                      have g5 : wk0.cell? ⟨N + 1, 1, none⟩ = some (.slice ads xs.length cps) := cell_blk ((m0.block _ (heap_lt hs2) (fun h => h)).trans hs2) rfl
                      have g6 : wk0.cell? ⟨N + 1, 2, none⟩ = some (.int .i64 zk) := cell_blk ((m0.block _ (heap_lt hs2) (fun h => h)).trans hs2) rfl
                      have g7 : wk0.cell? ⟨N + 1, 3, none⟩ = some (.slice adk xk.length cpk) := cell_blk ((m0.block _ (heap_lt hs2) (fun h => h)).trans hs2) rfl
                      have g8 : wk0.cell? ⟨N + 1 + 1, 0, none⟩ = some (.int .i64 zl) := cell_blk ((m0.block _ (heap_lt hl2) (fun h => h)).trans hl2) rfl
                      have g9 : wk0.cell? ⟨N + 1 + 1, 1, none⟩ = some (.slice adl xl.length cpl) := cell_blk ((m0.block _ (heap_lt hl2) (fun h => h)).trans hl2) rfl
                      have g10 : wk0.cell? ⟨N + 1 + 1, 2, none⟩ = some (.int .i64 zv) := cell_blk ((m0.block _ (heap_lt hl2) (fun h => h)).trans hl2) rfl
                      have g11 : wk0.cell? ⟨N + 1 + 1, 3, none⟩ = some (.slice adv xv.length cpv) := cell_blk ((m0.block _ (heap_lt hl2) (fun h => h)).trans hl2) rfl
                      have hfin := nw_trans mB m0
                      go_wp2
                      go_meet
                      case rel => exact ⟨rfl, hfin⟩
            case rest =>
              obtain ⟨rfl, nD⟩ := hcut
              have nE := nw_trans nV nD
              clear nC nD nV fT fS fE
              go_wp2
              go_roundw
              case rel => exact ⟨k + 1, by omega, by go_num, nE⟩
              case measure => simp [intOf]; omega
        · go_wp2
          go_ret
          exact ⟨rfl, nw_trans nW hw⟩
    | false =>
      clear hcon qn g0 g1 g2 g3 g4 g5 g6 g7 g8 g9 g10 g11 q1
      have g0 : wk1.cell? ⟨N, 0, none⟩ = some (.int .i64 zt) := cell_blk ((m1.block _ (heap_lt ht) (fun h => h)).trans ht) rfl
      have g1 : wk1.cell? ⟨N, 1, none⟩ = some (.slice adt xt.length cpt) := cell_blk ((m1.block _ (heap_lt ht) (fun h => h)).trans ht) rfl
      have g2 : wk1.cell? ⟨N, 2, none⟩ = some (.int .i64 zc) := cell_blk ((m1.block _ (heap_lt ht) (fun h => h)).trans ht) rfl
      have g3 : wk1.cell? ⟨N, 3, none⟩ = some (.slice adc xc.length cpc) := cell_blk ((m1.block _ (heap_lt ht) (fun h => h)).trans ht) rfl
      have g4 : wk1.cell? ⟨N + 1, 0, none⟩ = some (.int .i64 zs) := cell_blk ((m1.block _ (heap_lt hs) (fun h => h)).trans hs) rfl
      have g5 : wk1.cell? ⟨N + 1, 1, none⟩ = some (.slice ads xs.length cps) := cell_blk ((m1.block _ (heap_lt hs) (fun h => h)).trans hs) rfl
      have g6 : wk1.cell? ⟨N + 1, 2, none⟩ = some (.int .i64 zk) := cell_blk ((m1.block _ (heap_lt hs) (fun h => h)).trans hs) rfl
      have g7 : wk1.cell? ⟨N + 1, 3, none⟩ = some (.slice adk xk.length cpk) := cell_blk ((m1.block _ (heap_lt hs) (fun h => h)).trans hs) rfl
      have g8 : wk1.cell? ⟨N + 1 + 1, 0, none⟩ = some (.int .i64 zl) := cell_blk ((m1.block _ (heap_lt hl) (fun h => h)).trans hl) rfl
      have g9 : wk1.cell? ⟨N + 1 + 1, 1, none⟩ = some (.slice adl xl.length cpl) := cell_blk ((m1.block _ (heap_lt hl) (fun h => h)).trans hl) rfl
      have g10 : wk1.cell? ⟨N + 1 + 1, 2, none⟩ = some (.int .i64 zv) := cell_blk ((m1.block _ (heap_lt hl) (fun h => h)).trans hl) rfl
      have g11 : wk1.cell? ⟨N + 1 + 1, 3, none⟩ = some (.slice adv xv.length cpv) := cell_blk ((m1.block _ (heap_lt hl) (fun h => h)).trans hl) rfl
      have hfin := nw_trans nW m1
      go_wp2
      go_ret
      exact ⟨rfl, hfin⟩
  | false =>
    clear hcon qn g0 g1 g2 g3 g4 g5 g6 g7 g8 g9 g10 g11 q1
    have g0 : wk0.cell? ⟨N, 0, none⟩ = some (.int .i64 zt) := cell_blk ((m0.block _ (heap_lt ht) (fun h => h)).trans ht) rfl
    have g1 : wk0.cell? ⟨N, 1, none⟩ = some (.slice adt xt.length cpt) := cell_blk ((m0.block _ (heap_lt ht) (fun h => h)).trans ht) rfl
    have g2 : wk0.cell? ⟨N, 2, none⟩ = some (.int .i64 zc) := cell_blk ((m0.block _ (heap_lt ht) (fun h => h)).trans ht) rfl
    have g3 : wk0.cell? ⟨N, 3, none⟩ = some (.slice adc xc.length cpc) := cell_blk ((m0.block _ (heap_lt ht) (fun h => h)).trans ht) rfl
    have g4 : wk0.cell? ⟨N + 1, 0, none⟩ = some (.int .i64 zs) := cell_blk ((m0.block _ (heap_lt hs) (fun h => h)).trans hs) rfl
    have g5 : wk0.cell? ⟨N + 1, 1, none⟩ = some (.slice ads xs.length cps) := cell_blk ((m0.block _ (heap_lt hs) (fun h => h)).trans hs) rfl
    have g6 : wk0.cell? ⟨N + 1, 2, none⟩ = some (.int .i64 zk) := cell_blk ((m0.block _ (heap_lt hs) (fun h => h)).trans hs) rfl
    have g7 : wk0.cell? ⟨N + 1, 3, none⟩ = some (.slice adk xk.length cpk) := cell_blk ((m0.block _ (heap_lt hs) (fun h => h)).trans hs) rfl
    have g8 : wk0.cell? ⟨N + 1 + 1, 0, none⟩ = some (.int .i64 zl) := cell_blk ((m0.block _ (heap_lt hl) (fun h => h)).trans hl) rfl
    have g9 : wk0.cell? ⟨N + 1 + 1, 1, none⟩ = some (.slice adl xl.length cpl) := cell_blk ((m0.block _ (heap_lt hl) (fun h => h)).trans hl) rfl
    have g10 : wk0.cell? ⟨N + 1 + 1, 2, none⟩ = some (.int .i64 zv) := cell_blk ((m0.block _ (heap_lt hl) (fun h => h)).trans hl) rfl
    have g11 : wk0.cell? ⟨N + 1 + 1, 3, none⟩ = some (.slice adv xv.length cpv) := cell_blk ((m0.block _ (heap_lt hl) (fun h => h)).trans hl) rfl
    have hfin := nw_trans nW m0
    go_wp2
    go_ret
    exact ⟨rfl, hfin⟩
end Go.Proofs.Ytimgelekpghklaa
