/-
  The document's Enters.
-/
import Derived.Test.YtimgelekpghklaaFlowW4
import Derived.Test.YtimgelekpghklaaFlowR2
namespace Go.Proofs.Ytimgelekpghklaa
set_option linter.unusedVariables false
set_option linter.unusedSimpArgs false
set_option maxRecDepth 20000
open Go.RowKit

/-- What the document's Enters asks. -/
def END (zt zc zs zk zl zv : Int) (xt xc xs xk xl xv : List Cat) : Prop := Rgt zl xl ∧ Rgt zv xv ∧ Pu zv xv ∧ leL (lev zt xt) (lev zk xk) ∧ leL (fun id => bo (lev zt xt id) (lev zs xs id)) (lev zl xl) ∧ leL (lev zl xl) (lev zv xv) ∧ leL (lev zv xv) (fun id => max (lev zc xc id) (lev zk xk id))

/-- Two labels raised, merged, turned, and a variable, in whatever order. -/
def FEnt (W : World) (D1 D2 D3 D4 : Int) (f1 f2 f3 f4 : Int → Int) (n1 n2 n3 : Nat) : Nat → Value → Nat → Nat → World → Prop
  | 1 => fun v lo hi w => ∃ u ys, v = labV D1 u ∧ CSl (fun b => lo ≤ b ∧ b < hi) w u ys ∧ (∀ id, lev D1 ys id = f1 id) ∧ ys.length ≤ n1
  | 3 => fun v lo hi w => ∃ u ys, v = labV D2 u ∧ CSl (fun b => lo ≤ b ∧ b < hi) w u ys ∧ (∀ id, lev D2 ys id = f2 id) ∧ ys.length ≤ n2
  | 4 => fun v lo hi w => ∃ u ys, v = labV D3 u ∧ CSl (fun b => lo ≤ b ∧ b < hi) w u ys ∧ (∀ id, lev D3 ys id = f3 id) ∧ ys.length ≤ n3
  | 5 => fun v lo hi w => ∃ u ys, v = labV D4 u ∧ CSl (fun b => lo ≤ b ∧ b < hi) w u ys ∧ (∀ id, lev D4 ys id = f4 id) ∧ ys.length ≤ n3
  | 6 => fun v lo hi w => v = .pointer (some ⟨lo, 0, none⟩) ∧ lo < hi ∧ W.heap.size ≤ lo ∧ w.heap[lo]? = some (.cells #[.int .i64 0, .slice none 0 0] 24 (0, 0))
  | _ => fun _ _ _ _ => True

set_option maxRecDepth 20000 in
set_option maxHeartbeats 3200000 in
theorem c_renters {Xt Xc Xs Xk Xl Xv : Nat → Prop} {ut uc us uk ul uv : Value} {xt xc xs xk xl xv : List Cat} (zt zc zs zk zl zv : Int) (w : World) (et : CSl Xt w ut xt) (ec : CSl Xc w uc xc) (es : CSl Xs w us xs) (ek : CSl Xk w uk xk) (el : CSl Xl w ul xl) (ev : CSl Xv w uv xv) (lt : xt.length ≤ 8796093021952) (lc : xc.length ≤ 8796093021952) (ls : xs.length ≤ 8796093021952) (lk : xk.length ≤ 8796093021952) (ll : xl.length ≤ 8796093021952) (lv : xv.length ≤ 8796093021952) (lts : xt.length + xs.length ≤ 8796093021952) (lck : xc.length + xk.length ≤ 8796093021952) :
    Calls Try.prog 7 #[labV zt ut, labV zc uc, labV zs us, labV zk uk, labV zl ul, labV zv uv] w (AnsP (END zt zc zs zk zl zv xt xc xs xk xl xv) w) := by
  obtain ⟨adt, cpt, rfl, _, _⟩ := et.form
  obtain ⟨adc, cpc, rfl, _, _⟩ := ec.form
  obtain ⟨ads, cps, rfl, _, _⟩ := es.form
  obtain ⟨adk, cpk, rfl, _, _⟩ := ek.form
  obtain ⟨adl, cpl, rfl, _, _⟩ := el.form
  obtain ⟨adv, cpv, rfl, _, _⟩ := ev.form
  obtain ⟨W, hW⟩ : ∃ W, Hid (W = ((((((w.alloc (.cells #[.int .i64 zt, .slice adt xt.length cpt] 24)).alloc (.cells #[.int .i64 zc, .slice adc xc.length cpc] 24)).alloc (.cells #[.int .i64 zs, .slice ads xs.length cps] 24)).alloc (.cells #[.int .i64 zk, .slice adk xk.length cpk] 24)).alloc (.cells #[.int .i64 zl, .slice adl xl.length cpl] 24)).alloc (.cells #[.int .i64 zv, .slice adv xv.length cpv] 24))) := ⟨_, rfl⟩
  have nW : Nw w W := by rw [hW.out]; exact nw_alloc (nw_alloc (nw_alloc (nw_alloc (nw_alloc (nw_alloc (nw_refl w) _) _) _) _) _) _
  have ht : W.heap[w.heap.size]? = some (.cells #[.int .i64 zt, .slice adt xt.length cpt] 24 (0, 0)) := by
    rw [hW.out, Below.heap_alloc _ _ _ (by simp; try omega), Below.heap_alloc _ _ _ (by simp; try omega), Below.heap_alloc _ _ _ (by simp; try omega), Below.heap_alloc _ _ _ (by simp; try omega), Below.heap_alloc _ _ _ (by simp; try omega)]
    have := heap_alloc_new w (.cells #[.int .i64 zt, .slice adt xt.length cpt] 24)
    simpa using this
  have hc : W.heap[w.heap.size + 1]? = some (.cells #[.int .i64 zc, .slice adc xc.length cpc] 24 (0, 0)) := by
    rw [hW.out, Below.heap_alloc _ _ _ (by simp; try omega), Below.heap_alloc _ _ _ (by simp; try omega), Below.heap_alloc _ _ _ (by simp; try omega), Below.heap_alloc _ _ _ (by simp; try omega)]
    have := heap_alloc_new (w.alloc (.cells #[.int .i64 zt, .slice adt xt.length cpt] 24)) (.cells #[.int .i64 zc, .slice adc xc.length cpc] 24)
    simpa using this
  have hs : W.heap[w.heap.size + 1 + 1]? = some (.cells #[.int .i64 zs, .slice ads xs.length cps] 24 (0, 0)) := by
    rw [hW.out, Below.heap_alloc _ _ _ (by simp; try omega), Below.heap_alloc _ _ _ (by simp; try omega), Below.heap_alloc _ _ _ (by simp; try omega)]
    have := heap_alloc_new ((w.alloc (.cells #[.int .i64 zt, .slice adt xt.length cpt] 24)).alloc (.cells #[.int .i64 zc, .slice adc xc.length cpc] 24)) (.cells #[.int .i64 zs, .slice ads xs.length cps] 24)
    simpa using this
  have hk : W.heap[w.heap.size + 1 + 1 + 1]? = some (.cells #[.int .i64 zk, .slice adk xk.length cpk] 24 (0, 0)) := by
    rw [hW.out, Below.heap_alloc _ _ _ (by simp; try omega), Below.heap_alloc _ _ _ (by simp; try omega)]
    have := heap_alloc_new (((w.alloc (.cells #[.int .i64 zt, .slice adt xt.length cpt] 24)).alloc (.cells #[.int .i64 zc, .slice adc xc.length cpc] 24)).alloc (.cells #[.int .i64 zs, .slice ads xs.length cps] 24)) (.cells #[.int .i64 zk, .slice adk xk.length cpk] 24)
    simpa using this
  have hl : W.heap[w.heap.size + 1 + 1 + 1 + 1]? = some (.cells #[.int .i64 zl, .slice adl xl.length cpl] 24 (0, 0)) := by
    rw [hW.out, Below.heap_alloc _ _ _ (by simp; try omega)]
    have := heap_alloc_new ((((w.alloc (.cells #[.int .i64 zt, .slice adt xt.length cpt] 24)).alloc (.cells #[.int .i64 zc, .slice adc xc.length cpc] 24)).alloc (.cells #[.int .i64 zs, .slice ads xs.length cps] 24)).alloc (.cells #[.int .i64 zk, .slice adk xk.length cpk] 24)) (.cells #[.int .i64 zl, .slice adl xl.length cpl] 24)
    simpa using this
  have hv : W.heap[w.heap.size + 1 + 1 + 1 + 1 + 1]? = some (.cells #[.int .i64 zv, .slice adv xv.length cpv] 24 (0, 0)) := by
    rw [hW.out]
    have := heap_alloc_new (((((w.alloc (.cells #[.int .i64 zt, .slice adt xt.length cpt] 24)).alloc (.cells #[.int .i64 zc, .slice adc xc.length cpc] 24)).alloc (.cells #[.int .i64 zs, .slice ads xs.length cps] 24)).alloc (.cells #[.int .i64 zk, .slice adk xk.length cpk] 24)).alloc (.cells #[.int .i64 zl, .slice adl xl.length cpl] 24)) (.cells #[.int .i64 zv, .slice adv xv.length cpv] 24)
    simpa using this
  replace et := et.nw nW
  replace ec := ec.nw nW
  replace es := es.nw nW
  replace ek := ek.nw nW
  replace el := el.nw nW
  replace ev := ev.nw nW
  unfold labV
  go_enter Try.func7, Try.ntmps7
  go_upto_region 1 with fail
  rw [← hW.out]
  clear hW
  generalize w.heap.size = N at *
  have g0 : W.cell? ⟨N, 0, none⟩ = some (.int .i64 zt) := cell_blk ht rfl
  have g1 : W.cell? ⟨N, 1, none⟩ = some (.slice adt xt.length cpt) := cell_blk ht rfl
  have g2 : W.cell? ⟨N + 1, 0, none⟩ = some (.int .i64 zc) := cell_blk hc rfl
  have g3 : W.cell? ⟨N + 1, 1, none⟩ = some (.slice adc xc.length cpc) := cell_blk hc rfl
  have g4 : W.cell? ⟨N + 1 + 1, 0, none⟩ = some (.int .i64 zs) := cell_blk hs rfl
  have g5 : W.cell? ⟨N + 1 + 1, 1, none⟩ = some (.slice ads xs.length cps) := cell_blk hs rfl
  have g6 : W.cell? ⟨N + 1 + 1 + 1, 0, none⟩ = some (.int .i64 zk) := cell_blk hk rfl
  have g7 : W.cell? ⟨N + 1 + 1 + 1, 1, none⟩ = some (.slice adk xk.length cpk) := cell_blk hk rfl
  have g8 : W.cell? ⟨N + 1 + 1 + 1 + 1, 0, none⟩ = some (.int .i64 zl) := cell_blk hl rfl
  have g9 : W.cell? ⟨N + 1 + 1 + 1 + 1, 1, none⟩ = some (.slice adl xl.length cpl) := cell_blk hl rfl
  have g10 : W.cell? ⟨N + 1 + 1 + 1 + 1 + 1, 0, none⟩ = some (.int .i64 zv) := cell_blk hv rfl
  have g11 : W.cell? ⟨N + 1 + 1 + 1 + 1 + 1, 1, none⟩ = some (.slice adv xv.length cpv) := cell_blk hv rfl
  have hcon : Hid _ := c_rright zl W el (by omega)
  unfold RgtP at hcon
  unfold labV at hcon
  go_wp2_with (go_at_call 21; refine Calls.mono hcon.out ?_; rintro e wk0 ⟨r, rfl, q1, qn⟩; refine stop_here ?_)
  unfold Hid
  have m0 := qn
  replace et := et.nw qn
  replace ec := ec.nw qn
  replace es := es.nw qn
  replace ek := ek.nw qn
  replace el := el.nw qn
  replace ev := ev.nw qn
  cases r with
  | true =>
    have s1 : Hid _ := q1.1 rfl
    clear hcon qn g0 g1 g2 g3 g4 g5 g6 g7 g8 g9 g10 g11 q1
    have g0 : wk0.cell? ⟨N, 0, none⟩ = some (.int .i64 zt) := cell_blk ((m0.block _ (heap_lt ht) (fun h => h)).trans ht) rfl
    have g1 : wk0.cell? ⟨N, 1, none⟩ = some (.slice adt xt.length cpt) := cell_blk ((m0.block _ (heap_lt ht) (fun h => h)).trans ht) rfl
    have g2 : wk0.cell? ⟨N + 1, 0, none⟩ = some (.int .i64 zc) := cell_blk ((m0.block _ (heap_lt hc) (fun h => h)).trans hc) rfl
    have g3 : wk0.cell? ⟨N + 1, 1, none⟩ = some (.slice adc xc.length cpc) := cell_blk ((m0.block _ (heap_lt hc) (fun h => h)).trans hc) rfl
    have g4 : wk0.cell? ⟨N + 1 + 1, 0, none⟩ = some (.int .i64 zs) := cell_blk ((m0.block _ (heap_lt hs) (fun h => h)).trans hs) rfl
    have g5 : wk0.cell? ⟨N + 1 + 1, 1, none⟩ = some (.slice ads xs.length cps) := cell_blk ((m0.block _ (heap_lt hs) (fun h => h)).trans hs) rfl
    have g6 : wk0.cell? ⟨N + 1 + 1 + 1, 0, none⟩ = some (.int .i64 zk) := cell_blk ((m0.block _ (heap_lt hk) (fun h => h)).trans hk) rfl
    have g7 : wk0.cell? ⟨N + 1 + 1 + 1, 1, none⟩ = some (.slice adk xk.length cpk) := cell_blk ((m0.block _ (heap_lt hk) (fun h => h)).trans hk) rfl
    have g8 : wk0.cell? ⟨N + 1 + 1 + 1 + 1, 0, none⟩ = some (.int .i64 zl) := cell_blk ((m0.block _ (heap_lt hl) (fun h => h)).trans hl) rfl
    have g9 : wk0.cell? ⟨N + 1 + 1 + 1 + 1, 1, none⟩ = some (.slice adl xl.length cpl) := cell_blk ((m0.block _ (heap_lt hl) (fun h => h)).trans hl) rfl
    have g10 : wk0.cell? ⟨N + 1 + 1 + 1 + 1 + 1, 0, none⟩ = some (.int .i64 zv) := cell_blk ((m0.block _ (heap_lt hv) (fun h => h)).trans hv) rfl
    have g11 : wk0.cell? ⟨N + 1 + 1 + 1 + 1 + 1, 1, none⟩ = some (.slice adv xv.length cpv) := cell_blk ((m0.block _ (heap_lt hv) (fun h => h)).trans hv) rfl
    have hcon : Hid _ := c_rright zv wk0 ev (by omega)
    unfold RgtP at hcon
    unfold labV at hcon
    go_wp2_with (go_at_call 21; refine Calls.mono hcon.out ?_; rintro e wk1 ⟨r, rfl, q1, qn⟩; refine stop_here ?_)
    unfold Hid
    have m1 := nw_trans m0 qn
    replace et := et.nw qn
    replace ec := ec.nw qn
    replace es := es.nw qn
    replace ek := ek.nw qn
    replace el := el.nw qn
    replace ev := ev.nw qn
    cases r with
    | true =>
      have s5 : Hid _ := q1.1 rfl
      clear hcon qn g0 g1 g2 g3 g4 g5 g6 g7 g8 g9 g10 g11 q1
      have g0 : wk1.cell? ⟨N, 0, none⟩ = some (.int .i64 zt) := cell_blk ((m1.block _ (heap_lt ht) (fun h => h)).trans ht) rfl
      have g1 : wk1.cell? ⟨N, 1, none⟩ = some (.slice adt xt.length cpt) := cell_blk ((m1.block _ (heap_lt ht) (fun h => h)).trans ht) rfl
      have g2 : wk1.cell? ⟨N + 1, 0, none⟩ = some (.int .i64 zc) := cell_blk ((m1.block _ (heap_lt hc) (fun h => h)).trans hc) rfl
      have g3 : wk1.cell? ⟨N + 1, 1, none⟩ = some (.slice adc xc.length cpc) := cell_blk ((m1.block _ (heap_lt hc) (fun h => h)).trans hc) rfl
      have g4 : wk1.cell? ⟨N + 1 + 1, 0, none⟩ = some (.int .i64 zs) := cell_blk ((m1.block _ (heap_lt hs) (fun h => h)).trans hs) rfl
      have g5 : wk1.cell? ⟨N + 1 + 1, 1, none⟩ = some (.slice ads xs.length cps) := cell_blk ((m1.block _ (heap_lt hs) (fun h => h)).trans hs) rfl
      have g6 : wk1.cell? ⟨N + 1 + 1 + 1, 0, none⟩ = some (.int .i64 zk) := cell_blk ((m1.block _ (heap_lt hk) (fun h => h)).trans hk) rfl
      have g7 : wk1.cell? ⟨N + 1 + 1 + 1, 1, none⟩ = some (.slice adk xk.length cpk) := cell_blk ((m1.block _ (heap_lt hk) (fun h => h)).trans hk) rfl
      have g8 : wk1.cell? ⟨N + 1 + 1 + 1 + 1, 0, none⟩ = some (.int .i64 zl) := cell_blk ((m1.block _ (heap_lt hl) (fun h => h)).trans hl) rfl
      have g9 : wk1.cell? ⟨N + 1 + 1 + 1 + 1, 1, none⟩ = some (.slice adl xl.length cpl) := cell_blk ((m1.block _ (heap_lt hl) (fun h => h)).trans hl) rfl
      have g10 : wk1.cell? ⟨N + 1 + 1 + 1 + 1 + 1, 0, none⟩ = some (.int .i64 zv) := cell_blk ((m1.block _ (heap_lt hv) (fun h => h)).trans hv) rfl
      have g11 : wk1.cell? ⟨N + 1 + 1 + 1 + 1 + 1, 1, none⟩ = some (.slice adv xv.length cpv) := cell_blk ((m1.block _ (heap_lt hv) (fun h => h)).trans hv) rfl
      have hcon : Hid _ := c_rpure zv wk1 ev
      unfold labV at hcon
      go_wp2_with (go_at_call 22; refine Calls.mono hcon.out ?_; rintro e wk2 ⟨r, rfl, q1, qn⟩; refine stop_here ?_)
      unfold Hid
      have m2 := nw_trans m1 qn
      replace et := et.nw qn
      replace ec := ec.nw qn
      replace es := es.nw qn
      replace ek := ek.nw qn
      replace el := el.nw qn
      replace ev := ev.nw qn
      cases r with
      | true =>
        have s10 : Hid _ := q1.1 rfl
        clear hcon qn g0 g1 g2 g3 g4 g5 g6 g7 g8 g9 g10 g11 q1
        have g0 : wk2.cell? ⟨N, 0, none⟩ = some (.int .i64 zt) := cell_blk ((m2.block _ (heap_lt ht) (fun h => h)).trans ht) rfl
        have g1 : wk2.cell? ⟨N, 1, none⟩ = some (.slice adt xt.length cpt) := cell_blk ((m2.block _ (heap_lt ht) (fun h => h)).trans ht) rfl
        have g2 : wk2.cell? ⟨N + 1, 0, none⟩ = some (.int .i64 zc) := cell_blk ((m2.block _ (heap_lt hc) (fun h => h)).trans hc) rfl
        have g3 : wk2.cell? ⟨N + 1, 1, none⟩ = some (.slice adc xc.length cpc) := cell_blk ((m2.block _ (heap_lt hc) (fun h => h)).trans hc) rfl
        have g4 : wk2.cell? ⟨N + 1 + 1, 0, none⟩ = some (.int .i64 zs) := cell_blk ((m2.block _ (heap_lt hs) (fun h => h)).trans hs) rfl
        have g5 : wk2.cell? ⟨N + 1 + 1, 1, none⟩ = some (.slice ads xs.length cps) := cell_blk ((m2.block _ (heap_lt hs) (fun h => h)).trans hs) rfl
        have g6 : wk2.cell? ⟨N + 1 + 1 + 1, 0, none⟩ = some (.int .i64 zk) := cell_blk ((m2.block _ (heap_lt hk) (fun h => h)).trans hk) rfl
        have g7 : wk2.cell? ⟨N + 1 + 1 + 1, 1, none⟩ = some (.slice adk xk.length cpk) := cell_blk ((m2.block _ (heap_lt hk) (fun h => h)).trans hk) rfl
        have g8 : wk2.cell? ⟨N + 1 + 1 + 1 + 1, 0, none⟩ = some (.int .i64 zl) := cell_blk ((m2.block _ (heap_lt hl) (fun h => h)).trans hl) rfl
        have g9 : wk2.cell? ⟨N + 1 + 1 + 1 + 1, 1, none⟩ = some (.slice adl xl.length cpl) := cell_blk ((m2.block _ (heap_lt hl) (fun h => h)).trans hl) rfl
        have g10 : wk2.cell? ⟨N + 1 + 1 + 1 + 1 + 1, 0, none⟩ = some (.int .i64 zv) := cell_blk ((m2.block _ (heap_lt hv) (fun h => h)).trans hv) rfl
        have g11 : wk2.cell? ⟨N + 1 + 1 + 1 + 1 + 1, 1, none⟩ = some (.slice adv xv.length cpv) := cell_blk ((m2.block _ (heap_lt hv) (fun h => h)).trans hv) rfl
        have hcon : Hid _ := c_rleq2 zt zk wk2 et ek (by omega)
        unfold labV at hcon
        go_wp2_with (go_at_call 23; refine Calls.mono hcon.out ?_; rintro e wk3 ⟨r, rfl, q1, qn⟩; refine stop_here ?_)
        unfold Hid
        have m3 := nw_trans m2 qn
        replace et := et.nw qn
        replace ec := ec.nw qn
        replace es := es.nw qn
        replace ek := ek.nw qn
        replace el := el.nw qn
        replace ev := ev.nw qn
        cases r with
        | true =>
          have s16 : Hid _ := q1.1 rfl
          clear hcon qn g0 g1 g2 g3 g4 g5 g6 g7 g8 g9 g10 g11 q1
          have g0 : wk3.cell? ⟨N, 0, none⟩ = some (.int .i64 zt) := cell_blk ((m3.block _ (heap_lt ht) (fun h => h)).trans ht) rfl
          have g1 : wk3.cell? ⟨N, 1, none⟩ = some (.slice adt xt.length cpt) := cell_blk ((m3.block _ (heap_lt ht) (fun h => h)).trans ht) rfl
          have g2 : wk3.cell? ⟨N + 1, 0, none⟩ = some (.int .i64 zc) := cell_blk ((m3.block _ (heap_lt hc) (fun h => h)).trans hc) rfl
          have g3 : wk3.cell? ⟨N + 1, 1, none⟩ = some (.slice adc xc.length cpc) := cell_blk ((m3.block _ (heap_lt hc) (fun h => h)).trans hc) rfl
          have g4 : wk3.cell? ⟨N + 1 + 1, 0, none⟩ = some (.int .i64 zs) := cell_blk ((m3.block _ (heap_lt hs) (fun h => h)).trans hs) rfl
          have g5 : wk3.cell? ⟨N + 1 + 1, 1, none⟩ = some (.slice ads xs.length cps) := cell_blk ((m3.block _ (heap_lt hs) (fun h => h)).trans hs) rfl
          have g6 : wk3.cell? ⟨N + 1 + 1 + 1, 0, none⟩ = some (.int .i64 zk) := cell_blk ((m3.block _ (heap_lt hk) (fun h => h)).trans hk) rfl
          have g7 : wk3.cell? ⟨N + 1 + 1 + 1, 1, none⟩ = some (.slice adk xk.length cpk) := cell_blk ((m3.block _ (heap_lt hk) (fun h => h)).trans hk) rfl
          have g8 : wk3.cell? ⟨N + 1 + 1 + 1 + 1, 0, none⟩ = some (.int .i64 zl) := cell_blk ((m3.block _ (heap_lt hl) (fun h => h)).trans hl) rfl
          have g9 : wk3.cell? ⟨N + 1 + 1 + 1 + 1, 1, none⟩ = some (.slice adl xl.length cpl) := cell_blk ((m3.block _ (heap_lt hl) (fun h => h)).trans hl) rfl
          have g10 : wk3.cell? ⟨N + 1 + 1 + 1 + 1 + 1, 0, none⟩ = some (.int .i64 zv) := cell_blk ((m3.block _ (heap_lt hv) (fun h => h)).trans hv) rfl
          have g11 : wk3.cell? ⟨N + 1 + 1 + 1 + 1 + 1, 1, none⟩ = some (.slice adv xv.length cpv) := cell_blk ((m3.block _ (heap_lt hv) (fun h => h)).trans hv) rfl
          replace nW := nw_trans nW m3
          replace ht := (m3.block _ (heap_lt ht) (fun h => h)).trans ht
          replace hc := (m3.block _ (heap_lt hc) (fun h => h)).trans hc
          replace hs := (m3.block _ (heap_lt hs) (fun h => h)).trans hs
          replace hk := (m3.block _ (heap_lt hk) (fun h => h)).trans hk
          replace hl := (m3.block _ (heap_lt hl) (fun h => h)).trans hl
          replace hv := (m3.block _ (heap_lt hv) (fun h => h)).trans hv
          clear m3
          go_upto_region 3 with fail
          have hNl := heap_lt hv
          have hSof : ∀ w', Nw wk3 w' → (fun w' : World => Nw wk3 w' ∧ w'.cell? ⟨N, 0, none⟩ = some (.int .i64 zt) ∧ w'.cell? ⟨N, 1, none⟩ = some (.slice adt xt.length cpt) ∧ w'.cell? ⟨N + 1 + 1, 0, none⟩ = some (.int .i64 zs) ∧ w'.cell? ⟨N + 1 + 1, 1, none⟩ = some (.slice ads xs.length cps)) w' := fun w' hw => ⟨hw, cell_blk ((hw.block _ (heap_lt ht) (fun h => h)).trans ht) rfl, cell_blk ((hw.block _ (heap_lt ht) (fun h => h)).trans ht) rfl, cell_blk ((hw.block _ (heap_lt hs) (fun h => h)).trans hs) rfl, cell_blk ((hw.block _ (heap_lt hs) (fun h => h)).trans hs) rfl⟩
          have hW0 : Nw wk3 wk3.drew := Fr.drew (Fr.refl _ wk3)
          have hS := hSof _ hW0
          replace hSof : Hid _ := hSof
          obtain ⟨D1, hD1⟩ : ∃ D, Hid (tn 0 5 zt = D) := ⟨_, rfl⟩
          obtain ⟨D2, hD2⟩ : ∃ D, Hid (tn 0 5 zs = D) := ⟨_, rfl⟩
          obtain ⟨D3, hD3⟩ : ∃ D, Hid (max D1 D2 = D) := ⟨_, rfl⟩
          obtain ⟨zb, hD4⟩ : ∃ D, Hid (tn 5 0 D3 = D) := ⟨_, rfl⟩
          obtain ⟨f1, hf1⟩ : ∃ f : Int → Int, Hid (f = fun id => tn 0 5 (lev zt xt id)) := ⟨_, rfl⟩
          obtain ⟨f2, hf2⟩ : ∃ f : Int → Int, Hid (f = fun id => tn 0 5 (lev zs xs id)) := ⟨_, rfl⟩
          obtain ⟨f3, hf3⟩ : ∃ f : Int → Int, Hid (f = fun id => max (f1 id) (f2 id)) := ⟨_, rfl⟩
          obtain ⟨f4, hf4⟩ : ∃ f : Int → Int, Hid (f = fun id => tn 5 0 (f3 id)) := ⟨_, rfl⟩
          have hg1 : Hid (∀ w', Nw wk3 w' → Calls Try.prog 26 #[.agg #[.int .i64 zt, .slice adt xt.length cpt]] w' (MadeL w' D1 f1 xt.length)) := fun w' hw => by
            have := c_rraise zt w' (et.nw hw) (by omega)
            rw [hD1.out] at this
            rw [hf1.out]
            exact this
          have hg2 : Hid (∀ w', Nw wk3 w' → Calls Try.prog 26 #[.agg #[.int .i64 zs, .slice ads xs.length cps]] w' (MadeL w' D2 f2 xs.length)) := fun w' hw => by
            have := c_rraise zs w' (es.nw hw) (by omega)
            rw [hD2.out] at this
            rw [hf2.out]
            exact this
          have hg3 : Hid (∀ w' u1 y1 u2 y2, CSl (fun _ => True) w' u1 y1 → (∀ id, lev D1 y1 id = f1 id) → y1.length ≤ xt.length → CSl (fun _ => True) w' u2 y2 → (∀ id, lev D2 y2 id = f2 id) → y2.length ≤ xs.length → Calls Try.prog 25 #[labV D1 u1, labV D2 u2, .bool true] w' (MadeL w' D3 f3 (xt.length + xs.length))) := fun w' u1 y1 u2 y2 a1 a2 a3 b1 b2 b3 => by
            have hm := c_rmerge true D1 D2 w' a1 b1 (by omega)
            simp only [pk_max] at hm
            refine hm.mono ?_
            rintro e w'' ⟨u', ys', k1, k2, k3, k4, k5, k6⟩
            rw [hD3.out] at k1 k3 k4
            exact ⟨u', ys', k1, k2, k3, fun id => by rw [k4 id]; show max (lev D1 y1 id) (lev D2 y2 id) = f3 id; rw [a2 id, b2 id, hf3.out], by omega, k6⟩
          have hg4 : Hid (∀ w' u ys, CSl (fun _ => True) w' u ys → (∀ id, lev D3 ys id = f3 id) → ys.length ≤ xt.length + xs.length → Calls Try.prog 24 #[labV D3 u, .int .i64 5, .int .i64 0] w' (MadeL w' zb f4 (xt.length + xs.length))) := fun w' u ys a1 a2 a3 => by
            refine (c_rturn D3 5 0 w' a1 (by omega)).mono ?_
            rintro e w'' ⟨u', ys', k1, k2, k3, k4, k5, k6⟩
            rw [hD4.out] at k1 k3 k4
            exact ⟨u', ys', k1, k2, k3, fun id => by rw [k4 id]; show tn 5 0 (lev D3 ys id) = f4 id; rw [a2 id, hf4.out], by omega, k6⟩
          refine wp_region_plan [] 7 [(0, []), (2, []), (0, [(1, []), (3, []), (4, [1, 3]), (5, [4]), (6, [])])] (fun w' : World => Nw wk3 w' ∧ w'.cell? ⟨N, 0, none⟩ = some (.int .i64 zt) ∧ w'.cell? ⟨N, 1, none⟩ = some (.slice adt xt.length cpt) ∧ w'.cell? ⟨N + 1 + 1, 0, none⟩ = some (.int .i64 zs) ∧ w'.cell? ⟨N + 1 + 1, 1, none⟩ = some (.slice ads xs.length cps)) (by kernel_rfl) (by kernel_rfl) ?_
          refine plan_quiet _ ?_ rfl hS rfl ?_ ?_
          rotate_left
          · rintro w' ⟨hn, h0, h1, h2, h3⟩; go_simp; first | rfl | (rw [if_pos (by omega)]; done) | (rw [if_pos (by omega)]; rfl) | (rw [if_pos (by omega)]; go_simp; rfl)
          simp only [Act.put, List.setIfInBounds_toArray, List.set_cons_zero, List.set_cons_succ]
          refine plan_quiet _ ?_ rfl hS rfl ?_ ?_
          rotate_left
          · rintro w' ⟨hn, h0, h1, h2, h3⟩; go_simp; first | rfl | (rw [if_pos (by omega)]; done) | (rw [if_pos (by omega)]; rfl) | (rw [if_pos (by omega)]; go_simp; rfl)
          simp only [Act.put, List.setIfInBounds_toArray, List.set_cons_zero, List.set_cons_succ]
          refine plan_group2 (fun | 1 => 34 | 3 => 36 | 4 => 37 | 5 => 38 | 6 => 13 | _ => 0) (FEnt wk3 D1 D2 D3 zb f1 f2 f3 f4 xt.length xs.length (xt.length + xs.length)) Nw (by decide) (by decide) (by decide) (fun a b ha hb => hSof.out b (nw_trans ha.1 hb)) (fun a b h => h.size) ?FG hS ?steps ?fin
          case FG =>
            intro p hp v lo hi w1 w2 h1 h2
            simp only [List.mem_cons, List.not_mem_nil, or_false] at hp
            rcases hp with rfl | rfl | rfl | rfl | rfl
            · obtain ⟨u, ys, q1, q2, q3⟩ := h1
              exact ⟨u, ys, q1, q2.nw h2, q3⟩
            · obtain ⟨u, ys, q1, q2, q3⟩ := h1
              exact ⟨u, ys, q1, q2.nw h2, q3⟩
            · obtain ⟨u, ys, q1, q2, q3⟩ := h1
              exact ⟨u, ys, q1, q2.nw h2, q3⟩
            · obtain ⟨u, ys, q1, q2, q3⟩ := h1
              exact ⟨u, ys, q1, q2.nw h2, q3⟩
            · obtain ⟨q1, q2, q3, q4⟩ := h1
              exact ⟨q1, q2, q3, (h2.block _ (heap_lt q4) (fun h => h)).trans q4⟩
          case steps =>
            intro p hp x lo hi w2 hS2 hd
            simp only [List.mem_cons, List.not_mem_nil, or_false] at hp
            have hws := hS2.1.size
            rcases hp with rfl | rfl | rfl | rfl | rfl
            · refine ⟨_, rfl, fun K hK => ?_⟩
              simp only [putAll, Act.put, List.setIfInBounds_toArray, List.set_cons_zero, List.set_cons_succ] at hK ⊢
              have hcon := hg1.out w2 hS2.1
              clear hd hS
              go_wp2_with (go_at_call 26; refine Calls.mono hcon ?_; rintro e w3 ⟨u, ys, rfl, q1, q2, q3, q4, q5⟩; refine stop_here ?_)
              unfold Hid
              obtain ⟨ja, jc, rfl, _, _⟩ := q1.form
              unfold labV
              go_wp2
              exact hK _ _ q5 ⟨_, ys, rfl, q1.mono (fun b hb h => ⟨hb, h⟩), q3, q4⟩
            · refine ⟨_, rfl, fun K hK => ?_⟩
              simp only [putAll, Act.put, List.setIfInBounds_toArray, List.set_cons_zero, List.set_cons_succ] at hK ⊢
              have hcon := hg2.out w2 hS2.1
              clear hd hS
              go_wp2_with (go_at_call 26; refine Calls.mono hcon ?_; rintro e w3 ⟨u, ys, rfl, q1, q2, q3, q4, q5⟩; refine stop_here ?_)
              unfold Hid
              obtain ⟨ja, jc, rfl, _, _⟩ := q1.form
              unfold labV
              go_wp2
              exact hK _ _ q5 ⟨_, ys, rfl, q1.mono (fun b hb h => ⟨hb, h⟩), q3, q4⟩
            · refine ⟨_, rfl, fun K hK => ?_⟩
              obtain ⟨u4, y4, r1, r2, r3, r4⟩ := hd 1 (by simp)
              obtain ⟨u5, y5, t1, t2, t3, t4⟩ := hd 3 (by simp)
              simp only [putAll, Act.put, List.setIfInBounds_toArray, List.set_cons_zero, List.set_cons_succ, r1, t1] at hK ⊢
              have hcon := hg3.out w2 u4 y4 u5 y5 r2.any r3 r4 t2.any t3 t4
              obtain ⟨ia, ic, rfl, _, _⟩ := r2.form
              obtain ⟨ka, kc, rfl, _, _⟩ := t2.form
              unfold labV at hcon hK ⊢
              clear hd hS r1 r2 r3 r4 t1 t2 t3 t4
              go_wp2_with (go_at_call 25; refine Calls.mono hcon ?_; rintro e w3 ⟨u, ys, rfl, q1, q2, q3, q4, q5⟩; refine stop_here ?_)
              unfold Hid
              obtain ⟨ja, jc, rfl, _, _⟩ := q1.form
              unfold labV
              go_wp2
              exact hK _ _ q5 ⟨_, ys, rfl, q1.mono (fun b hb h => ⟨hb, h⟩), q3, q4⟩
            · refine ⟨_, rfl, fun K hK => ?_⟩
              obtain ⟨u4, y4, r1, r2, r3, r4⟩ := hd 4 (by simp)
              simp only [putAll, Act.put, List.setIfInBounds_toArray, List.set_cons_zero, List.set_cons_succ, r1] at hK ⊢
              have hcon := hg4.out w2 u4 y4 r2.any r3 r4
              obtain ⟨ia, ic, rfl, _, _⟩ := r2.form
              unfold labV at hcon hK ⊢
              clear hd hS r1 r2 r3 r4
              go_wp2_with (go_at_call 24; refine Calls.mono hcon ?_; rintro e w3 ⟨u, ys, rfl, q1, q2, q3, q4, q5⟩; refine stop_here ?_)
              unfold Hid
              obtain ⟨ja, jc, rfl, _, _⟩ := q1.form
              unfold labV
              go_wp2
              exact hK _ _ q5 ⟨_, ys, rfl, q1.mono (fun b hb h => ⟨hb, h⟩), q3, q4⟩
            · refine ⟨_, rfl, fun K hK => ?_⟩
              simp only [putAll, Act.put, List.setIfInBounds_toArray, List.set_cons_zero, List.set_cons_succ] at hK ⊢
              clear hd hS
              go_wp2
              exact hK _ _ (nw_alloc (nw_refl w2) _) ⟨rfl, by simp, hws, heap_alloc_new w2 _⟩
          case fin =>
            intro x lo hi w2 hS2 hF hR
            obtain ⟨⟨u1, y1, h11, h21, h31, h41⟩, h61⟩ := hF (1, []) (by simp)
            obtain ⟨⟨u2, y2, h12, h22, h32, h42⟩, h62⟩ := hF (3, []) (by simp)
            obtain ⟨⟨u3, y3, h13, h23, h33, h43⟩, h63⟩ := hF (4, [1, 3]) (by simp)
            obtain ⟨⟨u4, y4, h14, h24, h34, h44⟩, h64⟩ := hF (5, [4]) (by simp)
            obtain ⟨⟨p1, p2, p3, p4⟩, p5⟩ := hF (6, []) (by simp)
            have rUZ := hR (5, [4]) (by simp) (6, []) (by simp) (by decide)
            simp only at h11 h12 h13 h14 h24 h64 p1 p2 p3 p4 p5 rUZ
            obtain ⟨a1, c1, rfl, _, _⟩ := h21.form
            obtain ⟨a2, c2, rfl, _, _⟩ := h22.form
            obtain ⟨a3, c3, rfl, _, _⟩ := h23.form
            obtain ⟨a4, c4, rfl, _, _⟩ := h24.form
            refine plan_tail ?_
            simp only [putAll, Act.put, List.setIfInBounds_toArray, List.set_cons_zero, List.set_cons_succ, List.drop_succ_cons, List.drop_zero, h11, h12, h13, h14, p1]
            generalize lo 6 = gj at *
            generalize hi 6 = hj at *
            generalize lo 5 = l5 at *
            generalize hi 5 = h5 at *
            clear hF hR h11 h12 h13 h14 p1 h21 h22 h23 h31 h32 h33 h41 h42 h43 h61 h62 h63
            obtain ⟨U, hU⟩ : ∃ U, Hid (U = (w2.setCell ⟨gj, 0, none⟩ (.int .i64 zb)).setCell ⟨gj, 1, none⟩ (.slice a4 y4.length c4)) := ⟨_, rfl⟩
            have hfB : Fr (fun k => k = gj) w2 U := by rw [hU.out]; exact ((Fr.refl (fun k => k = gj) w2).setCell (p := ⟨gj, 0, none⟩) (.inl rfl) _).setCell (p := ⟨gj, 1, none⟩) (.inl rfl) _
            have hb : U.heap[gj]? = some (.cells #[.int .i64 zb, .slice a4 y4.length c4] 24 (0, 0)) := by rw [hU.out, blk_setCell (blk_setCell p4)]; rfl
            have nU0 := hS2.1
            have nWU : Nw wk3 U := Fr.trans nU0 hfB (fun k hk => .inr (by omega))
            replace et := et.nw nWU
            replace ec := ec.nw nWU
            replace es := es.nw nWU
            replace ek := ek.nw nWU
            replace el := el.nw nWU
            replace ev := ev.nw nWU
            replace ht := (nWU.block _ (heap_lt ht) (fun h => h)).trans ht
            replace hc := (nWU.block _ (heap_lt hc) (fun h => h)).trans hc
            replace hs := (nWU.block _ (heap_lt hs) (fun h => h)).trans hs
            replace hk := (nWU.block _ (heap_lt hk) (fun h => h)).trans hk
            replace hl := (nWU.block _ (heap_lt hl) (fun h => h)).trans hl
            replace hv := (nWU.block _ (heap_lt hv) (fun h => h)).trans hv
            have eb : CSl (fun _ => True) U (.slice a4 y4.length c4) y4 := h24.keep hfB (fun b hb _ h => by omega) (fun _ _ _ => trivial)
            have c1 : w2.cell? ⟨gj, 0, none⟩ = some (.int .i64 0) := cell_blk p4 rfl
            have c2 : w2.cell? ⟨gj, 1, none⟩ = some (.slice none 0 0) := cell_blk p4 rfl
            have f1x : ∀ k, w2.frozen? ⟨gj, k, none⟩ = false := fun k => free_blk p4
            replace nW := nw_trans nW nWU
            have gb : Hid (∀ id, lev zb y4 id = bo (lev zt xt id) (lev zs xs id)) := fun id => by rw [h34 id, hf4.out, hf3.out, hf1.out, hf2.out]; rfl
            have nb : y4.length ≤ 8796093021952 := by omega
            clear h24 h34 h44 hfB p4 nU0 hS2 hg1 hg2 hg3 hg4 hS hW0 hSof nWU rUZ h64 p2 p3 p5 hf1 hf2 hf3 hf4 hD1 hD2 hD3 hD4
            unfold labV
            go_upto_region 4 with fail
            rw [← hU.out]
            clear hU c1 c2 f1x
            have hSof : ∀ w', Nw U w' → (fun w' : World => Nw U w' ∧ w'.cell? ⟨N, 0, none⟩ = some (.int .i64 zt) ∧ w'.cell? ⟨N, 1, none⟩ = some (.slice adt xt.length cpt) ∧ w'.cell? ⟨N + 1, 0, none⟩ = some (.int .i64 zc) ∧ w'.cell? ⟨N + 1, 1, none⟩ = some (.slice adc xc.length cpc) ∧ w'.cell? ⟨N + 1 + 1, 0, none⟩ = some (.int .i64 zs) ∧ w'.cell? ⟨N + 1 + 1, 1, none⟩ = some (.slice ads xs.length cps) ∧ w'.cell? ⟨N + 1 + 1 + 1, 0, none⟩ = some (.int .i64 zk) ∧ w'.cell? ⟨N + 1 + 1 + 1, 1, none⟩ = some (.slice adk xk.length cpk) ∧ w'.cell? ⟨N + 1 + 1 + 1 + 1, 0, none⟩ = some (.int .i64 zl) ∧ w'.cell? ⟨N + 1 + 1 + 1 + 1, 1, none⟩ = some (.slice adl xl.length cpl) ∧ w'.cell? ⟨N + 1 + 1 + 1 + 1 + 1, 0, none⟩ = some (.int .i64 zv) ∧ w'.cell? ⟨N + 1 + 1 + 1 + 1 + 1, 1, none⟩ = some (.slice adv xv.length cpv) ∧ w'.cell? ⟨gj, 0, none⟩ = some (.int .i64 zb) ∧ w'.cell? ⟨gj, 1, none⟩ = some (.slice a4 y4.length c4)) w' := fun w' hw => ⟨hw, cell_blk ((hw.block _ (heap_lt ht) (fun h => h)).trans ht) rfl, cell_blk ((hw.block _ (heap_lt ht) (fun h => h)).trans ht) rfl, cell_blk ((hw.block _ (heap_lt hc) (fun h => h)).trans hc) rfl, cell_blk ((hw.block _ (heap_lt hc) (fun h => h)).trans hc) rfl, cell_blk ((hw.block _ (heap_lt hs) (fun h => h)).trans hs) rfl, cell_blk ((hw.block _ (heap_lt hs) (fun h => h)).trans hs) rfl, cell_blk ((hw.block _ (heap_lt hk) (fun h => h)).trans hk) rfl, cell_blk ((hw.block _ (heap_lt hk) (fun h => h)).trans hk) rfl, cell_blk ((hw.block _ (heap_lt hl) (fun h => h)).trans hl) rfl, cell_blk ((hw.block _ (heap_lt hl) (fun h => h)).trans hl) rfl, cell_blk ((hw.block _ (heap_lt hv) (fun h => h)).trans hv) rfl, cell_blk ((hw.block _ (heap_lt hv) (fun h => h)).trans hv) rfl, cell_blk ((hw.block _ (heap_lt hb) (fun h => h)).trans hb) rfl, cell_blk ((hw.block _ (heap_lt hb) (fun h => h)).trans hb) rfl⟩
            have hW0 : Nw U U.drew := Fr.drew (Fr.refl _ U)
            have hS := hSof _ hW0
            replace et := et.nw hW0
            replace ec := ec.nw hW0
            replace es := es.nw hW0
            replace ek := ek.nw hW0
            replace el := el.nw hW0
            replace ev := ev.nw hW0
            replace eb := eb.nw hW0
            replace hSof : Hid _ := hSof
            refine wp_region_ord [] 15 [(0, true), (1, true), (2, false), (3, true), (4, true), (5, true), (6, false), (7, true), (8, true), (9, true), (10, true), (11, true), (12, false), (13, false), (14, true)] (fun w' : World => Nw U w' ∧ w'.cell? ⟨N, 0, none⟩ = some (.int .i64 zt) ∧ w'.cell? ⟨N, 1, none⟩ = some (.slice adt xt.length cpt) ∧ w'.cell? ⟨N + 1, 0, none⟩ = some (.int .i64 zc) ∧ w'.cell? ⟨N + 1, 1, none⟩ = some (.slice adc xc.length cpc) ∧ w'.cell? ⟨N + 1 + 1, 0, none⟩ = some (.int .i64 zs) ∧ w'.cell? ⟨N + 1 + 1, 1, none⟩ = some (.slice ads xs.length cps) ∧ w'.cell? ⟨N + 1 + 1 + 1, 0, none⟩ = some (.int .i64 zk) ∧ w'.cell? ⟨N + 1 + 1 + 1, 1, none⟩ = some (.slice adk xk.length cpk) ∧ w'.cell? ⟨N + 1 + 1 + 1 + 1, 0, none⟩ = some (.int .i64 zl) ∧ w'.cell? ⟨N + 1 + 1 + 1 + 1, 1, none⟩ = some (.slice adl xl.length cpl) ∧ w'.cell? ⟨N + 1 + 1 + 1 + 1 + 1, 0, none⟩ = some (.int .i64 zv) ∧ w'.cell? ⟨N + 1 + 1 + 1 + 1 + 1, 1, none⟩ = some (.slice adv xv.length cpv) ∧ w'.cell? ⟨gj, 0, none⟩ = some (.int .i64 zb) ∧ w'.cell? ⟨gj, 1, none⟩ = some (.slice a4 y4.length c4)) (by kernel_rfl) (by kernel_rfl) ?_
            refine ord_quietL _ ?_ rfl hS rfl ?_ ?_
            rotate_left
            · rintro w' ⟨hn, h0, h1, h2, h3, h4, h5, h6, h7, h8, h9, h10, h11, h12, h13⟩; go_simp; first | rfl | (rw [if_pos (by omega)]; done) | (rw [if_pos (by omega)]; rfl) | (rw [if_pos (by omega)]; go_simp; rfl)
            simp only [Act.put, List.setIfInBounds_toArray, List.set_cons_zero, List.set_cons_succ]
            refine ord_quietL _ ?_ rfl hS rfl ?_ ?_
            rotate_left
            · rintro w' ⟨hn, h0, h1, h2, h3, h4, h5, h6, h7, h8, h9, h10, h11, h12, h13⟩; go_simp; first | rfl | (rw [if_pos (by omega)]; done) | (rw [if_pos (by omega)]; rfl) | (rw [if_pos (by omega)]; go_simp; rfl)
            simp only [Act.put, List.setIfInBounds_toArray, List.set_cons_zero, List.set_cons_succ]
            refine ord_actL _ rfl (fun K1 hK1 => ?_)
            have hcon : Hid _ := c_rleq2 zb zl U.drew eb el (by omega)
            unfold labV at hcon
            go_wp2_with (go_at_call 23; refine Calls.mono hcon.out ?_; rintro e wk0 ⟨r, rfl, q1, qn⟩)
            have m0 := nw_trans hW0 qn
            replace et := et.nw qn
            replace ec := ec.nw qn
            replace es := es.nw qn
            replace ek := ek.nw qn
            replace el := el.nw qn
            replace ev := ev.nw qn
            replace eb := eb.nw qn
            cases r with
            | true =>
              have s2 : Hid _ := q1.1 rfl
              refine hK1 _ _ (hSof.out _ m0) ?_
              clear hK1 K1 hcon qn hS hW0 q1
              have hS := hSof.out _ m0
              refine ord_quietL _ ?_ rfl hS rfl ?_ ?_
              rotate_left
              · rintro w' ⟨hn, h0, h1, h2, h3, h4, h5, h6, h7, h8, h9, h10, h11, h12, h13⟩; go_simp; first | rfl | (rw [if_pos (by omega)]; done) | (rw [if_pos (by omega)]; rfl) | (rw [if_pos (by omega)]; go_simp; rfl)
              simp only [Act.put, List.setIfInBounds_toArray, List.set_cons_zero, List.set_cons_succ]
              refine ord_quietL _ ?_ rfl hS rfl ?_ ?_
              rotate_left
              · rintro w' ⟨hn, h0, h1, h2, h3, h4, h5, h6, h7, h8, h9, h10, h11, h12, h13⟩; go_simp; first | rfl | (rw [if_pos (by omega)]; done) | (rw [if_pos (by omega)]; rfl) | (rw [if_pos (by omega)]; go_simp; rfl)
              simp only [Act.put, List.setIfInBounds_toArray, List.set_cons_zero, List.set_cons_succ]
              refine ord_quietL _ ?_ rfl hS rfl ?_ ?_
              rotate_left
              · rintro w' ⟨hn, h0, h1, h2, h3, h4, h5, h6, h7, h8, h9, h10, h11, h12, h13⟩; go_simp; first | rfl | (rw [if_pos (by omega)]; done) | (rw [if_pos (by omega)]; rfl) | (rw [if_pos (by omega)]; go_simp; rfl)
              simp only [Act.put, List.setIfInBounds_toArray, List.set_cons_zero, List.set_cons_succ]
              refine ord_actL _ rfl (fun K1 hK1 => ?_)
              have hcon : Hid _ := c_rleq2 zl zv wk0 el ev (by omega)
              unfold labV at hcon
              go_wp2_with (go_at_call 23; refine Calls.mono hcon.out ?_; rintro e wk1 ⟨r, rfl, q1, qn⟩)
              have m1 := nw_trans m0 qn
              replace et := et.nw qn
              replace ec := ec.nw qn
              replace es := es.nw qn
              replace ek := ek.nw qn
              replace el := el.nw qn
              replace ev := ev.nw qn
              replace eb := eb.nw qn
              cases r with
              | true =>
                have s6 : Hid _ := q1.1 rfl
                refine hK1 _ _ (hSof.out _ m1) ?_
                clear hK1 K1 hcon qn hS m0 q1
                have hS := hSof.out _ m1
                refine ord_quietL _ ?_ rfl hS rfl ?_ ?_
                rotate_left
                · rintro w' ⟨hn, h0, h1, h2, h3, h4, h5, h6, h7, h8, h9, h10, h11, h12, h13⟩; go_simp; first | rfl | (rw [if_pos (by omega)]; done) | (rw [if_pos (by omega)]; rfl) | (rw [if_pos (by omega)]; go_simp; rfl)
                simp only [Act.put, List.setIfInBounds_toArray, List.set_cons_zero, List.set_cons_succ]
                refine ord_quietL _ ?_ rfl hS rfl ?_ ?_
                rotate_left
                · rintro w' ⟨hn, h0, h1, h2, h3, h4, h5, h6, h7, h8, h9, h10, h11, h12, h13⟩; go_simp; first | rfl | (rw [if_pos (by omega)]; done) | (rw [if_pos (by omega)]; rfl) | (rw [if_pos (by omega)]; go_simp; rfl)
                simp only [Act.put, List.setIfInBounds_toArray, List.set_cons_zero, List.set_cons_succ]
                refine ord_quietL _ ?_ rfl hS rfl ?_ ?_
                rotate_left
                · rintro w' ⟨hn, h0, h1, h2, h3, h4, h5, h6, h7, h8, h9, h10, h11, h12, h13⟩; go_simp; first | rfl | (rw [if_pos (by omega)]; done) | (rw [if_pos (by omega)]; rfl) | (rw [if_pos (by omega)]; go_simp; rfl)
                simp only [Act.put, List.setIfInBounds_toArray, List.set_cons_zero, List.set_cons_succ]
                refine ord_quietL _ ?_ rfl hS rfl ?_ ?_
                rotate_left
                · rintro w' ⟨hn, h0, h1, h2, h3, h4, h5, h6, h7, h8, h9, h10, h11, h12, h13⟩; go_simp; first | rfl | (rw [if_pos (by omega)]; done) | (rw [if_pos (by omega)]; rfl) | (rw [if_pos (by omega)]; go_simp; rfl)
                simp only [Act.put, List.setIfInBounds_toArray, List.set_cons_zero, List.set_cons_succ]
                refine ord_quietL _ ?_ rfl hS rfl ?_ ?_
                rotate_left
                · rintro w' ⟨hn, h0, h1, h2, h3, h4, h5, h6, h7, h8, h9, h10, h11, h12, h13⟩; go_simp; first | rfl | (rw [if_pos (by omega)]; done) | (rw [if_pos (by omega)]; rfl) | (rw [if_pos (by omega)]; go_simp; rfl)
                simp only [Act.put, List.setIfInBounds_toArray, List.set_cons_zero, List.set_cons_succ]
                refine ord_actL _ rfl (fun K1 hK1 => ?_)
                have hcon : Hid _ := c_rmerge true zc zk wk1 ec ek (by omega)
                unfold MadeL labV at hcon
                simp only [pk_max] at hcon
                go_wp2_with (go_at_call 25; refine Calls.mono hcon.out ?_; rintro e wk2 ⟨uj, xj, rfl, q1, q2, q3, q4, qn⟩)
                have m2 := nw_trans m1 qn
                replace et := et.nw qn
                replace ec := ec.nw qn
                replace es := es.nw qn
                replace ek := ek.nw qn
                replace el := el.nw qn
                replace ev := ev.nw qn
                replace eb := eb.nw qn
                obtain ⟨adj, cpj, rfl, _, _⟩ := q1.form
                have ej := q1.any
                have gj : Hid (∀ id, lev (max zc zk) xj id = max (lev zc xc id) (lev zk xk id)) := q3
                generalize max zc zk = zj at *
                have nj : xj.length ≤ 8796093021952 := by omega
                refine hK1 _ _ (hSof.out _ m2) ?_
                clear hK1 K1 hcon qn hS m1 q1 q2 q3 q4
                have hS := hSof.out _ m2
                refine ord_actL _ rfl (fun K1 hK1 => ?_)
                have hcon : Hid _ := c_rleq2 zv zj wk2 ev ej (by omega)
                unfold labV at hcon
                go_wp2_with (go_at_call 23; refine Calls.mono hcon.out ?_; rintro e wk3 ⟨r, rfl, q1, qn⟩)
                have m3 := nw_trans m2 qn
                replace et := et.nw qn
                replace ec := ec.nw qn
                replace es := es.nw qn
                replace ek := ek.nw qn
                replace el := el.nw qn
                replace ev := ev.nw qn
                replace eb := eb.nw qn
                replace ej := ej.nw qn
                cases r with
                | true =>
                  have s13 : Hid _ := q1.1 rfl
                  refine hK1 _ _ (hSof.out _ m3) ?_
                  clear hK1 K1 hcon qn hS m2 q1
                  have hS := hSof.out _ m3
                  refine ord_quietL _ ?_ rfl hS rfl ?_ ?_
                  rotate_left
                  · rintro w' ⟨hn, h0, h1, h2, h3, h4, h5, h6, h7, h8, h9, h10, h11, h12, h13⟩; go_simp; first | rfl | (rw [if_pos (by omega)]; done) | (rw [if_pos (by omega)]; rfl) | (rw [if_pos (by omega)]; go_simp; rfl)
                  simp only [Act.put, List.setIfInBounds_toArray, List.set_cons_zero, List.set_cons_succ]
                  refine ord_tail ?_
                  simp only [List.drop_succ_cons, List.drop_zero]
                  have hfin := nw_trans nW m3
                  have hP : Hid (END zt zc zs zk zl zv xt xc xs xk xl xv) := ⟨s1.out, s5.out, s10.out, s16.out, (fun id => by have := s2.out id; rw [gb.out] at this; exact this), s6.out, (fun id => by have := s13.out id; rw [gj.out] at this; exact this)⟩
                  go_wp2
                  go_ret
                  exact ans_yes hP.out hfin
                | false =>
                  have s13 : Hid _ := not_of_false q1
                  refine hK1 _ _ (hSof.out _ m3) ?_
                  clear hK1 K1 hcon qn hS m2 q1
                  have hS := hSof.out _ m3
                  refine ord_quietL _ ?_ rfl hS rfl ?_ ?_
                  rotate_left
                  · rintro w' ⟨hn, h0, h1, h2, h3, h4, h5, h6, h7, h8, h9, h10, h11, h12, h13⟩; go_simp; first | rfl | (rw [if_pos (by omega)]; done) | (rw [if_pos (by omega)]; rfl) | (rw [if_pos (by omega)]; go_simp; rfl)
                  simp only [Act.put, List.setIfInBounds_toArray, List.set_cons_zero, List.set_cons_succ]
                  refine ord_tail ?_
                  simp only [List.drop_succ_cons, List.drop_zero]
                  have hfin := nw_trans nW m3
                  have hP : Hid (¬ END zt zc zs zk zl zv xt xc xs xk xl xv) := fun h => s13.out (fun id => by rw [gj.out]; exact (h.2.2.2.2.2.2) id)
                  go_wp2
                  go_ret
                  exact ans_no hP.out hfin
              | false =>
                have s6 : Hid _ := not_of_false q1
                refine hK1 _ _ (hSof.out _ m1) ?_
                clear hK1 K1 hcon qn hS m0 q1
                have hS := hSof.out _ m1
                refine ord_quietL _ ?_ rfl hS rfl ?_ ?_
                rotate_left
                · rintro w' ⟨hn, h0, h1, h2, h3, h4, h5, h6, h7, h8, h9, h10, h11, h12, h13⟩; go_simp; first | rfl | (rw [if_pos (by omega)]; done) | (rw [if_pos (by omega)]; rfl) | (rw [if_pos (by omega)]; go_simp; rfl)
                simp only [Act.put, List.setIfInBounds_toArray, List.set_cons_zero, List.set_cons_succ]
                refine ord_quietL _ ?_ rfl hS rfl ?_ ?_
                rotate_left
                · rintro w' ⟨hn, h0, h1, h2, h3, h4, h5, h6, h7, h8, h9, h10, h11, h12, h13⟩; go_simp; first | rfl | (rw [if_pos (by omega)]; done) | (rw [if_pos (by omega)]; rfl) | (rw [if_pos (by omega)]; go_simp; rfl)
                simp only [Act.put, List.setIfInBounds_toArray, List.set_cons_zero, List.set_cons_succ]
                refine ord_skipL _ rfl hS rfl ?_
                simp only [Act.put, List.setIfInBounds_toArray, List.set_cons_zero, List.set_cons_succ]
                refine ord_skipL _ rfl hS rfl ?_
                simp only [Act.put, List.setIfInBounds_toArray, List.set_cons_zero, List.set_cons_succ]
                refine ord_skipL _ rfl hS rfl ?_
                simp only [Act.put, List.setIfInBounds_toArray, List.set_cons_zero, List.set_cons_succ]
                refine ord_actL _ rfl (fun K1 hK1 => ?_)
                go_wp2
                refine hK1 _ _ (hSof.out _ m1) ?_
                clear hK1 K1
                refine ord_actL _ rfl (fun K1 hK1 => ?_)
                go_wp2
                refine hK1 _ _ (hSof.out _ m1) ?_
                clear hK1 K1
                refine ord_quietL _ ?_ rfl hS rfl ?_ ?_
                rotate_left
                · rintro w' ⟨hn, h0, h1, h2, h3, h4, h5, h6, h7, h8, h9, h10, h11, h12, h13⟩; go_simp; first | rfl | (rw [if_pos (by omega)]; done) | (rw [if_pos (by omega)]; rfl) | (rw [if_pos (by omega)]; go_simp; rfl)
                simp only [Act.put, List.setIfInBounds_toArray, List.set_cons_zero, List.set_cons_succ]
                refine ord_tail ?_
                simp only [List.drop_succ_cons, List.drop_zero]
                have hfin := nw_trans nW m1
                have hP : Hid (¬ END zt zc zs zk zl zv xt xc xs xk xl xv) := fun h => s6.out (h.2.2.2.2.2.1)
                go_wp2
                go_ret
                exact ans_no hP.out hfin
            | false =>
              have s2 : Hid _ := not_of_false q1
              refine hK1 _ _ (hSof.out _ m0) ?_
              clear hK1 K1 hcon qn hS hW0 q1
              have hS := hSof.out _ m0
              refine ord_quietL _ ?_ rfl hS rfl ?_ ?_
              rotate_left
              · rintro w' ⟨hn, h0, h1, h2, h3, h4, h5, h6, h7, h8, h9, h10, h11, h12, h13⟩; go_simp; first | rfl | (rw [if_pos (by omega)]; done) | (rw [if_pos (by omega)]; rfl) | (rw [if_pos (by omega)]; go_simp; rfl)
              simp only [Act.put, List.setIfInBounds_toArray, List.set_cons_zero, List.set_cons_succ]
              refine ord_skipL _ rfl hS rfl ?_
              simp only [Act.put, List.setIfInBounds_toArray, List.set_cons_zero, List.set_cons_succ]
              refine ord_skipL _ rfl hS rfl ?_
              simp only [Act.put, List.setIfInBounds_toArray, List.set_cons_zero, List.set_cons_succ]
              refine ord_actL _ rfl (fun K1 hK1 => ?_)
              go_wp2
              refine hK1 _ _ (hSof.out _ m0) ?_
              clear hK1 K1
              refine ord_quietL _ ?_ rfl hS rfl ?_ ?_
              rotate_left
              · rintro w' ⟨hn, h0, h1, h2, h3, h4, h5, h6, h7, h8, h9, h10, h11, h12, h13⟩; go_simp; first | rfl | (rw [if_pos (by omega)]; done) | (rw [if_pos (by omega)]; rfl) | (rw [if_pos (by omega)]; go_simp; rfl)
              simp only [Act.put, List.setIfInBounds_toArray, List.set_cons_zero, List.set_cons_succ]
              refine ord_quietL _ ?_ rfl hS rfl ?_ ?_
              rotate_left
              · rintro w' ⟨hn, h0, h1, h2, h3, h4, h5, h6, h7, h8, h9, h10, h11, h12, h13⟩; go_simp; first | rfl | (rw [if_pos (by omega)]; done) | (rw [if_pos (by omega)]; rfl) | (rw [if_pos (by omega)]; go_simp; rfl)
              simp only [Act.put, List.setIfInBounds_toArray, List.set_cons_zero, List.set_cons_succ]
              refine ord_skipL _ rfl hS rfl ?_
              simp only [Act.put, List.setIfInBounds_toArray, List.set_cons_zero, List.set_cons_succ]
              refine ord_skipL _ rfl hS rfl ?_
              simp only [Act.put, List.setIfInBounds_toArray, List.set_cons_zero, List.set_cons_succ]
              refine ord_skipL _ rfl hS rfl ?_
              simp only [Act.put, List.setIfInBounds_toArray, List.set_cons_zero, List.set_cons_succ]
              refine ord_actL _ rfl (fun K1 hK1 => ?_)
              go_wp2
              refine hK1 _ _ (hSof.out _ m0) ?_
              clear hK1 K1
              refine ord_actL _ rfl (fun K1 hK1 => ?_)
              go_wp2
              refine hK1 _ _ (hSof.out _ m0) ?_
              clear hK1 K1
              refine ord_quietL _ ?_ rfl hS rfl ?_ ?_
              rotate_left
              · rintro w' ⟨hn, h0, h1, h2, h3, h4, h5, h6, h7, h8, h9, h10, h11, h12, h13⟩; go_simp; first | rfl | (rw [if_pos (by omega)]; done) | (rw [if_pos (by omega)]; rfl) | (rw [if_pos (by omega)]; go_simp; rfl)
              simp only [Act.put, List.setIfInBounds_toArray, List.set_cons_zero, List.set_cons_succ]
              refine ord_tail ?_
              simp only [List.drop_succ_cons, List.drop_zero]
              have hfin := nw_trans nW m0
              have hP : Hid (¬ END zt zc zs zk zl zv xt xc xs xk xl xv) := fun h => s2.out (fun id => by rw [gb.out]; exact (h.2.2.2.2.1) id)
              go_wp2
              go_ret
              exact ans_no hP.out hfin
        | false =>
          have s16 : Hid _ := not_of_false q1
          clear hcon qn g0 g1 g2 g3 g4 g5 g6 g7 g8 g9 g10 g11 q1
          have g0 : wk3.cell? ⟨N, 0, none⟩ = some (.int .i64 zt) := cell_blk ((m3.block _ (heap_lt ht) (fun h => h)).trans ht) rfl
          have g1 : wk3.cell? ⟨N, 1, none⟩ = some (.slice adt xt.length cpt) := cell_blk ((m3.block _ (heap_lt ht) (fun h => h)).trans ht) rfl
          have g2 : wk3.cell? ⟨N + 1, 0, none⟩ = some (.int .i64 zc) := cell_blk ((m3.block _ (heap_lt hc) (fun h => h)).trans hc) rfl
          have g3 : wk3.cell? ⟨N + 1, 1, none⟩ = some (.slice adc xc.length cpc) := cell_blk ((m3.block _ (heap_lt hc) (fun h => h)).trans hc) rfl
          have g4 : wk3.cell? ⟨N + 1 + 1, 0, none⟩ = some (.int .i64 zs) := cell_blk ((m3.block _ (heap_lt hs) (fun h => h)).trans hs) rfl
          have g5 : wk3.cell? ⟨N + 1 + 1, 1, none⟩ = some (.slice ads xs.length cps) := cell_blk ((m3.block _ (heap_lt hs) (fun h => h)).trans hs) rfl
          have g6 : wk3.cell? ⟨N + 1 + 1 + 1, 0, none⟩ = some (.int .i64 zk) := cell_blk ((m3.block _ (heap_lt hk) (fun h => h)).trans hk) rfl
          have g7 : wk3.cell? ⟨N + 1 + 1 + 1, 1, none⟩ = some (.slice adk xk.length cpk) := cell_blk ((m3.block _ (heap_lt hk) (fun h => h)).trans hk) rfl
          have g8 : wk3.cell? ⟨N + 1 + 1 + 1 + 1, 0, none⟩ = some (.int .i64 zl) := cell_blk ((m3.block _ (heap_lt hl) (fun h => h)).trans hl) rfl
          have g9 : wk3.cell? ⟨N + 1 + 1 + 1 + 1, 1, none⟩ = some (.slice adl xl.length cpl) := cell_blk ((m3.block _ (heap_lt hl) (fun h => h)).trans hl) rfl
          have g10 : wk3.cell? ⟨N + 1 + 1 + 1 + 1 + 1, 0, none⟩ = some (.int .i64 zv) := cell_blk ((m3.block _ (heap_lt hv) (fun h => h)).trans hv) rfl
          have g11 : wk3.cell? ⟨N + 1 + 1 + 1 + 1 + 1, 1, none⟩ = some (.slice adv xv.length cpv) := cell_blk ((m3.block _ (heap_lt hv) (fun h => h)).trans hv) rfl
          have hfin := nw_trans nW m3
          have hP : Hid (¬ END zt zc zs zk zl zv xt xc xs xk xl xv) := fun h => s16.out (h.2.2.2.1)
          go_wp2
          go_ret
          exact ans_no hP.out hfin
      | false =>
        have s10 : Hid _ := not_of_false q1
        clear hcon qn g0 g1 g2 g3 g4 g5 g6 g7 g8 g9 g10 g11 q1
        have g0 : wk2.cell? ⟨N, 0, none⟩ = some (.int .i64 zt) := cell_blk ((m2.block _ (heap_lt ht) (fun h => h)).trans ht) rfl
        have g1 : wk2.cell? ⟨N, 1, none⟩ = some (.slice adt xt.length cpt) := cell_blk ((m2.block _ (heap_lt ht) (fun h => h)).trans ht) rfl
        have g2 : wk2.cell? ⟨N + 1, 0, none⟩ = some (.int .i64 zc) := cell_blk ((m2.block _ (heap_lt hc) (fun h => h)).trans hc) rfl
        have g3 : wk2.cell? ⟨N + 1, 1, none⟩ = some (.slice adc xc.length cpc) := cell_blk ((m2.block _ (heap_lt hc) (fun h => h)).trans hc) rfl
        have g4 : wk2.cell? ⟨N + 1 + 1, 0, none⟩ = some (.int .i64 zs) := cell_blk ((m2.block _ (heap_lt hs) (fun h => h)).trans hs) rfl
        have g5 : wk2.cell? ⟨N + 1 + 1, 1, none⟩ = some (.slice ads xs.length cps) := cell_blk ((m2.block _ (heap_lt hs) (fun h => h)).trans hs) rfl
        have g6 : wk2.cell? ⟨N + 1 + 1 + 1, 0, none⟩ = some (.int .i64 zk) := cell_blk ((m2.block _ (heap_lt hk) (fun h => h)).trans hk) rfl
        have g7 : wk2.cell? ⟨N + 1 + 1 + 1, 1, none⟩ = some (.slice adk xk.length cpk) := cell_blk ((m2.block _ (heap_lt hk) (fun h => h)).trans hk) rfl
        have g8 : wk2.cell? ⟨N + 1 + 1 + 1 + 1, 0, none⟩ = some (.int .i64 zl) := cell_blk ((m2.block _ (heap_lt hl) (fun h => h)).trans hl) rfl
        have g9 : wk2.cell? ⟨N + 1 + 1 + 1 + 1, 1, none⟩ = some (.slice adl xl.length cpl) := cell_blk ((m2.block _ (heap_lt hl) (fun h => h)).trans hl) rfl
        have g10 : wk2.cell? ⟨N + 1 + 1 + 1 + 1 + 1, 0, none⟩ = some (.int .i64 zv) := cell_blk ((m2.block _ (heap_lt hv) (fun h => h)).trans hv) rfl
        have g11 : wk2.cell? ⟨N + 1 + 1 + 1 + 1 + 1, 1, none⟩ = some (.slice adv xv.length cpv) := cell_blk ((m2.block _ (heap_lt hv) (fun h => h)).trans hv) rfl
        have hfin := nw_trans nW m2
        have hP : Hid (¬ END zt zc zs zk zl zv xt xc xs xk xl xv) := fun h => s10.out (h.2.2.1)
        go_wp2
        go_ret
        exact ans_no hP.out hfin
    | false =>
      have s5 : Hid _ := not_of_false q1
      clear hcon qn g0 g1 g2 g3 g4 g5 g6 g7 g8 g9 g10 g11 q1
      have g0 : wk1.cell? ⟨N, 0, none⟩ = some (.int .i64 zt) := cell_blk ((m1.block _ (heap_lt ht) (fun h => h)).trans ht) rfl
      have g1 : wk1.cell? ⟨N, 1, none⟩ = some (.slice adt xt.length cpt) := cell_blk ((m1.block _ (heap_lt ht) (fun h => h)).trans ht) rfl
      have g2 : wk1.cell? ⟨N + 1, 0, none⟩ = some (.int .i64 zc) := cell_blk ((m1.block _ (heap_lt hc) (fun h => h)).trans hc) rfl
      have g3 : wk1.cell? ⟨N + 1, 1, none⟩ = some (.slice adc xc.length cpc) := cell_blk ((m1.block _ (heap_lt hc) (fun h => h)).trans hc) rfl
      have g4 : wk1.cell? ⟨N + 1 + 1, 0, none⟩ = some (.int .i64 zs) := cell_blk ((m1.block _ (heap_lt hs) (fun h => h)).trans hs) rfl
      have g5 : wk1.cell? ⟨N + 1 + 1, 1, none⟩ = some (.slice ads xs.length cps) := cell_blk ((m1.block _ (heap_lt hs) (fun h => h)).trans hs) rfl
      have g6 : wk1.cell? ⟨N + 1 + 1 + 1, 0, none⟩ = some (.int .i64 zk) := cell_blk ((m1.block _ (heap_lt hk) (fun h => h)).trans hk) rfl
      have g7 : wk1.cell? ⟨N + 1 + 1 + 1, 1, none⟩ = some (.slice adk xk.length cpk) := cell_blk ((m1.block _ (heap_lt hk) (fun h => h)).trans hk) rfl
      have g8 : wk1.cell? ⟨N + 1 + 1 + 1 + 1, 0, none⟩ = some (.int .i64 zl) := cell_blk ((m1.block _ (heap_lt hl) (fun h => h)).trans hl) rfl
      have g9 : wk1.cell? ⟨N + 1 + 1 + 1 + 1, 1, none⟩ = some (.slice adl xl.length cpl) := cell_blk ((m1.block _ (heap_lt hl) (fun h => h)).trans hl) rfl
      have g10 : wk1.cell? ⟨N + 1 + 1 + 1 + 1 + 1, 0, none⟩ = some (.int .i64 zv) := cell_blk ((m1.block _ (heap_lt hv) (fun h => h)).trans hv) rfl
      have g11 : wk1.cell? ⟨N + 1 + 1 + 1 + 1 + 1, 1, none⟩ = some (.slice adv xv.length cpv) := cell_blk ((m1.block _ (heap_lt hv) (fun h => h)).trans hv) rfl
      have hfin := nw_trans nW m1
      have hP : Hid (¬ END zt zc zs zk zl zv xt xc xs xk xl xv) := fun h => s5.out (h.2.1)
      go_wp2
      go_ret
      exact ans_no hP.out hfin
  | false =>
    have s1 : Hid _ := not_of_false q1
    clear hcon qn g0 g1 g2 g3 g4 g5 g6 g7 g8 g9 g10 g11 q1
    have g0 : wk0.cell? ⟨N, 0, none⟩ = some (.int .i64 zt) := cell_blk ((m0.block _ (heap_lt ht) (fun h => h)).trans ht) rfl
    have g1 : wk0.cell? ⟨N, 1, none⟩ = some (.slice adt xt.length cpt) := cell_blk ((m0.block _ (heap_lt ht) (fun h => h)).trans ht) rfl
    have g2 : wk0.cell? ⟨N + 1, 0, none⟩ = some (.int .i64 zc) := cell_blk ((m0.block _ (heap_lt hc) (fun h => h)).trans hc) rfl
    have g3 : wk0.cell? ⟨N + 1, 1, none⟩ = some (.slice adc xc.length cpc) := cell_blk ((m0.block _ (heap_lt hc) (fun h => h)).trans hc) rfl
    have g4 : wk0.cell? ⟨N + 1 + 1, 0, none⟩ = some (.int .i64 zs) := cell_blk ((m0.block _ (heap_lt hs) (fun h => h)).trans hs) rfl
    have g5 : wk0.cell? ⟨N + 1 + 1, 1, none⟩ = some (.slice ads xs.length cps) := cell_blk ((m0.block _ (heap_lt hs) (fun h => h)).trans hs) rfl
    have g6 : wk0.cell? ⟨N + 1 + 1 + 1, 0, none⟩ = some (.int .i64 zk) := cell_blk ((m0.block _ (heap_lt hk) (fun h => h)).trans hk) rfl
    have g7 : wk0.cell? ⟨N + 1 + 1 + 1, 1, none⟩ = some (.slice adk xk.length cpk) := cell_blk ((m0.block _ (heap_lt hk) (fun h => h)).trans hk) rfl
    have g8 : wk0.cell? ⟨N + 1 + 1 + 1 + 1, 0, none⟩ = some (.int .i64 zl) := cell_blk ((m0.block _ (heap_lt hl) (fun h => h)).trans hl) rfl
    have g9 : wk0.cell? ⟨N + 1 + 1 + 1 + 1, 1, none⟩ = some (.slice adl xl.length cpl) := cell_blk ((m0.block _ (heap_lt hl) (fun h => h)).trans hl) rfl
    have g10 : wk0.cell? ⟨N + 1 + 1 + 1 + 1 + 1, 0, none⟩ = some (.int .i64 zv) := cell_blk ((m0.block _ (heap_lt hv) (fun h => h)).trans hv) rfl
    have g11 : wk0.cell? ⟨N + 1 + 1 + 1 + 1 + 1, 1, none⟩ = some (.slice adv xv.length cpv) := cell_blk ((m0.block _ (heap_lt hv) (fun h => h)).trans hv) rfl
    have hfin := nw_trans nW m0
    have hP : Hid (¬ END zt zc zs zk zl zv xt xc xs xk xl xv) := fun h => s1.out (h.1)
    go_wp2
    go_ret
    exact ans_no hP.out hfin
end Go.Proofs.Ytimgelekpghklaa
