/-
  Package flow: who may read, write and make what.
-/
import Derived.Test.YtimgelekpghklaaFlowA1
namespace Go.Proofs.Ytimgelekpghklaa
set_option linter.unusedVariables false
set_option linter.unusedSimpArgs false
set_option maxRecDepth 20000
open Go.RowKit

/-- A thread's label and clearance, as a value. -/
def whoV (d : Int) (u : Value) (e : Int) (v : Value) : Value := .agg #[.int .i64 d, u, .int .i64 e, v]

/-- Each level at most the other's. -/
def leL (f g : Int → Int) : Prop := ∀ id, f id ≤ g id
def rdL (t l : Int → Int) : Prop := ∀ id, l id ≤ tn 0 5 (t id)

theorem c_leq2 {X Y : Nat → Prop} {va vb : Value} {xa xb : List Cat} (da db : Int) (w : World) (ha : CSl X w va xa) (hb : CSl Y w vb xb) (la : xa.length ≤ 8796093022208) (lb : xb.length ≤ 8796093022208) :
    Calls Try.prog 18 #[labV da va, labV db vb] w (AnsP (leL (lev da xa) (lev db xb)) w) :=
  (c_leq da db w ha hb la lb).mono fun e w' ⟨r, h1, h2, h3⟩ => ⟨r, h1, h2.trans ⟨fun h id => of_decide_eq_true (h id), fun h id => decide_eq_true (h id)⟩, h3⟩

set_option maxRecDepth 20000 in
set_option maxHeartbeats 3200000 in
theorem c_rap {Xl : Nat → Prop} {ul : Value} {xl : List Cat} (zl : Int) (w : World) (el : CSl Xl w ul xl) (ll : xl.length ≤ 8796093021952) :
    Calls Try.prog 17 #[labV zl ul] w (AnsP (Rgt zl xl ∧ Pu zl xl) w) := by
  obtain ⟨adl, cpl, rfl, _, _⟩ := el.form
  obtain ⟨W, hW⟩ : ∃ W, Hid (W = (w.alloc (.cells #[.int .i64 zl, .slice adl xl.length cpl] 24))) := ⟨_, rfl⟩
  have nW : Nw w W := by rw [hW.out]; exact nw_alloc (nw_refl w) _
  have hl : W.heap[w.heap.size]? = some (.cells #[.int .i64 zl, .slice adl xl.length cpl] 24 (0, 0)) := by
    rw [hW.out]
    have := heap_alloc_new w (.cells #[.int .i64 zl, .slice adl xl.length cpl] 24)
    simpa using this
  replace el := el.nw nW
  unfold labV
  go_enter Try.func17, Try.ntmps17
  go_upto_region 1 with fail
  rw [← hW.out]
  clear hW
  generalize w.heap.size = N at *
  have g0 : W.cell? ⟨N, 0, none⟩ = some (.int .i64 zl) := cell_blk hl rfl
  have g1 : W.cell? ⟨N, 1, none⟩ = some (.slice adl xl.length cpl) := cell_blk hl rfl
  have hcon : Hid _ := c_right zl W el (by omega)
  unfold RgtP at hcon
  unfold labV at hcon
  go_wp2_with (go_at_call 8; refine Calls.mono hcon.out ?_; rintro e wk0 ⟨r, rfl, q1, qn⟩; refine stop_here ?_)
  unfold Hid
  have m0 := qn
  replace el := el.nw qn
  cases r with
  | true =>
    have s1 : Hid _ := q1.1 rfl
    clear hcon g0 g1 q1
    have g0 : wk0.cell? ⟨N, 0, none⟩ = some (.int .i64 zl) := cell_blk ((m0.block _ (heap_lt hl) (fun h => h)).trans hl) rfl
    have g1 : wk0.cell? ⟨N, 1, none⟩ = some (.slice adl xl.length cpl) := cell_blk ((m0.block _ (heap_lt hl) (fun h => h)).trans hl) rfl
    have hcon : Hid _ := c_pure zl wk0 el
    unfold labV at hcon
    go_wp2_with (go_at_call 32; refine Calls.mono hcon.out ?_; rintro e wk1 ⟨r, rfl, q1, qn⟩; refine stop_here ?_)
    unfold Hid
    have m1 := nw_trans m0 qn
    replace el := el.nw qn
    cases r with
    | true =>
      have s4 : Hid _ := q1.1 rfl
      clear hcon g0 g1 q1
      have g0 : wk1.cell? ⟨N, 0, none⟩ = some (.int .i64 zl) := cell_blk ((m1.block _ (heap_lt hl) (fun h => h)).trans hl) rfl
      have g1 : wk1.cell? ⟨N, 1, none⟩ = some (.slice adl xl.length cpl) := cell_blk ((m1.block _ (heap_lt hl) (fun h => h)).trans hl) rfl
      have hfin := nw_trans nW m1
      have hP : Hid (Rgt zl xl ∧ Pu zl xl) := ⟨s1.out, s4.out⟩
      go_wp2
      go_ret
      exact ans_yes hP.out hfin
    | false =>
      have s4 : Hid _ := not_of_false q1
      clear hcon g0 g1 q1
      have g0 : wk1.cell? ⟨N, 0, none⟩ = some (.int .i64 zl) := cell_blk ((m1.block _ (heap_lt hl) (fun h => h)).trans hl) rfl
      have g1 : wk1.cell? ⟨N, 1, none⟩ = some (.slice adl xl.length cpl) := cell_blk ((m1.block _ (heap_lt hl) (fun h => h)).trans hl) rfl
      have hfin := nw_trans nW m1
      have hP : Hid (¬ (Rgt zl xl ∧ Pu zl xl)) := fun h => s4.out (h.2)
      go_wp2
      go_ret
      exact ans_no hP.out hfin
  | false =>
    have s1 : Hid _ := not_of_false q1
    clear hcon g0 g1 q1
    have g0 : wk0.cell? ⟨N, 0, none⟩ = some (.int .i64 zl) := cell_blk ((m0.block _ (heap_lt hl) (fun h => h)).trans hl) rfl
    have g1 : wk0.cell? ⟨N, 1, none⟩ = some (.slice adl xl.length cpl) := cell_blk ((m0.block _ (heap_lt hl) (fun h => h)).trans hl) rfl
    have hfin := nw_trans nW m0
    have hP : Hid (¬ (Rgt zl xl ∧ Pu zl xl)) := fun h => s1.out (h.1)
    go_wp2
    go_ret
    exact ans_no hP.out hfin

set_option maxRecDepth 20000 in
set_option maxHeartbeats 3200000 in
theorem c_between {Xa Xb Xc : Nat → Prop} {ua ub uc : Value} {xa xb xc : List Cat} (za zb zc : Int) (w : World) (ea : CSl Xa w ua xa) (eb : CSl Xb w ub xb) (ec : CSl Xc w uc xc) (la : xa.length ≤ 8796093021952) (lb : xb.length ≤ 8796093021952) (lc : xc.length ≤ 8796093021952) :
    Calls Try.prog 19 #[labV za ua, labV zb ub, labV zc uc] w (AnsP (leL (lev za xa) (lev zb xb) ∧ leL (lev zb xb) (lev zc xc)) w) := by
  obtain ⟨ada, cpa, rfl, _, _⟩ := ea.form
  obtain ⟨adb, cpb, rfl, _, _⟩ := eb.form
  obtain ⟨adc, cpc, rfl, _, _⟩ := ec.form
  obtain ⟨W, hW⟩ : ∃ W, Hid (W = (((w.alloc (.cells #[.int .i64 za, .slice ada xa.length cpa] 24)).alloc (.cells #[.int .i64 zb, .slice adb xb.length cpb] 24)).alloc (.cells #[.int .i64 zc, .slice adc xc.length cpc] 24))) := ⟨_, rfl⟩
  have nW : Nw w W := by rw [hW.out]; exact nw_alloc (nw_alloc (nw_alloc (nw_refl w) _) _) _
  have ha : W.heap[w.heap.size]? = some (.cells #[.int .i64 za, .slice ada xa.length cpa] 24 (0, 0)) := by
    rw [hW.out, Below.heap_alloc _ _ _ (by simp; try omega), Below.heap_alloc _ _ _ (by simp; try omega)]
    have := heap_alloc_new w (.cells #[.int .i64 za, .slice ada xa.length cpa] 24)
    simpa using this
  have hb : W.heap[w.heap.size + 1]? = some (.cells #[.int .i64 zb, .slice adb xb.length cpb] 24 (0, 0)) := by
    rw [hW.out, Below.heap_alloc _ _ _ (by simp; try omega)]
    have := heap_alloc_new (w.alloc (.cells #[.int .i64 za, .slice ada xa.length cpa] 24)) (.cells #[.int .i64 zb, .slice adb xb.length cpb] 24)
    simpa using this
  have hc : W.heap[w.heap.size + 1 + 1]? = some (.cells #[.int .i64 zc, .slice adc xc.length cpc] 24 (0, 0)) := by
    rw [hW.out]
    have := heap_alloc_new ((w.alloc (.cells #[.int .i64 za, .slice ada xa.length cpa] 24)).alloc (.cells #[.int .i64 zb, .slice adb xb.length cpb] 24)) (.cells #[.int .i64 zc, .slice adc xc.length cpc] 24)
    simpa using this
  replace ea := ea.nw nW
  replace eb := eb.nw nW
  replace ec := ec.nw nW
  unfold labV
  go_enter Try.func19, Try.ntmps19
  go_upto_region 1 with fail
  rw [← hW.out]
  clear hW
  generalize w.heap.size = N at *
  have g0 : W.cell? ⟨N, 0, none⟩ = some (.int .i64 za) := cell_blk ha rfl
  have g1 : W.cell? ⟨N, 1, none⟩ = some (.slice ada xa.length cpa) := cell_blk ha rfl
  have g2 : W.cell? ⟨N + 1, 0, none⟩ = some (.int .i64 zb) := cell_blk hb rfl
  have g3 : W.cell? ⟨N + 1, 1, none⟩ = some (.slice adb xb.length cpb) := cell_blk hb rfl
  have g4 : W.cell? ⟨N + 1 + 1, 0, none⟩ = some (.int .i64 zc) := cell_blk hc rfl
  have g5 : W.cell? ⟨N + 1 + 1, 1, none⟩ = some (.slice adc xc.length cpc) := cell_blk hc rfl
  have hcon : Hid _ := c_leq2 za zb W ea eb (by omega) (by omega)
  unfold labV at hcon
  go_wp2_with (go_at_call 18; refine Calls.mono hcon.out ?_; rintro e wk0 ⟨r, rfl, q1, qn⟩; refine stop_here ?_)
  unfold Hid
  have m0 := qn
  replace ea := ea.nw qn
  replace eb := eb.nw qn
  replace ec := ec.nw qn
  cases r with
  | true =>
    have s2 : Hid _ := q1.1 rfl
    clear hcon g0 g1 g2 g3 g4 g5 q1
    have g0 : wk0.cell? ⟨N, 0, none⟩ = some (.int .i64 za) := cell_blk ((m0.block _ (heap_lt ha) (fun h => h)).trans ha) rfl
    have g1 : wk0.cell? ⟨N, 1, none⟩ = some (.slice ada xa.length cpa) := cell_blk ((m0.block _ (heap_lt ha) (fun h => h)).trans ha) rfl
    have g2 : wk0.cell? ⟨N + 1, 0, none⟩ = some (.int .i64 zb) := cell_blk ((m0.block _ (heap_lt hb) (fun h => h)).trans hb) rfl
    have g3 : wk0.cell? ⟨N + 1, 1, none⟩ = some (.slice adb xb.length cpb) := cell_blk ((m0.block _ (heap_lt hb) (fun h => h)).trans hb) rfl
    have g4 : wk0.cell? ⟨N + 1 + 1, 0, none⟩ = some (.int .i64 zc) := cell_blk ((m0.block _ (heap_lt hc) (fun h => h)).trans hc) rfl
    have g5 : wk0.cell? ⟨N + 1 + 1, 1, none⟩ = some (.slice adc xc.length cpc) := cell_blk ((m0.block _ (heap_lt hc) (fun h => h)).trans hc) rfl
    have hcon : Hid _ := c_leq2 zb zc wk0 eb ec (by omega) (by omega)
    unfold labV at hcon
    go_wp2_with (go_at_call 18; refine Calls.mono hcon.out ?_; rintro e wk1 ⟨r, rfl, q1, qn⟩; refine stop_here ?_)
    unfold Hid
    have m1 := nw_trans m0 qn
    replace ea := ea.nw qn
    replace eb := eb.nw qn
    replace ec := ec.nw qn
    cases r with
    | true =>
      have s6 : Hid _ := q1.1 rfl
      clear hcon g0 g1 g2 g3 g4 g5 q1
      have g0 : wk1.cell? ⟨N, 0, none⟩ = some (.int .i64 za) := cell_blk ((m1.block _ (heap_lt ha) (fun h => h)).trans ha) rfl
      have g1 : wk1.cell? ⟨N, 1, none⟩ = some (.slice ada xa.length cpa) := cell_blk ((m1.block _ (heap_lt ha) (fun h => h)).trans ha) rfl
      have g2 : wk1.cell? ⟨N + 1, 0, none⟩ = some (.int .i64 zb) := cell_blk ((m1.block _ (heap_lt hb) (fun h => h)).trans hb) rfl
      have g3 : wk1.cell? ⟨N + 1, 1, none⟩ = some (.slice adb xb.length cpb) := cell_blk ((m1.block _ (heap_lt hb) (fun h => h)).trans hb) rfl
      have g4 : wk1.cell? ⟨N + 1 + 1, 0, none⟩ = some (.int .i64 zc) := cell_blk ((m1.block _ (heap_lt hc) (fun h => h)).trans hc) rfl
      have g5 : wk1.cell? ⟨N + 1 + 1, 1, none⟩ = some (.slice adc xc.length cpc) := cell_blk ((m1.block _ (heap_lt hc) (fun h => h)).trans hc) rfl
      have hfin := nw_trans nW m1
      have hP : Hid (leL (lev za xa) (lev zb xb) ∧ leL (lev zb xb) (lev zc xc)) := ⟨s2.out, s6.out⟩
      go_wp2
      go_ret
      exact ans_yes hP.out hfin
    | false =>
      have s6 : Hid _ := not_of_false q1
      clear hcon g0 g1 g2 g3 g4 g5 q1
      have g0 : wk1.cell? ⟨N, 0, none⟩ = some (.int .i64 za) := cell_blk ((m1.block _ (heap_lt ha) (fun h => h)).trans ha) rfl
      have g1 : wk1.cell? ⟨N, 1, none⟩ = some (.slice ada xa.length cpa) := cell_blk ((m1.block _ (heap_lt ha) (fun h => h)).trans ha) rfl
      have g2 : wk1.cell? ⟨N + 1, 0, none⟩ = some (.int .i64 zb) := cell_blk ((m1.block _ (heap_lt hb) (fun h => h)).trans hb) rfl
      have g3 : wk1.cell? ⟨N + 1, 1, none⟩ = some (.slice adb xb.length cpb) := cell_blk ((m1.block _ (heap_lt hb) (fun h => h)).trans hb) rfl
      have g4 : wk1.cell? ⟨N + 1 + 1, 0, none⟩ = some (.int .i64 zc) := cell_blk ((m1.block _ (heap_lt hc) (fun h => h)).trans hc) rfl
      have g5 : wk1.cell? ⟨N + 1 + 1, 1, none⟩ = some (.slice adc xc.length cpc) := cell_blk ((m1.block _ (heap_lt hc) (fun h => h)).trans hc) rfl
      have hfin := nw_trans nW m1
      have hP : Hid (¬ (leL (lev za xa) (lev zb xb) ∧ leL (lev zb xb) (lev zc xc))) := fun h => s6.out (h.2)
      go_wp2
      go_ret
      exact ans_no hP.out hfin
  | false =>
    have s2 : Hid _ := not_of_false q1
    clear hcon g0 g1 g2 g3 g4 g5 q1
    have g0 : wk0.cell? ⟨N, 0, none⟩ = some (.int .i64 za) := cell_blk ((m0.block _ (heap_lt ha) (fun h => h)).trans ha) rfl
    have g1 : wk0.cell? ⟨N, 1, none⟩ = some (.slice ada xa.length cpa) := cell_blk ((m0.block _ (heap_lt ha) (fun h => h)).trans ha) rfl
    have g2 : wk0.cell? ⟨N + 1, 0, none⟩ = some (.int .i64 zb) := cell_blk ((m0.block _ (heap_lt hb) (fun h => h)).trans hb) rfl
    have g3 : wk0.cell? ⟨N + 1, 1, none⟩ = some (.slice adb xb.length cpb) := cell_blk ((m0.block _ (heap_lt hb) (fun h => h)).trans hb) rfl
    have g4 : wk0.cell? ⟨N + 1 + 1, 0, none⟩ = some (.int .i64 zc) := cell_blk ((m0.block _ (heap_lt hc) (fun h => h)).trans hc) rfl
    have g5 : wk0.cell? ⟨N + 1 + 1, 1, none⟩ = some (.slice adc xc.length cpc) := cell_blk ((m0.block _ (heap_lt hc) (fun h => h)).trans hc) rfl
    have hfin := nw_trans nW m0
    have hP : Hid (¬ (leL (lev za xa) (lev zb xb) ∧ leL (lev zb xb) (lev zc xc))) := fun h => s2.out (h.1)
    go_wp2
    go_ret
    exact ans_no hP.out hfin

set_option maxRecDepth 20000 in
set_option maxHeartbeats 3200000 in
theorem c_freads {Xt Xc Xl : Nat → Prop} {ut uc ul : Value} {xt xc xl : List Cat} (zt zc zl : Int) (w : World) (et : CSl Xt w ut xt) (ec : CSl Xc w uc xc) (el : CSl Xl w ul xl) (lt : xt.length ≤ 8796093021952) (lc : xc.length ≤ 8796093021952) (ll : xl.length ≤ 8796093021952) :
    Calls Try.prog 13 #[whoV zt ut zc uc, labV zl ul] w (AnsP (rdL (lev zt xt) (lev zl xl)) w) := by
  obtain ⟨adt, cpt, rfl, _, _⟩ := et.form
  obtain ⟨adc, cpc, rfl, _, _⟩ := ec.form
  obtain ⟨adl, cpl, rfl, _, _⟩ := el.form
  obtain ⟨W, hW⟩ : ∃ W, Hid (W = ((w.alloc (.cells #[.int .i64 zt, .slice adt xt.length cpt, .int .i64 zc, .slice adc xc.length cpc] 26)).alloc (.cells #[.int .i64 zl, .slice adl xl.length cpl] 24))) := ⟨_, rfl⟩
  have nW : Nw w W := by rw [hW.out]; exact nw_alloc (nw_alloc (nw_refl w) _) _
  have ht : W.heap[w.heap.size]? = some (.cells #[.int .i64 zt, .slice adt xt.length cpt, .int .i64 zc, .slice adc xc.length cpc] 26 (0, 0)) := by
    rw [hW.out, Below.heap_alloc _ _ _ (by simp; try omega)]
    have := heap_alloc_new w (.cells #[.int .i64 zt, .slice adt xt.length cpt, .int .i64 zc, .slice adc xc.length cpc] 26)
    simpa using this
  have hl : W.heap[w.heap.size + 1]? = some (.cells #[.int .i64 zl, .slice adl xl.length cpl] 24 (0, 0)) := by
    rw [hW.out]
    have := heap_alloc_new (w.alloc (.cells #[.int .i64 zt, .slice adt xt.length cpt, .int .i64 zc, .slice adc xc.length cpc] 26)) (.cells #[.int .i64 zl, .slice adl xl.length cpl] 24)
    simpa using this
  replace et := et.nw nW
  replace ec := ec.nw nW
  replace el := el.nw nW
  unfold whoV labV
  go_enter Try.func13, Try.ntmps13
  go_upto_region 1 with fail
  rw [← hW.out]
  clear hW
  generalize w.heap.size = N at *
  have hSof : ∀ w', Nw W w' → (fun w' : World => Nw W w' ∧ w'.cell? ⟨N, 0, none⟩ = some (.int .i64 zt) ∧ w'.cell? ⟨N, 1, none⟩ = some (.slice adt xt.length cpt) ∧ w'.cell? ⟨N, 2, none⟩ = some (.int .i64 zc) ∧ w'.cell? ⟨N, 3, none⟩ = some (.slice adc xc.length cpc) ∧ w'.cell? ⟨N + 1, 0, none⟩ = some (.int .i64 zl) ∧ w'.cell? ⟨N + 1, 1, none⟩ = some (.slice adl xl.length cpl)) w' := fun w' hw => ⟨hw, cell_blk ((hw.block _ (heap_lt ht) (fun h => h)).trans ht) rfl, cell_blk ((hw.block _ (heap_lt ht) (fun h => h)).trans ht) rfl, cell_blk ((hw.block _ (heap_lt ht) (fun h => h)).trans ht) rfl, cell_blk ((hw.block _ (heap_lt ht) (fun h => h)).trans ht) rfl, cell_blk ((hw.block _ (heap_lt hl) (fun h => h)).trans hl) rfl, cell_blk ((hw.block _ (heap_lt hl) (fun h => h)).trans hl) rfl⟩
  have hW0 : Nw W W.drew := Fr.drew (Fr.refl _ W)
  have hS := hSof _ hW0
  replace et := et.nw hW0
  replace ec := ec.nw hW0
  replace el := el.nw hW0
  replace hSof : Hid _ := hSof
  refine wp_region_ord [] 5 [(0, true), (1, true), (2, true), (3, false), (4, false)] (fun w' : World => Nw W w' ∧ w'.cell? ⟨N, 0, none⟩ = some (.int .i64 zt) ∧ w'.cell? ⟨N, 1, none⟩ = some (.slice adt xt.length cpt) ∧ w'.cell? ⟨N, 2, none⟩ = some (.int .i64 zc) ∧ w'.cell? ⟨N, 3, none⟩ = some (.slice adc xc.length cpc) ∧ w'.cell? ⟨N + 1, 0, none⟩ = some (.int .i64 zl) ∧ w'.cell? ⟨N + 1, 1, none⟩ = some (.slice adl xl.length cpl)) (by kernel_rfl) (by kernel_rfl) ?_
  refine ord_quietL _ ?_ rfl hS rfl ?_ ?_
  rotate_left
  · rintro w' ⟨hn, h0, h1, h2, h3, h4, h5⟩; go_simp; first | rfl | (rw [if_pos (by omega)]; done) | (rw [if_pos (by omega)]; rfl) | (rw [if_pos (by omega)]; go_simp; rfl)
  simp only [Act.put, List.setIfInBounds_toArray, List.set_cons_zero, List.set_cons_succ]
  refine ord_quietL _ ?_ rfl hS rfl ?_ ?_
  rotate_left
  · rintro w' ⟨hn, h0, h1, h2, h3, h4, h5⟩; go_simp; first | rfl | (rw [if_pos (by omega)]; done) | (rw [if_pos (by omega)]; rfl) | (rw [if_pos (by omega)]; go_simp; rfl)
  simp only [Act.put, List.setIfInBounds_toArray, List.set_cons_zero, List.set_cons_succ]
  refine ord_quietL _ ?_ rfl hS rfl ?_ ?_
  rotate_left
  · rintro w' ⟨hn, h0, h1, h2, h3, h4, h5⟩; go_simp; first | rfl | (rw [if_pos (by omega)]; done) | (rw [if_pos (by omega)]; rfl) | (rw [if_pos (by omega)]; go_simp; rfl)
  simp only [Act.put, List.setIfInBounds_toArray, List.set_cons_zero, List.set_cons_succ]
  refine ord_actL _ rfl (fun K1 hK1 => ?_)
  have hcon : Hid _ := c_raise zt W.drew et (by omega)
  unfold MadeL labV at hcon
  go_wp2_with (go_at_call 29; refine Calls.mono hcon.out ?_; rintro e wk0 ⟨u3, x3, rfl, q1, q2, q3, q4, qn⟩)
  have m0 := nw_trans hW0 qn
  replace et := et.nw qn
  replace ec := ec.nw qn
  replace el := el.nw qn
  obtain ⟨a3, c3, rfl, _, _⟩ := q1.form
  have e3 := q1.any
  have g3 : Hid (∀ id, lev (tn 0 5 zt) x3 id = tn 0 5 (lev zt xt id)) := q3
  generalize tn 0 5 zt = z3 at *
  refine hK1 _ _ (hSof.out _ m0) ?_
  clear hK1 K1 hcon qn hS hW0 q1 q2 q3
  have hS := hSof.out _ m0
  refine ord_actL _ rfl (fun K1 hK1 => ?_)
  have hcon : Hid _ := c_leq2 zl z3 wk0 el e3 (by omega) (by omega)
  unfold labV at hcon
  go_wp2_with (go_at_call 18; refine Calls.mono hcon.out ?_; rintro e wk1 ⟨r, rfl, q1, qn⟩)
  have m1 := nw_trans m0 qn
  replace et := et.nw qn
  replace ec := ec.nw qn
  replace el := el.nw qn
  replace e3 := e3.nw qn
  have s : Hid (r = true ↔ rdL (lev zt xt) (lev zl xl)) := q1.trans ⟨fun h id => by have := h id; rw [g3.out] at this; exact this, fun h id => by rw [g3.out]; exact h id⟩
  refine hK1 _ _ (hSof.out _ m1) ?_
  clear hK1 K1 hcon qn hS m0 q1
  have hS := hSof.out _ m1
  refine ord_tail ?_
  simp only [List.drop_succ_cons, List.drop_zero]
  have hfin := nw_trans nW m1
  go_wp2
  go_ret
  exact ⟨r, rfl, s.out, hfin⟩

set_option maxRecDepth 20000 in
set_option maxHeartbeats 3200000 in
theorem c_fwrites {Xt Xc Xl : Nat → Prop} {ut uc ul : Value} {xt xc xl : List Cat} (zt zc zl : Int) (w : World) (et : CSl Xt w ut xt) (ec : CSl Xc w uc xc) (el : CSl Xl w ul xl) (lt : xt.length ≤ 8796093021952) (lc : xc.length ≤ 8796093021952) (ll : xl.length ≤ 8796093021952) :
    Calls Try.prog 14 #[whoV zt ut zc uc, labV zl ul] w (AnsP (rdL (lev zt xt) (lev zl xl) ∧ leL (lev zt xt) (lev zl xl)) w) := by
  obtain ⟨adt, cpt, rfl, _, _⟩ := et.form
  obtain ⟨adc, cpc, rfl, _, _⟩ := ec.form
  obtain ⟨adl, cpl, rfl, _, _⟩ := el.form
  obtain ⟨W, hW⟩ : ∃ W, Hid (W = ((w.alloc (.cells #[.int .i64 zt, .slice adt xt.length cpt, .int .i64 zc, .slice adc xc.length cpc] 26)).alloc (.cells #[.int .i64 zl, .slice adl xl.length cpl] 24))) := ⟨_, rfl⟩
  have nW : Nw w W := by rw [hW.out]; exact nw_alloc (nw_alloc (nw_refl w) _) _
  have ht : W.heap[w.heap.size]? = some (.cells #[.int .i64 zt, .slice adt xt.length cpt, .int .i64 zc, .slice adc xc.length cpc] 26 (0, 0)) := by
    rw [hW.out, Below.heap_alloc _ _ _ (by simp; try omega)]
    have := heap_alloc_new w (.cells #[.int .i64 zt, .slice adt xt.length cpt, .int .i64 zc, .slice adc xc.length cpc] 26)
    simpa using this
  have hl : W.heap[w.heap.size + 1]? = some (.cells #[.int .i64 zl, .slice adl xl.length cpl] 24 (0, 0)) := by
    rw [hW.out]
    have := heap_alloc_new (w.alloc (.cells #[.int .i64 zt, .slice adt xt.length cpt, .int .i64 zc, .slice adc xc.length cpc] 26)) (.cells #[.int .i64 zl, .slice adl xl.length cpl] 24)
    simpa using this
  replace et := et.nw nW
  replace ec := ec.nw nW
  replace el := el.nw nW
  unfold whoV labV
  go_enter Try.func14, Try.ntmps14
  go_upto_region 1 with fail
  rw [← hW.out]
  clear hW
  generalize w.heap.size = N at *
  have g0 : W.cell? ⟨N, 0, none⟩ = some (.int .i64 zt) := cell_blk ht rfl
  have g1 : W.cell? ⟨N, 1, none⟩ = some (.slice adt xt.length cpt) := cell_blk ht rfl
  have g2 : W.cell? ⟨N, 2, none⟩ = some (.int .i64 zc) := cell_blk ht rfl
  have g3 : W.cell? ⟨N, 3, none⟩ = some (.slice adc xc.length cpc) := cell_blk ht rfl
  have g4 : W.cell? ⟨N + 1, 0, none⟩ = some (.int .i64 zl) := cell_blk hl rfl
  have g5 : W.cell? ⟨N + 1, 1, none⟩ = some (.slice adl xl.length cpl) := cell_blk hl rfl
  have hcon : Hid _ := c_freads zt zc zl W et ec el (by omega) (by omega) (by omega)
  unfold whoV labV at hcon
  go_wp2_with (go_at_call 13; refine Calls.mono hcon.out ?_; rintro e wk0 ⟨r, rfl, q1, qn⟩; refine stop_here ?_)
  unfold Hid
  have m0 := qn
  replace et := et.nw qn
  replace ec := ec.nw qn
  replace el := el.nw qn
  cases r with
  | true =>
    have s2 : Hid _ := q1.1 rfl
    clear hcon g0 g1 g2 g3 g4 g5 q1
    have g0 : wk0.cell? ⟨N, 0, none⟩ = some (.int .i64 zt) := cell_blk ((m0.block _ (heap_lt ht) (fun h => h)).trans ht) rfl
    have g1 : wk0.cell? ⟨N, 1, none⟩ = some (.slice adt xt.length cpt) := cell_blk ((m0.block _ (heap_lt ht) (fun h => h)).trans ht) rfl
    have g2 : wk0.cell? ⟨N, 2, none⟩ = some (.int .i64 zc) := cell_blk ((m0.block _ (heap_lt ht) (fun h => h)).trans ht) rfl
    have g3 : wk0.cell? ⟨N, 3, none⟩ = some (.slice adc xc.length cpc) := cell_blk ((m0.block _ (heap_lt ht) (fun h => h)).trans ht) rfl
    have g4 : wk0.cell? ⟨N + 1, 0, none⟩ = some (.int .i64 zl) := cell_blk ((m0.block _ (heap_lt hl) (fun h => h)).trans hl) rfl
    have g5 : wk0.cell? ⟨N + 1, 1, none⟩ = some (.slice adl xl.length cpl) := cell_blk ((m0.block _ (heap_lt hl) (fun h => h)).trans hl) rfl
    have hcon : Hid _ := c_leq2 zt zl wk0 et el (by omega) (by omega)
    unfold labV at hcon
    go_wp2_with (go_at_call 18; refine Calls.mono hcon.out ?_; rintro e wk1 ⟨r, rfl, q1, qn⟩; refine stop_here ?_)
    unfold Hid
    have m1 := nw_trans m0 qn
    replace et := et.nw qn
    replace ec := ec.nw qn
    replace el := el.nw qn
    cases r with
    | true =>
      have s7 : Hid _ := q1.1 rfl
      clear hcon g0 g1 g2 g3 g4 g5 q1
      have g0 : wk1.cell? ⟨N, 0, none⟩ = some (.int .i64 zt) := cell_blk ((m1.block _ (heap_lt ht) (fun h => h)).trans ht) rfl
      have g1 : wk1.cell? ⟨N, 1, none⟩ = some (.slice adt xt.length cpt) := cell_blk ((m1.block _ (heap_lt ht) (fun h => h)).trans ht) rfl
      have g2 : wk1.cell? ⟨N, 2, none⟩ = some (.int .i64 zc) := cell_blk ((m1.block _ (heap_lt ht) (fun h => h)).trans ht) rfl
      have g3 : wk1.cell? ⟨N, 3, none⟩ = some (.slice adc xc.length cpc) := cell_blk ((m1.block _ (heap_lt ht) (fun h => h)).trans ht) rfl
      have g4 : wk1.cell? ⟨N + 1, 0, none⟩ = some (.int .i64 zl) := cell_blk ((m1.block _ (heap_lt hl) (fun h => h)).trans hl) rfl
      have g5 : wk1.cell? ⟨N + 1, 1, none⟩ = some (.slice adl xl.length cpl) := cell_blk ((m1.block _ (heap_lt hl) (fun h => h)).trans hl) rfl
      have hfin := nw_trans nW m1
      have hP : Hid (rdL (lev zt xt) (lev zl xl) ∧ leL (lev zt xt) (lev zl xl)) := ⟨s2.out, s7.out⟩
      go_wp2
      go_ret
      exact ans_yes hP.out hfin
    | false =>
      have s7 : Hid _ := not_of_false q1
      clear hcon g0 g1 g2 g3 g4 g5 q1
      have g0 : wk1.cell? ⟨N, 0, none⟩ = some (.int .i64 zt) := cell_blk ((m1.block _ (heap_lt ht) (fun h => h)).trans ht) rfl
      have g1 : wk1.cell? ⟨N, 1, none⟩ = some (.slice adt xt.length cpt) := cell_blk ((m1.block _ (heap_lt ht) (fun h => h)).trans ht) rfl
      have g2 : wk1.cell? ⟨N, 2, none⟩ = some (.int .i64 zc) := cell_blk ((m1.block _ (heap_lt ht) (fun h => h)).trans ht) rfl
      have g3 : wk1.cell? ⟨N, 3, none⟩ = some (.slice adc xc.length cpc) := cell_blk ((m1.block _ (heap_lt ht) (fun h => h)).trans ht) rfl
      have g4 : wk1.cell? ⟨N + 1, 0, none⟩ = some (.int .i64 zl) := cell_blk ((m1.block _ (heap_lt hl) (fun h => h)).trans hl) rfl
      have g5 : wk1.cell? ⟨N + 1, 1, none⟩ = some (.slice adl xl.length cpl) := cell_blk ((m1.block _ (heap_lt hl) (fun h => h)).trans hl) rfl
      have hfin := nw_trans nW m1
      have hP : Hid (¬ (rdL (lev zt xt) (lev zl xl) ∧ leL (lev zt xt) (lev zl xl))) := fun h => s7.out (h.2)
      go_wp2
      go_ret
      exact ans_no hP.out hfin
  | false =>
    have s2 : Hid _ := not_of_false q1
    clear hcon g0 g1 g2 g3 g4 g5 q1
    have g0 : wk0.cell? ⟨N, 0, none⟩ = some (.int .i64 zt) := cell_blk ((m0.block _ (heap_lt ht) (fun h => h)).trans ht) rfl
    have g1 : wk0.cell? ⟨N, 1, none⟩ = some (.slice adt xt.length cpt) := cell_blk ((m0.block _ (heap_lt ht) (fun h => h)).trans ht) rfl
    have g2 : wk0.cell? ⟨N, 2, none⟩ = some (.int .i64 zc) := cell_blk ((m0.block _ (heap_lt ht) (fun h => h)).trans ht) rfl
    have g3 : wk0.cell? ⟨N, 3, none⟩ = some (.slice adc xc.length cpc) := cell_blk ((m0.block _ (heap_lt ht) (fun h => h)).trans ht) rfl
    have g4 : wk0.cell? ⟨N + 1, 0, none⟩ = some (.int .i64 zl) := cell_blk ((m0.block _ (heap_lt hl) (fun h => h)).trans hl) rfl
    have g5 : wk0.cell? ⟨N + 1, 1, none⟩ = some (.slice adl xl.length cpl) := cell_blk ((m0.block _ (heap_lt hl) (fun h => h)).trans hl) rfl
    have hfin := nw_trans nW m0
    have hP : Hid (¬ (rdL (lev zt xt) (lev zl xl) ∧ leL (lev zt xt) (lev zl xl))) := fun h => s2.out (h.1)
    go_wp2
    go_ret
    exact ans_no hP.out hfin

set_option maxRecDepth 20000 in
set_option maxHeartbeats 3200000 in
theorem c_fmakes {Xt Xc Xl : Nat → Prop} {ut uc ul : Value} {xt xc xl : List Cat} (zt zc zl : Int) (w : World) (et : CSl Xt w ut xt) (ec : CSl Xc w uc xc) (el : CSl Xl w ul xl) (lt : xt.length ≤ 8796093021952) (lc : xc.length ≤ 8796093021952) (ll : xl.length ≤ 8796093021952) :
    Calls Try.prog 15 #[whoV zt ut zc uc, labV zl ul] w (AnsP (Rgt zl xl ∧ Pu zl xl ∧ leL (lev zt xt) (lev zl xl) ∧ leL (lev zl xl) (lev zc xc)) w) := by
  obtain ⟨adt, cpt, rfl, _, _⟩ := et.form
  obtain ⟨adc, cpc, rfl, _, _⟩ := ec.form
  obtain ⟨adl, cpl, rfl, _, _⟩ := el.form
  obtain ⟨W, hW⟩ : ∃ W, Hid (W = ((w.alloc (.cells #[.int .i64 zt, .slice adt xt.length cpt, .int .i64 zc, .slice adc xc.length cpc] 26)).alloc (.cells #[.int .i64 zl, .slice adl xl.length cpl] 24))) := ⟨_, rfl⟩
  have nW : Nw w W := by rw [hW.out]; exact nw_alloc (nw_alloc (nw_refl w) _) _
  have ht : W.heap[w.heap.size]? = some (.cells #[.int .i64 zt, .slice adt xt.length cpt, .int .i64 zc, .slice adc xc.length cpc] 26 (0, 0)) := by
    rw [hW.out, Below.heap_alloc _ _ _ (by simp; try omega)]
    have := heap_alloc_new w (.cells #[.int .i64 zt, .slice adt xt.length cpt, .int .i64 zc, .slice adc xc.length cpc] 26)
    simpa using this
  have hl : W.heap[w.heap.size + 1]? = some (.cells #[.int .i64 zl, .slice adl xl.length cpl] 24 (0, 0)) := by
    rw [hW.out]
    have := heap_alloc_new (w.alloc (.cells #[.int .i64 zt, .slice adt xt.length cpt, .int .i64 zc, .slice adc xc.length cpc] 26)) (.cells #[.int .i64 zl, .slice adl xl.length cpl] 24)
    simpa using this
  replace et := et.nw nW
  replace ec := ec.nw nW
  replace el := el.nw nW
  unfold whoV labV
  go_enter Try.func15, Try.ntmps15
  go_upto_region 1 with fail
  rw [← hW.out]
  clear hW
  generalize w.heap.size = N at *
  have g0 : W.cell? ⟨N, 0, none⟩ = some (.int .i64 zt) := cell_blk ht rfl
  have g1 : W.cell? ⟨N, 1, none⟩ = some (.slice adt xt.length cpt) := cell_blk ht rfl
  have g2 : W.cell? ⟨N, 2, none⟩ = some (.int .i64 zc) := cell_blk ht rfl
  have g3 : W.cell? ⟨N, 3, none⟩ = some (.slice adc xc.length cpc) := cell_blk ht rfl
  have g4 : W.cell? ⟨N + 1, 0, none⟩ = some (.int .i64 zl) := cell_blk hl rfl
  have g5 : W.cell? ⟨N + 1, 1, none⟩ = some (.slice adl xl.length cpl) := cell_blk hl rfl
  have hcon : Hid _ := c_rap zl W el (by omega)
  unfold labV at hcon
  go_wp2_with (go_at_call 17; refine Calls.mono hcon.out ?_; rintro e wk0 ⟨r, rfl, q1, qn⟩; refine stop_here ?_)
  unfold Hid
  have m0 := qn
  replace et := et.nw qn
  replace ec := ec.nw qn
  replace el := el.nw qn
  cases r with
  | true =>
    have s1 : Hid _ := q1.1 rfl
    clear hcon g0 g1 g2 g3 g4 g5 q1
    have g0 : wk0.cell? ⟨N, 0, none⟩ = some (.int .i64 zt) := cell_blk ((m0.block _ (heap_lt ht) (fun h => h)).trans ht) rfl
    have g1 : wk0.cell? ⟨N, 1, none⟩ = some (.slice adt xt.length cpt) := cell_blk ((m0.block _ (heap_lt ht) (fun h => h)).trans ht) rfl
    have g2 : wk0.cell? ⟨N, 2, none⟩ = some (.int .i64 zc) := cell_blk ((m0.block _ (heap_lt ht) (fun h => h)).trans ht) rfl
    have g3 : wk0.cell? ⟨N, 3, none⟩ = some (.slice adc xc.length cpc) := cell_blk ((m0.block _ (heap_lt ht) (fun h => h)).trans ht) rfl
    have g4 : wk0.cell? ⟨N + 1, 0, none⟩ = some (.int .i64 zl) := cell_blk ((m0.block _ (heap_lt hl) (fun h => h)).trans hl) rfl
    have g5 : wk0.cell? ⟨N + 1, 1, none⟩ = some (.slice adl xl.length cpl) := cell_blk ((m0.block _ (heap_lt hl) (fun h => h)).trans hl) rfl
    have hcon : Hid _ := c_between zt zl zc wk0 et el ec (by omega) (by omega) (by omega)
    unfold labV at hcon
    go_wp2_with (go_at_call 19; refine Calls.mono hcon.out ?_; rintro e wk1 ⟨r, rfl, q1, qn⟩; refine stop_here ?_)
    unfold Hid
    have m1 := nw_trans m0 qn
    replace et := et.nw qn
    replace ec := ec.nw qn
    replace el := el.nw qn
    cases r with
    | true =>
      have s8 : Hid _ := q1.1 rfl
      clear hcon g0 g1 g2 g3 g4 g5 q1
      have g0 : wk1.cell? ⟨N, 0, none⟩ = some (.int .i64 zt) := cell_blk ((m1.block _ (heap_lt ht) (fun h => h)).trans ht) rfl
      have g1 : wk1.cell? ⟨N, 1, none⟩ = some (.slice adt xt.length cpt) := cell_blk ((m1.block _ (heap_lt ht) (fun h => h)).trans ht) rfl
      have g2 : wk1.cell? ⟨N, 2, none⟩ = some (.int .i64 zc) := cell_blk ((m1.block _ (heap_lt ht) (fun h => h)).trans ht) rfl
      have g3 : wk1.cell? ⟨N, 3, none⟩ = some (.slice adc xc.length cpc) := cell_blk ((m1.block _ (heap_lt ht) (fun h => h)).trans ht) rfl
      have g4 : wk1.cell? ⟨N + 1, 0, none⟩ = some (.int .i64 zl) := cell_blk ((m1.block _ (heap_lt hl) (fun h => h)).trans hl) rfl
      have g5 : wk1.cell? ⟨N + 1, 1, none⟩ = some (.slice adl xl.length cpl) := cell_blk ((m1.block _ (heap_lt hl) (fun h => h)).trans hl) rfl
      have hfin := nw_trans nW m1
      have hP : Hid (Rgt zl xl ∧ Pu zl xl ∧ leL (lev zt xt) (lev zl xl) ∧ leL (lev zl xl) (lev zc xc)) := ⟨s1.out.1, s1.out.2, s8.out⟩
      go_wp2
      go_ret
      exact ans_yes hP.out hfin
    | false =>
      have s8 : Hid _ := not_of_false q1
      clear hcon g0 g1 g2 g3 g4 g5 q1
      have g0 : wk1.cell? ⟨N, 0, none⟩ = some (.int .i64 zt) := cell_blk ((m1.block _ (heap_lt ht) (fun h => h)).trans ht) rfl
      have g1 : wk1.cell? ⟨N, 1, none⟩ = some (.slice adt xt.length cpt) := cell_blk ((m1.block _ (heap_lt ht) (fun h => h)).trans ht) rfl
      have g2 : wk1.cell? ⟨N, 2, none⟩ = some (.int .i64 zc) := cell_blk ((m1.block _ (heap_lt ht) (fun h => h)).trans ht) rfl
      have g3 : wk1.cell? ⟨N, 3, none⟩ = some (.slice adc xc.length cpc) := cell_blk ((m1.block _ (heap_lt ht) (fun h => h)).trans ht) rfl
      have g4 : wk1.cell? ⟨N + 1, 0, none⟩ = some (.int .i64 zl) := cell_blk ((m1.block _ (heap_lt hl) (fun h => h)).trans hl) rfl
      have g5 : wk1.cell? ⟨N + 1, 1, none⟩ = some (.slice adl xl.length cpl) := cell_blk ((m1.block _ (heap_lt hl) (fun h => h)).trans hl) rfl
      have hfin := nw_trans nW m1
      have hP : Hid (¬ (Rgt zl xl ∧ Pu zl xl ∧ leL (lev zt xt) (lev zl xl) ∧ leL (lev zl xl) (lev zc xc))) := fun h => s8.out (h.2.2)
      go_wp2
      go_ret
      exact ans_no hP.out hfin
  | false =>
    have s1 : Hid _ := not_of_false q1
    clear hcon g0 g1 g2 g3 g4 g5 q1
    have g0 : wk0.cell? ⟨N, 0, none⟩ = some (.int .i64 zt) := cell_blk ((m0.block _ (heap_lt ht) (fun h => h)).trans ht) rfl
    have g1 : wk0.cell? ⟨N, 1, none⟩ = some (.slice adt xt.length cpt) := cell_blk ((m0.block _ (heap_lt ht) (fun h => h)).trans ht) rfl
    have g2 : wk0.cell? ⟨N, 2, none⟩ = some (.int .i64 zc) := cell_blk ((m0.block _ (heap_lt ht) (fun h => h)).trans ht) rfl
    have g3 : wk0.cell? ⟨N, 3, none⟩ = some (.slice adc xc.length cpc) := cell_blk ((m0.block _ (heap_lt ht) (fun h => h)).trans ht) rfl
    have g4 : wk0.cell? ⟨N + 1, 0, none⟩ = some (.int .i64 zl) := cell_blk ((m0.block _ (heap_lt hl) (fun h => h)).trans hl) rfl
    have g5 : wk0.cell? ⟨N + 1, 1, none⟩ = some (.slice adl xl.length cpl) := cell_blk ((m0.block _ (heap_lt hl) (fun h => h)).trans hl) rfl
    have hfin := nw_trans nW m0
    have hP : Hid (¬ (Rgt zl xl ∧ Pu zl xl ∧ leL (lev zt xt) (lev zl xl) ∧ leL (lev zl xl) (lev zc xc))) := fun h => s1.out (⟨h.1, h.2.1⟩)
    go_wp2
    go_ret
    exact ans_no hP.out hfin

set_option maxRecDepth 20000 in
set_option maxHeartbeats 3200000 in
theorem c_fspawns {Xt Xc Xl Xk : Nat → Prop} {ut uc ul uk : Value} {xt xc xl xk : List Cat} (zt zc zl zk : Int) (w : World) (et : CSl Xt w ut xt) (ec : CSl Xc w uc xc) (el : CSl Xl w ul xl) (ek : CSl Xk w uk xk) (lt : xt.length ≤ 8796093021952) (lc : xc.length ≤ 8796093021952) (ll : xl.length ≤ 8796093021952) (lk : xk.length ≤ 8796093021952) :
    Calls Try.prog 11 #[whoV zt ut zc uc, labV zl ul, labV zk uk] w (AnsP (Rgt zl xl ∧ Rgt zk xk ∧ Pu zk xk ∧ leL (lev zt xt) (lev zl xl) ∧ leL (lev zl xl) (lev zk xk) ∧ leL (lev zk xk) (lev zc xc)) w) := by
  obtain ⟨adt, cpt, rfl, _, _⟩ := et.form
  obtain ⟨adc, cpc, rfl, _, _⟩ := ec.form
  obtain ⟨adl, cpl, rfl, _, _⟩ := el.form
  obtain ⟨adk, cpk, rfl, _, _⟩ := ek.form
  obtain ⟨W, hW⟩ : ∃ W, Hid (W = (((w.alloc (.cells #[.int .i64 zt, .slice adt xt.length cpt, .int .i64 zc, .slice adc xc.length cpc] 26)).alloc (.cells #[.int .i64 zl, .slice adl xl.length cpl] 24)).alloc (.cells #[.int .i64 zk, .slice adk xk.length cpk] 24))) := ⟨_, rfl⟩
  have nW : Nw w W := by rw [hW.out]; exact nw_alloc (nw_alloc (nw_alloc (nw_refl w) _) _) _
  have ht : W.heap[w.heap.size]? = some (.cells #[.int .i64 zt, .slice adt xt.length cpt, .int .i64 zc, .slice adc xc.length cpc] 26 (0, 0)) := by
    rw [hW.out, Below.heap_alloc _ _ _ (by simp; try omega), Below.heap_alloc _ _ _ (by simp; try omega)]
    have := heap_alloc_new w (.cells #[.int .i64 zt, .slice adt xt.length cpt, .int .i64 zc, .slice adc xc.length cpc] 26)
    simpa using this
  have hl : W.heap[w.heap.size + 1]? = some (.cells #[.int .i64 zl, .slice adl xl.length cpl] 24 (0, 0)) := by
    rw [hW.out, Below.heap_alloc _ _ _ (by simp; try omega)]
    have := heap_alloc_new (w.alloc (.cells #[.int .i64 zt, .slice adt xt.length cpt, .int .i64 zc, .slice adc xc.length cpc] 26)) (.cells #[.int .i64 zl, .slice adl xl.length cpl] 24)
    simpa using this
  have hk : W.heap[w.heap.size + 1 + 1]? = some (.cells #[.int .i64 zk, .slice adk xk.length cpk] 24 (0, 0)) := by
    rw [hW.out]
    have := heap_alloc_new ((w.alloc (.cells #[.int .i64 zt, .slice adt xt.length cpt, .int .i64 zc, .slice adc xc.length cpc] 26)).alloc (.cells #[.int .i64 zl, .slice adl xl.length cpl] 24)) (.cells #[.int .i64 zk, .slice adk xk.length cpk] 24)
    simpa using this
  replace et := et.nw nW
  replace ec := ec.nw nW
  replace el := el.nw nW
  replace ek := ek.nw nW
  unfold whoV labV
  go_enter Try.func11, Try.ntmps11
  go_upto_region 1 with fail
  rw [← hW.out]
  clear hW
  generalize w.heap.size = N at *
  have g0 : W.cell? ⟨N, 0, none⟩ = some (.int .i64 zt) := cell_blk ht rfl
  have g1 : W.cell? ⟨N, 1, none⟩ = some (.slice adt xt.length cpt) := cell_blk ht rfl
  have g2 : W.cell? ⟨N, 2, none⟩ = some (.int .i64 zc) := cell_blk ht rfl
  have g3 : W.cell? ⟨N, 3, none⟩ = some (.slice adc xc.length cpc) := cell_blk ht rfl
  have g4 : W.cell? ⟨N + 1, 0, none⟩ = some (.int .i64 zl) := cell_blk hl rfl
  have g5 : W.cell? ⟨N + 1, 1, none⟩ = some (.slice adl xl.length cpl) := cell_blk hl rfl
  have g6 : W.cell? ⟨N + 1 + 1, 0, none⟩ = some (.int .i64 zk) := cell_blk hk rfl
  have g7 : W.cell? ⟨N + 1 + 1, 1, none⟩ = some (.slice adk xk.length cpk) := cell_blk hk rfl
  have hcon : Hid _ := c_right zl W el (by omega)
  unfold RgtP at hcon
  unfold labV at hcon
  go_wp2_with (go_at_call 8; refine Calls.mono hcon.out ?_; rintro e wk0 ⟨r, rfl, q1, qn⟩; refine stop_here ?_)
  unfold Hid
  have m0 := qn
  replace et := et.nw qn
  replace ec := ec.nw qn
  replace el := el.nw qn
  replace ek := ek.nw qn
  cases r with
  | true =>
    have s1 : Hid _ := q1.1 rfl
    clear hcon g0 g1 g2 g3 g4 g5 g6 g7 q1
    have g0 : wk0.cell? ⟨N, 0, none⟩ = some (.int .i64 zt) := cell_blk ((m0.block _ (heap_lt ht) (fun h => h)).trans ht) rfl
    have g1 : wk0.cell? ⟨N, 1, none⟩ = some (.slice adt xt.length cpt) := cell_blk ((m0.block _ (heap_lt ht) (fun h => h)).trans ht) rfl
    have g2 : wk0.cell? ⟨N, 2, none⟩ = some (.int .i64 zc) := cell_blk ((m0.block _ (heap_lt ht) (fun h => h)).trans ht) rfl
    have g3 : wk0.cell? ⟨N, 3, none⟩ = some (.slice adc xc.length cpc) := cell_blk ((m0.block _ (heap_lt ht) (fun h => h)).trans ht) rfl
    have g4 : wk0.cell? ⟨N + 1, 0, none⟩ = some (.int .i64 zl) := cell_blk ((m0.block _ (heap_lt hl) (fun h => h)).trans hl) rfl
    have g5 : wk0.cell? ⟨N + 1, 1, none⟩ = some (.slice adl xl.length cpl) := cell_blk ((m0.block _ (heap_lt hl) (fun h => h)).trans hl) rfl
    have g6 : wk0.cell? ⟨N + 1 + 1, 0, none⟩ = some (.int .i64 zk) := cell_blk ((m0.block _ (heap_lt hk) (fun h => h)).trans hk) rfl
    have g7 : wk0.cell? ⟨N + 1 + 1, 1, none⟩ = some (.slice adk xk.length cpk) := cell_blk ((m0.block _ (heap_lt hk) (fun h => h)).trans hk) rfl
    have hcon : Hid _ := c_rap zk wk0 ek (by omega)
    unfold labV at hcon
    go_wp2_with (go_at_call 17; refine Calls.mono hcon.out ?_; rintro e wk1 ⟨r, rfl, q1, qn⟩; refine stop_here ?_)
    unfold Hid
    have m1 := nw_trans m0 qn
    replace et := et.nw qn
    replace ec := ec.nw qn
    replace el := el.nw qn
    replace ek := ek.nw qn
    cases r with
    | true =>
      have s4 : Hid _ := q1.1 rfl
      clear hcon g0 g1 g2 g3 g4 g5 g6 g7 q1
      have g0 : wk1.cell? ⟨N, 0, none⟩ = some (.int .i64 zt) := cell_blk ((m1.block _ (heap_lt ht) (fun h => h)).trans ht) rfl
      have g1 : wk1.cell? ⟨N, 1, none⟩ = some (.slice adt xt.length cpt) := cell_blk ((m1.block _ (heap_lt ht) (fun h => h)).trans ht) rfl
      have g2 : wk1.cell? ⟨N, 2, none⟩ = some (.int .i64 zc) := cell_blk ((m1.block _ (heap_lt ht) (fun h => h)).trans ht) rfl
      have g3 : wk1.cell? ⟨N, 3, none⟩ = some (.slice adc xc.length cpc) := cell_blk ((m1.block _ (heap_lt ht) (fun h => h)).trans ht) rfl
      have g4 : wk1.cell? ⟨N + 1, 0, none⟩ = some (.int .i64 zl) := cell_blk ((m1.block _ (heap_lt hl) (fun h => h)).trans hl) rfl
      have g5 : wk1.cell? ⟨N + 1, 1, none⟩ = some (.slice adl xl.length cpl) := cell_blk ((m1.block _ (heap_lt hl) (fun h => h)).trans hl) rfl
      have g6 : wk1.cell? ⟨N + 1 + 1, 0, none⟩ = some (.int .i64 zk) := cell_blk ((m1.block _ (heap_lt hk) (fun h => h)).trans hk) rfl
      have g7 : wk1.cell? ⟨N + 1 + 1, 1, none⟩ = some (.slice adk xk.length cpk) := cell_blk ((m1.block _ (heap_lt hk) (fun h => h)).trans hk) rfl
      have hcon : Hid _ := c_between zt zl zk wk1 et el ek (by omega) (by omega) (by omega)
      unfold labV at hcon
      go_wp2_with (go_at_call 19; refine Calls.mono hcon.out ?_; rintro e wk2 ⟨r, rfl, q1, qn⟩; refine stop_here ?_)
      unfold Hid
      have m2 := nw_trans m1 qn
      replace et := et.nw qn
      replace ec := ec.nw qn
      replace el := el.nw qn
      replace ek := ek.nw qn
      cases r with
      | true =>
        have s11 : Hid _ := q1.1 rfl
        clear hcon g0 g1 g2 g3 g4 g5 g6 g7 q1
        have g0 : wk2.cell? ⟨N, 0, none⟩ = some (.int .i64 zt) := cell_blk ((m2.block _ (heap_lt ht) (fun h => h)).trans ht) rfl
        have g1 : wk2.cell? ⟨N, 1, none⟩ = some (.slice adt xt.length cpt) := cell_blk ((m2.block _ (heap_lt ht) (fun h => h)).trans ht) rfl
        have g2 : wk2.cell? ⟨N, 2, none⟩ = some (.int .i64 zc) := cell_blk ((m2.block _ (heap_lt ht) (fun h => h)).trans ht) rfl
        have g3 : wk2.cell? ⟨N, 3, none⟩ = some (.slice adc xc.length cpc) := cell_blk ((m2.block _ (heap_lt ht) (fun h => h)).trans ht) rfl
        have g4 : wk2.cell? ⟨N + 1, 0, none⟩ = some (.int .i64 zl) := cell_blk ((m2.block _ (heap_lt hl) (fun h => h)).trans hl) rfl
        have g5 : wk2.cell? ⟨N + 1, 1, none⟩ = some (.slice adl xl.length cpl) := cell_blk ((m2.block _ (heap_lt hl) (fun h => h)).trans hl) rfl
        have g6 : wk2.cell? ⟨N + 1 + 1, 0, none⟩ = some (.int .i64 zk) := cell_blk ((m2.block _ (heap_lt hk) (fun h => h)).trans hk) rfl
        have g7 : wk2.cell? ⟨N + 1 + 1, 1, none⟩ = some (.slice adk xk.length cpk) := cell_blk ((m2.block _ (heap_lt hk) (fun h => h)).trans hk) rfl
        have hcon : Hid _ := c_leq2 zk zc wk2 ek ec (by omega) (by omega)
        unfold labV at hcon
        go_wp2_with (go_at_call 18; refine Calls.mono hcon.out ?_; rintro e wk3 ⟨r, rfl, q1, qn⟩; refine stop_here ?_)
        unfold Hid
        have m3 := nw_trans m2 qn
        replace et := et.nw qn
        replace ec := ec.nw qn
        replace el := el.nw qn
        replace ek := ek.nw qn
        cases r with
        | true =>
          have s17 : Hid _ := q1.1 rfl
          clear hcon g0 g1 g2 g3 g4 g5 g6 g7 q1
          have g0 : wk3.cell? ⟨N, 0, none⟩ = some (.int .i64 zt) := cell_blk ((m3.block _ (heap_lt ht) (fun h => h)).trans ht) rfl
          have g1 : wk3.cell? ⟨N, 1, none⟩ = some (.slice adt xt.length cpt) := cell_blk ((m3.block _ (heap_lt ht) (fun h => h)).trans ht) rfl
          have g2 : wk3.cell? ⟨N, 2, none⟩ = some (.int .i64 zc) := cell_blk ((m3.block _ (heap_lt ht) (fun h => h)).trans ht) rfl
          have g3 : wk3.cell? ⟨N, 3, none⟩ = some (.slice adc xc.length cpc) := cell_blk ((m3.block _ (heap_lt ht) (fun h => h)).trans ht) rfl
          have g4 : wk3.cell? ⟨N + 1, 0, none⟩ = some (.int .i64 zl) := cell_blk ((m3.block _ (heap_lt hl) (fun h => h)).trans hl) rfl
          have g5 : wk3.cell? ⟨N + 1, 1, none⟩ = some (.slice adl xl.length cpl) := cell_blk ((m3.block _ (heap_lt hl) (fun h => h)).trans hl) rfl
          have g6 : wk3.cell? ⟨N + 1 + 1, 0, none⟩ = some (.int .i64 zk) := cell_blk ((m3.block _ (heap_lt hk) (fun h => h)).trans hk) rfl
          have g7 : wk3.cell? ⟨N + 1 + 1, 1, none⟩ = some (.slice adk xk.length cpk) := cell_blk ((m3.block _ (heap_lt hk) (fun h => h)).trans hk) rfl
          have hfin := nw_trans nW m3
          have hP : Hid (Rgt zl xl ∧ Rgt zk xk ∧ Pu zk xk ∧ leL (lev zt xt) (lev zl xl) ∧ leL (lev zl xl) (lev zk xk) ∧ leL (lev zk xk) (lev zc xc)) := ⟨s1.out, s4.out.1, s4.out.2, s11.out.1, s11.out.2, s17.out⟩
          go_wp2
          go_ret
          exact ans_yes hP.out hfin
        | false =>
          have s17 : Hid _ := not_of_false q1
          clear hcon g0 g1 g2 g3 g4 g5 g6 g7 q1
          have g0 : wk3.cell? ⟨N, 0, none⟩ = some (.int .i64 zt) := cell_blk ((m3.block _ (heap_lt ht) (fun h => h)).trans ht) rfl
          have g1 : wk3.cell? ⟨N, 1, none⟩ = some (.slice adt xt.length cpt) := cell_blk ((m3.block _ (heap_lt ht) (fun h => h)).trans ht) rfl
          have g2 : wk3.cell? ⟨N, 2, none⟩ = some (.int .i64 zc) := cell_blk ((m3.block _ (heap_lt ht) (fun h => h)).trans ht) rfl
          have g3 : wk3.cell? ⟨N, 3, none⟩ = some (.slice adc xc.length cpc) := cell_blk ((m3.block _ (heap_lt ht) (fun h => h)).trans ht) rfl
          have g4 : wk3.cell? ⟨N + 1, 0, none⟩ = some (.int .i64 zl) := cell_blk ((m3.block _ (heap_lt hl) (fun h => h)).trans hl) rfl
          have g5 : wk3.cell? ⟨N + 1, 1, none⟩ = some (.slice adl xl.length cpl) := cell_blk ((m3.block _ (heap_lt hl) (fun h => h)).trans hl) rfl
          have g6 : wk3.cell? ⟨N + 1 + 1, 0, none⟩ = some (.int .i64 zk) := cell_blk ((m3.block _ (heap_lt hk) (fun h => h)).trans hk) rfl
          have g7 : wk3.cell? ⟨N + 1 + 1, 1, none⟩ = some (.slice adk xk.length cpk) := cell_blk ((m3.block _ (heap_lt hk) (fun h => h)).trans hk) rfl
          have hfin := nw_trans nW m3
          have hP : Hid (¬ (Rgt zl xl ∧ Rgt zk xk ∧ Pu zk xk ∧ leL (lev zt xt) (lev zl xl) ∧ leL (lev zl xl) (lev zk xk) ∧ leL (lev zk xk) (lev zc xc))) := fun h => s17.out (h.2.2.2.2.2)
          go_wp2
          go_ret
          exact ans_no hP.out hfin
      | false =>
        have s11 : Hid _ := not_of_false q1
        clear hcon g0 g1 g2 g3 g4 g5 g6 g7 q1
        have g0 : wk2.cell? ⟨N, 0, none⟩ = some (.int .i64 zt) := cell_blk ((m2.block _ (heap_lt ht) (fun h => h)).trans ht) rfl
        have g1 : wk2.cell? ⟨N, 1, none⟩ = some (.slice adt xt.length cpt) := cell_blk ((m2.block _ (heap_lt ht) (fun h => h)).trans ht) rfl
        have g2 : wk2.cell? ⟨N, 2, none⟩ = some (.int .i64 zc) := cell_blk ((m2.block _ (heap_lt ht) (fun h => h)).trans ht) rfl
        have g3 : wk2.cell? ⟨N, 3, none⟩ = some (.slice adc xc.length cpc) := cell_blk ((m2.block _ (heap_lt ht) (fun h => h)).trans ht) rfl
        have g4 : wk2.cell? ⟨N + 1, 0, none⟩ = some (.int .i64 zl) := cell_blk ((m2.block _ (heap_lt hl) (fun h => h)).trans hl) rfl
        have g5 : wk2.cell? ⟨N + 1, 1, none⟩ = some (.slice adl xl.length cpl) := cell_blk ((m2.block _ (heap_lt hl) (fun h => h)).trans hl) rfl
        have g6 : wk2.cell? ⟨N + 1 + 1, 0, none⟩ = some (.int .i64 zk) := cell_blk ((m2.block _ (heap_lt hk) (fun h => h)).trans hk) rfl
        have g7 : wk2.cell? ⟨N + 1 + 1, 1, none⟩ = some (.slice adk xk.length cpk) := cell_blk ((m2.block _ (heap_lt hk) (fun h => h)).trans hk) rfl
        have hfin := nw_trans nW m2
        have hP : Hid (¬ (Rgt zl xl ∧ Rgt zk xk ∧ Pu zk xk ∧ leL (lev zt xt) (lev zl xl) ∧ leL (lev zl xl) (lev zk xk) ∧ leL (lev zk xk) (lev zc xc))) := fun h => s11.out (⟨h.2.2.2.1, h.2.2.2.2.1⟩)
        go_wp2
        go_ret
        exact ans_no hP.out hfin
    | false =>
      have s4 : Hid _ := not_of_false q1
      clear hcon g0 g1 g2 g3 g4 g5 g6 g7 q1
      have g0 : wk1.cell? ⟨N, 0, none⟩ = some (.int .i64 zt) := cell_blk ((m1.block _ (heap_lt ht) (fun h => h)).trans ht) rfl
      have g1 : wk1.cell? ⟨N, 1, none⟩ = some (.slice adt xt.length cpt) := cell_blk ((m1.block _ (heap_lt ht) (fun h => h)).trans ht) rfl
      have g2 : wk1.cell? ⟨N, 2, none⟩ = some (.int .i64 zc) := cell_blk ((m1.block _ (heap_lt ht) (fun h => h)).trans ht) rfl
      have g3 : wk1.cell? ⟨N, 3, none⟩ = some (.slice adc xc.length cpc) := cell_blk ((m1.block _ (heap_lt ht) (fun h => h)).trans ht) rfl
      have g4 : wk1.cell? ⟨N + 1, 0, none⟩ = some (.int .i64 zl) := cell_blk ((m1.block _ (heap_lt hl) (fun h => h)).trans hl) rfl
      have g5 : wk1.cell? ⟨N + 1, 1, none⟩ = some (.slice adl xl.length cpl) := cell_blk ((m1.block _ (heap_lt hl) (fun h => h)).trans hl) rfl
      have g6 : wk1.cell? ⟨N + 1 + 1, 0, none⟩ = some (.int .i64 zk) := cell_blk ((m1.block _ (heap_lt hk) (fun h => h)).trans hk) rfl
      have g7 : wk1.cell? ⟨N + 1 + 1, 1, none⟩ = some (.slice adk xk.length cpk) := cell_blk ((m1.block _ (heap_lt hk) (fun h => h)).trans hk) rfl
      have hfin := nw_trans nW m1
      have hP : Hid (¬ (Rgt zl xl ∧ Rgt zk xk ∧ Pu zk xk ∧ leL (lev zt xt) (lev zl xl) ∧ leL (lev zl xl) (lev zk xk) ∧ leL (lev zk xk) (lev zc xc))) := fun h => s4.out (⟨h.2.1, h.2.2.1⟩)
      go_wp2
      go_ret
      exact ans_no hP.out hfin
  | false =>
    have s1 : Hid _ := not_of_false q1
    clear hcon g0 g1 g2 g3 g4 g5 g6 g7 q1
    have g0 : wk0.cell? ⟨N, 0, none⟩ = some (.int .i64 zt) := cell_blk ((m0.block _ (heap_lt ht) (fun h => h)).trans ht) rfl
    have g1 : wk0.cell? ⟨N, 1, none⟩ = some (.slice adt xt.length cpt) := cell_blk ((m0.block _ (heap_lt ht) (fun h => h)).trans ht) rfl
    have g2 : wk0.cell? ⟨N, 2, none⟩ = some (.int .i64 zc) := cell_blk ((m0.block _ (heap_lt ht) (fun h => h)).trans ht) rfl
    have g3 : wk0.cell? ⟨N, 3, none⟩ = some (.slice adc xc.length cpc) := cell_blk ((m0.block _ (heap_lt ht) (fun h => h)).trans ht) rfl
    have g4 : wk0.cell? ⟨N + 1, 0, none⟩ = some (.int .i64 zl) := cell_blk ((m0.block _ (heap_lt hl) (fun h => h)).trans hl) rfl
    have g5 : wk0.cell? ⟨N + 1, 1, none⟩ = some (.slice adl xl.length cpl) := cell_blk ((m0.block _ (heap_lt hl) (fun h => h)).trans hl) rfl
    have g6 : wk0.cell? ⟨N + 1 + 1, 0, none⟩ = some (.int .i64 zk) := cell_blk ((m0.block _ (heap_lt hk) (fun h => h)).trans hk) rfl
    have g7 : wk0.cell? ⟨N + 1 + 1, 1, none⟩ = some (.slice adk xk.length cpk) := cell_blk ((m0.block _ (heap_lt hk) (fun h => h)).trans hk) rfl
    have hfin := nw_trans nW m0
    have hP : Hid (¬ (Rgt zl xl ∧ Rgt zk xk ∧ Pu zk xk ∧ leL (lev zt xt) (lev zl xl) ∧ leL (lev zl xl) (lev zk xk) ∧ leL (lev zk xk) (lev zc xc))) := fun h => s1.out (h.1)
    go_wp2
    go_ret
    exact ans_no hP.out hfin

set_option maxRecDepth 20000 in
set_option maxHeartbeats 3200000 in
theorem c_ftaints {Xt Xc Xl : Nat → Prop} {ut uc ul : Value} {xt xc xl : List Cat} (zt zc zl : Int) (w : World) (et : CSl Xt w ut xt) (ec : CSl Xc w uc xc) (el : CSl Xl w ul xl) (lt : xt.length ≤ 8796093021952) (lc : xc.length ≤ 8796093021952) (ll : xl.length ≤ 8796093021952) :
    Calls Try.prog 10 #[whoV zt ut zc uc, labV zl ul] w (AnsP (Rgt zl xl ∧ leL (lev zt xt) (lev zl xl) ∧ leL (lev zl xl) (lev zc xc)) w) := by
  obtain ⟨adt, cpt, rfl, _, _⟩ := et.form
  obtain ⟨adc, cpc, rfl, _, _⟩ := ec.form
  obtain ⟨adl, cpl, rfl, _, _⟩ := el.form
  obtain ⟨W, hW⟩ : ∃ W, Hid (W = ((w.alloc (.cells #[.int .i64 zt, .slice adt xt.length cpt, .int .i64 zc, .slice adc xc.length cpc] 26)).alloc (.cells #[.int .i64 zl, .slice adl xl.length cpl] 24))) := ⟨_, rfl⟩
  have nW : Nw w W := by rw [hW.out]; exact nw_alloc (nw_alloc (nw_refl w) _) _
  have ht : W.heap[w.heap.size]? = some (.cells #[.int .i64 zt, .slice adt xt.length cpt, .int .i64 zc, .slice adc xc.length cpc] 26 (0, 0)) := by
    rw [hW.out, Below.heap_alloc _ _ _ (by simp; try omega)]
    have := heap_alloc_new w (.cells #[.int .i64 zt, .slice adt xt.length cpt, .int .i64 zc, .slice adc xc.length cpc] 26)
    simpa using this
  have hl : W.heap[w.heap.size + 1]? = some (.cells #[.int .i64 zl, .slice adl xl.length cpl] 24 (0, 0)) := by
    rw [hW.out]
    have := heap_alloc_new (w.alloc (.cells #[.int .i64 zt, .slice adt xt.length cpt, .int .i64 zc, .slice adc xc.length cpc] 26)) (.cells #[.int .i64 zl, .slice adl xl.length cpl] 24)
    simpa using this
  replace et := et.nw nW
  replace ec := ec.nw nW
  replace el := el.nw nW
  unfold whoV labV
  go_enter Try.func10, Try.ntmps10
  go_upto_region 1 with fail
  rw [← hW.out]
  clear hW
  generalize w.heap.size = N at *
  have g0 : W.cell? ⟨N, 0, none⟩ = some (.int .i64 zt) := cell_blk ht rfl
  have g1 : W.cell? ⟨N, 1, none⟩ = some (.slice adt xt.length cpt) := cell_blk ht rfl
  have g2 : W.cell? ⟨N, 2, none⟩ = some (.int .i64 zc) := cell_blk ht rfl
  have g3 : W.cell? ⟨N, 3, none⟩ = some (.slice adc xc.length cpc) := cell_blk ht rfl
  have g4 : W.cell? ⟨N + 1, 0, none⟩ = some (.int .i64 zl) := cell_blk hl rfl
  have g5 : W.cell? ⟨N + 1, 1, none⟩ = some (.slice adl xl.length cpl) := cell_blk hl rfl
  have hcon : Hid _ := c_right zl W el (by omega)
  unfold RgtP at hcon
  unfold labV at hcon
  go_wp2_with (go_at_call 8; refine Calls.mono hcon.out ?_; rintro e wk0 ⟨r, rfl, q1, qn⟩; refine stop_here ?_)
  unfold Hid
  have m0 := qn
  replace et := et.nw qn
  replace ec := ec.nw qn
  replace el := el.nw qn
  cases r with
  | true =>
    have s1 : Hid _ := q1.1 rfl
    clear hcon g0 g1 g2 g3 g4 g5 q1
    have g0 : wk0.cell? ⟨N, 0, none⟩ = some (.int .i64 zt) := cell_blk ((m0.block _ (heap_lt ht) (fun h => h)).trans ht) rfl
    have g1 : wk0.cell? ⟨N, 1, none⟩ = some (.slice adt xt.length cpt) := cell_blk ((m0.block _ (heap_lt ht) (fun h => h)).trans ht) rfl
    have g2 : wk0.cell? ⟨N, 2, none⟩ = some (.int .i64 zc) := cell_blk ((m0.block _ (heap_lt ht) (fun h => h)).trans ht) rfl
    have g3 : wk0.cell? ⟨N, 3, none⟩ = some (.slice adc xc.length cpc) := cell_blk ((m0.block _ (heap_lt ht) (fun h => h)).trans ht) rfl
    have g4 : wk0.cell? ⟨N + 1, 0, none⟩ = some (.int .i64 zl) := cell_blk ((m0.block _ (heap_lt hl) (fun h => h)).trans hl) rfl
    have g5 : wk0.cell? ⟨N + 1, 1, none⟩ = some (.slice adl xl.length cpl) := cell_blk ((m0.block _ (heap_lt hl) (fun h => h)).trans hl) rfl
    have hcon : Hid _ := c_between zt zl zc wk0 et el ec (by omega) (by omega) (by omega)
    unfold labV at hcon
    go_wp2_with (go_at_call 19; refine Calls.mono hcon.out ?_; rintro e wk1 ⟨r, rfl, q1, qn⟩; refine stop_here ?_)
    unfold Hid
    have m1 := nw_trans m0 qn
    replace et := et.nw qn
    replace ec := ec.nw qn
    replace el := el.nw qn
    cases r with
    | true =>
      have s8 : Hid _ := q1.1 rfl
      clear hcon g0 g1 g2 g3 g4 g5 q1
      have g0 : wk1.cell? ⟨N, 0, none⟩ = some (.int .i64 zt) := cell_blk ((m1.block _ (heap_lt ht) (fun h => h)).trans ht) rfl
      have g1 : wk1.cell? ⟨N, 1, none⟩ = some (.slice adt xt.length cpt) := cell_blk ((m1.block _ (heap_lt ht) (fun h => h)).trans ht) rfl
      have g2 : wk1.cell? ⟨N, 2, none⟩ = some (.int .i64 zc) := cell_blk ((m1.block _ (heap_lt ht) (fun h => h)).trans ht) rfl
      have g3 : wk1.cell? ⟨N, 3, none⟩ = some (.slice adc xc.length cpc) := cell_blk ((m1.block _ (heap_lt ht) (fun h => h)).trans ht) rfl
      have g4 : wk1.cell? ⟨N + 1, 0, none⟩ = some (.int .i64 zl) := cell_blk ((m1.block _ (heap_lt hl) (fun h => h)).trans hl) rfl
      have g5 : wk1.cell? ⟨N + 1, 1, none⟩ = some (.slice adl xl.length cpl) := cell_blk ((m1.block _ (heap_lt hl) (fun h => h)).trans hl) rfl
      have hfin := nw_trans nW m1
      have hP : Hid (Rgt zl xl ∧ leL (lev zt xt) (lev zl xl) ∧ leL (lev zl xl) (lev zc xc)) := ⟨s1.out, s8.out⟩
      go_wp2
      go_ret
      exact ans_yes hP.out hfin
    | false =>
      have s8 : Hid _ := not_of_false q1
      clear hcon g0 g1 g2 g3 g4 g5 q1
      have g0 : wk1.cell? ⟨N, 0, none⟩ = some (.int .i64 zt) := cell_blk ((m1.block _ (heap_lt ht) (fun h => h)).trans ht) rfl
      have g1 : wk1.cell? ⟨N, 1, none⟩ = some (.slice adt xt.length cpt) := cell_blk ((m1.block _ (heap_lt ht) (fun h => h)).trans ht) rfl
      have g2 : wk1.cell? ⟨N, 2, none⟩ = some (.int .i64 zc) := cell_blk ((m1.block _ (heap_lt ht) (fun h => h)).trans ht) rfl
      have g3 : wk1.cell? ⟨N, 3, none⟩ = some (.slice adc xc.length cpc) := cell_blk ((m1.block _ (heap_lt ht) (fun h => h)).trans ht) rfl
      have g4 : wk1.cell? ⟨N + 1, 0, none⟩ = some (.int .i64 zl) := cell_blk ((m1.block _ (heap_lt hl) (fun h => h)).trans hl) rfl
      have g5 : wk1.cell? ⟨N + 1, 1, none⟩ = some (.slice adl xl.length cpl) := cell_blk ((m1.block _ (heap_lt hl) (fun h => h)).trans hl) rfl
      have hfin := nw_trans nW m1
      have hP : Hid (¬ (Rgt zl xl ∧ leL (lev zt xt) (lev zl xl) ∧ leL (lev zl xl) (lev zc xc))) := fun h => s8.out (h.2)
      go_wp2
      go_ret
      exact ans_no hP.out hfin
  | false =>
    have s1 : Hid _ := not_of_false q1
    clear hcon g0 g1 g2 g3 g4 g5 q1
    have g0 : wk0.cell? ⟨N, 0, none⟩ = some (.int .i64 zt) := cell_blk ((m0.block _ (heap_lt ht) (fun h => h)).trans ht) rfl
    have g1 : wk0.cell? ⟨N, 1, none⟩ = some (.slice adt xt.length cpt) := cell_blk ((m0.block _ (heap_lt ht) (fun h => h)).trans ht) rfl
    have g2 : wk0.cell? ⟨N, 2, none⟩ = some (.int .i64 zc) := cell_blk ((m0.block _ (heap_lt ht) (fun h => h)).trans ht) rfl
    have g3 : wk0.cell? ⟨N, 3, none⟩ = some (.slice adc xc.length cpc) := cell_blk ((m0.block _ (heap_lt ht) (fun h => h)).trans ht) rfl
    have g4 : wk0.cell? ⟨N + 1, 0, none⟩ = some (.int .i64 zl) := cell_blk ((m0.block _ (heap_lt hl) (fun h => h)).trans hl) rfl
    have g5 : wk0.cell? ⟨N + 1, 1, none⟩ = some (.slice adl xl.length cpl) := cell_blk ((m0.block _ (heap_lt hl) (fun h => h)).trans hl) rfl
    have hfin := nw_trans nW m0
    have hP : Hid (¬ (Rgt zl xl ∧ leL (lev zt xt) (lev zl xl) ∧ leL (lev zl xl) (lev zc xc))) := fun h => s1.out (h.1)
    go_wp2
    go_ret
    exact ans_no hP.out hfin

end Go.Proofs.Ytimgelekpghklaa
