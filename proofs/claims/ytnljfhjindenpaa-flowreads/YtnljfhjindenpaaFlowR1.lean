/-
  The document's flow: who may read, write and make what.
-/
import Derived.Test.YtnljfhjindenpaaFlowW1
import Derived.Test.YtnljfhjindenpaaLabR4
import Derived.Test.YtnljfhjindenpaaLabR8
namespace Go.Proofs.Ytnljfhjindenpaa
set_option linter.unusedVariables false
set_option linter.unusedSimpArgs false
set_option maxRecDepth 20000
open Go.RowKit

theorem c_rleq2 {X Y : Nat → Prop} {va vb : Value} {xa xb : List Cat} (da db : Int) (w : World) (ha : CSl X w va xa) (hb : CSl Y w vb xb) (hl : xa.length + xb.length ≤ 17592186044416) :
    Calls Try.prog 53 #[labV da va, labV db vb] w (AnsP (leL (lev da xa) (lev db xb)) w) := c_rleq da db w ha hb hl

set_option maxHeartbeats 1600000 in
theorem c_rraise {X : Nat → Prop} {v : Value} {xs : List Cat} (d : Int) (w : World) (h : CSl X w v xs) (hl : xs.length ≤ 8796093022208) :
    Calls Try.prog 54 #[labV d v] w (MadeL w (tn 0 5 d) (fun id => tn 0 5 (lev d xs id)) xs.length) := by
  obtain ⟨ao, cap, rfl, ha1, ha2⟩ := h.form
  have hA : ((w.alloc (.cells #[.int .i64 d, .slice ao xs.length cap] 24)).alloc (.cells #[.int .i64 0, .slice none 0 0] 24)).heap[w.heap.size]? = some (.cells #[.int .i64 d, .slice ao xs.length cap] 24 (0, 0)) := heap_alloc2_old w _ _
  have hZ : ((w.alloc (.cells #[.int .i64 d, .slice ao xs.length cap] 24)).alloc (.cells #[.int .i64 0, .slice none 0 0] 24)).heap[w.heap.size + 1]? = some (.cells #[.int .i64 0, .slice none 0 0] 24 (0, 0)) := heap_alloc2_new w _ _
  have hnw : Nw w ((w.alloc (.cells #[.int .i64 d, .slice ao xs.length cap] 24)).alloc (.cells #[.int .i64 0, .slice none 0 0] 24)) := nw_alloc (nw_alloc (nw_refl w) _) _
  have hcon : Hid _ := c_rturn d 0 5 _ (h.nw hnw) hl
  clear h
  unfold labV at *
  go_enter Try.func54, Try.ntmps54
  go_upto_region 1 with fail
  generalize (w.alloc (.cells #[.int .i64 d, .slice ao xs.length cap] 24)).alloc (.cells #[.int .i64 0, .slice none 0 0] 24) = W at *
  have a0 : W.cell? ⟨w.heap.size, 0, none⟩ = some (.int .i64 d) := cell_blk hA rfl
  have a1 : W.cell? ⟨w.heap.size, 1, none⟩ = some (.slice ao xs.length cap) := cell_blk hA rfl
  generalize ht : tn 0 5 d = t at *
  replace ht : Hid _ := ht
  go_wp2_with (go_at_call 16; refine Calls.mono hcon.out ?_; rintro e w2 ⟨u, ys, rfl, q1, q2, q3, q4, q5⟩; refine stop_here ?_)
  unfold Hid labV
  clear hcon a0 a1
  obtain ⟨hans, hrr, z0, z1, zf⟩ := store_made (B := w.heap.size + 1) hnw hZ (Nat.le_refl _) (by omega) q1 q2 q3 q4 q5
  obtain ⟨ua, uc, rfl, _, _⟩ := q1.form
  replace hans : Hid _ := hans
  clear q1 q2 q3 q4 q5 hZ hnw hA
  go_wp2
  refine bodyPost_ret (results_cell1 rfl _ (w.heap.size + 1) _ _ rfl rfl hrr Try.rowL Try.sizeL) rfl ?_
  have ht := ht.out
  subst ht
  exact hans.out

set_option maxHeartbeats 3200000 in
theorem c_rpure {X : Nat → Prop} {v : Value} {xs : List Cat} (d : Int) (w : World) (h : CSl X w v xs) :
    Calls Try.prog 58 #[labV d v] w (AnsP (Pu d xs) w) := by
  obtain ⟨ao, cap, rfl, ha1, ha2⟩ := h.form
  have hA : (w.alloc (.cells #[.int .i64 d, .slice ao xs.length cap] 24)).heap[w.heap.size]? = some (.cells #[.int .i64 d, .slice ao xs.length cap] 24 (0, 0)) := heap_alloc_new w _
  have nW : Nw w (w.alloc (.cells #[.int .i64 d, .slice ao xs.length cap] 24)) := nw_alloc (nw_refl w) _
  replace h := h.nw nW
  unfold labV
  go_enter Try.func58, Try.ntmps58
  go_upto_region 1 with fail
  generalize w.alloc (.cells #[.int .i64 d, .slice ao xs.length cap] 24) = W at *
  have a0 : W.cell? ⟨w.heap.size, 0, none⟩ = some (.int .i64 d) := cell_blk hA rfl
  have a1 : W.cell? ⟨w.heap.size, 1, none⟩ = some (.slice ao xs.length cap) := cell_blk hA rfl
  by_cases hd : d = 0
  · have hb : (d == 0) = true := by simp [hd]
    have hP : Hid (¬ Pu d xs) := fun h => h.1 hd
    clear hd
    go_wp2
    go_ret
    exact ans_no hP.out nW
  · have hb : (d == 0) = false := by simp [hd]
    have hd : Hid (d ≠ 0) := hd
    go_wp2
    clear a0 a1 hb
    go_loopw [11] (fun kv wr => ∃ k : Nat, k ≤ xs.length ∧ kv = .int .i64 k ∧ Hid (∀ i (h : i < xs.length), i < k → xs[i].2 ≠ 0) ∧ Nw W wr) (fun kv _ => xs.length - (intOf kv).toNat)
    case atStart => exact ⟨0, Nat.zero_le _, rfl, fun i _ h => by omega, nw_refl _⟩
    case round =>
      obtain ⟨k, hk, rfl, hall, hw⟩ := hrel
      by_cases hlt : k < xs.length
      · obtain ⟨q, off, rfl, _, d1, d2⟩ := (h.nw hw).get k hlt
        have hbad : Hid (xs[k].2 = 0 → ¬ Pu d xs) := fun h1 h2 => h2.2 k hlt h1
        have hgood : Hid (xs[k].2 ≠ 0 → ∀ i (h : i < xs.length), i < k + 1 → xs[i].2 ≠ 0) := fun h1 i hi hik => by
          by_cases e : i = k
          · subst e; exact h1
          · exact hall.out i hi (by omega)
        generalize xs[k] = c at *
        have hnA : Hid (∀ o, Nw w (wr.alloc o) ∧ Nw W (wr.alloc o)) := fun o => ⟨nw_alloc (nw_trans nW hw) o, nw_alloc hw o⟩
        clear hall
        by_cases c1 : c.2 = 0
        · have hno : Hid _ := hbad.out c1
          have hb : (c.2 == 0) = true := by simp [c1]
          clear hbad hgood c1
          go_wp2
          go_ret
          exact ans_no hno.out (hnA.out _).1
        · have hyes : Hid _ := hgood.out c1
          have hb : (c.2 == 0) = false := by simp [c1]
          clear hbad hgood c1
          go_wp2
          go_roundw
          case rel => exact ⟨k + 1, by omega, by go_num, hyes, (hnA.out _).2⟩
          case measure => simp [intOf]; omega
      · have hfin : Hid (Pu d xs) := ⟨hd.out, fun i hi => hall.out i hi (by omega)⟩
        clear hall
        go_wp2
        go_ret
        exact ans_yes hfin.out (nw_trans nW hw)

set_option maxRecDepth 20000 in
set_option maxHeartbeats 3200000 in
theorem c_rreads {Xt Xl : Nat → Prop} {ut ul : Value} {xt xl : List Cat} (zt zl : Int) (w : World) (et : CSl Xt w ut xt) (el : CSl Xl w ul xl) (lt : xt.length ≤ 8796093021952) (ll : xl.length ≤ 8796093021952) :
    Calls Try.prog 26 #[labV zt ut, labV zl ul] w (AnsP (rdL (lev zt xt) (lev zl xl)) w) := by
  obtain ⟨adt, cpt, rfl, _, _⟩ := et.form
  obtain ⟨adl, cpl, rfl, _, _⟩ := el.form
  obtain ⟨W, hW⟩ : ∃ W, Hid (W = ((w.alloc (.cells #[.int .i64 zt, .slice adt xt.length cpt] 24)).alloc (.cells #[.int .i64 zl, .slice adl xl.length cpl] 24))) := ⟨_, rfl⟩
  have nW : Nw w W := by rw [hW.out]; exact nw_alloc (nw_alloc (nw_refl w) _) _
  have ht : W.heap[w.heap.size]? = some (.cells #[.int .i64 zt, .slice adt xt.length cpt] 24 (0, 0)) := by
    rw [hW.out, Below.heap_alloc _ _ _ (by simp; try omega)]
    have := heap_alloc_new w (.cells #[.int .i64 zt, .slice adt xt.length cpt] 24)
    simpa using this
  have hl : W.heap[w.heap.size + 1]? = some (.cells #[.int .i64 zl, .slice adl xl.length cpl] 24 (0, 0)) := by
    rw [hW.out]
    have := heap_alloc_new (w.alloc (.cells #[.int .i64 zt, .slice adt xt.length cpt] 24)) (.cells #[.int .i64 zl, .slice adl xl.length cpl] 24)
    simpa using this
  replace et := et.nw nW
  replace el := el.nw nW
  unfold labV
  go_enter Try.func26, Try.ntmps26
  go_upto_region 1 with fail
  rw [← hW.out]
  clear hW
  generalize w.heap.size = N at *
  have hSof : ∀ w', Nw W w' → (fun w' : World => Nw W w' ∧ w'.cell? ⟨N, 0, none⟩ = some (.int .i64 zt) ∧ w'.cell? ⟨N, 1, none⟩ = some (.slice adt xt.length cpt) ∧ w'.cell? ⟨N + 1, 0, none⟩ = some (.int .i64 zl) ∧ w'.cell? ⟨N + 1, 1, none⟩ = some (.slice adl xl.length cpl)) w' := fun w' hw => ⟨hw, cell_blk ((hw.block _ (heap_lt ht) (fun h => h)).trans ht) rfl, cell_blk ((hw.block _ (heap_lt ht) (fun h => h)).trans ht) rfl, cell_blk ((hw.block _ (heap_lt hl) (fun h => h)).trans hl) rfl, cell_blk ((hw.block _ (heap_lt hl) (fun h => h)).trans hl) rfl⟩
  have hW0 : Nw W W.drew := Fr.drew (Fr.refl _ W)
  have hS := hSof _ hW0
  replace et := et.nw hW0
  replace el := el.nw hW0
  replace hSof : Hid _ := hSof
  refine wp_region_ord [] 4 [(0, true), (1, true), (2, false), (3, false)] (fun w' : World => Nw W w' ∧ w'.cell? ⟨N, 0, none⟩ = some (.int .i64 zt) ∧ w'.cell? ⟨N, 1, none⟩ = some (.slice adt xt.length cpt) ∧ w'.cell? ⟨N + 1, 0, none⟩ = some (.int .i64 zl) ∧ w'.cell? ⟨N + 1, 1, none⟩ = some (.slice adl xl.length cpl)) (by kernel_rfl) (by kernel_rfl) ?_
  refine ord_quietL _ ?_ rfl hS rfl ?_ ?_
  rotate_left
  · rintro w' ⟨hn, h0, h1, h2, h3⟩; go_simp; first | rfl | (rw [if_pos (by omega)]; done) | (rw [if_pos (by omega)]; rfl) | (rw [if_pos (by omega)]; go_simp; rfl)
  simp only [Act.put, List.setIfInBounds_toArray, List.set_cons_zero, List.set_cons_succ]
  refine ord_quietL _ ?_ rfl hS rfl ?_ ?_
  rotate_left
  · rintro w' ⟨hn, h0, h1, h2, h3⟩; go_simp; first | rfl | (rw [if_pos (by omega)]; done) | (rw [if_pos (by omega)]; rfl) | (rw [if_pos (by omega)]; go_simp; rfl)
  simp only [Act.put, List.setIfInBounds_toArray, List.set_cons_zero, List.set_cons_succ]
  refine ord_actL _ rfl (fun K1 hK1 => ?_)
  have hcon : Hid _ := c_rraise zt W.drew et (by omega)
  unfold MadeL labV at hcon
  go_wp2_with (go_at_call 54; refine Calls.mono hcon.out ?_; rintro e wk0 ⟨u3, x3, rfl, q1, q2, q3, q4, qn⟩)
  have m0 := nw_trans hW0 qn
  replace et := et.nw qn
  replace el := el.nw qn
  obtain ⟨a3, c3, rfl, _, _⟩ := q1.form
  have e3 := q1.any
  have g3 : Hid (∀ id, lev (tn 0 5 zt) x3 id = tn 0 5 (lev zt xt id)) := q3
  generalize tn 0 5 zt = z3 at *
  refine hK1 _ _ (hSof.out _ m0) ?_
  clear hK1 K1 hcon qn hS hW0 q1 q2 q3
  have hS := hSof.out _ m0
  refine ord_actL _ rfl (fun K1 hK1 => ?_)
  have hcon : Hid _ := c_rleq2 zl z3 wk0 el e3 (by omega)
  unfold labV at hcon
  go_wp2_with (go_at_call 53; refine Calls.mono hcon.out ?_; rintro e wk1 ⟨r, rfl, q1, qn⟩)
  have m1 := nw_trans m0 qn
  replace et := et.nw qn
  replace el := el.nw qn
  replace e3 := e3.nw qn
  have s : Hid (r = true ↔ rdL (lev zt xt) (lev zl xl)) := q1.trans ⟨fun h id => by have := h id; rw [g3.out] at this; exact this, fun h id => by rw [g3.out]; exact h id⟩
  refine hK1 _ _ (hSof.out _ m1) ?_
  clear hK1 K1 hcon qn hS m0 q1
  have hS := hSof.out _ m1
  refine ord_tail ?_
  simp only [List.drop_succ_cons, List.drop_zero]
  have hfin := nw_trans nW m1
  go_wp2
  go_ret
  exact ⟨r, rfl, s.out, hfin⟩

set_option maxRecDepth 20000 in
set_option maxHeartbeats 3200000 in
theorem c_rwrites {Xt Xl : Nat → Prop} {ut ul : Value} {xt xl : List Cat} (zt zl : Int) (w : World) (et : CSl Xt w ut xt) (el : CSl Xl w ul xl) (lt : xt.length ≤ 8796093021952) (ll : xl.length ≤ 8796093021952) :
    Calls Try.prog 28 #[labV zt ut, labV zl ul] w (AnsP (rdL (lev zt xt) (lev zl xl) ∧ leL (lev zt xt) (lev zl xl)) w) := by
  obtain ⟨adt, cpt, rfl, _, _⟩ := et.form
  obtain ⟨adl, cpl, rfl, _, _⟩ := el.form
  obtain ⟨W, hW⟩ : ∃ W, Hid (W = ((w.alloc (.cells #[.int .i64 zt, .slice adt xt.length cpt] 24)).alloc (.cells #[.int .i64 zl, .slice adl xl.length cpl] 24))) := ⟨_, rfl⟩
  have nW : Nw w W := by rw [hW.out]; exact nw_alloc (nw_alloc (nw_refl w) _) _
  have ht : W.heap[w.heap.size]? = some (.cells #[.int .i64 zt, .slice adt xt.length cpt] 24 (0, 0)) := by
    rw [hW.out, Below.heap_alloc _ _ _ (by simp; try omega)]
    have := heap_alloc_new w (.cells #[.int .i64 zt, .slice adt xt.length cpt] 24)
    simpa using this
  have hl : W.heap[w.heap.size + 1]? = some (.cells #[.int .i64 zl, .slice adl xl.length cpl] 24 (0, 0)) := by
    rw [hW.out]
    have := heap_alloc_new (w.alloc (.cells #[.int .i64 zt, .slice adt xt.length cpt] 24)) (.cells #[.int .i64 zl, .slice adl xl.length cpl] 24)
    simpa using this
  replace et := et.nw nW
  replace el := el.nw nW
  unfold labV
  go_enter Try.func28, Try.ntmps28
  go_upto_region 1 with fail
  rw [← hW.out]
  clear hW
  generalize w.heap.size = N at *
  have g0 : W.cell? ⟨N, 0, none⟩ = some (.int .i64 zt) := cell_blk ht rfl
  have g1 : W.cell? ⟨N, 1, none⟩ = some (.slice adt xt.length cpt) := cell_blk ht rfl
  have g2 : W.cell? ⟨N + 1, 0, none⟩ = some (.int .i64 zl) := cell_blk hl rfl
  have g3 : W.cell? ⟨N + 1, 1, none⟩ = some (.slice adl xl.length cpl) := cell_blk hl rfl
  have hcon : Hid _ := c_rreads zt zl W et el (by omega) (by omega)
  unfold labV at hcon
  go_wp2_with (go_at_call 26; refine Calls.mono hcon.out ?_; rintro e wk0 ⟨r, rfl, q1, qn⟩; refine stop_here ?_)
  unfold Hid
  have m0 := qn
  replace et := et.nw qn
  replace el := el.nw qn
  cases r with
  | true =>
    have s2 : Hid _ := q1.1 rfl
    clear hcon g0 g1 g2 g3 q1
    have g0 : wk0.cell? ⟨N, 0, none⟩ = some (.int .i64 zt) := cell_blk ((m0.block _ (heap_lt ht) (fun h => h)).trans ht) rfl
    have g1 : wk0.cell? ⟨N, 1, none⟩ = some (.slice adt xt.length cpt) := cell_blk ((m0.block _ (heap_lt ht) (fun h => h)).trans ht) rfl
    have g2 : wk0.cell? ⟨N + 1, 0, none⟩ = some (.int .i64 zl) := cell_blk ((m0.block _ (heap_lt hl) (fun h => h)).trans hl) rfl
    have g3 : wk0.cell? ⟨N + 1, 1, none⟩ = some (.slice adl xl.length cpl) := cell_blk ((m0.block _ (heap_lt hl) (fun h => h)).trans hl) rfl
    have hcon : Hid _ := c_rleq2 zt zl wk0 et el (by omega)
    unfold labV at hcon
    go_wp2_with (go_at_call 53; refine Calls.mono hcon.out ?_; rintro e wk1 ⟨r, rfl, q1, qn⟩; refine stop_here ?_)
    unfold Hid
    have m1 := nw_trans m0 qn
    replace et := et.nw qn
    replace el := el.nw qn
    cases r with
    | true =>
      have s6 : Hid _ := q1.1 rfl
      clear hcon g0 g1 g2 g3 q1
      have g0 : wk1.cell? ⟨N, 0, none⟩ = some (.int .i64 zt) := cell_blk ((m1.block _ (heap_lt ht) (fun h => h)).trans ht) rfl
      have g1 : wk1.cell? ⟨N, 1, none⟩ = some (.slice adt xt.length cpt) := cell_blk ((m1.block _ (heap_lt ht) (fun h => h)).trans ht) rfl
      have g2 : wk1.cell? ⟨N + 1, 0, none⟩ = some (.int .i64 zl) := cell_blk ((m1.block _ (heap_lt hl) (fun h => h)).trans hl) rfl
      have g3 : wk1.cell? ⟨N + 1, 1, none⟩ = some (.slice adl xl.length cpl) := cell_blk ((m1.block _ (heap_lt hl) (fun h => h)).trans hl) rfl
      have hfin := nw_trans nW m1
      have hP : Hid (rdL (lev zt xt) (lev zl xl) ∧ leL (lev zt xt) (lev zl xl)) := ⟨s2.out, s6.out⟩
      go_wp2
      go_ret
      exact ans_yes hP.out hfin
    | false =>
      have s6 : Hid _ := not_of_false q1
      clear hcon g0 g1 g2 g3 q1
      have g0 : wk1.cell? ⟨N, 0, none⟩ = some (.int .i64 zt) := cell_blk ((m1.block _ (heap_lt ht) (fun h => h)).trans ht) rfl
      have g1 : wk1.cell? ⟨N, 1, none⟩ = some (.slice adt xt.length cpt) := cell_blk ((m1.block _ (heap_lt ht) (fun h => h)).trans ht) rfl
      have g2 : wk1.cell? ⟨N + 1, 0, none⟩ = some (.int .i64 zl) := cell_blk ((m1.block _ (heap_lt hl) (fun h => h)).trans hl) rfl
      have g3 : wk1.cell? ⟨N + 1, 1, none⟩ = some (.slice adl xl.length cpl) := cell_blk ((m1.block _ (heap_lt hl) (fun h => h)).trans hl) rfl
      have hfin := nw_trans nW m1
      have hP : Hid (¬ (rdL (lev zt xt) (lev zl xl) ∧ leL (lev zt xt) (lev zl xl))) := fun h => s6.out (h.2)
      go_wp2
      go_ret
      exact ans_no hP.out hfin
  | false =>
    have s2 : Hid _ := not_of_false q1
    clear hcon g0 g1 g2 g3 q1
    have g0 : wk0.cell? ⟨N, 0, none⟩ = some (.int .i64 zt) := cell_blk ((m0.block _ (heap_lt ht) (fun h => h)).trans ht) rfl
    have g1 : wk0.cell? ⟨N, 1, none⟩ = some (.slice adt xt.length cpt) := cell_blk ((m0.block _ (heap_lt ht) (fun h => h)).trans ht) rfl
    have g2 : wk0.cell? ⟨N + 1, 0, none⟩ = some (.int .i64 zl) := cell_blk ((m0.block _ (heap_lt hl) (fun h => h)).trans hl) rfl
    have g3 : wk0.cell? ⟨N + 1, 1, none⟩ = some (.slice adl xl.length cpl) := cell_blk ((m0.block _ (heap_lt hl) (fun h => h)).trans hl) rfl
    have hfin := nw_trans nW m0
    have hP : Hid (¬ (rdL (lev zt xt) (lev zl xl) ∧ leL (lev zt xt) (lev zl xl))) := fun h => s2.out (h.1)
    go_wp2
    go_ret
    exact ans_no hP.out hfin

set_option maxRecDepth 20000 in
set_option maxHeartbeats 3200000 in
theorem c_rmakes {Xt Xc Xl : Nat → Prop} {ut uc ul : Value} {xt xc xl : List Cat} (zt zc zl : Int) (w : World) (et : CSl Xt w ut xt) (ec : CSl Xc w uc xc) (el : CSl Xl w ul xl) (lt : xt.length ≤ 8796093021952) (lc : xc.length ≤ 8796093021952) (ll : xl.length ≤ 8796093021952) :
    Calls Try.prog 30 #[labV zt ut, labV zc uc, labV zl ul] w (AnsP (Rgt zl xl ∧ Pu zl xl ∧ leL (lev zt xt) (lev zl xl) ∧ leL (lev zl xl) (lev zc xc)) w) := by
  obtain ⟨adt, cpt, rfl, _, _⟩ := et.form
  obtain ⟨adc, cpc, rfl, _, _⟩ := ec.form
  obtain ⟨adl, cpl, rfl, _, _⟩ := el.form
  obtain ⟨W, hW⟩ : ∃ W, Hid (W = (((w.alloc (.cells #[.int .i64 zt, .slice adt xt.length cpt] 24)).alloc (.cells #[.int .i64 zc, .slice adc xc.length cpc] 24)).alloc (.cells #[.int .i64 zl, .slice adl xl.length cpl] 24))) := ⟨_, rfl⟩
  have nW : Nw w W := by rw [hW.out]; exact nw_alloc (nw_alloc (nw_alloc (nw_refl w) _) _) _
  have ht : W.heap[w.heap.size]? = some (.cells #[.int .i64 zt, .slice adt xt.length cpt] 24 (0, 0)) := by
    rw [hW.out, Below.heap_alloc _ _ _ (by simp; try omega), Below.heap_alloc _ _ _ (by simp; try omega)]
    have := heap_alloc_new w (.cells #[.int .i64 zt, .slice adt xt.length cpt] 24)
    simpa using this
  have hc : W.heap[w.heap.size + 1]? = some (.cells #[.int .i64 zc, .slice adc xc.length cpc] 24 (0, 0)) := by
    rw [hW.out, Below.heap_alloc _ _ _ (by simp; try omega)]
    have := heap_alloc_new (w.alloc (.cells #[.int .i64 zt, .slice adt xt.length cpt] 24)) (.cells #[.int .i64 zc, .slice adc xc.length cpc] 24)
    simpa using this
  have hl : W.heap[w.heap.size + 1 + 1]? = some (.cells #[.int .i64 zl, .slice adl xl.length cpl] 24 (0, 0)) := by
    rw [hW.out]
    have := heap_alloc_new ((w.alloc (.cells #[.int .i64 zt, .slice adt xt.length cpt] 24)).alloc (.cells #[.int .i64 zc, .slice adc xc.length cpc] 24)) (.cells #[.int .i64 zl, .slice adl xl.length cpl] 24)
    simpa using this
  replace et := et.nw nW
  replace ec := ec.nw nW
  replace el := el.nw nW
  unfold labV
  go_enter Try.func30, Try.ntmps30
  go_upto_region 1 with fail
  rw [← hW.out]
  clear hW
  generalize w.heap.size = N at *
  have g0 : W.cell? ⟨N, 0, none⟩ = some (.int .i64 zt) := cell_blk ht rfl
  have g1 : W.cell? ⟨N, 1, none⟩ = some (.slice adt xt.length cpt) := cell_blk ht rfl
  have g2 : W.cell? ⟨N + 1, 0, none⟩ = some (.int .i64 zc) := cell_blk hc rfl
  have g3 : W.cell? ⟨N + 1, 1, none⟩ = some (.slice adc xc.length cpc) := cell_blk hc rfl
  have g4 : W.cell? ⟨N + 1 + 1, 0, none⟩ = some (.int .i64 zl) := cell_blk hl rfl
  have g5 : W.cell? ⟨N + 1 + 1, 1, none⟩ = some (.slice adl xl.length cpl) := cell_blk hl rfl
  have hcon : Hid _ := c_rright zl W el (by omega)
  unfold RgtP at hcon
  unfold labV at hcon
  go_wp2_with (go_at_call 57; refine Calls.mono hcon.out ?_; rintro e wk0 ⟨r, rfl, q1, qn⟩; refine stop_here ?_)
  unfold Hid
  have m0 := qn
  replace et := et.nw qn
  replace ec := ec.nw qn
  replace el := el.nw qn
  cases r with
  | true =>
    have s1 : Hid _ := q1.1 rfl
    clear hcon g0 g1 g2 g3 g4 g5 q1
    have g0 : wk0.cell? ⟨N, 0, none⟩ = some (.int .i64 zt) := cell_blk ((m0.block _ (heap_lt ht) (fun h => h)).trans ht) rfl
    have g1 : wk0.cell? ⟨N, 1, none⟩ = some (.slice adt xt.length cpt) := cell_blk ((m0.block _ (heap_lt ht) (fun h => h)).trans ht) rfl
    have g2 : wk0.cell? ⟨N + 1, 0, none⟩ = some (.int .i64 zc) := cell_blk ((m0.block _ (heap_lt hc) (fun h => h)).trans hc) rfl
    have g3 : wk0.cell? ⟨N + 1, 1, none⟩ = some (.slice adc xc.length cpc) := cell_blk ((m0.block _ (heap_lt hc) (fun h => h)).trans hc) rfl
    have g4 : wk0.cell? ⟨N + 1 + 1, 0, none⟩ = some (.int .i64 zl) := cell_blk ((m0.block _ (heap_lt hl) (fun h => h)).trans hl) rfl
    have g5 : wk0.cell? ⟨N + 1 + 1, 1, none⟩ = some (.slice adl xl.length cpl) := cell_blk ((m0.block _ (heap_lt hl) (fun h => h)).trans hl) rfl
    have hcon : Hid _ := c_rpure zl wk0 el
    unfold labV at hcon
    go_wp2_with (go_at_call 58; refine Calls.mono hcon.out ?_; rintro e wk1 ⟨r, rfl, q1, qn⟩; refine stop_here ?_)
    unfold Hid
    have m1 := nw_trans m0 qn
    replace et := et.nw qn
    replace ec := ec.nw qn
    replace el := el.nw qn
    cases r with
    | true =>
      have s4 : Hid _ := q1.1 rfl
      clear hcon g0 g1 g2 g3 g4 g5 q1
      have g0 : wk1.cell? ⟨N, 0, none⟩ = some (.int .i64 zt) := cell_blk ((m1.block _ (heap_lt ht) (fun h => h)).trans ht) rfl
      have g1 : wk1.cell? ⟨N, 1, none⟩ = some (.slice adt xt.length cpt) := cell_blk ((m1.block _ (heap_lt ht) (fun h => h)).trans ht) rfl
      have g2 : wk1.cell? ⟨N + 1, 0, none⟩ = some (.int .i64 zc) := cell_blk ((m1.block _ (heap_lt hc) (fun h => h)).trans hc) rfl
      have g3 : wk1.cell? ⟨N + 1, 1, none⟩ = some (.slice adc xc.length cpc) := cell_blk ((m1.block _ (heap_lt hc) (fun h => h)).trans hc) rfl
      have g4 : wk1.cell? ⟨N + 1 + 1, 0, none⟩ = some (.int .i64 zl) := cell_blk ((m1.block _ (heap_lt hl) (fun h => h)).trans hl) rfl
      have g5 : wk1.cell? ⟨N + 1 + 1, 1, none⟩ = some (.slice adl xl.length cpl) := cell_blk ((m1.block _ (heap_lt hl) (fun h => h)).trans hl) rfl
      have hcon : Hid _ := c_rleq2 zt zl wk1 et el (by omega)
      unfold labV at hcon
      go_wp2_with (go_at_call 53; refine Calls.mono hcon.out ?_; rintro e wk2 ⟨r, rfl, q1, qn⟩; refine stop_here ?_)
      unfold Hid
      have m2 := nw_trans m1 qn
      replace et := et.nw qn
      replace ec := ec.nw qn
      replace el := el.nw qn
      cases r with
      | true =>
        have s9 : Hid _ := q1.1 rfl
        clear hcon g0 g1 g2 g3 g4 g5 q1
        have g0 : wk2.cell? ⟨N, 0, none⟩ = some (.int .i64 zt) := cell_blk ((m2.block _ (heap_lt ht) (fun h => h)).trans ht) rfl
        have g1 : wk2.cell? ⟨N, 1, none⟩ = some (.slice adt xt.length cpt) := cell_blk ((m2.block _ (heap_lt ht) (fun h => h)).trans ht) rfl
        have g2 : wk2.cell? ⟨N + 1, 0, none⟩ = some (.int .i64 zc) := cell_blk ((m2.block _ (heap_lt hc) (fun h => h)).trans hc) rfl
        have g3 : wk2.cell? ⟨N + 1, 1, none⟩ = some (.slice adc xc.length cpc) := cell_blk ((m2.block _ (heap_lt hc) (fun h => h)).trans hc) rfl
        have g4 : wk2.cell? ⟨N + 1 + 1, 0, none⟩ = some (.int .i64 zl) := cell_blk ((m2.block _ (heap_lt hl) (fun h => h)).trans hl) rfl
        have g5 : wk2.cell? ⟨N + 1 + 1, 1, none⟩ = some (.slice adl xl.length cpl) := cell_blk ((m2.block _ (heap_lt hl) (fun h => h)).trans hl) rfl
        have hcon : Hid _ := c_rleq2 zl zc wk2 el ec (by omega)
        unfold labV at hcon
        go_wp2_with (go_at_call 53; refine Calls.mono hcon.out ?_; rintro e wk3 ⟨r, rfl, q1, qn⟩; refine stop_here ?_)
        unfold Hid
        have m3 := nw_trans m2 qn
        replace et := et.nw qn
        replace ec := ec.nw qn
        replace el := el.nw qn
        cases r with
        | true =>
          have s14 : Hid _ := q1.1 rfl
          clear hcon g0 g1 g2 g3 g4 g5 q1
          have g0 : wk3.cell? ⟨N, 0, none⟩ = some (.int .i64 zt) := cell_blk ((m3.block _ (heap_lt ht) (fun h => h)).trans ht) rfl
          have g1 : wk3.cell? ⟨N, 1, none⟩ = some (.slice adt xt.length cpt) := cell_blk ((m3.block _ (heap_lt ht) (fun h => h)).trans ht) rfl
          have g2 : wk3.cell? ⟨N + 1, 0, none⟩ = some (.int .i64 zc) := cell_blk ((m3.block _ (heap_lt hc) (fun h => h)).trans hc) rfl
          have g3 : wk3.cell? ⟨N + 1, 1, none⟩ = some (.slice adc xc.length cpc) := cell_blk ((m3.block _ (heap_lt hc) (fun h => h)).trans hc) rfl
          have g4 : wk3.cell? ⟨N + 1 + 1, 0, none⟩ = some (.int .i64 zl) := cell_blk ((m3.block _ (heap_lt hl) (fun h => h)).trans hl) rfl
          have g5 : wk3.cell? ⟨N + 1 + 1, 1, none⟩ = some (.slice adl xl.length cpl) := cell_blk ((m3.block _ (heap_lt hl) (fun h => h)).trans hl) rfl
          have hfin := nw_trans nW m3
          have hP : Hid (Rgt zl xl ∧ Pu zl xl ∧ leL (lev zt xt) (lev zl xl) ∧ leL (lev zl xl) (lev zc xc)) := ⟨s1.out, s4.out, s9.out, s14.out⟩
          go_wp2
          go_ret
          exact ans_yes hP.out hfin
        | false =>
          have s14 : Hid _ := not_of_false q1
          clear hcon g0 g1 g2 g3 g4 g5 q1
          have g0 : wk3.cell? ⟨N, 0, none⟩ = some (.int .i64 zt) := cell_blk ((m3.block _ (heap_lt ht) (fun h => h)).trans ht) rfl
          have g1 : wk3.cell? ⟨N, 1, none⟩ = some (.slice adt xt.length cpt) := cell_blk ((m3.block _ (heap_lt ht) (fun h => h)).trans ht) rfl
          have g2 : wk3.cell? ⟨N + 1, 0, none⟩ = some (.int .i64 zc) := cell_blk ((m3.block _ (heap_lt hc) (fun h => h)).trans hc) rfl
          have g3 : wk3.cell? ⟨N + 1, 1, none⟩ = some (.slice adc xc.length cpc) := cell_blk ((m3.block _ (heap_lt hc) (fun h => h)).trans hc) rfl
          have g4 : wk3.cell? ⟨N + 1 + 1, 0, none⟩ = some (.int .i64 zl) := cell_blk ((m3.block _ (heap_lt hl) (fun h => h)).trans hl) rfl
          have g5 : wk3.cell? ⟨N + 1 + 1, 1, none⟩ = some (.slice adl xl.length cpl) := cell_blk ((m3.block _ (heap_lt hl) (fun h => h)).trans hl) rfl
          have hfin := nw_trans nW m3
          have hP : Hid (¬ (Rgt zl xl ∧ Pu zl xl ∧ leL (lev zt xt) (lev zl xl) ∧ leL (lev zl xl) (lev zc xc))) := fun h => s14.out (h.2.2.2)
          go_wp2
          go_ret
          exact ans_no hP.out hfin
      | false =>
        have s9 : Hid _ := not_of_false q1
        clear hcon g0 g1 g2 g3 g4 g5 q1
        have g0 : wk2.cell? ⟨N, 0, none⟩ = some (.int .i64 zt) := cell_blk ((m2.block _ (heap_lt ht) (fun h => h)).trans ht) rfl
        have g1 : wk2.cell? ⟨N, 1, none⟩ = some (.slice adt xt.length cpt) := cell_blk ((m2.block _ (heap_lt ht) (fun h => h)).trans ht) rfl
        have g2 : wk2.cell? ⟨N + 1, 0, none⟩ = some (.int .i64 zc) := cell_blk ((m2.block _ (heap_lt hc) (fun h => h)).trans hc) rfl
        have g3 : wk2.cell? ⟨N + 1, 1, none⟩ = some (.slice adc xc.length cpc) := cell_blk ((m2.block _ (heap_lt hc) (fun h => h)).trans hc) rfl
        have g4 : wk2.cell? ⟨N + 1 + 1, 0, none⟩ = some (.int .i64 zl) := cell_blk ((m2.block _ (heap_lt hl) (fun h => h)).trans hl) rfl
        have g5 : wk2.cell? ⟨N + 1 + 1, 1, none⟩ = some (.slice adl xl.length cpl) := cell_blk ((m2.block _ (heap_lt hl) (fun h => h)).trans hl) rfl
        have hfin := nw_trans nW m2
        have hP : Hid (¬ (Rgt zl xl ∧ Pu zl xl ∧ leL (lev zt xt) (lev zl xl) ∧ leL (lev zl xl) (lev zc xc))) := fun h => s9.out (h.2.2.1)
        go_wp2
        go_ret
        exact ans_no hP.out hfin
    | false =>
      have s4 : Hid _ := not_of_false q1
      clear hcon g0 g1 g2 g3 g4 g5 q1
      have g0 : wk1.cell? ⟨N, 0, none⟩ = some (.int .i64 zt) := cell_blk ((m1.block _ (heap_lt ht) (fun h => h)).trans ht) rfl
      have g1 : wk1.cell? ⟨N, 1, none⟩ = some (.slice adt xt.length cpt) := cell_blk ((m1.block _ (heap_lt ht) (fun h => h)).trans ht) rfl
      have g2 : wk1.cell? ⟨N + 1, 0, none⟩ = some (.int .i64 zc) := cell_blk ((m1.block _ (heap_lt hc) (fun h => h)).trans hc) rfl
      have g3 : wk1.cell? ⟨N + 1, 1, none⟩ = some (.slice adc xc.length cpc) := cell_blk ((m1.block _ (heap_lt hc) (fun h => h)).trans hc) rfl
      have g4 : wk1.cell? ⟨N + 1 + 1, 0, none⟩ = some (.int .i64 zl) := cell_blk ((m1.block _ (heap_lt hl) (fun h => h)).trans hl) rfl
      have g5 : wk1.cell? ⟨N + 1 + 1, 1, none⟩ = some (.slice adl xl.length cpl) := cell_blk ((m1.block _ (heap_lt hl) (fun h => h)).trans hl) rfl
      have hfin := nw_trans nW m1
      have hP : Hid (¬ (Rgt zl xl ∧ Pu zl xl ∧ leL (lev zt xt) (lev zl xl) ∧ leL (lev zl xl) (lev zc xc))) := fun h => s4.out (h.2.1)
      go_wp2
      go_ret
      exact ans_no hP.out hfin
  | false =>
    have s1 : Hid _ := not_of_false q1
    clear hcon g0 g1 g2 g3 g4 g5 q1
    have g0 : wk0.cell? ⟨N, 0, none⟩ = some (.int .i64 zt) := cell_blk ((m0.block _ (heap_lt ht) (fun h => h)).trans ht) rfl
    have g1 : wk0.cell? ⟨N, 1, none⟩ = some (.slice adt xt.length cpt) := cell_blk ((m0.block _ (heap_lt ht) (fun h => h)).trans ht) rfl
    have g2 : wk0.cell? ⟨N + 1, 0, none⟩ = some (.int .i64 zc) := cell_blk ((m0.block _ (heap_lt hc) (fun h => h)).trans hc) rfl
    have g3 : wk0.cell? ⟨N + 1, 1, none⟩ = some (.slice adc xc.length cpc) := cell_blk ((m0.block _ (heap_lt hc) (fun h => h)).trans hc) rfl
    have g4 : wk0.cell? ⟨N + 1 + 1, 0, none⟩ = some (.int .i64 zl) := cell_blk ((m0.block _ (heap_lt hl) (fun h => h)).trans hl) rfl
    have g5 : wk0.cell? ⟨N + 1 + 1, 1, none⟩ = some (.slice adl xl.length cpl) := cell_blk ((m0.block _ (heap_lt hl) (fun h => h)).trans hl) rfl
    have hfin := nw_trans nW m0
    have hP : Hid (¬ (Rgt zl xl ∧ Pu zl xl ∧ leL (lev zt xt) (lev zl xl) ∧ leL (lev zl xl) (lev zc xc))) := fun h => s1.out (h.1)
    go_wp2
    go_ret
    exact ans_no hP.out hfin

set_option maxRecDepth 20000 in
set_option maxHeartbeats 3200000 in
theorem c_rspawns {Xt Xc Xl Xk : Nat → Prop} {ut uc ul uk : Value} {xt xc xl xk : List Cat} (zt zc zl zk : Int) (w : World) (et : CSl Xt w ut xt) (ec : CSl Xc w uc xc) (el : CSl Xl w ul xl) (ek : CSl Xk w uk xk) (lt : xt.length ≤ 8796093021952) (lc : xc.length ≤ 8796093021952) (ll : xl.length ≤ 8796093021952) (lk : xk.length ≤ 8796093021952) :
    Calls Try.prog 32 #[labV zt ut, labV zc uc, labV zl ul, labV zk uk] w (AnsP (Rgt zl xl ∧ Rgt zk xk ∧ Pu zk xk ∧ leL (lev zt xt) (lev zl xl) ∧ leL (lev zl xl) (lev zk xk) ∧ leL (lev zk xk) (lev zc xc)) w) := by
  obtain ⟨adt, cpt, rfl, _, _⟩ := et.form
  obtain ⟨adc, cpc, rfl, _, _⟩ := ec.form
  obtain ⟨adl, cpl, rfl, _, _⟩ := el.form
  obtain ⟨adk, cpk, rfl, _, _⟩ := ek.form
  obtain ⟨W, hW⟩ : ∃ W, Hid (W = ((((w.alloc (.cells #[.int .i64 zt, .slice adt xt.length cpt] 24)).alloc (.cells #[.int .i64 zc, .slice adc xc.length cpc] 24)).alloc (.cells #[.int .i64 zl, .slice adl xl.length cpl] 24)).alloc (.cells #[.int .i64 zk, .slice adk xk.length cpk] 24))) := ⟨_, rfl⟩
  have nW : Nw w W := by rw [hW.out]; exact nw_alloc (nw_alloc (nw_alloc (nw_alloc (nw_refl w) _) _) _) _
  have ht : W.heap[w.heap.size]? = some (.cells #[.int .i64 zt, .slice adt xt.length cpt] 24 (0, 0)) := by
    rw [hW.out, Below.heap_alloc _ _ _ (by simp; try omega), Below.heap_alloc _ _ _ (by simp; try omega), Below.heap_alloc _ _ _ (by simp; try omega)]
    have := heap_alloc_new w (.cells #[.int .i64 zt, .slice adt xt.length cpt] 24)
    simpa using this
  have hc : W.heap[w.heap.size + 1]? = some (.cells #[.int .i64 zc, .slice adc xc.length cpc] 24 (0, 0)) := by
    rw [hW.out, Below.heap_alloc _ _ _ (by simp; try omega), Below.heap_alloc _ _ _ (by simp; try omega)]
    have := heap_alloc_new (w.alloc (.cells #[.int .i64 zt, .slice adt xt.length cpt] 24)) (.cells #[.int .i64 zc, .slice adc xc.length cpc] 24)
    simpa using this
  have hl : W.heap[w.heap.size + 1 + 1]? = some (.cells #[.int .i64 zl, .slice adl xl.length cpl] 24 (0, 0)) := by
    rw [hW.out, Below.heap_alloc _ _ _ (by simp; try omega)]
    have := heap_alloc_new ((w.alloc (.cells #[.int .i64 zt, .slice adt xt.length cpt] 24)).alloc (.cells #[.int .i64 zc, .slice adc xc.length cpc] 24)) (.cells #[.int .i64 zl, .slice adl xl.length cpl] 24)
    simpa using this
  have hk : W.heap[w.heap.size + 1 + 1 + 1]? = some (.cells #[.int .i64 zk, .slice adk xk.length cpk] 24 (0, 0)) := by
    rw [hW.out]
    have := heap_alloc_new (((w.alloc (.cells #[.int .i64 zt, .slice adt xt.length cpt] 24)).alloc (.cells #[.int .i64 zc, .slice adc xc.length cpc] 24)).alloc (.cells #[.int .i64 zl, .slice adl xl.length cpl] 24)) (.cells #[.int .i64 zk, .slice adk xk.length cpk] 24)
    simpa using this
  replace et := et.nw nW
  replace ec := ec.nw nW
  replace el := el.nw nW
  replace ek := ek.nw nW
  unfold labV
  go_enter Try.func32, Try.ntmps32
  go_upto_region 1 with fail
  rw [← hW.out]
  clear hW
  generalize w.heap.size = N at *
  have g0 : W.cell? ⟨N, 0, none⟩ = some (.int .i64 zt) := cell_blk ht rfl
  have g1 : W.cell? ⟨N, 1, none⟩ = some (.slice adt xt.length cpt) := cell_blk ht rfl
  have g2 : W.cell? ⟨N + 1, 0, none⟩ = some (.int .i64 zc) := cell_blk hc rfl
  have g3 : W.cell? ⟨N + 1, 1, none⟩ = some (.slice adc xc.length cpc) := cell_blk hc rfl
  have g4 : W.cell? ⟨N + 1 + 1, 0, none⟩ = some (.int .i64 zl) := cell_blk hl rfl
  have g5 : W.cell? ⟨N + 1 + 1, 1, none⟩ = some (.slice adl xl.length cpl) := cell_blk hl rfl
  have g6 : W.cell? ⟨N + 1 + 1 + 1, 0, none⟩ = some (.int .i64 zk) := cell_blk hk rfl
  have g7 : W.cell? ⟨N + 1 + 1 + 1, 1, none⟩ = some (.slice adk xk.length cpk) := cell_blk hk rfl
  have hcon : Hid _ := c_rright zl W el (by omega)
  unfold RgtP at hcon
  unfold labV at hcon
  go_wp2_with (go_at_call 57; refine Calls.mono hcon.out ?_; rintro e wk0 ⟨r, rfl, q1, qn⟩; refine stop_here ?_)
  unfold Hid
  have m0 := qn
  replace et := et.nw qn
  replace ec := ec.nw qn
  replace el := el.nw qn
  replace ek := ek.nw qn
  cases r with
  | true =>
    have s1 : Hid _ := q1.1 rfl
    clear hcon g0 g1 g2 g3 g4 g5 g6 g7 q1
    have g0 : wk0.cell? ⟨N, 0, none⟩ = some (.int .i64 zt) := cell_blk ((m0.block _ (heap_lt ht) (fun h => h)).trans ht) rfl
    have g1 : wk0.cell? ⟨N, 1, none⟩ = some (.slice adt xt.length cpt) := cell_blk ((m0.block _ (heap_lt ht) (fun h => h)).trans ht) rfl
    have g2 : wk0.cell? ⟨N + 1, 0, none⟩ = some (.int .i64 zc) := cell_blk ((m0.block _ (heap_lt hc) (fun h => h)).trans hc) rfl
    have g3 : wk0.cell? ⟨N + 1, 1, none⟩ = some (.slice adc xc.length cpc) := cell_blk ((m0.block _ (heap_lt hc) (fun h => h)).trans hc) rfl
    have g4 : wk0.cell? ⟨N + 1 + 1, 0, none⟩ = some (.int .i64 zl) := cell_blk ((m0.block _ (heap_lt hl) (fun h => h)).trans hl) rfl
    have g5 : wk0.cell? ⟨N + 1 + 1, 1, none⟩ = some (.slice adl xl.length cpl) := cell_blk ((m0.block _ (heap_lt hl) (fun h => h)).trans hl) rfl
    have g6 : wk0.cell? ⟨N + 1 + 1 + 1, 0, none⟩ = some (.int .i64 zk) := cell_blk ((m0.block _ (heap_lt hk) (fun h => h)).trans hk) rfl
    have g7 : wk0.cell? ⟨N + 1 + 1 + 1, 1, none⟩ = some (.slice adk xk.length cpk) := cell_blk ((m0.block _ (heap_lt hk) (fun h => h)).trans hk) rfl
    have hcon : Hid _ := c_rright zk wk0 ek (by omega)
    unfold RgtP at hcon
    unfold labV at hcon
    go_wp2_with (go_at_call 57; refine Calls.mono hcon.out ?_; rintro e wk1 ⟨r, rfl, q1, qn⟩; refine stop_here ?_)
    unfold Hid
    have m1 := nw_trans m0 qn
    replace et := et.nw qn
    replace ec := ec.nw qn
    replace el := el.nw qn
    replace ek := ek.nw qn
    cases r with
    | true =>
      have s4 : Hid _ := q1.1 rfl
      clear hcon g0 g1 g2 g3 g4 g5 g6 g7 q1
      have g0 : wk1.cell? ⟨N, 0, none⟩ = some (.int .i64 zt) := cell_blk ((m1.block _ (heap_lt ht) (fun h => h)).trans ht) rfl
      have g1 : wk1.cell? ⟨N, 1, none⟩ = some (.slice adt xt.length cpt) := cell_blk ((m1.block _ (heap_lt ht) (fun h => h)).trans ht) rfl
      have g2 : wk1.cell? ⟨N + 1, 0, none⟩ = some (.int .i64 zc) := cell_blk ((m1.block _ (heap_lt hc) (fun h => h)).trans hc) rfl
      have g3 : wk1.cell? ⟨N + 1, 1, none⟩ = some (.slice adc xc.length cpc) := cell_blk ((m1.block _ (heap_lt hc) (fun h => h)).trans hc) rfl
      have g4 : wk1.cell? ⟨N + 1 + 1, 0, none⟩ = some (.int .i64 zl) := cell_blk ((m1.block _ (heap_lt hl) (fun h => h)).trans hl) rfl
      have g5 : wk1.cell? ⟨N + 1 + 1, 1, none⟩ = some (.slice adl xl.length cpl) := cell_blk ((m1.block _ (heap_lt hl) (fun h => h)).trans hl) rfl
      have g6 : wk1.cell? ⟨N + 1 + 1 + 1, 0, none⟩ = some (.int .i64 zk) := cell_blk ((m1.block _ (heap_lt hk) (fun h => h)).trans hk) rfl
      have g7 : wk1.cell? ⟨N + 1 + 1 + 1, 1, none⟩ = some (.slice adk xk.length cpk) := cell_blk ((m1.block _ (heap_lt hk) (fun h => h)).trans hk) rfl
      have hcon : Hid _ := c_rpure zk wk1 ek
      unfold labV at hcon
      go_wp2_with (go_at_call 58; refine Calls.mono hcon.out ?_; rintro e wk2 ⟨r, rfl, q1, qn⟩; refine stop_here ?_)
      unfold Hid
      have m2 := nw_trans m1 qn
      replace et := et.nw qn
      replace ec := ec.nw qn
      replace el := el.nw qn
      replace ek := ek.nw qn
      cases r with
      | true =>
        have s8 : Hid _ := q1.1 rfl
        clear hcon g0 g1 g2 g3 g4 g5 g6 g7 q1
        have g0 : wk2.cell? ⟨N, 0, none⟩ = some (.int .i64 zt) := cell_blk ((m2.block _ (heap_lt ht) (fun h => h)).trans ht) rfl
        have g1 : wk2.cell? ⟨N, 1, none⟩ = some (.slice adt xt.length cpt) := cell_blk ((m2.block _ (heap_lt ht) (fun h => h)).trans ht) rfl
        have g2 : wk2.cell? ⟨N + 1, 0, none⟩ = some (.int .i64 zc) := cell_blk ((m2.block _ (heap_lt hc) (fun h => h)).trans hc) rfl
        have g3 : wk2.cell? ⟨N + 1, 1, none⟩ = some (.slice adc xc.length cpc) := cell_blk ((m2.block _ (heap_lt hc) (fun h => h)).trans hc) rfl
        have g4 : wk2.cell? ⟨N + 1 + 1, 0, none⟩ = some (.int .i64 zl) := cell_blk ((m2.block _ (heap_lt hl) (fun h => h)).trans hl) rfl
        have g5 : wk2.cell? ⟨N + 1 + 1, 1, none⟩ = some (.slice adl xl.length cpl) := cell_blk ((m2.block _ (heap_lt hl) (fun h => h)).trans hl) rfl
        have g6 : wk2.cell? ⟨N + 1 + 1 + 1, 0, none⟩ = some (.int .i64 zk) := cell_blk ((m2.block _ (heap_lt hk) (fun h => h)).trans hk) rfl
        have g7 : wk2.cell? ⟨N + 1 + 1 + 1, 1, none⟩ = some (.slice adk xk.length cpk) := cell_blk ((m2.block _ (heap_lt hk) (fun h => h)).trans hk) rfl
        have hcon : Hid _ := c_rleq2 zt zl wk2 et el (by omega)
        unfold labV at hcon
        go_wp2_with (go_at_call 53; refine Calls.mono hcon.out ?_; rintro e wk3 ⟨r, rfl, q1, qn⟩; refine stop_here ?_)
        unfold Hid
        have m3 := nw_trans m2 qn
        replace et := et.nw qn
        replace ec := ec.nw qn
        replace el := el.nw qn
        replace ek := ek.nw qn
        cases r with
        | true =>
          have s13 : Hid _ := q1.1 rfl
          clear hcon g0 g1 g2 g3 g4 g5 g6 g7 q1
          have g0 : wk3.cell? ⟨N, 0, none⟩ = some (.int .i64 zt) := cell_blk ((m3.block _ (heap_lt ht) (fun h => h)).trans ht) rfl
          have g1 : wk3.cell? ⟨N, 1, none⟩ = some (.slice adt xt.length cpt) := cell_blk ((m3.block _ (heap_lt ht) (fun h => h)).trans ht) rfl
          have g2 : wk3.cell? ⟨N + 1, 0, none⟩ = some (.int .i64 zc) := cell_blk ((m3.block _ (heap_lt hc) (fun h => h)).trans hc) rfl
          have g3 : wk3.cell? ⟨N + 1, 1, none⟩ = some (.slice adc xc.length cpc) := cell_blk ((m3.block _ (heap_lt hc) (fun h => h)).trans hc) rfl
          have g4 : wk3.cell? ⟨N + 1 + 1, 0, none⟩ = some (.int .i64 zl) := cell_blk ((m3.block _ (heap_lt hl) (fun h => h)).trans hl) rfl
          have g5 : wk3.cell? ⟨N + 1 + 1, 1, none⟩ = some (.slice adl xl.length cpl) := cell_blk ((m3.block _ (heap_lt hl) (fun h => h)).trans hl) rfl
          have g6 : wk3.cell? ⟨N + 1 + 1 + 1, 0, none⟩ = some (.int .i64 zk) := cell_blk ((m3.block _ (heap_lt hk) (fun h => h)).trans hk) rfl
          have g7 : wk3.cell? ⟨N + 1 + 1 + 1, 1, none⟩ = some (.slice adk xk.length cpk) := cell_blk ((m3.block _ (heap_lt hk) (fun h => h)).trans hk) rfl
          have hcon : Hid _ := c_rleq2 zl zk wk3 el ek (by omega)
          unfold labV at hcon
          go_wp2_with (go_at_call 53; refine Calls.mono hcon.out ?_; rintro e wk4 ⟨r, rfl, q1, qn⟩; refine stop_here ?_)
          unfold Hid
          have m4 := nw_trans m3 qn
          replace et := et.nw qn
          replace ec := ec.nw qn
          replace el := el.nw qn
          replace ek := ek.nw qn
          cases r with
          | true =>
            have s18 : Hid _ := q1.1 rfl
            clear hcon g0 g1 g2 g3 g4 g5 g6 g7 q1
            have g0 : wk4.cell? ⟨N, 0, none⟩ = some (.int .i64 zt) := cell_blk ((m4.block _ (heap_lt ht) (fun h => h)).trans ht) rfl
            have g1 : wk4.cell? ⟨N, 1, none⟩ = some (.slice adt xt.length cpt) := cell_blk ((m4.block _ (heap_lt ht) (fun h => h)).trans ht) rfl
            have g2 : wk4.cell? ⟨N + 1, 0, none⟩ = some (.int .i64 zc) := cell_blk ((m4.block _ (heap_lt hc) (fun h => h)).trans hc) rfl
            have g3 : wk4.cell? ⟨N + 1, 1, none⟩ = some (.slice adc xc.length cpc) := cell_blk ((m4.block _ (heap_lt hc) (fun h => h)).trans hc) rfl
            have g4 : wk4.cell? ⟨N + 1 + 1, 0, none⟩ = some (.int .i64 zl) := cell_blk ((m4.block _ (heap_lt hl) (fun h => h)).trans hl) rfl
            have g5 : wk4.cell? ⟨N + 1 + 1, 1, none⟩ = some (.slice adl xl.length cpl) := cell_blk ((m4.block _ (heap_lt hl) (fun h => h)).trans hl) rfl
            have g6 : wk4.cell? ⟨N + 1 + 1 + 1, 0, none⟩ = some (.int .i64 zk) := cell_blk ((m4.block _ (heap_lt hk) (fun h => h)).trans hk) rfl
            have g7 : wk4.cell? ⟨N + 1 + 1 + 1, 1, none⟩ = some (.slice adk xk.length cpk) := cell_blk ((m4.block _ (heap_lt hk) (fun h => h)).trans hk) rfl
            have hcon : Hid _ := c_rleq2 zk zc wk4 ek ec (by omega)
            unfold labV at hcon
            go_wp2_with (go_at_call 53; refine Calls.mono hcon.out ?_; rintro e wk5 ⟨r, rfl, q1, qn⟩; refine stop_here ?_)
            unfold Hid
            have m5 := nw_trans m4 qn
            replace et := et.nw qn
            replace ec := ec.nw qn
            replace el := el.nw qn
            replace ek := ek.nw qn
            cases r with
            | true =>
              have s23 : Hid _ := q1.1 rfl
              clear hcon g0 g1 g2 g3 g4 g5 g6 g7 q1
              have g0 : wk5.cell? ⟨N, 0, none⟩ = some (.int .i64 zt) := cell_blk ((m5.block _ (heap_lt ht) (fun h => h)).trans ht) rfl
              have g1 : wk5.cell? ⟨N, 1, none⟩ = some (.slice adt xt.length cpt) := cell_blk ((m5.block _ (heap_lt ht) (fun h => h)).trans ht) rfl
              have g2 : wk5.cell? ⟨N + 1, 0, none⟩ = some (.int .i64 zc) := cell_blk ((m5.block _ (heap_lt hc) (fun h => h)).trans hc) rfl
              have g3 : wk5.cell? ⟨N + 1, 1, none⟩ = some (.slice adc xc.length cpc) := cell_blk ((m5.block _ (heap_lt hc) (fun h => h)).trans hc) rfl
              have g4 : wk5.cell? ⟨N + 1 + 1, 0, none⟩ = some (.int .i64 zl) := cell_blk ((m5.block _ (heap_lt hl) (fun h => h)).trans hl) rfl
              have g5 : wk5.cell? ⟨N + 1 + 1, 1, none⟩ = some (.slice adl xl.length cpl) := cell_blk ((m5.block _ (heap_lt hl) (fun h => h)).trans hl) rfl
              have g6 : wk5.cell? ⟨N + 1 + 1 + 1, 0, none⟩ = some (.int .i64 zk) := cell_blk ((m5.block _ (heap_lt hk) (fun h => h)).trans hk) rfl
              have g7 : wk5.cell? ⟨N + 1 + 1 + 1, 1, none⟩ = some (.slice adk xk.length cpk) := cell_blk ((m5.block _ (heap_lt hk) (fun h => h)).trans hk) rfl
              have hfin := nw_trans nW m5
              have hP : Hid (Rgt zl xl ∧ Rgt zk xk ∧ Pu zk xk ∧ leL (lev zt xt) (lev zl xl) ∧ leL (lev zl xl) (lev zk xk) ∧ leL (lev zk xk) (lev zc xc)) := ⟨s1.out, s4.out, s8.out, s13.out, s18.out, s23.out⟩
              go_wp2
              go_ret
              exact ans_yes hP.out hfin
            | false =>
              have s23 : Hid _ := not_of_false q1
              clear hcon g0 g1 g2 g3 g4 g5 g6 g7 q1
              have g0 : wk5.cell? ⟨N, 0, none⟩ = some (.int .i64 zt) := cell_blk ((m5.block _ (heap_lt ht) (fun h => h)).trans ht) rfl
              have g1 : wk5.cell? ⟨N, 1, none⟩ = some (.slice adt xt.length cpt) := cell_blk ((m5.block _ (heap_lt ht) (fun h => h)).trans ht) rfl
              have g2 : wk5.cell? ⟨N + 1, 0, none⟩ = some (.int .i64 zc) := cell_blk ((m5.block _ (heap_lt hc) (fun h => h)).trans hc) rfl
              have g3 : wk5.cell? ⟨N + 1, 1, none⟩ = some (.slice adc xc.length cpc) := cell_blk ((m5.block _ (heap_lt hc) (fun h => h)).trans hc) rfl
              have g4 : wk5.cell? ⟨N + 1 + 1, 0, none⟩ = some (.int .i64 zl) := cell_blk ((m5.block _ (heap_lt hl) (fun h => h)).trans hl) rfl
              have g5 : wk5.cell? ⟨N + 1 + 1, 1, none⟩ = some (.slice adl xl.length cpl) := cell_blk ((m5.block _ (heap_lt hl) (fun h => h)).trans hl) rfl
              have g6 : wk5.cell? ⟨N + 1 + 1 + 1, 0, none⟩ = some (.int .i64 zk) := cell_blk ((m5.block _ (heap_lt hk) (fun h => h)).trans hk) rfl
              have g7 : wk5.cell? ⟨N + 1 + 1 + 1, 1, none⟩ = some (.slice adk xk.length cpk) := cell_blk ((m5.block _ (heap_lt hk) (fun h => h)).trans hk) rfl
              have hfin := nw_trans nW m5
              have hP : Hid (¬ (Rgt zl xl ∧ Rgt zk xk ∧ Pu zk xk ∧ leL (lev zt xt) (lev zl xl) ∧ leL (lev zl xl) (lev zk xk) ∧ leL (lev zk xk) (lev zc xc))) := fun h => s23.out (h.2.2.2.2.2)
              go_wp2
              go_ret
              exact ans_no hP.out hfin
          | false =>
            have s18 : Hid _ := not_of_false q1
            clear hcon g0 g1 g2 g3 g4 g5 g6 g7 q1
            have g0 : wk4.cell? ⟨N, 0, none⟩ = some (.int .i64 zt) := cell_blk ((m4.block _ (heap_lt ht) (fun h => h)).trans ht) rfl
            have g1 : wk4.cell? ⟨N, 1, none⟩ = some (.slice adt xt.length cpt) := cell_blk ((m4.block _ (heap_lt ht) (fun h => h)).trans ht) rfl
            have g2 : wk4.cell? ⟨N + 1, 0, none⟩ = some (.int .i64 zc) := cell_blk ((m4.block _ (heap_lt hc) (fun h => h)).trans hc) rfl
            have g3 : wk4.cell? ⟨N + 1, 1, none⟩ = some (.slice adc xc.length cpc) := cell_blk ((m4.block _ (heap_lt hc) (fun h => h)).trans hc) rfl
            have g4 : wk4.cell? ⟨N + 1 + 1, 0, none⟩ = some (.int .i64 zl) := cell_blk ((m4.block _ (heap_lt hl) (fun h => h)).trans hl) rfl
            have g5 : wk4.cell? ⟨N + 1 + 1, 1, none⟩ = some (.slice adl xl.length cpl) := cell_blk ((m4.block _ (heap_lt hl) (fun h => h)).trans hl) rfl
            have g6 : wk4.cell? ⟨N + 1 + 1 + 1, 0, none⟩ = some (.int .i64 zk) := cell_blk ((m4.block _ (heap_lt hk) (fun h => h)).trans hk) rfl
            have g7 : wk4.cell? ⟨N + 1 + 1 + 1, 1, none⟩ = some (.slice adk xk.length cpk) := cell_blk ((m4.block _ (heap_lt hk) (fun h => h)).trans hk) rfl
            have hfin := nw_trans nW m4
            have hP : Hid (¬ (Rgt zl xl ∧ Rgt zk xk ∧ Pu zk xk ∧ leL (lev zt xt) (lev zl xl) ∧ leL (lev zl xl) (lev zk xk) ∧ leL (lev zk xk) (lev zc xc))) := fun h => s18.out (h.2.2.2.2.1)
            go_wp2
            go_ret
            exact ans_no hP.out hfin
        | false =>
          have s13 : Hid _ := not_of_false q1
          clear hcon g0 g1 g2 g3 g4 g5 g6 g7 q1
          have g0 : wk3.cell? ⟨N, 0, none⟩ = some (.int .i64 zt) := cell_blk ((m3.block _ (heap_lt ht) (fun h => h)).trans ht) rfl
          have g1 : wk3.cell? ⟨N, 1, none⟩ = some (.slice adt xt.length cpt) := cell_blk ((m3.block _ (heap_lt ht) (fun h => h)).trans ht) rfl
          have g2 : wk3.cell? ⟨N + 1, 0, none⟩ = some (.int .i64 zc) := cell_blk ((m3.block _ (heap_lt hc) (fun h => h)).trans hc) rfl
          have g3 : wk3.cell? ⟨N + 1, 1, none⟩ = some (.slice adc xc.length cpc) := cell_blk ((m3.block _ (heap_lt hc) (fun h => h)).trans hc) rfl
          have g4 : wk3.cell? ⟨N + 1 + 1, 0, none⟩ = some (.int .i64 zl) := cell_blk ((m3.block _ (heap_lt hl) (fun h => h)).trans hl) rfl
          have g5 : wk3.cell? ⟨N + 1 + 1, 1, none⟩ = some (.slice adl xl.length cpl) := cell_blk ((m3.block _ (heap_lt hl) (fun h => h)).trans hl) rfl
          have g6 : wk3.cell? ⟨N + 1 + 1 + 1, 0, none⟩ = some (.int .i64 zk) := cell_blk ((m3.block _ (heap_lt hk) (fun h => h)).trans hk) rfl
          have g7 : wk3.cell? ⟨N + 1 + 1 + 1, 1, none⟩ = some (.slice adk xk.length cpk) := cell_blk ((m3.block _ (heap_lt hk) (fun h => h)).trans hk) rfl
          have hfin := nw_trans nW m3
          have hP : Hid (¬ (Rgt zl xl ∧ Rgt zk xk ∧ Pu zk xk ∧ leL (lev zt xt) (lev zl xl) ∧ leL (lev zl xl) (lev zk xk) ∧ leL (lev zk xk) (lev zc xc))) := fun h => s13.out (h.2.2.2.1)
          go_wp2
          go_ret
          exact ans_no hP.out hfin
      | false =>
        have s8 : Hid _ := not_of_false q1
        clear hcon g0 g1 g2 g3 g4 g5 g6 g7 q1
        have g0 : wk2.cell? ⟨N, 0, none⟩ = some (.int .i64 zt) := cell_blk ((m2.block _ (heap_lt ht) (fun h => h)).trans ht) rfl
        have g1 : wk2.cell? ⟨N, 1, none⟩ = some (.slice adt xt.length cpt) := cell_blk ((m2.block _ (heap_lt ht) (fun h => h)).trans ht) rfl
        have g2 : wk2.cell? ⟨N + 1, 0, none⟩ = some (.int .i64 zc) := cell_blk ((m2.block _ (heap_lt hc) (fun h => h)).trans hc) rfl
        have g3 : wk2.cell? ⟨N + 1, 1, none⟩ = some (.slice adc xc.length cpc) := cell_blk ((m2.block _ (heap_lt hc) (fun h => h)).trans hc) rfl
        have g4 : wk2.cell? ⟨N + 1 + 1, 0, none⟩ = some (.int .i64 zl) := cell_blk ((m2.block _ (heap_lt hl) (fun h => h)).trans hl) rfl
        have g5 : wk2.cell? ⟨N + 1 + 1, 1, none⟩ = some (.slice adl xl.length cpl) := cell_blk ((m2.block _ (heap_lt hl) (fun h => h)).trans hl) rfl
        have g6 : wk2.cell? ⟨N + 1 + 1 + 1, 0, none⟩ = some (.int .i64 zk) := cell_blk ((m2.block _ (heap_lt hk) (fun h => h)).trans hk) rfl
        have g7 : wk2.cell? ⟨N + 1 + 1 + 1, 1, none⟩ = some (.slice adk xk.length cpk) := cell_blk ((m2.block _ (heap_lt hk) (fun h => h)).trans hk) rfl
        have hfin := nw_trans nW m2
        have hP : Hid (¬ (Rgt zl xl ∧ Rgt zk xk ∧ Pu zk xk ∧ leL (lev zt xt) (lev zl xl) ∧ leL (lev zl xl) (lev zk xk) ∧ leL (lev zk xk) (lev zc xc))) := fun h => s8.out (h.2.2.1)
        go_wp2
        go_ret
        exact ans_no hP.out hfin
    | false =>
      have s4 : Hid _ := not_of_false q1
      clear hcon g0 g1 g2 g3 g4 g5 g6 g7 q1
      have g0 : wk1.cell? ⟨N, 0, none⟩ = some (.int .i64 zt) := cell_blk ((m1.block _ (heap_lt ht) (fun h => h)).trans ht) rfl
      have g1 : wk1.cell? ⟨N, 1, none⟩ = some (.slice adt xt.length cpt) := cell_blk ((m1.block _ (heap_lt ht) (fun h => h)).trans ht) rfl
      have g2 : wk1.cell? ⟨N + 1, 0, none⟩ = some (.int .i64 zc) := cell_blk ((m1.block _ (heap_lt hc) (fun h => h)).trans hc) rfl
      have g3 : wk1.cell? ⟨N + 1, 1, none⟩ = some (.slice adc xc.length cpc) := cell_blk ((m1.block _ (heap_lt hc) (fun h => h)).trans hc) rfl
      have g4 : wk1.cell? ⟨N + 1 + 1, 0, none⟩ = some (.int .i64 zl) := cell_blk ((m1.block _ (heap_lt hl) (fun h => h)).trans hl) rfl
      have g5 : wk1.cell? ⟨N + 1 + 1, 1, none⟩ = some (.slice adl xl.length cpl) := cell_blk ((m1.block _ (heap_lt hl) (fun h => h)).trans hl) rfl
      have g6 : wk1.cell? ⟨N + 1 + 1 + 1, 0, none⟩ = some (.int .i64 zk) := cell_blk ((m1.block _ (heap_lt hk) (fun h => h)).trans hk) rfl
      have g7 : wk1.cell? ⟨N + 1 + 1 + 1, 1, none⟩ = some (.slice adk xk.length cpk) := cell_blk ((m1.block _ (heap_lt hk) (fun h => h)).trans hk) rfl
      have hfin := nw_trans nW m1
      have hP : Hid (¬ (Rgt zl xl ∧ Rgt zk xk ∧ Pu zk xk ∧ leL (lev zt xt) (lev zl xl) ∧ leL (lev zl xl) (lev zk xk) ∧ leL (lev zk xk) (lev zc xc))) := fun h => s4.out (h.2.1)
      go_wp2
      go_ret
      exact ans_no hP.out hfin
  | false =>
    have s1 : Hid _ := not_of_false q1
    clear hcon g0 g1 g2 g3 g4 g5 g6 g7 q1
    have g0 : wk0.cell? ⟨N, 0, none⟩ = some (.int .i64 zt) := cell_blk ((m0.block _ (heap_lt ht) (fun h => h)).trans ht) rfl
    have g1 : wk0.cell? ⟨N, 1, none⟩ = some (.slice adt xt.length cpt) := cell_blk ((m0.block _ (heap_lt ht) (fun h => h)).trans ht) rfl
    have g2 : wk0.cell? ⟨N + 1, 0, none⟩ = some (.int .i64 zc) := cell_blk ((m0.block _ (heap_lt hc) (fun h => h)).trans hc) rfl
    have g3 : wk0.cell? ⟨N + 1, 1, none⟩ = some (.slice adc xc.length cpc) := cell_blk ((m0.block _ (heap_lt hc) (fun h => h)).trans hc) rfl
    have g4 : wk0.cell? ⟨N + 1 + 1, 0, none⟩ = some (.int .i64 zl) := cell_blk ((m0.block _ (heap_lt hl) (fun h => h)).trans hl) rfl
    have g5 : wk0.cell? ⟨N + 1 + 1, 1, none⟩ = some (.slice adl xl.length cpl) := cell_blk ((m0.block _ (heap_lt hl) (fun h => h)).trans hl) rfl
    have g6 : wk0.cell? ⟨N + 1 + 1 + 1, 0, none⟩ = some (.int .i64 zk) := cell_blk ((m0.block _ (heap_lt hk) (fun h => h)).trans hk) rfl
    have g7 : wk0.cell? ⟨N + 1 + 1 + 1, 1, none⟩ = some (.slice adk xk.length cpk) := cell_blk ((m0.block _ (heap_lt hk) (fun h => h)).trans hk) rfl
    have hfin := nw_trans nW m0
    have hP : Hid (¬ (Rgt zl xl ∧ Rgt zk xk ∧ Pu zk xk ∧ leL (lev zt xt) (lev zl xl) ∧ leL (lev zl xl) (lev zk xk) ∧ leL (lev zk xk) (lev zc xc))) := fun h => s1.out (h.1)
    go_wp2
    go_ret
    exact ans_no hP.out hfin

set_option maxRecDepth 20000 in
set_option maxHeartbeats 3200000 in
theorem c_rtaints {Xt Xc Xl : Nat → Prop} {ut uc ul : Value} {xt xc xl : List Cat} (zt zc zl : Int) (w : World) (et : CSl Xt w ut xt) (ec : CSl Xc w uc xc) (el : CSl Xl w ul xl) (lt : xt.length ≤ 8796093021952) (lc : xc.length ≤ 8796093021952) (ll : xl.length ≤ 8796093021952) :
    Calls Try.prog 34 #[labV zt ut, labV zc uc, labV zl ul] w (AnsP (Rgt zl xl ∧ leL (lev zt xt) (lev zl xl) ∧ leL (lev zl xl) (lev zc xc)) w) := by
  obtain ⟨adt, cpt, rfl, _, _⟩ := et.form
  obtain ⟨adc, cpc, rfl, _, _⟩ := ec.form
  obtain ⟨adl, cpl, rfl, _, _⟩ := el.form
  obtain ⟨W, hW⟩ : ∃ W, Hid (W = (((w.alloc (.cells #[.int .i64 zt, .slice adt xt.length cpt] 24)).alloc (.cells #[.int .i64 zc, .slice adc xc.length cpc] 24)).alloc (.cells #[.int .i64 zl, .slice adl xl.length cpl] 24))) := ⟨_, rfl⟩
  have nW : Nw w W := by rw [hW.out]; exact nw_alloc (nw_alloc (nw_alloc (nw_refl w) _) _) _
  have ht : W.heap[w.heap.size]? = some (.cells #[.int .i64 zt, .slice adt xt.length cpt] 24 (0, 0)) := by
    rw [hW.out, Below.heap_alloc _ _ _ (by simp; try omega), Below.heap_alloc _ _ _ (by simp; try omega)]
    have := heap_alloc_new w (.cells #[.int .i64 zt, .slice adt xt.length cpt] 24)
    simpa using this
  have hc : W.heap[w.heap.size + 1]? = some (.cells #[.int .i64 zc, .slice adc xc.length cpc] 24 (0, 0)) := by
    rw [hW.out, Below.heap_alloc _ _ _ (by simp; try omega)]
    have := heap_alloc_new (w.alloc (.cells #[.int .i64 zt, .slice adt xt.length cpt] 24)) (.cells #[.int .i64 zc, .slice adc xc.length cpc] 24)
    simpa using this
  have hl : W.heap[w.heap.size + 1 + 1]? = some (.cells #[.int .i64 zl, .slice adl xl.length cpl] 24 (0, 0)) := by
    rw [hW.out]
    have := heap_alloc_new ((w.alloc (.cells #[.int .i64 zt, .slice adt xt.length cpt] 24)).alloc (.cells #[.int .i64 zc, .slice adc xc.length cpc] 24)) (.cells #[.int .i64 zl, .slice adl xl.length cpl] 24)
    simpa using this
  replace et := et.nw nW
  replace ec := ec.nw nW
  replace el := el.nw nW
  unfold labV
  go_enter Try.func34, Try.ntmps34
  go_upto_region 1 with fail
  rw [← hW.out]
  clear hW
  generalize w.heap.size = N at *
  have g0 : W.cell? ⟨N, 0, none⟩ = some (.int .i64 zt) := cell_blk ht rfl
  have g1 : W.cell? ⟨N, 1, none⟩ = some (.slice adt xt.length cpt) := cell_blk ht rfl
  have g2 : W.cell? ⟨N + 1, 0, none⟩ = some (.int .i64 zc) := cell_blk hc rfl
  have g3 : W.cell? ⟨N + 1, 1, none⟩ = some (.slice adc xc.length cpc) := cell_blk hc rfl
  have g4 : W.cell? ⟨N + 1 + 1, 0, none⟩ = some (.int .i64 zl) := cell_blk hl rfl
  have g5 : W.cell? ⟨N + 1 + 1, 1, none⟩ = some (.slice adl xl.length cpl) := cell_blk hl rfl
  have hcon : Hid _ := c_rright zl W el (by omega)
  unfold RgtP at hcon
  unfold labV at hcon
  go_wp2_with (go_at_call 57; refine Calls.mono hcon.out ?_; rintro e wk0 ⟨r, rfl, q1, qn⟩; refine stop_here ?_)
  unfold Hid
  have m0 := qn
  replace et := et.nw qn
  replace ec := ec.nw qn
  replace el := el.nw qn
  cases r with
  | true =>
    have s1 : Hid _ := q1.1 rfl
    clear hcon g0 g1 g2 g3 g4 g5 q1
    have g0 : wk0.cell? ⟨N, 0, none⟩ = some (.int .i64 zt) := cell_blk ((m0.block _ (heap_lt ht) (fun h => h)).trans ht) rfl
    have g1 : wk0.cell? ⟨N, 1, none⟩ = some (.slice adt xt.length cpt) := cell_blk ((m0.block _ (heap_lt ht) (fun h => h)).trans ht) rfl
    have g2 : wk0.cell? ⟨N + 1, 0, none⟩ = some (.int .i64 zc) := cell_blk ((m0.block _ (heap_lt hc) (fun h => h)).trans hc) rfl
    have g3 : wk0.cell? ⟨N + 1, 1, none⟩ = some (.slice adc xc.length cpc) := cell_blk ((m0.block _ (heap_lt hc) (fun h => h)).trans hc) rfl
    have g4 : wk0.cell? ⟨N + 1 + 1, 0, none⟩ = some (.int .i64 zl) := cell_blk ((m0.block _ (heap_lt hl) (fun h => h)).trans hl) rfl
    have g5 : wk0.cell? ⟨N + 1 + 1, 1, none⟩ = some (.slice adl xl.length cpl) := cell_blk ((m0.block _ (heap_lt hl) (fun h => h)).trans hl) rfl
    have hcon : Hid _ := c_rleq2 zt zl wk0 et el (by omega)
    unfold labV at hcon
    go_wp2_with (go_at_call 53; refine Calls.mono hcon.out ?_; rintro e wk1 ⟨r, rfl, q1, qn⟩; refine stop_here ?_)
    unfold Hid
    have m1 := nw_trans m0 qn
    replace et := et.nw qn
    replace ec := ec.nw qn
    replace el := el.nw qn
    cases r with
    | true =>
      have s5 : Hid _ := q1.1 rfl
      clear hcon g0 g1 g2 g3 g4 g5 q1
      have g0 : wk1.cell? ⟨N, 0, none⟩ = some (.int .i64 zt) := cell_blk ((m1.block _ (heap_lt ht) (fun h => h)).trans ht) rfl
      have g1 : wk1.cell? ⟨N, 1, none⟩ = some (.slice adt xt.length cpt) := cell_blk ((m1.block _ (heap_lt ht) (fun h => h)).trans ht) rfl
      have g2 : wk1.cell? ⟨N + 1, 0, none⟩ = some (.int .i64 zc) := cell_blk ((m1.block _ (heap_lt hc) (fun h => h)).trans hc) rfl
      have g3 : wk1.cell? ⟨N + 1, 1, none⟩ = some (.slice adc xc.length cpc) := cell_blk ((m1.block _ (heap_lt hc) (fun h => h)).trans hc) rfl
      have g4 : wk1.cell? ⟨N + 1 + 1, 0, none⟩ = some (.int .i64 zl) := cell_blk ((m1.block _ (heap_lt hl) (fun h => h)).trans hl) rfl
      have g5 : wk1.cell? ⟨N + 1 + 1, 1, none⟩ = some (.slice adl xl.length cpl) := cell_blk ((m1.block _ (heap_lt hl) (fun h => h)).trans hl) rfl
      have hcon : Hid _ := c_rleq2 zl zc wk1 el ec (by omega)
      unfold labV at hcon
      go_wp2_with (go_at_call 53; refine Calls.mono hcon.out ?_; rintro e wk2 ⟨r, rfl, q1, qn⟩; refine stop_here ?_)
      unfold Hid
      have m2 := nw_trans m1 qn
      replace et := et.nw qn
      replace ec := ec.nw qn
      replace el := el.nw qn
      cases r with
      | true =>
        have s10 : Hid _ := q1.1 rfl
        clear hcon g0 g1 g2 g3 g4 g5 q1
        have g0 : wk2.cell? ⟨N, 0, none⟩ = some (.int .i64 zt) := cell_blk ((m2.block _ (heap_lt ht) (fun h => h)).trans ht) rfl
        have g1 : wk2.cell? ⟨N, 1, none⟩ = some (.slice adt xt.length cpt) := cell_blk ((m2.block _ (heap_lt ht) (fun h => h)).trans ht) rfl
        have g2 : wk2.cell? ⟨N + 1, 0, none⟩ = some (.int .i64 zc) := cell_blk ((m2.block _ (heap_lt hc) (fun h => h)).trans hc) rfl
        have g3 : wk2.cell? ⟨N + 1, 1, none⟩ = some (.slice adc xc.length cpc) := cell_blk ((m2.block _ (heap_lt hc) (fun h => h)).trans hc) rfl
        have g4 : wk2.cell? ⟨N + 1 + 1, 0, none⟩ = some (.int .i64 zl) := cell_blk ((m2.block _ (heap_lt hl) (fun h => h)).trans hl) rfl
        have g5 : wk2.cell? ⟨N + 1 + 1, 1, none⟩ = some (.slice adl xl.length cpl) := cell_blk ((m2.block _ (heap_lt hl) (fun h => h)).trans hl) rfl
        have hfin := nw_trans nW m2
        have hP : Hid (Rgt zl xl ∧ leL (lev zt xt) (lev zl xl) ∧ leL (lev zl xl) (lev zc xc)) := ⟨s1.out, s5.out, s10.out⟩
        go_wp2
        go_ret
        exact ans_yes hP.out hfin
      | false =>
        have s10 : Hid _ := not_of_false q1
        clear hcon g0 g1 g2 g3 g4 g5 q1
        have g0 : wk2.cell? ⟨N, 0, none⟩ = some (.int .i64 zt) := cell_blk ((m2.block _ (heap_lt ht) (fun h => h)).trans ht) rfl
        have g1 : wk2.cell? ⟨N, 1, none⟩ = some (.slice adt xt.length cpt) := cell_blk ((m2.block _ (heap_lt ht) (fun h => h)).trans ht) rfl
        have g2 : wk2.cell? ⟨N + 1, 0, none⟩ = some (.int .i64 zc) := cell_blk ((m2.block _ (heap_lt hc) (fun h => h)).trans hc) rfl
        have g3 : wk2.cell? ⟨N + 1, 1, none⟩ = some (.slice adc xc.length cpc) := cell_blk ((m2.block _ (heap_lt hc) (fun h => h)).trans hc) rfl
        have g4 : wk2.cell? ⟨N + 1 + 1, 0, none⟩ = some (.int .i64 zl) := cell_blk ((m2.block _ (heap_lt hl) (fun h => h)).trans hl) rfl
        have g5 : wk2.cell? ⟨N + 1 + 1, 1, none⟩ = some (.slice adl xl.length cpl) := cell_blk ((m2.block _ (heap_lt hl) (fun h => h)).trans hl) rfl
        have hfin := nw_trans nW m2
        have hP : Hid (¬ (Rgt zl xl ∧ leL (lev zt xt) (lev zl xl) ∧ leL (lev zl xl) (lev zc xc))) := fun h => s10.out (h.2.2)
        go_wp2
        go_ret
        exact ans_no hP.out hfin
    | false =>
      have s5 : Hid _ := not_of_false q1
      clear hcon g0 g1 g2 g3 g4 g5 q1
      have g0 : wk1.cell? ⟨N, 0, none⟩ = some (.int .i64 zt) := cell_blk ((m1.block _ (heap_lt ht) (fun h => h)).trans ht) rfl
      have g1 : wk1.cell? ⟨N, 1, none⟩ = some (.slice adt xt.length cpt) := cell_blk ((m1.block _ (heap_lt ht) (fun h => h)).trans ht) rfl
      have g2 : wk1.cell? ⟨N + 1, 0, none⟩ = some (.int .i64 zc) := cell_blk ((m1.block _ (heap_lt hc) (fun h => h)).trans hc) rfl
      have g3 : wk1.cell? ⟨N + 1, 1, none⟩ = some (.slice adc xc.length cpc) := cell_blk ((m1.block _ (heap_lt hc) (fun h => h)).trans hc) rfl
      have g4 : wk1.cell? ⟨N + 1 + 1, 0, none⟩ = some (.int .i64 zl) := cell_blk ((m1.block _ (heap_lt hl) (fun h => h)).trans hl) rfl
      have g5 : wk1.cell? ⟨N + 1 + 1, 1, none⟩ = some (.slice adl xl.length cpl) := cell_blk ((m1.block _ (heap_lt hl) (fun h => h)).trans hl) rfl
      have hfin := nw_trans nW m1
      have hP : Hid (¬ (Rgt zl xl ∧ leL (lev zt xt) (lev zl xl) ∧ leL (lev zl xl) (lev zc xc))) := fun h => s5.out (h.2.1)
      go_wp2
      go_ret
      exact ans_no hP.out hfin
  | false =>
    have s1 : Hid _ := not_of_false q1
    clear hcon g0 g1 g2 g3 g4 g5 q1
    have g0 : wk0.cell? ⟨N, 0, none⟩ = some (.int .i64 zt) := cell_blk ((m0.block _ (heap_lt ht) (fun h => h)).trans ht) rfl
    have g1 : wk0.cell? ⟨N, 1, none⟩ = some (.slice adt xt.length cpt) := cell_blk ((m0.block _ (heap_lt ht) (fun h => h)).trans ht) rfl
    have g2 : wk0.cell? ⟨N + 1, 0, none⟩ = some (.int .i64 zc) := cell_blk ((m0.block _ (heap_lt hc) (fun h => h)).trans hc) rfl
    have g3 : wk0.cell? ⟨N + 1, 1, none⟩ = some (.slice adc xc.length cpc) := cell_blk ((m0.block _ (heap_lt hc) (fun h => h)).trans hc) rfl
    have g4 : wk0.cell? ⟨N + 1 + 1, 0, none⟩ = some (.int .i64 zl) := cell_blk ((m0.block _ (heap_lt hl) (fun h => h)).trans hl) rfl
    have g5 : wk0.cell? ⟨N + 1 + 1, 1, none⟩ = some (.slice adl xl.length cpl) := cell_blk ((m0.block _ (heap_lt hl) (fun h => h)).trans hl) rfl
    have hfin := nw_trans nW m0
    have hP : Hid (¬ (Rgt zl xl ∧ leL (lev zt xt) (lev zl xl) ∧ leL (lev zl xl) (lev zc xc))) := fun h => s1.out (h.1)
    go_wp2
    go_ret
    exact ans_no hP.out hfin

end Go.Proofs.Ytnljfhjindenpaa
