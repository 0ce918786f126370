/-
  Package flow: both.
-/
import Derived.Test.YtimgelekpghklaaFlowW1
import Derived.Test.YtimgelekpghklaaLabD8
namespace Go.Proofs.Ytimgelekpghklaa
set_option linter.unusedVariables false
set_option linter.unusedSimpArgs false
set_option maxRecDepth 20000
open Go.RowKit

/-- The least level of who is tainted by what taints either one, and owns what either one owns. -/
def bo (x y : Int) : Int := tn 5 0 (max (tn 0 5 x) (tn 0 5 y))

set_option maxRecDepth 20000 in
set_option maxHeartbeats 3200000 in
theorem c_both {Xa Xb : Nat → Prop} {ua ub : Value} {xa xb : List Cat} (za zb : Int) (w : World) (ea : CSl Xa w ua xa) (eb : CSl Xb w ub xb) (hl : xa.length + xb.length ≤ 8796093021952) :
    Calls Try.prog 20 #[labV za ua, labV zb ub] w (MadeL w (bo za zb) (fun id => bo (lev za xa id) (lev zb xb id)) (xa.length + xb.length)) := by
  obtain ⟨ada, cpa, rfl, _, _⟩ := ea.form
  obtain ⟨adb, cpb, rfl, _, _⟩ := eb.form
  obtain ⟨W, hW⟩ : ∃ W, Hid (W = (((w.alloc (.cells #[.int .i64 za, .slice ada xa.length cpa] 24)).alloc (.cells #[.int .i64 zb, .slice adb xb.length cpb] 24)).alloc (.cells #[.int .i64 0, .slice none 0 0] 24))) := ⟨_, rfl⟩
  have nW : Nw w W := by rw [hW.out]; exact nw_alloc (nw_alloc (nw_alloc (nw_refl w) _) _) _
  have ha : W.heap[w.heap.size]? = some (.cells #[.int .i64 za, .slice ada xa.length cpa] 24 (0, 0)) := by
    rw [hW.out, Below.heap_alloc _ _ _ (by simp; try omega), Below.heap_alloc _ _ _ (by simp; try omega)]
    have := heap_alloc_new w (.cells #[.int .i64 za, .slice ada xa.length cpa] 24)
    simpa using this
  have hb : W.heap[w.heap.size + 1]? = some (.cells #[.int .i64 zb, .slice adb xb.length cpb] 24 (0, 0)) := by
    rw [hW.out, Below.heap_alloc _ _ _ (by simp; try omega)]
    have := heap_alloc_new (w.alloc (.cells #[.int .i64 za, .slice ada xa.length cpa] 24)) (.cells #[.int .i64 zb, .slice adb xb.length cpb] 24)
    simpa using this
  have hZ : W.heap[w.heap.size + 1 + 1]? = some (.cells #[.int .i64 0, .slice none 0 0] 24 (0, 0)) := by
    rw [hW.out]
    have := heap_alloc_new ((w.alloc (.cells #[.int .i64 za, .slice ada xa.length cpa] 24)).alloc (.cells #[.int .i64 zb, .slice adb xb.length cpb] 24)) (.cells #[.int .i64 0, .slice none 0 0] 24)
    simpa using this
  have ea := ea.nw nW
  have eb := eb.nw nW
  obtain ⟨D1, hD1⟩ : ∃ D, Hid (tn 0 5 za = D) := ⟨_, rfl⟩
  obtain ⟨D2, hD2⟩ : ∃ D, Hid (tn 0 5 zb = D) := ⟨_, rfl⟩
  obtain ⟨D3, hD3⟩ : ∃ D, Hid (max D1 D2 = D) := ⟨_, rfl⟩
  obtain ⟨D4, hD4⟩ : ∃ D, Hid (tn 5 0 D3 = D) := ⟨_, rfl⟩
  have hD : Hid (bo za zb = D4) := by unfold Hid bo; rw [hD1.out, hD2.out, hD3.out, hD4.out]
  unfold labV
  go_enter Try.func20, Try.ntmps20
  go_upto_region 1 with fail
  rw [← hW.out]
  clear hW
  generalize hNN : w.heap.size = N at *
  have hNw : w.heap.size ≤ N + 1 + 1 := by rw [hNN]; omega
  replace hNN : Hid _ := hNN
  have hSof : ∀ w', Nw W w' → (fun w' : World => Nw W w' ∧ w'.cell? ⟨N, 0, none⟩ = some (.int .i64 za) ∧ w'.cell? ⟨N, 1, none⟩ = some (.slice ada xa.length cpa) ∧ w'.cell? ⟨N + 1, 0, none⟩ = some (.int .i64 zb) ∧ w'.cell? ⟨N + 1, 1, none⟩ = some (.slice adb xb.length cpb)) w' := fun w' hw => ⟨hw, cell_blk ((hw.block _ (heap_lt ha) (fun h => h)).trans ha) rfl, cell_blk ((hw.block _ (heap_lt ha) (fun h => h)).trans ha) rfl, cell_blk ((hw.block _ (heap_lt hb) (fun h => h)).trans hb) rfl, cell_blk ((hw.block _ (heap_lt hb) (fun h => h)).trans hb) rfl⟩
  have hW0 : Nw W W.drew := Fr.drew (Fr.refl _ W)
  have hS := hSof _ hW0
  replace ea := ea.nw hW0
  replace eb := eb.nw hW0
  replace hSof : Hid _ := hSof
  refine wp_region_ord [] 6 [(0, true), (2, true), (1, false), (3, false), (4, false), (5, false)] (fun w' : World => Nw W w' ∧ w'.cell? ⟨N, 0, none⟩ = some (.int .i64 za) ∧ w'.cell? ⟨N, 1, none⟩ = some (.slice ada xa.length cpa) ∧ w'.cell? ⟨N + 1, 0, none⟩ = some (.int .i64 zb) ∧ w'.cell? ⟨N + 1, 1, none⟩ = some (.slice adb xb.length cpb)) (by kernel_rfl) (by kernel_rfl) ?_
  refine ord_quietL _ ?_ rfl hS rfl ?_ ?_
  rotate_left
  · rintro w' ⟨hn, h0, h1, h2, h3⟩; go_simp; first | rfl | (rw [if_pos (by omega)]; done) | (rw [if_pos (by omega)]; rfl) | (rw [if_pos (by omega)]; go_simp; rfl)
  simp only [Act.put, List.setIfInBounds_toArray, List.set_cons_zero, List.set_cons_succ]
  refine ord_quietL _ ?_ rfl hS rfl ?_ ?_
  rotate_left
  · rintro w' ⟨hn, h0, h1, h2, h3⟩; go_simp; first | rfl | (rw [if_pos (by omega)]; done) | (rw [if_pos (by omega)]; rfl) | (rw [if_pos (by omega)]; go_simp; rfl)
  simp only [Act.put, List.setIfInBounds_toArray, List.set_cons_zero, List.set_cons_succ]
  refine ord_actL _ rfl (fun K1 hK1 => ?_)
  have hcon : Hid _ := c_raise za W.drew ea (by omega)
  unfold MadeL at hcon
  rw [hD1.out] at hcon
  unfold labV at hcon
  go_wp2_with (go_at_call 29; refine Calls.mono hcon.out ?_; rintro e wk0 ⟨u1, x1, rfl, q1, q2, q3, q4, qn⟩)
  have m0 := nw_trans hW0 qn
  replace ea := ea.nw qn
  replace eb := eb.nw qn
  obtain ⟨ad1, cp1, rfl, _, _⟩ := q1.form
  have e1 := q1.any
  have g1 : Hid (∀ id, lev D1 x1 id = tn 0 5 (lev za xa id)) := fun id => q3 id
  have n1 := q4
  refine hK1 _ _ (hSof.out _ m0) ?_
  clear hK1 K1 hcon qn hS hW0 q1 q2 q3 q4
  have hS := hSof.out _ m0
  refine ord_actL _ rfl (fun K1 hK1 => ?_)
  have hcon : Hid _ := c_raise zb wk0 eb (by omega)
  unfold MadeL at hcon
  rw [hD2.out] at hcon
  unfold labV at hcon
  go_wp2_with (go_at_call 29; refine Calls.mono hcon.out ?_; rintro e wk1 ⟨u2, x2, rfl, q1, q2, q3, q4, qn⟩)
  have m1 := nw_trans m0 qn
  replace ea := ea.nw qn
  replace eb := eb.nw qn
  replace e1 := e1.nw qn
  obtain ⟨ad2, cp2, rfl, _, _⟩ := q1.form
  have e2 := q1.any
  have g2 : Hid (∀ id, lev D2 x2 id = tn 0 5 (lev zb xb id)) := fun id => q3 id
  have n2 := q4
  refine hK1 _ _ (hSof.out _ m1) ?_
  clear hK1 K1 hcon qn hS m0 q1 q2 q3 q4
  have hS := hSof.out _ m1
  refine ord_actL _ rfl (fun K1 hK1 => ?_)
  have hcon : Hid _ := c_join D1 D2 wk1 e1 e2 (by omega)
  unfold MadeL at hcon
  rw [hD3.out] at hcon
  unfold labV at hcon
  go_wp2_with (go_at_call 16; refine Calls.mono hcon.out ?_; rintro e wk2 ⟨u3, x3, rfl, q1, q2, q3, q4, qn⟩)
  have m2 := nw_trans m1 qn
  replace ea := ea.nw qn
  replace eb := eb.nw qn
  replace e1 := e1.nw qn
  replace e2 := e2.nw qn
  obtain ⟨ad3, cp3, rfl, _, _⟩ := q1.form
  have e3 := q1.any
  have g3 : Hid (∀ id, lev D3 x3 id = max (tn 0 5 (lev za xa id)) (tn 0 5 (lev zb xb id))) := fun id => by rw [q3 id]; show max (lev D1 x1 id) (lev D2 x2 id) = _; rw [g1.out, g2.out]
  have n3 := q4
  refine hK1 _ _ (hSof.out _ m2) ?_
  clear hK1 K1 hcon qn hS m1 q1 q2 q3 q4
  have hS := hSof.out _ m2
  refine ord_actL _ rfl (fun K1 hK1 => ?_)
  have hcon : Hid _ := c_lower D3 wk2 e3 (by omega)
  unfold MadeL at hcon
  rw [hD4.out] at hcon
  unfold labV at hcon
  go_wp2_with (go_at_call 35; refine Calls.mono hcon.out ?_; rintro e wk3 ⟨u4, x4, rfl, q1, q2, q3, q4, qn⟩)
  have m3 := nw_trans m2 qn
  replace ea := ea.nw qn
  replace eb := eb.nw qn
  replace e1 := e1.nw qn
  replace e2 := e2.nw qn
  replace e3 := e3.nw qn
  have hZ3 := (m2.block _ (heap_lt hZ) (fun h => h)).trans hZ
  obtain ⟨hans, hrr, z0, z1, zf⟩ := store_made (B := N + 1 + 1) (f := fun id => bo (lev za xa id) (lev zb xb id)) (N := xa.length + xb.length) (nw_trans nW m2) hZ3 (Nat.le_refl _) hNw q1 q2 (fun id => by rw [q3 id, g3.out]; rfl) (by omega) qn
  obtain ⟨ad4, cp4, rfl, _, _⟩ := q1.form
  replace hans : Hid _ := hans
  refine hK1 _ _ (hSof.out _ m3) ?_
  clear hK1 K1 hcon qn hS m2 q1 q2 q3 q4 hZ3
  have hS := hSof.out _ m3
  refine ord_tail ?_
  simp only [List.drop_succ_cons, List.drop_zero]
  go_wp2
  refine bodyPost_ret (results_cell1 rfl _ (N + 1 + 1) _ _ rfl rfl hrr Try.rowL Try.sizeL) rfl ?_
  rw [hD.out]
  exact hans.out
end Go.Proofs.Ytimgelekpghklaa
