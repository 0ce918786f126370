/-
  ThingRights' walk.
-/
import Derived.Test.YtghlilncdfiojaaThX7R
namespace Go.Proofs.Ytghlilncdfiojaa
set_option linter.unusedVariables false
set_option linter.unusedSimpArgs false
set_option maxRecDepth 20000
open Go.RowKit

set_option maxRecDepth 100000 in
set_option maxHeartbeats 6400000 in
theorem c_lrights {X Y : Nat → Prop} {t s : Th} {uL uC uK uD vL vC vK vD : Value} (w : World) (h : ThAt X w t uL uC uK uD) (hs0 : ThAt Y w s vL vC vK vD) (hwf : WfT t) (l1 : t.cats.length ≤ 8796093021952) (l2 : t.ccats.length ≤ 8796093021952) (l3 : t.links.length ≤ 8796093021952) (l4 : t.data.length ≤ 140737488351232) :
    Calls Try.prog 4 #[(thV t uL uC uK uD), (thV s vL vC vK vD)] w fun e w' => e = .returned (.bool true) ∧ Nw w w' := by
  obtain ⟨W, hW⟩ : ∃ W, Hid (W = (w.alloc (.cells (thC t uL uC uK uD).toArray 34)).alloc (.cells (thC s vL vC vK vD).toArray 34)) := ⟨_, rfl⟩
  have nW : Nw w W := by rw [hW.out]; exact nw_alloc (nw_alloc (nw_refl w) _) _
  have hA : W.heap[w.heap.size]? = some (.cells (thC t uL uC uK uD).toArray 34 (0, 0)) := by rw [hW.out]; exact heap_alloc2_old w _ _
  have hB : W.heap[w.heap.size + 1]? = some (.cells (thC s vL vC vK vD).toArray 34 (0, 0)) := by rw [hW.out]; exact heap_alloc2_new w _ _
  have ht := h.nw nW
  have hs := hs0.nw nW
  clear h hs0
  have hcc : Hid _ := c_tcopy W ht (by omega) (by omega) (by omega) (by omega)
  have hrA := range_all hA
  go_enter Try.func4, Try.ntmps4
  go_upto_region 1 with (first | (refine wpList_box_agg rfl 34 _ rfl (thV t uL uC uK uD) _ rfl rfl ?_) | (refine wpList_box_agg rfl 34 _ rfl (thV s vL vC vK vD) _ rfl rfl ?_; rw [World.size_alloc, ← hW.out]))
  clear hW
  go_wp2_with (first | (refine wpList_load_as rfl 34 _ rfl (w.heap.size) 0 rfl (thV t uL uC uK uD) _ rfl hrA Try.rowT Try.sizeT ?_) | (go_at_call 10; refine Calls.mono hcc.out ?_; rintro e D1 ⟨qL, qC, qK, qD, rfl, hcop, n5⟩; refine stop_here ?_))
  unfold Hid
  clear hcc hrA
  have hc := hcop.at
  clear hcop
  obtain ⟨YE1, hYE1⟩ : ∃ Y, Hid (Y = D1.alloc (.cells (thC zeroT (.slice none 0 0) (.slice none 0 0) (.slice none 0 0) (.slice none 0 0)).toArray 34)) := ⟨_, rfl⟩
  have hPE1 : YE1.heap[D1.heap.size]? = some (.cells (thC zeroT (.slice none 0 0) (.slice none 0 0) (.slice none 0 0) (.slice none 0 0)).toArray 34 (0, 0)) := by rw [hYE1.out]; exact heap_alloc_new D1 _
  have nYE1 : Nw D1 YE1 := by rw [hYE1.out]; exact nw_alloc (nw_refl _) _
  obtain ⟨E1, hVE1⟩ : ∃ V, Hid (V = YE1.setRow D1.heap.size (thC t qL qC qK qD).toArray) := ⟨_, rfl⟩
  have hC : E1.heap[D1.heap.size]? = some (.cells (thC t qL qC qK qD).toArray 34 (0, 0)) := by rw [hVE1.out]; exact setRow_heap _ _ _ _ _ _ hPE1
  have nE1 : Nw D1 E1 := by rw [hVE1.out]; exact Fr.setRow nYE1 (.inr (Nat.le_refl _)) _
  go_wp2_with (refine wpList_alloc_agg rfl 34 rfl _ Try.zeroTh ?_; rw [← hYE1.out]; refine stop_here ?_)
  unfold Hid
  refine wpList_store_all rfl 34 _ _ rfl D1.heap.size rfl (thV t qL qC qK qD) rfl (thC t qL qC qK qD) rfl (thC zeroT (.slice none 0 0) (.slice none 0 0) (.slice none 0 0) (.slice none 0 0)) 34 hPE1 rfl hc.one Try.sizeT ?_
  rw [← hVE1.out]
  clear hYE1 hVE1 hPE1 nYE1
  have n6 := nw_trans n5 nE1
  replace hA := (n6.block _ (heap_lt hA) (fun h => h)).trans hA
  replace hB := (n6.block _ (heap_lt hB) (fun h => h)).trans hB
  replace ht := ht.nw n6
  replace hs := hs.nw n6
  replace hc := hc.nw nE1
  replace nW := nw_trans nW n6
  clear n5 n6 nE1
  generalize hcb : D1.heap.size = cb at *
  clear hcb
  go_upto_region 2 with fail
  have hSof : ∀ w', Nw E1 w' → (fun w' : World => Nw E1 w' ∧ w'.heap[w.heap.size]? = some (.cells (thC t uL uC uK uD).toArray 34 (0, 0)) ∧ w'.heap[w.heap.size + 1]? = some (.cells (thC s vL vC vK vD).toArray 34 (0, 0)) ∧ w'.heap[cb]? = some (.cells (thC t qL qC qK qD).toArray 34 (0, 0))) w' := fun w' hw => ⟨hw, (hw.block _ (heap_lt hA) (fun h => h)).trans hA, (hw.block _ (heap_lt hB) (fun h => h)).trans hB, (hw.block _ (heap_lt hC) (fun h => h)).trans hC⟩
  have hW0 : Nw E1 E1.drew := Fr.drew (Fr.refl _ E1)
  have hS := hSof _ hW0
  replace ht := ht.nw hW0
  replace hs := hs.nw hW0
  replace hc := hc.nw hW0
  replace hSof : Hid _ := hSof
  refine wp_region_ord [] 22 [(0, false), (1, true), (2, true), (4, true), (3, false), (5, false), (6, true), (7, true), (8, true), (9, true), (10, true), (12, true), (13, true), (11, false), (14, false), (15, true), (16, true), (17, true), (18, true), (19, true), (20, false), (21, true)] (fun w' : World => Nw E1 w' ∧ w'.heap[w.heap.size]? = some (.cells (thC t uL uC uK uD).toArray 34 (0, 0)) ∧ w'.heap[w.heap.size + 1]? = some (.cells (thC s vL vC vK vD).toArray 34 (0, 0)) ∧ w'.heap[cb]? = some (.cells (thC t qL qC qK qD).toArray 34 (0, 0))) (by kernel_rfl) (by kernel_rfl) ?_
  refine ord_actL _ rfl (fun K1 hK1 => ?_)
  have hcon : Hid _ := c_alive E1.drew
  go_wp2_with (go_at_call 9; refine Calls.mono hcon.out ?_; rintro e wk0 ⟨rfl, qn⟩)
  have m0 := nw_trans hW0 qn
  replace ht := ht.nw qn
  replace hs := hs.nw qn
  replace hc := hc.nw qn
  refine hK1 _ _ (hSof.out _ m0) ?_
  clear hK1 K1 hcon qn hS hW0
  have hS := hSof.out _ m0
  refine ord_quietL _ ?_ rfl hS rfl ?_ ?_
  rotate_left
  · rintro w' ⟨hn, rhA, rhB, rhC⟩; go_simp; rfl
  simp only [Act.put, List.setIfInBounds_toArray, List.set_cons_zero, List.set_cons_succ]
  refine ord_quietL _ ?_ rfl hS rfl ?_ ?_
  rotate_left
  · rintro w' ⟨hn, rhA, rhB, rhC⟩; refine (run_load_th _ w' rfl (w.heap.size) rfl rhA).trans ?_; rfl
  simp only [Act.put, List.setIfInBounds_toArray, List.set_cons_zero, List.set_cons_succ]
  refine ord_quietL _ ?_ rfl hS rfl ?_ ?_
  rotate_left
  · rintro w' ⟨hn, rhA, rhB, rhC⟩; refine (run_load_th _ w' rfl (w.heap.size) rfl rhA).trans ?_; rfl
  simp only [Act.put, List.setIfInBounds_toArray, List.set_cons_zero, List.set_cons_succ]
  refine ord_actL _ rfl (fun K1 hK1 => ?_)
  have hcon : Hid _ := c_tright wk0 ht (by omega) (by omega)
  unfold AnsP at hcon
  go_wp2_with (go_at_call 11; refine Calls.mono hcon.out ?_; rintro e wk1 ⟨r1, rfl, zr1, qn⟩)
  have m1 := nw_trans m0 qn
  replace ht := ht.nw qn
  replace hs := hs.nw qn
  replace hc := hc.nw qn
  refine hK1 _ _ (hSof.out _ m1) ?_
  clear hK1 K1 hcon qn hS m0
  have hS := hSof.out _ m1
  refine ord_actL _ rfl (fun K1 hK1 => ?_)
  have hcon : Hid _ := c_rtright wk1 ht hwf (by omega) (by omega)
  unfold AnsP at hcon
  go_wp2_with (go_at_call 12; refine Calls.mono hcon.out ?_; rintro e wk2 ⟨r2, rfl, zr2, qn⟩)
  have m2 := nw_trans m1 qn
  replace ht := ht.nw qn
  replace hs := hs.nw qn
  replace hc := hc.nw qn
  obtain rfl : r2 = r1 := Bool.eq_iff_iff.2 (zr2.trans zr1.symm)
  clear zr2
  refine hK1 _ _ (hSof.out _ m2) ?_
  clear hK1 K1 hcon qn hS m1
  have hS := hSof.out _ m2
  refine ord_quietL _ ?_ rfl hS rfl ?_ ?_
  rotate_left
  · rintro w' ⟨hn, rhA, rhB, rhC⟩; go_simp; first | rfl | exact congrArg Value.bool (beq_self_eq_true r1)
  simp only [Act.put, List.setIfInBounds_toArray, List.set_cons_zero, List.set_cons_succ]
  refine ord_quietL _ ?_ rfl hS rfl ?_ ?_
  rotate_left
  · rintro w' ⟨hn, rhA, rhB, rhC⟩; go_simp; rfl
  simp only [Act.put, List.setIfInBounds_toArray, List.set_cons_zero, List.set_cons_succ]
  refine ord_quietL _ ?_ rfl hS rfl ?_ ?_
  rotate_left
  · rintro w' ⟨hn, rhA, rhB, rhC⟩; go_simp; rfl
  simp only [Act.put, List.setIfInBounds_toArray, List.set_cons_zero, List.set_cons_succ]
  refine ord_quietL _ ?_ rfl hS rfl ?_ ?_
  rotate_left
  · rintro w' ⟨hn, rhA, rhB, rhC⟩; refine (run_load_th _ w' rfl (w.heap.size) rfl rhA).trans ?_; rfl
  simp only [Act.put, List.setIfInBounds_toArray, List.set_cons_zero, List.set_cons_succ]
  refine ord_quietL _ ?_ rfl hS rfl ?_ ?_
  rotate_left
  · rintro w' ⟨hn, rhA, rhB, rhC⟩; refine (run_load_th _ w' rfl (w.heap.size + 1) rfl rhB).trans ?_; rfl
  simp only [Act.put, List.setIfInBounds_toArray, List.set_cons_zero, List.set_cons_succ]
  refine ord_quietL _ ?_ rfl hS rfl ?_ ?_
  rotate_left
  · rintro w' ⟨hn, rhA, rhB, rhC⟩; refine (run_load_th _ w' rfl (w.heap.size) rfl rhA).trans ?_; rfl
  simp only [Act.put, List.setIfInBounds_toArray, List.set_cons_zero, List.set_cons_succ]
  refine ord_quietL _ ?_ rfl hS rfl ?_ ?_
  rotate_left
  · rintro w' ⟨hn, rhA, rhB, rhC⟩; refine (run_load_th _ w' rfl (w.heap.size + 1) rfl rhB).trans ?_; rfl
  simp only [Act.put, List.setIfInBounds_toArray, List.set_cons_zero, List.set_cons_succ]
  refine ord_actL _ rfl (fun K1 hK1 => ?_)
  have hcon : Hid _ := c_tsame wk2 ht hs
  unfold AnsP at hcon
  go_wp2_with (go_at_call 13; refine Calls.mono hcon.out ?_; rintro e wk3 ⟨r3, rfl, zr3, qn⟩)
  have m3 := nw_trans m2 qn
  replace ht := ht.nw qn
  replace hs := hs.nw qn
  replace hc := hc.nw qn
  refine hK1 _ _ (hSof.out _ m3) ?_
  clear hK1 K1 hcon qn hS m2
  have hS := hSof.out _ m3
  refine ord_actL _ rfl (fun K1 hK1 => ?_)
  have hcon : Hid _ := c_rtsame wk3 ht hs
  unfold AnsP at hcon
  go_wp2_with (go_at_call 14; refine Calls.mono hcon.out ?_; rintro e wk4 ⟨r4, rfl, zr4, qn⟩)
  have m4 := nw_trans m3 qn
  replace ht := ht.nw qn
  replace hs := hs.nw qn
  replace hc := hc.nw qn
  obtain rfl : r4 = r3 := Bool.eq_iff_iff.2 (zr4.trans zr3.symm)
  clear zr4
  refine hK1 _ _ (hSof.out _ m4) ?_
  clear hK1 K1 hcon qn hS m3
  have hS := hSof.out _ m4
  refine ord_quietL _ ?_ rfl hS rfl ?_ ?_
  rotate_left
  · rintro w' ⟨hn, rhA, rhB, rhC⟩; go_simp; first | rfl | exact congrArg Value.bool (beq_self_eq_true r3)
  simp only [Act.put, List.setIfInBounds_toArray, List.set_cons_zero, List.set_cons_succ]
  refine ord_quietL _ ?_ rfl hS rfl ?_ ?_
  rotate_left
  · rintro w' ⟨hn, rhA, rhB, rhC⟩; go_simp; rfl
  simp only [Act.put, List.setIfInBounds_toArray, List.set_cons_zero, List.set_cons_succ]
  refine ord_quietL _ ?_ rfl hS rfl ?_ ?_
  rotate_left
  · rintro w' ⟨hn, rhA, rhB, rhC⟩; go_simp; rfl
  simp only [Act.put, List.setIfInBounds_toArray, List.set_cons_zero, List.set_cons_succ]
  refine ord_quietL _ ?_ rfl hS rfl ?_ ?_
  rotate_left
  · rintro w' ⟨hn, rhA, rhB, rhC⟩; refine (run_load_th _ w' rfl (cb) rfl rhC).trans ?_; rfl
  simp only [Act.put, List.setIfInBounds_toArray, List.set_cons_zero, List.set_cons_succ]
  refine ord_quietL _ ?_ rfl hS rfl ?_ ?_
  rotate_left
  · rintro w' ⟨hn, rhA, rhB, rhC⟩; refine (run_load_th _ w' rfl (w.heap.size) rfl rhA).trans ?_; rfl
  simp only [Act.put, List.setIfInBounds_toArray, List.set_cons_zero, List.set_cons_succ]
  refine ord_actL _ rfl (fun K1 hK1 => ?_)
  have hcon : Hid _ := c_rtsame wk4 hc ht
  unfold AnsP at hcon
  go_wp2_with (go_at_call 14; refine Calls.mono hcon.out ?_; rintro e wk5 ⟨r5, rfl, zr5, qn⟩)
  have m5 := nw_trans m4 qn
  replace ht := ht.nw qn
  replace hs := hs.nw qn
  replace hc := hc.nw qn
  obtain rfl := zr5.2 (by trivial)
  clear zr5
  refine hK1 _ _ (hSof.out _ m5) ?_
  clear hK1 K1 hcon qn hS m4
  have hS := hSof.out _ m5
  refine ord_quietL _ ?_ rfl hS rfl ?_ ?_
  rotate_left
  · rintro w' ⟨hn, rhA, rhB, rhC⟩; go_simp; rfl
  simp only [Act.put, List.setIfInBounds_toArray, List.set_cons_zero, List.set_cons_succ]
  refine ord_tail ?_
  simp only [List.drop_succ_cons, List.drop_zero]
  have fin : Hid (Nw w wk5) := nw_trans nW m5
  clear hSof hS ht hs hc hA hB hC
  go_wp2
  go_ret
  exact ⟨by simp, fin.out⟩
end Go.Proofs.Ytghlilncdfiojaa
