/-
  The walks of DirTells and DirBack.
-/
import Derived.Test.YtppfcdnhmieejaaDrA3S
import Derived.Test.YtppfcdnhmieejaaThC4S
namespace Go.Proofs.Ytppfcdnhmieejaa
set_option linter.unusedVariables false
set_option linter.unusedSimpArgs false
set_option maxRecDepth 20000
open Go.RowKit

set_option maxRecDepth 100000 in
set_option maxHeartbeats 6400000 in
theorem c_ltells {t : Th} {uL uC uK uD : Value} (id : Int) (w : World) (h : ThAt (fun b => b < w.heap.size) w t uL uC uK uD) (hwf : WfT t) (l1 : t.cats.length ≤ 8796093021952) (l2 : t.ccats.length ≤ 8796093021952) :
    Calls Try.prog 4 #[thV t uL uC uK uD, .int .u64 id] w fun e w' => e = .returned (.bool true) ∧ Nw w w' := by
  obtain ⟨W, hW⟩ : ∃ W, Hid (W = w.alloc (.cells (thC t uL uC uK uD).toArray 34)) := ⟨_, rfl⟩
  have nW : Nw w W := by rw [hW.out]; exact nw_alloc (nw_refl w) _
  have hB0 : W.heap[w.heap.size]? = some (.cells (thC t uL uC uK uD).toArray 34 (0, 0)) := by rw [hW.out]; exact heap_alloc_new w _
  have ht := h.nw nW
  clear h
  go_enter Try.func4, Try.ntmps4
  go_upto_region 1 with ((refine wpList_box_agg rfl 34 _ rfl (thV t uL uC uK uD) _ rfl rfl ?_))
  rw [← hW.out]
  clear hW
  have hcon : Hid _ := c_alive W
  go_wp2_with ((go_at_call 9; refine Calls.mono hcon.out ?_; rintro e W1 ⟨rfl, n1⟩; refine stop_here ?_))
  unfold Hid
  clear hcon
  replace hB0 := (n1.block _ (heap_lt hB0) (fun h => h)).trans hB0
  replace ht := ht.nw n1
  replace nW := nw_trans nW n1
  go_upto_region 3 with fail
  by_cases hD : DirT t
  · have hid := hD.right.id
    have hnx := hD.ok.next
    have hlk := hD.ok.lk
    have h16 : t.links.length ≤ 1000 := by have := hD.ok.len; omega
    unfold idOk at hid
    replace hD : Hid _ := hD
    have hcon : Hid _ := c_directory W1 ht hwf (by omega) (by omega)
    unfold AnsP at hcon
    have hr0 := range_all hB0
    go_wp2_with (first | (refine wpList_load_as rfl 34 _ rfl (w.heap.size) 0 rfl (thV t uL uC uK uD) _ rfl hr0 Try.rowT Try.sizeT ?_) | (go_at_call 10; refine Calls.mono hcon.out ?_; rintro e W2 ⟨r, rfl, hr, n2⟩; refine stop_here ?_))
    unfold Hid
    clear hcon hr0
    replace hB0 := (n2.block _ (heap_lt hB0) (fun h => h)).trans hB0
    replace ht := ht.nw n2
    replace nW := nw_trans nW n2
    obtain rfl := hr.2 hD.out
    clear hr
    have hid0 : 0 ≤ t.id ∧ t.id < 18446744073709551616 := by omega
    replace hid : Hid _ := hid
    replace hid0 : Hid _ := hid0
    replace hnx : Hid _ := hnx
    replace hlk : Hid _ := hlk
    replace h16 : Hid _ := h16
    replace hwf : Hid _ := hwf
    clear l1 l2
    obtain ⟨⟨f1, f2⟩, hff⟩ : ∃ f, freshT t = f := ⟨_, rfl⟩
    go_upto_region 5 with fail
    have hq1 : Hid _ := c_fresh W2 ht hid0.out hnx.out
    rw [hff] at hq1
    have hcon : Hid _ := hq1.out
    have hr0 := range_all hB0
    go_wp2_with (first | (refine wpList_load_as rfl 34 _ rfl (w.heap.size) 0 rfl (thV t uL uC uK uD) _ rfl hr0 Try.rowT Try.sizeT ?_) | (go_at_call 11; refine Calls.mono hcon.out ?_; rintro e W3 ⟨rfl, n3⟩; refine stop_here ?_))
    unfold Hid
    clear hcon hr0 hq1
    replace hB0 := (n3.block _ (heap_lt hB0) (fun h => h)).trans hB0
    replace ht := ht.nw n3
    replace nW := nw_trans nW n3
    go_upto_region 6 with fail
    have hq1 : Hid _ := c_rfresh W3 ht hid0.out hnx.out
    rw [hff] at hq1
    have hcon : Hid _ := hq1.out
    have hr0 := range_all hB0
    go_wp2_with (first | (refine wpList_load_as rfl 34 _ rfl (w.heap.size) 0 rfl (thV t uL uC uK uD) _ rfl hr0 Try.rowT Try.sizeT ?_) | (go_at_call 12; refine Calls.mono hcon.out ?_; rintro e W4 ⟨rfl, n4⟩; refine stop_here ?_))
    unfold Hid
    clear hcon hr0 hq1
    replace hB0 := (n4.block _ (heap_lt hB0) (fun h => h)).trans hB0
    replace ht := ht.nw n4
    replace nW := nw_trans nW n4
    go_upto_region 7 with fail
    clear hff
    obtain ⟨us, hus⟩ : ∃ x, usedL t.links = x := ⟨_, rfl⟩
    obtain ⟨hb, hhb⟩ : ∃ x, hasB t.links id = x := ⟨_, rfl⟩
    have hSof : ∀ w', Nw W4 w' → (fun w' : World => Nw W4 w' ∧ w'.heap[w.heap.size]? = some (.cells (thC t uL uC uK uD).toArray 34 (0, 0))) w' := fun w' hw => ⟨hw, (hw.block _ (heap_lt hB0) (fun h => h)).trans hB0⟩
    have hW0 : Nw W4 W4.drew := Fr.drew (Fr.refl _ W4)
    have hS := hSof _ hW0
    replace ht := ht.nw hW0
    replace hSof : Hid _ := hSof
    refine wp_region_ord [] 24 [(0, true), (2, true), (1, false), (3, false), (4, true), (5, true), (6, true), (7, true), (9, true), (10, true), (8, false), (11, false), (12, true), (13, true), (14, true), (15, true), (16, true), (17, true), (18, true), (19, true), (20, true), (21, true), (22, true), (23, true)] (fun w' : World => Nw W4 w' ∧ w'.heap[w.heap.size]? = some (.cells (thC t uL uC uK uD).toArray 34 (0, 0))) (by kernel_rfl) (by kernel_rfl) ?_
    refine ord_quietL _ ?_ rfl hS rfl ?_ ?_
    rotate_left
    · rintro w' ⟨hn, rhB0⟩; refine (run_load_th _ w' rfl (w.heap.size) rfl rhB0).trans ?_; rfl
    simp only [Act.put, List.setIfInBounds_toArray, List.set_cons_zero, List.set_cons_succ]
    refine ord_quietL _ ?_ rfl hS rfl ?_ ?_
    rotate_left
    · rintro w' ⟨hn, rhB0⟩; refine (run_load_th _ w' rfl (w.heap.size) rfl rhB0).trans ?_; rfl
    simp only [Act.put, List.setIfInBounds_toArray, List.set_cons_zero, List.set_cons_succ]
    refine ord_actL _ rfl (fun K1 hK1 => ?_)
    have hcon : Hid _ := c_used W4.drew ht hlk.out h16.out
    rw [hus] at hcon
    go_wp2_with (go_at_call 13; refine Calls.mono hcon.out ?_; rintro e wk0 ⟨rfl, qn⟩)
    have m0 := nw_trans hW0 qn
    replace ht := ht.nw qn
    refine hK1 _ _ (hSof.out _ m0) ?_
    clear hK1 K1 hcon qn hS hW0
    have hS := hSof.out _ m0
    refine ord_actL _ rfl (fun K1 hK1 => ?_)
    have hcon : Hid _ := c_rused wk0 ht hlk.out h16.out
    rw [hus] at hcon
    go_wp2_with (go_at_call 14; refine Calls.mono hcon.out ?_; rintro e wk1 ⟨rfl, qn⟩)
    have m1 := nw_trans m0 qn
    replace ht := ht.nw qn
    refine hK1 _ _ (hSof.out _ m1) ?_
    clear hK1 K1 hcon qn hS m0
    have hS := hSof.out _ m1
    refine ord_quietL _ ?_ rfl hS rfl ?_ ?_
    rotate_left
    · rintro w' ⟨hn, rhB0⟩; go_simp; rfl
    simp only [Act.put, List.setIfInBounds_toArray, List.set_cons_zero, List.set_cons_succ]
    refine ord_quietL _ ?_ rfl hS rfl ?_ ?_
    rotate_left
    · rintro w' ⟨hn, rhB0⟩; go_simp; rfl
    simp only [Act.put, List.setIfInBounds_toArray, List.set_cons_zero, List.set_cons_succ]
    refine ord_quietL _ ?_ rfl hS rfl ?_ ?_
    rotate_left
    · rintro w' ⟨hn, rhB0⟩; refine (run_load_th _ w' rfl (w.heap.size) rfl rhB0).trans ?_; rfl
    simp only [Act.put, List.setIfInBounds_toArray, List.set_cons_zero, List.set_cons_succ]
    refine ord_quietL _ ?_ rfl hS rfl ?_ ?_
    rotate_left
    · rintro w' ⟨hn, rhB0⟩; go_simp; rfl
    simp only [Act.put, List.setIfInBounds_toArray, List.set_cons_zero, List.set_cons_succ]
    refine ord_quietL _ ?_ rfl hS rfl ?_ ?_
    rotate_left
    · rintro w' ⟨hn, rhB0⟩; refine (run_load_th _ w' rfl (w.heap.size) rfl rhB0).trans ?_; rfl
    simp only [Act.put, List.setIfInBounds_toArray, List.set_cons_zero, List.set_cons_succ]
    refine ord_quietL _ ?_ rfl hS rfl ?_ ?_
    rotate_left
    · rintro w' ⟨hn, rhB0⟩; go_simp; rfl
    simp only [Act.put, List.setIfInBounds_toArray, List.set_cons_zero, List.set_cons_succ]
    refine ord_actL _ rfl (fun K1 hK1 => ?_)
    have hcon : Hid _ := c_has id wk1 ht hlk.out h16.out
    rw [hhb] at hcon
    go_wp2_with (go_at_call 15; refine Calls.mono hcon.out ?_; rintro e wk2 ⟨rfl, qn⟩)
    have m2 := nw_trans m1 qn
    replace ht := ht.nw qn
    refine hK1 _ _ (hSof.out _ m2) ?_
    clear hK1 K1 hcon qn hS m1
    have hS := hSof.out _ m2
    refine ord_actL _ rfl (fun K1 hK1 => ?_)
    have hcon : Hid _ := c_rhas id wk2 ht
    rw [hhb] at hcon
    go_wp2_with (go_at_call 16; refine Calls.mono hcon.out ?_; rintro e wk3 ⟨rfl, qn⟩)
    have m3 := nw_trans m2 qn
    replace ht := ht.nw qn
    refine hK1 _ _ (hSof.out _ m3) ?_
    clear hK1 K1 hcon qn hS m2
    have hS := hSof.out _ m3
    refine ord_quietL _ ?_ rfl hS rfl ?_ ?_
    rotate_left
    · rintro w' ⟨hn, rhB0⟩; go_simp; rfl
    simp only [Act.put, List.setIfInBounds_toArray, List.set_cons_zero, List.set_cons_succ]
    refine ord_quietL _ ?_ rfl hS rfl ?_ ?_
    rotate_left
    · rintro w' ⟨hn, rhB0⟩; go_simp; rfl
    simp only [Act.put, List.setIfInBounds_toArray, List.set_cons_zero, List.set_cons_succ]
    refine ord_quietL _ ?_ rfl hS rfl ?_ ?_
    rotate_left
    · rintro w' ⟨hn, rhB0⟩; go_simp; rfl
    simp only [Act.put, List.setIfInBounds_toArray, List.set_cons_zero, List.set_cons_succ]
    refine ord_quietL _ ?_ rfl hS rfl ?_ ?_
    rotate_left
    · rintro w' ⟨hn, rhB0⟩; go_simp; rfl
    simp only [Act.put, List.setIfInBounds_toArray, List.set_cons_zero, List.set_cons_succ]
    refine ord_quietL _ ?_ rfl hS rfl ?_ ?_
    rotate_left
    · rintro w' ⟨hn, rhB0⟩; go_simp; rfl
    simp only [Act.put, List.setIfInBounds_toArray, List.set_cons_zero, List.set_cons_succ]
    refine ord_quietL _ ?_ rfl hS rfl ?_ ?_
    rotate_left
    · rintro w' ⟨hn, rhB0⟩; go_simp; rfl
    simp only [Act.put, List.setIfInBounds_toArray, List.set_cons_zero, List.set_cons_succ]
    refine ord_quietL _ ?_ rfl hS rfl ?_ ?_
    rotate_left
    · rintro w' ⟨hn, rhB0⟩; go_simp; rfl
    simp only [Act.put, List.setIfInBounds_toArray, List.set_cons_zero, List.set_cons_succ]
    refine ord_quietL _ ?_ rfl hS rfl ?_ ?_
    rotate_left
    · rintro w' ⟨hn, rhB0⟩; go_simp; rfl
    simp only [Act.put, List.setIfInBounds_toArray, List.set_cons_zero, List.set_cons_succ]
    refine ord_quietL _ ?_ rfl hS rfl ?_ ?_
    rotate_left
    · rintro w' ⟨hn, rhB0⟩; go_simp; rfl
    simp only [Act.put, List.setIfInBounds_toArray, List.set_cons_zero, List.set_cons_succ]
    refine ord_quietL _ ?_ rfl hS rfl ?_ ?_
    rotate_left
    · rintro w' ⟨hn, rhB0⟩; go_simp; rfl
    simp only [Act.put, List.setIfInBounds_toArray, List.set_cons_zero, List.set_cons_succ]
    refine ord_quietL _ ?_ rfl hS rfl ?_ ?_
    rotate_left
    · rintro w' ⟨hn, rhB0⟩; go_simp; rfl
    simp only [Act.put, List.setIfInBounds_toArray, List.set_cons_zero, List.set_cons_succ]
    refine ord_quietL _ ?_ rfl hS rfl ?_ ?_
    rotate_left
    · rintro w' ⟨hn, rhB0⟩; go_simp; rfl
    simp only [Act.put, List.setIfInBounds_toArray, List.set_cons_zero, List.set_cons_succ]
    refine ord_tail ?_
    simp only [List.drop_succ_cons, List.drop_zero]
    have hfin : Hid (Nw w wk3) := nw_trans nW m3
    clear hSof hS
    go_wp2
    go_ret
    exact ⟨rfl, hfin.out⟩
  · skip
    replace hD : Hid _ := hD
    have hcon : Hid _ := c_directory W1 ht hwf (by omega) (by omega)
    unfold AnsP at hcon
    have hr0 := range_all hB0
    go_wp2_with (first | (refine wpList_load_as rfl 34 _ rfl (w.heap.size) 0 rfl (thV t uL uC uK uD) _ rfl hr0 Try.rowT Try.sizeT ?_) | (go_at_call 10; refine Calls.mono hcon.out ?_; rintro e W2 ⟨r, rfl, hr, n2⟩; refine stop_here ?_))
    unfold Hid
    clear hcon hr0
    replace hB0 := (n2.block _ (heap_lt hB0) (fun h => h)).trans hB0
    replace ht := ht.nw n2
    replace nW := nw_trans nW n2
    obtain rfl : r = false := by (cases r; rfl; exact absurd (hr.1 rfl) hD.out)
    clear hr hB0 ht
    go_wp2
    go_ret
    exact ⟨rfl, nW⟩

set_option maxRecDepth 100000 in
set_option maxHeartbeats 6400000 in
theorem c_lback {t : Th} {uL uC uK uD : Value} (id q : Int) (hq0 : -9223372036854775808 ≤ q) (hq1 : q ≤ 9223372036854775807) (w : World) (h : ThAt (fun b => b < w.heap.size) w t uL uC uK uD) (hwf : WfT t) (l1 : t.cats.length ≤ 8796093021952) (l2 : t.ccats.length ≤ 8796093021952) :
    Calls Try.prog 8 #[thV t uL uC uK uD, .int .u64 id, .int .i64 q] w fun e w' => e = .returned (.bool true) ∧ Nw w w' := by
  obtain ⟨W, hW⟩ : ∃ W, Hid (W = w.alloc (.cells (thC t uL uC uK uD).toArray 34)) := ⟨_, rfl⟩
  have nW : Nw w W := by rw [hW.out]; exact nw_alloc (nw_refl w) _
  have hB0 : W.heap[w.heap.size]? = some (.cells (thC t uL uC uK uD).toArray 34 (0, 0)) := by rw [hW.out]; exact heap_alloc_new w _
  have ht := h.nw nW
  clear h
  go_enter Try.func8, Try.ntmps8
  go_upto_region 1 with ((refine wpList_box_agg rfl 34 _ rfl (thV t uL uC uK uD) _ rfl rfl ?_))
  rw [← hW.out]
  clear hW
  have hcon : Hid _ := c_alive W
  go_wp2_with ((go_at_call 9; refine Calls.mono hcon.out ?_; rintro e W1 ⟨rfl, n1⟩; refine stop_here ?_))
  unfold Hid
  clear hcon
  replace hB0 := (n1.block _ (heap_lt hB0) (fun h => h)).trans hB0
  replace ht := ht.nw n1
  replace nW := nw_trans nW n1
  go_upto_region 3 with fail
  by_cases hD : DirT t
  · have hD0 := hD
    replace hD : Hid _ := hD
    clear hD0
    by_cases hi1 : id < 1
    · have hb1 : decide (id < 1) = true := decide_eq_true hi1
      have hcon : Hid _ := c_directory W1 ht hwf (by omega) (by omega)
      unfold AnsP at hcon
      have hr0 := range_all hB0
      go_wp2_with (first | (refine wpList_load_as rfl 34 _ rfl (w.heap.size) 0 rfl (thV t uL uC uK uD) _ rfl hr0 Try.rowT Try.sizeT ?_) | (go_at_call 10; refine Calls.mono hcon.out ?_; rintro e W2 ⟨r, rfl, hr, n2⟩; refine stop_here ?_))
      unfold Hid
      clear hcon hr0
      replace hB0 := (n2.block _ (heap_lt hB0) (fun h => h)).trans hB0
      replace ht := ht.nw n2
      replace nW := nw_trans nW n2
      obtain rfl := hr.2 hD.out
      clear hr
      clear hB0 ht hi1
      go_wp2
      go_ret
      exact ⟨rfl, nW⟩
    · have hb1 : decide (id < 1) = false := decide_eq_false hi1
      by_cases hi2 : 281474976710656 ≤ id
      · have hb2 : decide (281474976710656 ≤ id) = true := decide_eq_true hi2
        have hcon : Hid _ := c_directory W1 ht hwf (by omega) (by omega)
        unfold AnsP at hcon
        have hr0 := range_all hB0
        go_wp2_with (first | (refine wpList_load_as rfl 34 _ rfl (w.heap.size) 0 rfl (thV t uL uC uK uD) _ rfl hr0 Try.rowT Try.sizeT ?_) | (go_at_call 10; refine Calls.mono hcon.out ?_; rintro e W2 ⟨r, rfl, hr, n2⟩; refine stop_here ?_))
        unfold Hid
        clear hcon hr0
        replace hB0 := (n2.block _ (heap_lt hB0) (fun h => h)).trans hB0
        replace ht := ht.nw n2
        replace nW := nw_trans nW n2
        obtain rfl := hr.2 hD.out
        clear hr
        clear hB0 ht hi2
        go_wp2
        go_ret
        exact ⟨rfl, nW⟩
      · have hb2 : decide (281474976710656 ≤ id) = false := decide_eq_false hi2
        have hcon : Hid _ := c_directory W1 ht hwf (by omega) (by omega)
        unfold AnsP at hcon
        have hr0 := range_all hB0
        go_wp2_with (first | (refine wpList_load_as rfl 34 _ rfl (w.heap.size) 0 rfl (thV t uL uC uK uD) _ rfl hr0 Try.rowT Try.sizeT ?_) | (go_at_call 10; refine Calls.mono hcon.out ?_; rintro e W2 ⟨r, rfl, hr, n2⟩; refine stop_here ?_))
        unfold Hid
        clear hcon hr0
        replace hB0 := (n2.block _ (heap_lt hB0) (fun h => h)).trans hB0
        replace ht := ht.nw n2
        replace nW := nw_trans nW n2
        obtain rfl := hr.2 hD.out
        clear hr
        have hid : Hid (idOk id) := ⟨by omega, by omega⟩
        go_upto_region 5 with fail
        clear hb1 hb2 hi1 hi2
        replace hq0 : Hid _ := hq0
        replace hq1 : Hid _ := hq1
        clear l1 l2 hwf
        obtain ⟨⟨x1, e1⟩, hx1⟩ : ∃ x, addT t id q = x := ⟨_, rfl⟩
        have hqa : Hid _ := c_add id q W2 ht hD.out hq0.out hq1.out
        rw [hx1] at hqa
        have hcon : Hid _ := hqa.out
        unfold ChP at hcon
        have hr0 := range_all hB0
        go_wp2_with (first | (refine wpList_load_as rfl 34 _ rfl (w.heap.size) 0 rfl (thV t uL uC uK uD) _ rfl hr0 Try.rowT Try.sizeT ?_) | (go_at_call 18; refine Calls.mono hcon.out ?_; rintro e W3 ⟨a1, a2, a3, a4, rfl, hc1, n3⟩; refine stop_here ?_))
        unfold Hid
        clear hcon hr0 hqa
        replace hB0 := (n3.block _ (heap_lt hB0) (fun h => h)).trans hB0
        replace ht := ht.nw n3
        replace nW := nw_trans nW n3
        obtain ⟨Y1, hY⟩ : ∃ Y, Hid (Y = W3.alloc (.cells (thC zeroT (.slice none 0 0) (.slice none 0 0) (.slice none 0 0) (.slice none 0 0)).toArray 34)) := ⟨_, rfl⟩
        have nY : Nw W3 Y1 := by rw [hY.out]; exact nw_alloc (nw_refl _) _
        have hV1 : Y1.heap[W3.heap.size]? = some (.cells (thC zeroT (.slice none 0 0) (.slice none 0 0) (.slice none 0 0) (.slice none 0 0)).toArray 34 (0, 0)) := by rw [hY.out]; exact heap_alloc_new _ _
        go_wp2_with (refine wpList_alloc_agg rfl 34 rfl _ Try.zeroTh ?_; rw [← hY.out]; refine stop_here ?_)
        unfold Hid
        clear hY
        have hlhB0 := heap_lt hB0
        replace hB0 := (nY.block _ (heap_lt hB0) (fun h => h)).trans hB0
        replace ht := (ht.mono (X' := fun b => b < W3.heap.size) (fun b _ hb => hb)).nw nY
        replace hc1 := (hc1.mono (X' := fun b => b < W3.heap.size) (fun b _ hb => hb)).nw nY
        have hnl : w.heap.size ≤ W3.heap.size := nW.size
        replace nW := nw_trans nW nY
        clear nY
        generalize W3.heap.size = A1 at *
        obtain ⟨W4, hV⟩ : ∃ V, Hid (V = Y1.setRow (A1) (thC x1 a1 a2 a3 a4).toArray) := ⟨_, rfl⟩
        have fV : Fr (fun k => k = A1) Y1 W4 := by rw [hV.out]; exact (Fr.refl (fun k => k = A1) Y1).setRow (.inl rfl) _
        have hnew : W4.heap[A1]? = some (.cells (thC x1 a1 a2 a3 a4).toArray 34 (0, 0)) := by rw [hV.out]; exact setRow_heap _ _ _ _ _ _ hV1
        refine wpList_store_all rfl 34 _ _ rfl (A1) rfl (thV x1 a1 a2 a3 a4) rfl (thC x1 a1 a2 a3 a4) rfl (thC zeroT (.slice none 0 0) (.slice none 0 0) (.slice none 0 0) (.slice none 0 0)) 34 hV1 rfl (hc1.one) Try.sizeT ?_
        rw [← hV.out]
        clear hV
        replace hB0 := (fV.block _ (heap_lt hB0) (by show ¬ _ = _; omega)).trans hB0
        replace hV1 := hnew
        clear hnew
        replace ht := ht.keep (X' := fun b => b < A1) fV (fun b hb _ e => by have hb2 : b < A1 := hb; have e2 : b = A1 := e; omega) (fun b hb _ => hb)
        replace hc1 := hc1.keep (X' := fun b => b < A1) fV (fun b hb _ e => by have hb2 : b < A1 := hb; have e2 : b = A1 := e; omega) (fun b hb _ => hb)
        replace nW : Nw w W4 := Fr.trans nW fV (fun k hk => .inr (by have hk2 : k = A1 := hk; omega))
        clear fV hnl hlhB0
        go_upto_region 6 with fail
        by_cases he1 : e1 = 0
        · have hb3 : (e1 == 0) = true := by simp [he1]
          obtain ⟨r1, r2, r3, r4, r5⟩ := add_right hD.out hid.out (q := q) (by rw [hx1]; exact he1)
          rw [hx1] at r1 r3
          replace r1 : DirT x1 := r1
          replace r3 : x1 = { t with links := insL t.links (id, q) } := r3
          have hins : insL t.links (id, q) = x1.links := by rw [r3]
          have hhas : hasB x1.links id = true := by rw [← hins]; exact has_ins t.links (id, q)
          have hrm : rmL x1.links id = t.links := by rw [← hins]; exact rm_ins hD.out.ok.lk (id, q) hid.out ⟨r4, r5⟩ r2
          have hdr : dropT x1 id = (t, 0) := by unfold dropT; rw [if_pos hhas, hrm, r3]
          replace r1 : Hid _ := r1
          clear hins hhas hrm r2 r3 r4 r5 hx1 he1
          go_upto_region 7 with fail
          clear hb3
          have hqa : Hid _ := c_drop id W4 hc1 r1.out
          rw [hdr] at hqa
          clear hdr
          have hcon : Hid _ := hqa.out
          unfold ChP at hcon
          have hr1 := range_all hV1
          go_wp2_with (first | (refine wpList_load_as rfl 34 _ rfl (A1) 0 rfl (thV x1 a1 a2 a3 a4) _ rfl hr1 Try.rowT Try.sizeT ?_) | (go_at_call 22; refine Calls.mono hcon.out ?_; rintro e W5 ⟨d1, d2, d3, d4, rfl, hc2, n5⟩; refine stop_here ?_))
          unfold Hid
          clear hcon hr1 hqa
          replace hB0 := (n5.block _ (heap_lt hB0) (fun h => h)).trans hB0
          replace hV1 := (n5.block _ (heap_lt hV1) (fun h => h)).trans hV1
          replace ht := ht.nw n5
          replace hc1 := hc1.nw n5
          replace nW := nw_trans nW n5
          obtain ⟨Y2, hY⟩ : ∃ Y, Hid (Y = W5.alloc (.cells (thC zeroT (.slice none 0 0) (.slice none 0 0) (.slice none 0 0) (.slice none 0 0)).toArray 34)) := ⟨_, rfl⟩
          have nY : Nw W5 Y2 := by rw [hY.out]; exact nw_alloc (nw_refl _) _
          have hV2 : Y2.heap[W5.heap.size]? = some (.cells (thC zeroT (.slice none 0 0) (.slice none 0 0) (.slice none 0 0) (.slice none 0 0)).toArray 34 (0, 0)) := by rw [hY.out]; exact heap_alloc_new _ _
          go_wp2_with (refine wpList_alloc_agg rfl 34 rfl _ Try.zeroTh ?_; rw [← hY.out]; refine stop_here ?_)
          unfold Hid
          clear hY
          have hlhB0 := heap_lt hB0
          replace hB0 := (nY.block _ (heap_lt hB0) (fun h => h)).trans hB0
          have hlhV1 := heap_lt hV1
          replace hV1 := (nY.block _ (heap_lt hV1) (fun h => h)).trans hV1
          replace ht := (ht.mono (X' := fun b => b < W5.heap.size) (fun b _ hb => hb)).nw nY
          replace hc2 := (hc2.mono (X' := fun b => b < W5.heap.size) (fun b _ hb => hb)).nw nY
          have hnl : w.heap.size ≤ W5.heap.size := nW.size
          replace nW := nw_trans nW nY
          clear nY
          generalize W5.heap.size = A2 at *
          obtain ⟨W6, hV⟩ : ∃ V, Hid (V = Y2.setRow (A2) (thC t d1 d2 d3 d4).toArray) := ⟨_, rfl⟩
          have fV : Fr (fun k => k = A2) Y2 W6 := by rw [hV.out]; exact (Fr.refl (fun k => k = A2) Y2).setRow (.inl rfl) _
          have hnew : W6.heap[A2]? = some (.cells (thC t d1 d2 d3 d4).toArray 34 (0, 0)) := by rw [hV.out]; exact setRow_heap _ _ _ _ _ _ hV2
          refine wpList_store_all rfl 34 _ _ rfl (A2) rfl (thV t d1 d2 d3 d4) rfl (thC t d1 d2 d3 d4) rfl (thC zeroT (.slice none 0 0) (.slice none 0 0) (.slice none 0 0) (.slice none 0 0)) 34 hV2 rfl (hc2.one) Try.sizeT ?_
          rw [← hV.out]
          clear hV
          replace hB0 := (fV.block _ (heap_lt hB0) (by show ¬ _ = _; omega)).trans hB0
          replace hV1 := (fV.block _ (heap_lt hV1) (by show ¬ _ = _; omega)).trans hV1
          replace hV2 := hnew
          clear hnew
          replace ht := ht.keep (X' := fun b => b < A2) fV (fun b hb _ e => by have hb2 : b < A2 := hb; have e2 : b = A2 := e; omega) (fun b hb _ => hb)
          replace hc2 := hc2.keep (X' := fun b => b < A2) fV (fun b hb _ e => by have hb2 : b < A2 := hb; have e2 : b = A2 := e; omega) (fun b hb _ => hb)
          replace nW : Nw w W6 := Fr.trans nW fV (fun k hk => .inr (by have hk2 : k = A2 := hk; omega))
          clear fV hnl hlhB0 hlhV1
          go_upto_region 8 with fail
          have hcon : Hid _ := c_rtsame W6 hc2 ht
          unfold AnsP at hcon
          have hr0 := range_all hB0
          have hr2 := range_all hV2
          go_wp2_with (first | (refine wpList_load_as rfl 34 _ rfl (w.heap.size) 0 rfl (thV t uL uC uK uD) _ rfl hr0 Try.rowT Try.sizeT ?_) | (refine wpList_load_as rfl 34 _ rfl (A2) 0 rfl (thV t d1 d2 d3 d4) _ rfl hr2 Try.rowT Try.sizeT ?_) | (go_at_call 24; refine Calls.mono hcon.out ?_; rintro e W7 ⟨r, rfl, hr, n7⟩; refine stop_here ?_))
          unfold Hid
          clear hcon hr0 hr2
          replace hB0 := (n7.block _ (heap_lt hB0) (fun h => h)).trans hB0
          replace hV1 := (n7.block _ (heap_lt hV1) (fun h => h)).trans hV1
          replace hV2 := (n7.block _ (heap_lt hV2) (fun h => h)).trans hV2
          replace ht := ht.nw n7
          replace hc2 := hc2.nw n7
          replace nW := nw_trans nW n7
          obtain rfl := hr.2 (by trivial)
          clear hr hV2 hV1 hc2
          skip
          go_upto_region 10 with fail
          obtain ⟨⟨y1, m1, f1⟩, hy1⟩ : ∃ x, bornT t q = x := ⟨_, rfl⟩
          have hqa : Hid _ := c_born q W7 ht hD.out hq0.out hq1.out
          rw [hy1] at hqa
          have hcon : Hid _ := hqa.out
          unfold BoP at hcon
          have hr0 := range_all hB0
          go_wp2_with (first | (refine wpList_load_as rfl 34 _ rfl (w.heap.size) 0 rfl (thV t uL uC uK uD) _ rfl hr0 Try.rowT Try.sizeT ?_) | (go_at_call 20; refine Calls.mono hcon.out ?_; rintro e W8 ⟨b1, b2, b3, b4, rfl, hc3, n8⟩; refine stop_here ?_))
          unfold Hid
          clear hcon hr0 hqa
          replace hB0 := (n8.block _ (heap_lt hB0) (fun h => h)).trans hB0
          replace ht := ht.nw n8
          replace nW := nw_trans nW n8
          obtain ⟨Y3, hY⟩ : ∃ Y, Hid (Y = W8.alloc (.cells (thC zeroT (.slice none 0 0) (.slice none 0 0) (.slice none 0 0) (.slice none 0 0)).toArray 34)) := ⟨_, rfl⟩
          have nY : Nw W8 Y3 := by rw [hY.out]; exact nw_alloc (nw_refl _) _
          have hV3 : Y3.heap[W8.heap.size]? = some (.cells (thC zeroT (.slice none 0 0) (.slice none 0 0) (.slice none 0 0) (.slice none 0 0)).toArray 34 (0, 0)) := by rw [hY.out]; exact heap_alloc_new _ _
          go_wp2_with (refine wpList_alloc_agg rfl 34 rfl _ Try.zeroTh ?_; rw [← hY.out]; refine stop_here ?_)
          unfold Hid
          clear hY
          have hlhB0 := heap_lt hB0
          replace hB0 := (nY.block _ (heap_lt hB0) (fun h => h)).trans hB0
          replace ht := (ht.mono (X' := fun b => b < W8.heap.size) (fun b _ hb => hb)).nw nY
          replace hc3 := (hc3.mono (X' := fun b => b < W8.heap.size) (fun b _ hb => hb)).nw nY
          have hnl : w.heap.size ≤ W8.heap.size := nW.size
          replace nW := nw_trans nW nY
          clear nY
          generalize W8.heap.size = A3 at *
          obtain ⟨W9, hV⟩ : ∃ V, Hid (V = Y3.setRow (A3) (thC y1 b1 b2 b3 b4).toArray) := ⟨_, rfl⟩
          have fV : Fr (fun k => k = A3) Y3 W9 := by rw [hV.out]; exact (Fr.refl (fun k => k = A3) Y3).setRow (.inl rfl) _
          have hnew : W9.heap[A3]? = some (.cells (thC y1 b1 b2 b3 b4).toArray 34 (0, 0)) := by rw [hV.out]; exact setRow_heap _ _ _ _ _ _ hV3
          refine wpList_store_all rfl 34 _ _ rfl (A3) rfl (thV y1 b1 b2 b3 b4) rfl (thC y1 b1 b2 b3 b4) rfl (thC zeroT (.slice none 0 0) (.slice none 0 0) (.slice none 0 0) (.slice none 0 0)) 34 hV3 rfl (hc3.one) Try.sizeT ?_
          rw [← hV.out]
          clear hV
          replace hB0 := (fV.block _ (heap_lt hB0) (by show ¬ _ = _; omega)).trans hB0
          replace hV3 := hnew
          clear hnew
          replace ht := ht.keep (X' := fun b => b < A3) fV (fun b hb _ e => by have hb2 : b < A3 := hb; have e2 : b = A3 := e; omega) (fun b hb _ => hb)
          replace hc3 := hc3.keep (X' := fun b => b < A3) fV (fun b hb _ e => by have hb2 : b < A3 := hb; have e2 : b = A3 := e; omega) (fun b hb _ => hb)
          replace nW : Nw w W9 := Fr.trans nW fV (fun k hk => .inr (by have hk2 : k = A3 := hk; omega))
          clear fV hnl hlhB0
          go_upto_region 11 with fail
          by_cases hf1 : f1 = 0
          · have hb3 : (f1 != 0) = false := by simp [hf1]
            have hbr := born_right (q := q) hD.out (by rw [hy1]; exact hf1)
            rw [hy1] at hbr
            obtain ⟨r1, r2, r3, r4, r5, r6, r7, r8⟩ := hbr
            have hins : insL t.links (m1, q) = y1.links := by rw [show y1 = _ from r2]
            have hhas : hasB y1.links m1 = true := by rw [← hins]; exact has_ins t.links (m1, q)
            have hrm : rmL y1.links m1 = t.links := by rw [← hins]; exact rm_ins hD.out.ok.lk (m1, q) r5 ⟨r7, r8⟩ r6
            have hdr : dropT y1 m1 = ({ t with next := t.next + 1 }, 0) := by unfold dropT; rw [if_pos hhas, hrm, show y1 = _ from r2]
            have hDz : Hid (DirT { t with next := t.next + 1 }) := by have := (drop_right (id := m1) r1 (by rw [hdr])).2.2.1; rw [hdr] at this; exact this
            have hr1 : Hid (DirT y1) := r1
            replace r2 : y1 = _ := r2
            replace r3 : m1 = t.id * 64 + t.next + 1 := r3
            have hidr := hD.out.right.id
            have hnxr := hD.out.ok.next
            unfold idOk at hidr
            unfold btw at hnxr
            have hqa : Hid _ := c_drop m1 W9 hc3 hr1.out
            rw [hdr] at hqa
            unfold ChP at hqa
            have hno : Hid (∀ z : Th × Int × Int, bornT { t with next := t.next + 1 } q = z → (z.2.1 != m1) = true) := fun z hz => by
              rw [← hz]
              by_cases he : (bornT { t with next := t.next + 1 } q).2.2 = 0
              · have h3 : (bornT { t with next := t.next + 1 } q).2.1 = t.id * 64 + (t.next + 1) + 1 := (born_right hDz.out he).2.2.1
                rw [h3]; simp; omega
              · rw [(born_err he).2]; simp; omega
            replace r2 : Hid _ := r2
            replace r3 : Hid _ := r3
            replace hidr : Hid _ := hidr
            replace hnxr : Hid _ := hnxr
            replace r4 : Hid _ := r4
            clear hdr hrm hhas hins r5 r6 r7 r8 r1 hf1 hy1
            go_upto_region 13 with fail
            clear hb3
            have hcon : Hid _ := hqa.out
            have hr1 := range_all hV3
            go_wp2_with (first | (refine wpList_load_as rfl 34 _ rfl (A3) 0 rfl (thV y1 b1 b2 b3 b4) _ rfl hr1 Try.rowT Try.sizeT ?_) | (go_at_call 22; refine Calls.mono hcon.out ?_; rintro e W10 ⟨d1, d2, d3, d4, rfl, hc4, n10⟩; refine stop_here ?_))
            unfold Hid
            clear hcon hr1 hqa
            replace hB0 := (n10.block _ (heap_lt hB0) (fun h => h)).trans hB0
            replace hV3 := (n10.block _ (heap_lt hV3) (fun h => h)).trans hV3
            replace ht := ht.nw n10
            replace hc3 := hc3.nw n10
            replace nW := nw_trans nW n10
            obtain ⟨Y4, hY⟩ : ∃ Y, Hid (Y = W10.alloc (.cells (thC zeroT (.slice none 0 0) (.slice none 0 0) (.slice none 0 0) (.slice none 0 0)).toArray 34)) := ⟨_, rfl⟩
            have nY : Nw W10 Y4 := by rw [hY.out]; exact nw_alloc (nw_refl _) _
            have hV4 : Y4.heap[W10.heap.size]? = some (.cells (thC zeroT (.slice none 0 0) (.slice none 0 0) (.slice none 0 0) (.slice none 0 0)).toArray 34 (0, 0)) := by rw [hY.out]; exact heap_alloc_new _ _
            go_wp2_with (refine wpList_alloc_agg rfl 34 rfl _ Try.zeroTh ?_; rw [← hY.out]; refine stop_here ?_)
            unfold Hid
            clear hY
            have hlhB0 := heap_lt hB0
            replace hB0 := (nY.block _ (heap_lt hB0) (fun h => h)).trans hB0
            have hlhV3 := heap_lt hV3
            replace hV3 := (nY.block _ (heap_lt hV3) (fun h => h)).trans hV3
            replace ht := (ht.mono (X' := fun b => b < W10.heap.size) (fun b _ hb => hb)).nw nY
            replace hc4 := (hc4.mono (X' := fun b => b < W10.heap.size) (fun b _ hb => hb)).nw nY
            have hnl : w.heap.size ≤ W10.heap.size := nW.size
            replace nW := nw_trans nW nY
            clear nY
            generalize W10.heap.size = A4 at *
            obtain ⟨W11, hV⟩ : ∃ V, Hid (V = Y4.setRow (A4) (thC ({ t with next := t.next + 1 } : Th) d1 d2 d3 d4).toArray) := ⟨_, rfl⟩
            have fV : Fr (fun k => k = A4) Y4 W11 := by rw [hV.out]; exact (Fr.refl (fun k => k = A4) Y4).setRow (.inl rfl) _
            have hnew : W11.heap[A4]? = some (.cells (thC ({ t with next := t.next + 1 } : Th) d1 d2 d3 d4).toArray 34 (0, 0)) := by rw [hV.out]; exact setRow_heap _ _ _ _ _ _ hV4
            refine wpList_store_all rfl 34 _ _ rfl (A4) rfl (thV ({ t with next := t.next + 1 } : Th) d1 d2 d3 d4) rfl (thC ({ t with next := t.next + 1 } : Th) d1 d2 d3 d4) rfl (thC zeroT (.slice none 0 0) (.slice none 0 0) (.slice none 0 0) (.slice none 0 0)) 34 hV4 rfl (hc4.one) Try.sizeT ?_
            rw [← hV.out]
            clear hV
            replace hB0 := (fV.block _ (heap_lt hB0) (by show ¬ _ = _; omega)).trans hB0
            replace hV3 := (fV.block _ (heap_lt hV3) (by show ¬ _ = _; omega)).trans hV3
            replace hV4 := hnew
            clear hnew
            replace ht := ht.keep (X' := fun b => b < A4) fV (fun b hb _ e => by have hb2 : b < A4 := hb; have e2 : b = A4 := e; omega) (fun b hb _ => hb)
            replace hc4 := hc4.keep (X' := fun b => b < A4) fV (fun b hb _ e => by have hb2 : b < A4 := hb; have e2 : b = A4 := e; omega) (fun b hb _ => hb)
            replace nW : Nw w W11 := Fr.trans nW fV (fun k hk => .inr (by have hk2 : k = A4 := hk; omega))
            clear fV hnl hlhB0 hlhV3
            go_upto_region 14 with fail
            have hqa : Hid _ := c_born q W11 hc4 hDz.out hq0.out hq1.out
            obtain ⟨⟨z1, z2, z3⟩, hz⟩ : ∃ z, bornT { t with next := t.next + 1 } q = z := ⟨_, rfl⟩
            have hno2 := hno.out _ hz
            rw [hz] at hqa
            have hno2 : (z2 != m1) = true := hno2
            clear hno hz
            have hcon : Hid _ := hqa.out
            unfold BoP at hcon
            have hr2 := range_all hV4
            go_wp2_with (first | (refine wpList_load_as rfl 34 _ rfl (A4) 0 rfl (thV ({ t with next := t.next + 1 } : Th) d1 d2 d3 d4) _ rfl hr2 Try.rowT Try.sizeT ?_) | (go_at_call 20; refine Calls.mono hcon.out ?_; rintro e W12 ⟨g1, g2, g3, g4, rfl, hc5, n12⟩; refine stop_here ?_))
            unfold Hid
            clear hcon hr2 hqa
            replace hB0 := (n12.block _ (heap_lt hB0) (fun h => h)).trans hB0
            replace hV3 := (n12.block _ (heap_lt hV3) (fun h => h)).trans hV3
            replace hV4 := (n12.block _ (heap_lt hV4) (fun h => h)).trans hV4
            replace ht := ht.nw n12
            replace hc4 := hc4.nw n12
            replace nW := nw_trans nW n12
            obtain ⟨Y5, hY⟩ : ∃ Y, Hid (Y = W12.alloc (.cells (thC zeroT (.slice none 0 0) (.slice none 0 0) (.slice none 0 0) (.slice none 0 0)).toArray 34)) := ⟨_, rfl⟩
            have nY : Nw W12 Y5 := by rw [hY.out]; exact nw_alloc (nw_refl _) _
            have hV5 : Y5.heap[W12.heap.size]? = some (.cells (thC zeroT (.slice none 0 0) (.slice none 0 0) (.slice none 0 0) (.slice none 0 0)).toArray 34 (0, 0)) := by rw [hY.out]; exact heap_alloc_new _ _
            go_wp2_with (refine wpList_alloc_agg rfl 34 rfl _ Try.zeroTh ?_; rw [← hY.out]; refine stop_here ?_)
            unfold Hid
            clear hY
            have hlhB0 := heap_lt hB0
            replace hB0 := (nY.block _ (heap_lt hB0) (fun h => h)).trans hB0
            have hlhV3 := heap_lt hV3
            replace hV3 := (nY.block _ (heap_lt hV3) (fun h => h)).trans hV3
            have hlhV4 := heap_lt hV4
            replace hV4 := (nY.block _ (heap_lt hV4) (fun h => h)).trans hV4
            replace ht := (ht.mono (X' := fun b => b < W12.heap.size) (fun b _ hb => hb)).nw nY
            replace hc5 := (hc5.mono (X' := fun b => b < W12.heap.size) (fun b _ hb => hb)).nw nY
            have hnl : w.heap.size ≤ W12.heap.size := nW.size
            replace nW := nw_trans nW nY
            clear nY
            generalize W12.heap.size = A5 at *
            obtain ⟨W13, hV⟩ : ∃ V, Hid (V = Y5.setRow (A5) (thC z1 g1 g2 g3 g4).toArray) := ⟨_, rfl⟩
            have fV : Fr (fun k => k = A5) Y5 W13 := by rw [hV.out]; exact (Fr.refl (fun k => k = A5) Y5).setRow (.inl rfl) _
            have hnew : W13.heap[A5]? = some (.cells (thC z1 g1 g2 g3 g4).toArray 34 (0, 0)) := by rw [hV.out]; exact setRow_heap _ _ _ _ _ _ hV5
            refine wpList_store_all rfl 34 _ _ rfl (A5) rfl (thV z1 g1 g2 g3 g4) rfl (thC z1 g1 g2 g3 g4) rfl (thC zeroT (.slice none 0 0) (.slice none 0 0) (.slice none 0 0) (.slice none 0 0)) 34 hV5 rfl (hc5.one) Try.sizeT ?_
            rw [← hV.out]
            clear hV
            replace hB0 := (fV.block _ (heap_lt hB0) (by show ¬ _ = _; omega)).trans hB0
            replace hV3 := (fV.block _ (heap_lt hV3) (by show ¬ _ = _; omega)).trans hV3
            replace hV4 := (fV.block _ (heap_lt hV4) (by show ¬ _ = _; omega)).trans hV4
            replace hV5 := hnew
            clear hnew
            replace ht := ht.keep (X' := fun b => b < A5) fV (fun b hb _ e => by have hb2 : b < A5 := hb; have e2 : b = A5 := e; omega) (fun b hb _ => hb)
            replace hc5 := hc5.keep (X' := fun b => b < A5) fV (fun b hb _ e => by have hb2 : b < A5 := hb; have e2 : b = A5 := e; omega) (fun b hb _ => hb)
            replace nW : Nw w W13 := Fr.trans nW fV (fun k hk => .inr (by have hk2 : k = A5 := hk; omega))
            clear fV hnl hlhB0 hlhV3 hlhV4
            go_upto_region 15 with fail
            have c5 : W13.cell? ⟨A4, 7, none⟩ = some (.int .i64 (t.next + 1)) := cell_blk hV4 rfl
            have c6 : W13.cell? ⟨w.heap.size, 7, none⟩ = some (.int .i64 t.next) := cell_blk hB0 rfl
            have hwr : IntKind.i64.wrap (t.next + 1) = t.next + 1 := by have := hnxr.out; rw [IntKind.wrap_i64]; omega
            clear hV4 hV5 hB0 ht hc5
            go_wp2
            go_ret
            exact ⟨rfl, nW⟩
          · have hb3 : (f1 != 0) = true := by simpa using hf1
            have hye : y1 = t := by have := (born_err (t := t) (q := q) (by rw [hy1]; exact hf1)).1; rw [hy1] at this; exact this
            clear hf1 hy1
            replace hye : Hid _ := hye
            go_upto_region 12 with fail
            clear hb3
            have hcon : Hid _ := c_rtsame W9 hc3 ht
            unfold AnsP at hcon
            have hr0 := range_all hB0
            have hr1 := range_all hV3
            go_wp2_with (first | (refine wpList_load_as rfl 34 _ rfl (w.heap.size) 0 rfl (thV t uL uC uK uD) _ rfl hr0 Try.rowT Try.sizeT ?_) | (refine wpList_load_as rfl 34 _ rfl (A3) 0 rfl (thV y1 b1 b2 b3 b4) _ rfl hr1 Try.rowT Try.sizeT ?_) | (go_at_call 24; refine Calls.mono hcon.out ?_; rintro e W10 ⟨r, rfl, hr, n10⟩; refine stop_here ?_))
            unfold Hid
            clear hcon hr0 hr1
            replace hB0 := (n10.block _ (heap_lt hB0) (fun h => h)).trans hB0
            replace hV3 := (n10.block _ (heap_lt hV3) (fun h => h)).trans hV3
            replace ht := ht.nw n10
            replace hc3 := hc3.nw n10
            replace nW := nw_trans nW n10
            obtain rfl := hr.2 (by first | exact hye.out | trivial)
            clear hr hV3 hB0 ht hc3 hye
            go_wp2
            go_ret
            exact ⟨rfl, nW⟩
        · have hb3 : (e1 == 0) = false := by simp [he1]
          clear hx1 hV1 hc1 he1
          go_upto_region 10 with fail
          obtain ⟨⟨y1, m1, f1⟩, hy1⟩ : ∃ x, bornT t q = x := ⟨_, rfl⟩
          have hqa : Hid _ := c_born q W4 ht hD.out hq0.out hq1.out
          rw [hy1] at hqa
          have hcon : Hid _ := hqa.out
          unfold BoP at hcon
          have hr0 := range_all hB0
          go_wp2_with (first | (refine wpList_load_as rfl 34 _ rfl (w.heap.size) 0 rfl (thV t uL uC uK uD) _ rfl hr0 Try.rowT Try.sizeT ?_) | (go_at_call 20; refine Calls.mono hcon.out ?_; rintro e W5 ⟨b1, b2, b3, b4, rfl, hc3, n5⟩; refine stop_here ?_))
          unfold Hid
          clear hcon hr0 hqa
          replace hB0 := (n5.block _ (heap_lt hB0) (fun h => h)).trans hB0
          replace ht := ht.nw n5
          replace nW := nw_trans nW n5
          obtain ⟨Y3, hY⟩ : ∃ Y, Hid (Y = W5.alloc (.cells (thC zeroT (.slice none 0 0) (.slice none 0 0) (.slice none 0 0) (.slice none 0 0)).toArray 34)) := ⟨_, rfl⟩
          have nY : Nw W5 Y3 := by rw [hY.out]; exact nw_alloc (nw_refl _) _
          have hV3 : Y3.heap[W5.heap.size]? = some (.cells (thC zeroT (.slice none 0 0) (.slice none 0 0) (.slice none 0 0) (.slice none 0 0)).toArray 34 (0, 0)) := by rw [hY.out]; exact heap_alloc_new _ _
          go_wp2_with (refine wpList_alloc_agg rfl 34 rfl _ Try.zeroTh ?_; rw [← hY.out]; refine stop_here ?_)
          unfold Hid
          clear hY
          have hlhB0 := heap_lt hB0
          replace hB0 := (nY.block _ (heap_lt hB0) (fun h => h)).trans hB0
          replace ht := (ht.mono (X' := fun b => b < W5.heap.size) (fun b _ hb => hb)).nw nY
          replace hc3 := (hc3.mono (X' := fun b => b < W5.heap.size) (fun b _ hb => hb)).nw nY
          have hnl : w.heap.size ≤ W5.heap.size := nW.size
          replace nW := nw_trans nW nY
          clear nY
          generalize W5.heap.size = A3 at *
          obtain ⟨W6, hV⟩ : ∃ V, Hid (V = Y3.setRow (A3) (thC y1 b1 b2 b3 b4).toArray) := ⟨_, rfl⟩
          have fV : Fr (fun k => k = A3) Y3 W6 := by rw [hV.out]; exact (Fr.refl (fun k => k = A3) Y3).setRow (.inl rfl) _
          have hnew : W6.heap[A3]? = some (.cells (thC y1 b1 b2 b3 b4).toArray 34 (0, 0)) := by rw [hV.out]; exact setRow_heap _ _ _ _ _ _ hV3
          refine wpList_store_all rfl 34 _ _ rfl (A3) rfl (thV y1 b1 b2 b3 b4) rfl (thC y1 b1 b2 b3 b4) rfl (thC zeroT (.slice none 0 0) (.slice none 0 0) (.slice none 0 0) (.slice none 0 0)) 34 hV3 rfl (hc3.one) Try.sizeT ?_
          rw [← hV.out]
          clear hV
          replace hB0 := (fV.block _ (heap_lt hB0) (by show ¬ _ = _; omega)).trans hB0
          replace hV3 := hnew
          clear hnew
          replace ht := ht.keep (X' := fun b => b < A3) fV (fun b hb _ e => by have hb2 : b < A3 := hb; have e2 : b = A3 := e; omega) (fun b hb _ => hb)
          replace hc3 := hc3.keep (X' := fun b => b < A3) fV (fun b hb _ e => by have hb2 : b < A3 := hb; have e2 : b = A3 := e; omega) (fun b hb _ => hb)
          replace nW : Nw w W6 := Fr.trans nW fV (fun k hk => .inr (by have hk2 : k = A3 := hk; omega))
          clear fV hnl hlhB0
          go_upto_region 11 with fail
          by_cases hf1 : f1 = 0
          · have hb3 : (f1 != 0) = false := by simp [hf1]
            have hbr := born_right (q := q) hD.out (by rw [hy1]; exact hf1)
            rw [hy1] at hbr
            obtain ⟨r1, r2, r3, r4, r5, r6, r7, r8⟩ := hbr
            have hins : insL t.links (m1, q) = y1.links := by rw [show y1 = _ from r2]
            have hhas : hasB y1.links m1 = true := by rw [← hins]; exact has_ins t.links (m1, q)
            have hrm : rmL y1.links m1 = t.links := by rw [← hins]; exact rm_ins hD.out.ok.lk (m1, q) r5 ⟨r7, r8⟩ r6
            have hdr : dropT y1 m1 = ({ t with next := t.next + 1 }, 0) := by unfold dropT; rw [if_pos hhas, hrm, show y1 = _ from r2]
            have hDz : Hid (DirT { t with next := t.next + 1 }) := by have := (drop_right (id := m1) r1 (by rw [hdr])).2.2.1; rw [hdr] at this; exact this
            have hr1 : Hid (DirT y1) := r1
            replace r2 : y1 = _ := r2
            replace r3 : m1 = t.id * 64 + t.next + 1 := r3
            have hidr := hD.out.right.id
            have hnxr := hD.out.ok.next
            unfold idOk at hidr
            unfold btw at hnxr
            have hqa : Hid _ := c_drop m1 W6 hc3 hr1.out
            rw [hdr] at hqa
            unfold ChP at hqa
            have hno : Hid (∀ z : Th × Int × Int, bornT { t with next := t.next + 1 } q = z → (z.2.1 != m1) = true) := fun z hz => by
              rw [← hz]
              by_cases he : (bornT { t with next := t.next + 1 } q).2.2 = 0
              · have h3 : (bornT { t with next := t.next + 1 } q).2.1 = t.id * 64 + (t.next + 1) + 1 := (born_right hDz.out he).2.2.1
                rw [h3]; simp; omega
              · rw [(born_err he).2]; simp; omega
            replace r2 : Hid _ := r2
            replace r3 : Hid _ := r3
            replace hidr : Hid _ := hidr
            replace hnxr : Hid _ := hnxr
            replace r4 : Hid _ := r4
            clear hdr hrm hhas hins r5 r6 r7 r8 r1 hf1 hy1
            go_upto_region 13 with fail
            clear hb3
            have hcon : Hid _ := hqa.out
            have hr1 := range_all hV3
            go_wp2_with (first | (refine wpList_load_as rfl 34 _ rfl (A3) 0 rfl (thV y1 b1 b2 b3 b4) _ rfl hr1 Try.rowT Try.sizeT ?_) | (go_at_call 22; refine Calls.mono hcon.out ?_; rintro e W7 ⟨d1, d2, d3, d4, rfl, hc4, n7⟩; refine stop_here ?_))
            unfold Hid
            clear hcon hr1 hqa
            replace hB0 := (n7.block _ (heap_lt hB0) (fun h => h)).trans hB0
            replace hV3 := (n7.block _ (heap_lt hV3) (fun h => h)).trans hV3
            replace ht := ht.nw n7
            replace hc3 := hc3.nw n7
            replace nW := nw_trans nW n7
            obtain ⟨Y4, hY⟩ : ∃ Y, Hid (Y = W7.alloc (.cells (thC zeroT (.slice none 0 0) (.slice none 0 0) (.slice none 0 0) (.slice none 0 0)).toArray 34)) := ⟨_, rfl⟩
            have nY : Nw W7 Y4 := by rw [hY.out]; exact nw_alloc (nw_refl _) _
            have hV4 : Y4.heap[W7.heap.size]? = some (.cells (thC zeroT (.slice none 0 0) (.slice none 0 0) (.slice none 0 0) (.slice none 0 0)).toArray 34 (0, 0)) := by rw [hY.out]; exact heap_alloc_new _ _
            go_wp2_with (refine wpList_alloc_agg rfl 34 rfl _ Try.zeroTh ?_; rw [← hY.out]; refine stop_here ?_)
            unfold Hid
            clear hY
            have hlhB0 := heap_lt hB0
            replace hB0 := (nY.block _ (heap_lt hB0) (fun h => h)).trans hB0
            have hlhV3 := heap_lt hV3
            replace hV3 := (nY.block _ (heap_lt hV3) (fun h => h)).trans hV3
            replace ht := (ht.mono (X' := fun b => b < W7.heap.size) (fun b _ hb => hb)).nw nY
            replace hc4 := (hc4.mono (X' := fun b => b < W7.heap.size) (fun b _ hb => hb)).nw nY
            have hnl : w.heap.size ≤ W7.heap.size := nW.size
            replace nW := nw_trans nW nY
            clear nY
            generalize W7.heap.size = A4 at *
            obtain ⟨W8, hV⟩ : ∃ V, Hid (V = Y4.setRow (A4) (thC ({ t with next := t.next + 1 } : Th) d1 d2 d3 d4).toArray) := ⟨_, rfl⟩
            have fV : Fr (fun k => k = A4) Y4 W8 := by rw [hV.out]; exact (Fr.refl (fun k => k = A4) Y4).setRow (.inl rfl) _
            have hnew : W8.heap[A4]? = some (.cells (thC ({ t with next := t.next + 1 } : Th) d1 d2 d3 d4).toArray 34 (0, 0)) := by rw [hV.out]; exact setRow_heap _ _ _ _ _ _ hV4
            refine wpList_store_all rfl 34 _ _ rfl (A4) rfl (thV ({ t with next := t.next + 1 } : Th) d1 d2 d3 d4) rfl (thC ({ t with next := t.next + 1 } : Th) d1 d2 d3 d4) rfl (thC zeroT (.slice none 0 0) (.slice none 0 0) (.slice none 0 0) (.slice none 0 0)) 34 hV4 rfl (hc4.one) Try.sizeT ?_
            rw [← hV.out]
            clear hV
            replace hB0 := (fV.block _ (heap_lt hB0) (by show ¬ _ = _; omega)).trans hB0
            replace hV3 := (fV.block _ (heap_lt hV3) (by show ¬ _ = _; omega)).trans hV3
            replace hV4 := hnew
            clear hnew
            replace ht := ht.keep (X' := fun b => b < A4) fV (fun b hb _ e => by have hb2 : b < A4 := hb; have e2 : b = A4 := e; omega) (fun b hb _ => hb)
            replace hc4 := hc4.keep (X' := fun b => b < A4) fV (fun b hb _ e => by have hb2 : b < A4 := hb; have e2 : b = A4 := e; omega) (fun b hb _ => hb)
            replace nW : Nw w W8 := Fr.trans nW fV (fun k hk => .inr (by have hk2 : k = A4 := hk; omega))
            clear fV hnl hlhB0 hlhV3
            go_upto_region 14 with fail
            have hqa : Hid _ := c_born q W8 hc4 hDz.out hq0.out hq1.out
            obtain ⟨⟨z1, z2, z3⟩, hz⟩ : ∃ z, bornT { t with next := t.next + 1 } q = z := ⟨_, rfl⟩
            have hno2 := hno.out _ hz
            rw [hz] at hqa
            have hno2 : (z2 != m1) = true := hno2
            clear hno hz
            have hcon : Hid _ := hqa.out
            unfold BoP at hcon
            have hr2 := range_all hV4
            go_wp2_with (first | (refine wpList_load_as rfl 34 _ rfl (A4) 0 rfl (thV ({ t with next := t.next + 1 } : Th) d1 d2 d3 d4) _ rfl hr2 Try.rowT Try.sizeT ?_) | (go_at_call 20; refine Calls.mono hcon.out ?_; rintro e W9 ⟨g1, g2, g3, g4, rfl, hc5, n9⟩; refine stop_here ?_))
            unfold Hid
            clear hcon hr2 hqa
            replace hB0 := (n9.block _ (heap_lt hB0) (fun h => h)).trans hB0
            replace hV3 := (n9.block _ (heap_lt hV3) (fun h => h)).trans hV3
            replace hV4 := (n9.block _ (heap_lt hV4) (fun h => h)).trans hV4
            replace ht := ht.nw n9
            replace hc4 := hc4.nw n9
            replace nW := nw_trans nW n9
            obtain ⟨Y5, hY⟩ : ∃ Y, Hid (Y = W9.alloc (.cells (thC zeroT (.slice none 0 0) (.slice none 0 0) (.slice none 0 0) (.slice none 0 0)).toArray 34)) := ⟨_, rfl⟩
            have nY : Nw W9 Y5 := by rw [hY.out]; exact nw_alloc (nw_refl _) _
            have hV5 : Y5.heap[W9.heap.size]? = some (.cells (thC zeroT (.slice none 0 0) (.slice none 0 0) (.slice none 0 0) (.slice none 0 0)).toArray 34 (0, 0)) := by rw [hY.out]; exact heap_alloc_new _ _
            go_wp2_with (refine wpList_alloc_agg rfl 34 rfl _ Try.zeroTh ?_; rw [← hY.out]; refine stop_here ?_)
            unfold Hid
            clear hY
            have hlhB0 := heap_lt hB0
            replace hB0 := (nY.block _ (heap_lt hB0) (fun h => h)).trans hB0
            have hlhV3 := heap_lt hV3
            replace hV3 := (nY.block _ (heap_lt hV3) (fun h => h)).trans hV3
            have hlhV4 := heap_lt hV4
            replace hV4 := (nY.block _ (heap_lt hV4) (fun h => h)).trans hV4
            replace ht := (ht.mono (X' := fun b => b < W9.heap.size) (fun b _ hb => hb)).nw nY
            replace hc5 := (hc5.mono (X' := fun b => b < W9.heap.size) (fun b _ hb => hb)).nw nY
            have hnl : w.heap.size ≤ W9.heap.size := nW.size
            replace nW := nw_trans nW nY
            clear nY
            generalize W9.heap.size = A5 at *
            obtain ⟨W10, hV⟩ : ∃ V, Hid (V = Y5.setRow (A5) (thC z1 g1 g2 g3 g4).toArray) := ⟨_, rfl⟩
            have fV : Fr (fun k => k = A5) Y5 W10 := by rw [hV.out]; exact (Fr.refl (fun k => k = A5) Y5).setRow (.inl rfl) _
            have hnew : W10.heap[A5]? = some (.cells (thC z1 g1 g2 g3 g4).toArray 34 (0, 0)) := by rw [hV.out]; exact setRow_heap _ _ _ _ _ _ hV5
            refine wpList_store_all rfl 34 _ _ rfl (A5) rfl (thV z1 g1 g2 g3 g4) rfl (thC z1 g1 g2 g3 g4) rfl (thC zeroT (.slice none 0 0) (.slice none 0 0) (.slice none 0 0) (.slice none 0 0)) 34 hV5 rfl (hc5.one) Try.sizeT ?_
            rw [← hV.out]
            clear hV
            replace hB0 := (fV.block _ (heap_lt hB0) (by show ¬ _ = _; omega)).trans hB0
            replace hV3 := (fV.block _ (heap_lt hV3) (by show ¬ _ = _; omega)).trans hV3
            replace hV4 := (fV.block _ (heap_lt hV4) (by show ¬ _ = _; omega)).trans hV4
            replace hV5 := hnew
            clear hnew
            replace ht := ht.keep (X' := fun b => b < A5) fV (fun b hb _ e => by have hb2 : b < A5 := hb; have e2 : b = A5 := e; omega) (fun b hb _ => hb)
            replace hc5 := hc5.keep (X' := fun b => b < A5) fV (fun b hb _ e => by have hb2 : b < A5 := hb; have e2 : b = A5 := e; omega) (fun b hb _ => hb)
            replace nW : Nw w W10 := Fr.trans nW fV (fun k hk => .inr (by have hk2 : k = A5 := hk; omega))
            clear fV hnl hlhB0 hlhV3 hlhV4
            go_upto_region 15 with fail
            have c5 : W10.cell? ⟨A4, 7, none⟩ = some (.int .i64 (t.next + 1)) := cell_blk hV4 rfl
            have c6 : W10.cell? ⟨w.heap.size, 7, none⟩ = some (.int .i64 t.next) := cell_blk hB0 rfl
            have hwr : IntKind.i64.wrap (t.next + 1) = t.next + 1 := by have := hnxr.out; rw [IntKind.wrap_i64]; omega
            clear hV4 hV5 hB0 ht hc5
            go_wp2
            go_ret
            exact ⟨rfl, nW⟩
          · have hb3 : (f1 != 0) = true := by simpa using hf1
            have hye : y1 = t := by have := (born_err (t := t) (q := q) (by rw [hy1]; exact hf1)).1; rw [hy1] at this; exact this
            clear hf1 hy1
            replace hye : Hid _ := hye
            go_upto_region 12 with fail
            clear hb3
            have hcon : Hid _ := c_rtsame W6 hc3 ht
            unfold AnsP at hcon
            have hr0 := range_all hB0
            have hr1 := range_all hV3
            go_wp2_with (first | (refine wpList_load_as rfl 34 _ rfl (w.heap.size) 0 rfl (thV t uL uC uK uD) _ rfl hr0 Try.rowT Try.sizeT ?_) | (refine wpList_load_as rfl 34 _ rfl (A3) 0 rfl (thV y1 b1 b2 b3 b4) _ rfl hr1 Try.rowT Try.sizeT ?_) | (go_at_call 24; refine Calls.mono hcon.out ?_; rintro e W7 ⟨r, rfl, hr, n7⟩; refine stop_here ?_))
            unfold Hid
            clear hcon hr0 hr1
            replace hB0 := (n7.block _ (heap_lt hB0) (fun h => h)).trans hB0
            replace hV3 := (n7.block _ (heap_lt hV3) (fun h => h)).trans hV3
            replace ht := ht.nw n7
            replace hc3 := hc3.nw n7
            replace nW := nw_trans nW n7
            obtain rfl := hr.2 (by first | exact hye.out | trivial)
            clear hr hV3 hB0 ht hc3 hye
            go_wp2
            go_ret
            exact ⟨rfl, nW⟩
  · skip
    replace hD : Hid _ := hD
    have hcon : Hid _ := c_directory W1 ht hwf (by omega) (by omega)
    unfold AnsP at hcon
    have hr0 := range_all hB0
    go_wp2_with (first | (refine wpList_load_as rfl 34 _ rfl (w.heap.size) 0 rfl (thV t uL uC uK uD) _ rfl hr0 Try.rowT Try.sizeT ?_) | (go_at_call 10; refine Calls.mono hcon.out ?_; rintro e W2 ⟨r, rfl, hr, n2⟩; refine stop_here ?_))
    unfold Hid
    clear hcon hr0
    replace hB0 := (n2.block _ (heap_lt hB0) (fun h => h)).trans hB0
    replace ht := ht.nw n2
    replace nW := nw_trans nW n2
    obtain rfl : r = false := by (cases r; rfl; exact absurd (hr.1 rfl) hD.out)
    clear hr hB0 ht
    go_wp2
    go_ret
    exact ⟨rfl, nW⟩
end Go.Proofs.Ytppfcdnhmieejaa
