/-
  The walk of DirChanges.
-/
import Derived.Test.YtppfcdnhmieejaaDrA3S
import Derived.Test.YtppfcdnhmieejaaThC3S
import Derived.Test.YtppfcdnhmieejaaThC4S
namespace Go.Proofs.Ytppfcdnhmieejaa
set_option linter.unusedVariables false
set_option linter.unusedSimpArgs false
set_option maxRecDepth 20000
open Go.RowKit

set_option maxRecDepth 100000 in
set_option maxHeartbeats 6400000 in
theorem c_lchanges {t : Th} {uL uC uK uD : Value} (id q : Int) (hq0 : -9223372036854775808 ≤ q) (hq1 : q ≤ 9223372036854775807) (w : World) (h : ThAt (fun b => b < w.heap.size) w t uL uC uK uD) (hwf : WfT t) (l1 : t.cats.length ≤ 8796093021952) (l2 : t.ccats.length ≤ 8796093021952) :
    Calls Try.prog 5 #[thV t uL uC uK uD, .int .u64 id, .int .i64 q] w fun e w' => e = .returned (.bool true) ∧ Nw w w' := by
  obtain ⟨W, hW⟩ : ∃ W, Hid (W = w.alloc (.cells (thC t uL uC uK uD).toArray 34)) := ⟨_, rfl⟩
  have nW : Nw w W := by rw [hW.out]; exact nw_alloc (nw_refl w) _
  have hB0 : W.heap[w.heap.size]? = some (.cells (thC t uL uC uK uD).toArray 34 (0, 0)) := by rw [hW.out]; exact heap_alloc_new w _
  have ht := h.nw nW
  clear h
  go_enter Try.func5, Try.ntmps5
  go_upto_region 1 with ((refine wpList_box_agg rfl 34 _ rfl (thV t uL uC uK uD) _ rfl rfl ?_))
  rw [← hW.out]
  clear hW
  have hcon : Hid _ := c_alive W
  go_wp2_with ((go_at_call 9; refine Calls.mono hcon.out ?_; rintro e W1 ⟨rfl, n1⟩; refine stop_here ?_))
  unfold Hid
  clear hcon
  replace hB0 := (n1.block _ (heap_lt hB0) (fun h => h)).trans hB0
  replace ht := ht.nw n1
  replace nW := nw_trans nW n1
  go_upto_region 3 with fail
  by_cases hD : DirT t
  · have hD0 := hD
    replace hD : Hid _ := hD
    clear hD0
    by_cases hi1 : id < 1
    · have hb1 : decide (id < 1) = true := decide_eq_true hi1
      have hcon : Hid _ := c_directory W1 ht hwf (by omega) (by omega)
      unfold AnsP at hcon
      have hr0 := range_all hB0
      go_wp2_with (first | (refine wpList_load_as rfl 34 _ rfl (w.heap.size) 0 rfl (thV t uL uC uK uD) _ rfl hr0 Try.rowT Try.sizeT ?_) | (go_at_call 10; refine Calls.mono hcon.out ?_; rintro e W2 ⟨r, rfl, hr, n2⟩; refine stop_here ?_))
      unfold Hid
      clear hcon hr0
      replace hB0 := (n2.block _ (heap_lt hB0) (fun h => h)).trans hB0
      replace ht := ht.nw n2
      replace nW := nw_trans nW n2
      obtain rfl := hr.2 hD.out
      clear hr
      clear hB0 ht hi1
      go_wp2
      go_ret
      exact ⟨rfl, nW⟩
    · have hb1 : decide (id < 1) = false := decide_eq_false hi1
      by_cases hi2 : 281474976710656 ≤ id
      · have hb2 : decide (281474976710656 ≤ id) = true := decide_eq_true hi2
        have hcon : Hid _ := c_directory W1 ht hwf (by omega) (by omega)
        unfold AnsP at hcon
        have hr0 := range_all hB0
        go_wp2_with (first | (refine wpList_load_as rfl 34 _ rfl (w.heap.size) 0 rfl (thV t uL uC uK uD) _ rfl hr0 Try.rowT Try.sizeT ?_) | (go_at_call 10; refine Calls.mono hcon.out ?_; rintro e W2 ⟨r, rfl, hr, n2⟩; refine stop_here ?_))
        unfold Hid
        clear hcon hr0
        replace hB0 := (n2.block _ (heap_lt hB0) (fun h => h)).trans hB0
        replace ht := ht.nw n2
        replace nW := nw_trans nW n2
        obtain rfl := hr.2 hD.out
        clear hr
        clear hB0 ht hi2
        go_wp2
        go_ret
        exact ⟨rfl, nW⟩
      · have hb2 : decide (281474976710656 ≤ id) = false := decide_eq_false hi2
        have hcon : Hid _ := c_directory W1 ht hwf (by omega) (by omega)
        unfold AnsP at hcon
        have hr0 := range_all hB0
        go_wp2_with (first | (refine wpList_load_as rfl 34 _ rfl (w.heap.size) 0 rfl (thV t uL uC uK uD) _ rfl hr0 Try.rowT Try.sizeT ?_) | (go_at_call 10; refine Calls.mono hcon.out ?_; rintro e W2 ⟨r, rfl, hr, n2⟩; refine stop_here ?_))
        unfold Hid
        clear hcon hr0
        replace hB0 := (n2.block _ (heap_lt hB0) (fun h => h)).trans hB0
        replace ht := ht.nw n2
        replace nW := nw_trans nW n2
        obtain rfl := hr.2 hD.out
        clear hr
        have hid : Hid (idOk id) := ⟨by omega, by omega⟩
        go_upto_region 5 with fail
        clear hb1 hb2 hi1 hi2
        obtain ⟨z1, z2, z3, z4⟩ := dir_sizes hD.out
        replace z1 : Hid _ := z1
        replace z2 : Hid _ := z2
        replace z3 : Hid _ := z3
        replace z4 : Hid _ := z4
        replace hq0 : Hid _ := hq0
        replace hq1 : Hid _ := hq1
        clear l1 l2 hwf hid
        have hcon : Hid _ := c_rtcopy W2 ht z1.out z2.out z3.out z4.out
        have hr0 := range_all hB0
        go_wp2_with (first | (refine wpList_load_as rfl 34 _ rfl (w.heap.size) 0 rfl (thV t uL uC uK uD) _ rfl hr0 Try.rowT Try.sizeT ?_) | (go_at_call 17; refine Calls.mono hcon.out ?_; rintro e W3 ⟨o1, o2, o3, o4, rfl, hc0, n3⟩; refine stop_here ?_))
        unfold Hid
        clear hcon hr0 z1 z2 z3 z4
        replace hB0 := (n3.block _ (heap_lt hB0) (fun h => h)).trans hB0
        replace ht := ht.nw n3
        replace nW := nw_trans nW n3
        obtain ⟨Y0, hY⟩ : ∃ Y, Hid (Y = W3.alloc (.cells (thC zeroT (.slice none 0 0) (.slice none 0 0) (.slice none 0 0) (.slice none 0 0)).toArray 34)) := ⟨_, rfl⟩
        have nY : Nw W3 Y0 := by rw [hY.out]; exact nw_alloc (nw_refl _) _
        have hV0 : Y0.heap[W3.heap.size]? = some (.cells (thC zeroT (.slice none 0 0) (.slice none 0 0) (.slice none 0 0) (.slice none 0 0)).toArray 34 (0, 0)) := by rw [hY.out]; exact heap_alloc_new _ _
        go_wp2_with (refine wpList_alloc_agg rfl 34 rfl _ Try.zeroTh ?_; rw [← hY.out]; refine stop_here ?_)
        unfold Hid
        clear hY
        have hlhB0 := heap_lt hB0
        replace hB0 := (nY.block _ (heap_lt hB0) (fun h => h)).trans hB0
        replace ht := (ht.mono (X' := fun b => b < W3.heap.size) (fun b _ hb => hb)).nw nY
        replace hc0 := (hc0.mono (X' := fun b => b < W3.heap.size) (fun b _ hb => hb)).nw nY
        have hnl : w.heap.size ≤ W3.heap.size := nW.size
        replace nW := nw_trans nW nY
        clear nY
        generalize W3.heap.size = A0 at *
        obtain ⟨W4, hV⟩ : ∃ V, Hid (V = Y0.setRow (A0) (thC t o1 o2 o3 o4).toArray) := ⟨_, rfl⟩
        have fV : Fr (fun k => k = A0) Y0 W4 := by rw [hV.out]; exact (Fr.refl (fun k => k = A0) Y0).setRow (.inl rfl) _
        have hnew : W4.heap[A0]? = some (.cells (thC t o1 o2 o3 o4).toArray 34 (0, 0)) := by rw [hV.out]; exact setRow_heap _ _ _ _ _ _ hV0
        refine wpList_store_all rfl 34 _ _ rfl (A0) rfl (thV t o1 o2 o3 o4) rfl (thC t o1 o2 o3 o4) rfl (thC zeroT (.slice none 0 0) (.slice none 0 0) (.slice none 0 0) (.slice none 0 0)) 34 hV0 rfl (hc0.one) Try.sizeT ?_
        rw [← hV.out]
        clear hV
        replace hB0 := (fV.block _ (heap_lt hB0) (by show ¬ _ = _; omega)).trans hB0
        replace hV0 := hnew
        clear hnew
        replace ht := ht.keep (X' := fun b => b < A0) fV (fun b hb _ e => by have hb2 : b < A0 := hb; have e2 : b = A0 := e; omega) (fun b hb _ => hb)
        replace hc0 := hc0.keep (X' := fun b => b < A0) fV (fun b hb _ e => by have hb2 : b < A0 := hb; have e2 : b = A0 := e; omega) (fun b hb _ => hb)
        replace nW : Nw w W4 := Fr.trans nW fV (fun k hk => .inr (by have hk2 : k = A0 := hk; omega))
        clear fV hnl hlhB0
        obtain ⟨⟨x1, e1⟩, hx1⟩ : ∃ x, addT t id q = x := ⟨_, rfl⟩
        obtain ⟨⟨x2, m2, e2⟩, hx2⟩ : ∃ x, bornT t q = x := ⟨_, rfl⟩
        obtain ⟨⟨x3, e3⟩, hx3⟩ : ∃ x, dropT t id = x := ⟨_, rfl⟩
        replace hx1 : Hid _ := hx1
        replace hx2 : Hid _ := hx2
        replace hx3 : Hid _ := hx3
        go_upto_region 6 with fail
        have hqa : Hid _ := c_add id q W4 hc0 hD.out hq0.out hq1.out
        rw [hx1.out] at hqa
        have hcon : Hid _ := hqa.out
        unfold ChP at hcon
        have hr1 := range_all hV0
        go_wp2_with (first | (refine wpList_load_as rfl 34 _ rfl (A0) 0 rfl (thV t o1 o2 o3 o4) _ rfl hr1 Try.rowT Try.sizeT ?_) | (go_at_call 18; refine Calls.mono hcon.out ?_; rintro e W5 ⟨a1, a2, a3, a4, rfl, hk0, n5⟩; refine stop_here ?_))
        unfold Hid
        clear hcon hr1 hqa
        replace hB0 := (n5.block _ (heap_lt hB0) (fun h => h)).trans hB0
        replace hV0 := (n5.block _ (heap_lt hV0) (fun h => h)).trans hV0
        replace ht := ht.nw n5
        replace hc0 := hc0.nw n5
        replace nW := nw_trans nW n5
        obtain ⟨Y1, hY⟩ : ∃ Y, Hid (Y = W5.alloc (.cells (thC zeroT (.slice none 0 0) (.slice none 0 0) (.slice none 0 0) (.slice none 0 0)).toArray 34)) := ⟨_, rfl⟩
        have nY : Nw W5 Y1 := by rw [hY.out]; exact nw_alloc (nw_refl _) _
        have hV1 : Y1.heap[W5.heap.size]? = some (.cells (thC zeroT (.slice none 0 0) (.slice none 0 0) (.slice none 0 0) (.slice none 0 0)).toArray 34 (0, 0)) := by rw [hY.out]; exact heap_alloc_new _ _
        go_wp2_with (refine wpList_alloc_agg rfl 34 rfl _ Try.zeroTh ?_; rw [← hY.out]; refine stop_here ?_)
        unfold Hid
        clear hY
        have hlhB0 := heap_lt hB0
        replace hB0 := (nY.block _ (heap_lt hB0) (fun h => h)).trans hB0
        have hlhV0 := heap_lt hV0
        replace hV0 := (nY.block _ (heap_lt hV0) (fun h => h)).trans hV0
        replace ht := (ht.mono (X' := fun b => b < W5.heap.size) (fun b _ hb => hb)).nw nY
        replace hc0 := (hc0.mono (X' := fun b => b < W5.heap.size) (fun b _ hb => hb)).nw nY
        replace hk0 := (hk0.mono (X' := fun b => b < W5.heap.size) (fun b _ hb => hb)).nw nY
        have hnl : w.heap.size ≤ W5.heap.size := nW.size
        replace nW := nw_trans nW nY
        clear nY
        generalize W5.heap.size = A1 at *
        obtain ⟨W6, hV⟩ : ∃ V, Hid (V = Y1.setRow (A1) (thC x1 a1 a2 a3 a4).toArray) := ⟨_, rfl⟩
        have fV : Fr (fun k => k = A1) Y1 W6 := by rw [hV.out]; exact (Fr.refl (fun k => k = A1) Y1).setRow (.inl rfl) _
        have hnew : W6.heap[A1]? = some (.cells (thC x1 a1 a2 a3 a4).toArray 34 (0, 0)) := by rw [hV.out]; exact setRow_heap _ _ _ _ _ _ hV1
        refine wpList_store_all rfl 34 _ _ rfl (A1) rfl (thV x1 a1 a2 a3 a4) rfl (thC x1 a1 a2 a3 a4) rfl (thC zeroT (.slice none 0 0) (.slice none 0 0) (.slice none 0 0) (.slice none 0 0)) 34 hV1 rfl (hk0.one) Try.sizeT ?_
        rw [← hV.out]
        clear hV
        replace hB0 := (fV.block _ (heap_lt hB0) (by show ¬ _ = _; omega)).trans hB0
        replace hV0 := (fV.block _ (heap_lt hV0) (by show ¬ _ = _; omega)).trans hV0
        replace hV1 := hnew
        clear hnew
        replace ht := ht.keep (X' := fun b => b < A1) fV (fun b hb _ e => by have hb2 : b < A1 := hb; have e2 : b = A1 := e; omega) (fun b hb _ => hb)
        replace hc0 := hc0.keep (X' := fun b => b < A1) fV (fun b hb _ e => by have hb2 : b < A1 := hb; have e2 : b = A1 := e; omega) (fun b hb _ => hb)
        replace hk0 := hk0.keep (X' := fun b => b < A1) fV (fun b hb _ e => by have hb2 : b < A1 := hb; have e2 : b = A1 := e; omega) (fun b hb _ => hb)
        replace nW : Nw w W6 := Fr.trans nW fV (fun k hk => .inr (by have hk2 : k = A1 := hk; omega))
        clear fV hnl hlhB0 hlhV0
        go_upto_region 7 with fail
        have hqa : Hid _ := c_radd id q W6 ht hD.out hq0.out hq1.out
        rw [hx1.out] at hqa
        have hcon : Hid _ := hqa.out
        unfold RcP at hcon
        have hr0 := range_all hB0
        go_wp2_with (first | (refine wpList_load_as rfl 34 _ rfl (w.heap.size) 0 rfl (thV t uL uC uK uD) _ rfl hr0 Try.rowT Try.sizeT ?_) | (go_at_call 19; refine Calls.mono hcon.out ?_; rintro e W7 ⟨b1, b2, b3, b4, rfl, hk1, n7⟩; refine stop_here ?_))
        unfold Hid
        clear hcon hr0 hqa
        replace hB0 := (n7.block _ (heap_lt hB0) (fun h => h)).trans hB0
        replace hV0 := (n7.block _ (heap_lt hV0) (fun h => h)).trans hV0
        replace hV1 := (n7.block _ (heap_lt hV1) (fun h => h)).trans hV1
        replace ht := ht.nw n7
        replace hc0 := hc0.nw n7
        replace hk0 := hk0.nw n7
        replace nW := nw_trans nW n7
        obtain ⟨Y2, hY⟩ : ∃ Y, Hid (Y = W7.alloc (.cells (thC zeroT (.slice none 0 0) (.slice none 0 0) (.slice none 0 0) (.slice none 0 0)).toArray 34)) := ⟨_, rfl⟩
        have nY : Nw W7 Y2 := by rw [hY.out]; exact nw_alloc (nw_refl _) _
        have hV2 : Y2.heap[W7.heap.size]? = some (.cells (thC zeroT (.slice none 0 0) (.slice none 0 0) (.slice none 0 0) (.slice none 0 0)).toArray 34 (0, 0)) := by rw [hY.out]; exact heap_alloc_new _ _
        go_wp2_with (refine wpList_alloc_agg rfl 34 rfl _ Try.zeroTh ?_; rw [← hY.out]; refine stop_here ?_)
        unfold Hid
        clear hY
        have hlhB0 := heap_lt hB0
        replace hB0 := (nY.block _ (heap_lt hB0) (fun h => h)).trans hB0
        have hlhV0 := heap_lt hV0
        replace hV0 := (nY.block _ (heap_lt hV0) (fun h => h)).trans hV0
        have hlhV1 := heap_lt hV1
        replace hV1 := (nY.block _ (heap_lt hV1) (fun h => h)).trans hV1
        replace ht := (ht.mono (X' := fun b => b < W7.heap.size) (fun b _ hb => hb)).nw nY
        replace hc0 := (hc0.mono (X' := fun b => b < W7.heap.size) (fun b _ hb => hb)).nw nY
        replace hk0 := (hk0.mono (X' := fun b => b < W7.heap.size) (fun b _ hb => hb)).nw nY
        replace hk1 := (hk1.mono (X' := fun b => b < W7.heap.size) (fun b _ hb => hb)).nw nY
        have hnl : w.heap.size ≤ W7.heap.size := nW.size
        replace nW := nw_trans nW nY
        clear nY
        generalize W7.heap.size = A2 at *
        obtain ⟨W8, hV⟩ : ∃ V, Hid (V = Y2.setRow (A2) (thC x1 b1 b2 b3 b4).toArray) := ⟨_, rfl⟩
        have fV : Fr (fun k => k = A2) Y2 W8 := by rw [hV.out]; exact (Fr.refl (fun k => k = A2) Y2).setRow (.inl rfl) _
        have hnew : W8.heap[A2]? = some (.cells (thC x1 b1 b2 b3 b4).toArray 34 (0, 0)) := by rw [hV.out]; exact setRow_heap _ _ _ _ _ _ hV2
        refine wpList_store_all rfl 34 _ _ rfl (A2) rfl (thV x1 b1 b2 b3 b4) rfl (thC x1 b1 b2 b3 b4) rfl (thC zeroT (.slice none 0 0) (.slice none 0 0) (.slice none 0 0) (.slice none 0 0)) 34 hV2 rfl (hk1.one) Try.sizeT ?_
        rw [← hV.out]
        clear hV
        replace hB0 := (fV.block _ (heap_lt hB0) (by show ¬ _ = _; omega)).trans hB0
        replace hV0 := (fV.block _ (heap_lt hV0) (by show ¬ _ = _; omega)).trans hV0
        replace hV1 := (fV.block _ (heap_lt hV1) (by show ¬ _ = _; omega)).trans hV1
        replace hV2 := hnew
        clear hnew
        replace ht := ht.keep (X' := fun b => b < A2) fV (fun b hb _ e => by have hb2 : b < A2 := hb; have e2 : b = A2 := e; omega) (fun b hb _ => hb)
        replace hc0 := hc0.keep (X' := fun b => b < A2) fV (fun b hb _ e => by have hb2 : b < A2 := hb; have e2 : b = A2 := e; omega) (fun b hb _ => hb)
        replace hk0 := hk0.keep (X' := fun b => b < A2) fV (fun b hb _ e => by have hb2 : b < A2 := hb; have e2 : b = A2 := e; omega) (fun b hb _ => hb)
        replace hk1 := hk1.keep (X' := fun b => b < A2) fV (fun b hb _ e => by have hb2 : b < A2 := hb; have e2 : b = A2 := e; omega) (fun b hb _ => hb)
        replace nW : Nw w W8 := Fr.trans nW fV (fun k hk => .inr (by have hk2 : k = A2 := hk; omega))
        clear fV hnl hlhB0 hlhV0 hlhV1
        go_upto_region 8 with fail
        have hqa : Hid _ := c_born q W8 hc0 hD.out hq0.out hq1.out
        rw [hx2.out] at hqa
        have hcon : Hid _ := hqa.out
        unfold BoP at hcon
        have hr1 := range_all hV0
        go_wp2_with (first | (refine wpList_load_as rfl 34 _ rfl (A0) 0 rfl (thV t o1 o2 o3 o4) _ rfl hr1 Try.rowT Try.sizeT ?_) | (go_at_call 20; refine Calls.mono hcon.out ?_; rintro e W9 ⟨c1, c2, c3, c4, rfl, hk2, n9⟩; refine stop_here ?_))
        unfold Hid
        clear hcon hr1 hqa
        replace hB0 := (n9.block _ (heap_lt hB0) (fun h => h)).trans hB0
        replace hV0 := (n9.block _ (heap_lt hV0) (fun h => h)).trans hV0
        replace hV1 := (n9.block _ (heap_lt hV1) (fun h => h)).trans hV1
        replace hV2 := (n9.block _ (heap_lt hV2) (fun h => h)).trans hV2
        replace ht := ht.nw n9
        replace hc0 := hc0.nw n9
        replace hk0 := hk0.nw n9
        replace hk1 := hk1.nw n9
        replace nW := nw_trans nW n9
        obtain ⟨Y3, hY⟩ : ∃ Y, Hid (Y = W9.alloc (.cells (thC zeroT (.slice none 0 0) (.slice none 0 0) (.slice none 0 0) (.slice none 0 0)).toArray 34)) := ⟨_, rfl⟩
        have nY : Nw W9 Y3 := by rw [hY.out]; exact nw_alloc (nw_refl _) _
        have hV3 : Y3.heap[W9.heap.size]? = some (.cells (thC zeroT (.slice none 0 0) (.slice none 0 0) (.slice none 0 0) (.slice none 0 0)).toArray 34 (0, 0)) := by rw [hY.out]; exact heap_alloc_new _ _
        go_wp2_with (refine wpList_alloc_agg rfl 34 rfl _ Try.zeroTh ?_; rw [← hY.out]; refine stop_here ?_)
        unfold Hid
        clear hY
        have hlhB0 := heap_lt hB0
        replace hB0 := (nY.block _ (heap_lt hB0) (fun h => h)).trans hB0
        have hlhV0 := heap_lt hV0
        replace hV0 := (nY.block _ (heap_lt hV0) (fun h => h)).trans hV0
        have hlhV1 := heap_lt hV1
        replace hV1 := (nY.block _ (heap_lt hV1) (fun h => h)).trans hV1
        have hlhV2 := heap_lt hV2
        replace hV2 := (nY.block _ (heap_lt hV2) (fun h => h)).trans hV2
        replace ht := (ht.mono (X' := fun b => b < W9.heap.size) (fun b _ hb => hb)).nw nY
        replace hc0 := (hc0.mono (X' := fun b => b < W9.heap.size) (fun b _ hb => hb)).nw nY
        replace hk0 := (hk0.mono (X' := fun b => b < W9.heap.size) (fun b _ hb => hb)).nw nY
        replace hk1 := (hk1.mono (X' := fun b => b < W9.heap.size) (fun b _ hb => hb)).nw nY
        replace hk2 := (hk2.mono (X' := fun b => b < W9.heap.size) (fun b _ hb => hb)).nw nY
        have hnl : w.heap.size ≤ W9.heap.size := nW.size
        replace nW := nw_trans nW nY
        clear nY
        generalize W9.heap.size = A3 at *
        obtain ⟨W10, hV⟩ : ∃ V, Hid (V = Y3.setRow (A3) (thC x2 c1 c2 c3 c4).toArray) := ⟨_, rfl⟩
        have fV : Fr (fun k => k = A3) Y3 W10 := by rw [hV.out]; exact (Fr.refl (fun k => k = A3) Y3).setRow (.inl rfl) _
        have hnew : W10.heap[A3]? = some (.cells (thC x2 c1 c2 c3 c4).toArray 34 (0, 0)) := by rw [hV.out]; exact setRow_heap _ _ _ _ _ _ hV3
        refine wpList_store_all rfl 34 _ _ rfl (A3) rfl (thV x2 c1 c2 c3 c4) rfl (thC x2 c1 c2 c3 c4) rfl (thC zeroT (.slice none 0 0) (.slice none 0 0) (.slice none 0 0) (.slice none 0 0)) 34 hV3 rfl (hk2.one) Try.sizeT ?_
        rw [← hV.out]
        clear hV
        replace hB0 := (fV.block _ (heap_lt hB0) (by show ¬ _ = _; omega)).trans hB0
        replace hV0 := (fV.block _ (heap_lt hV0) (by show ¬ _ = _; omega)).trans hV0
        replace hV1 := (fV.block _ (heap_lt hV1) (by show ¬ _ = _; omega)).trans hV1
        replace hV2 := (fV.block _ (heap_lt hV2) (by show ¬ _ = _; omega)).trans hV2
        replace hV3 := hnew
        clear hnew
        replace ht := ht.keep (X' := fun b => b < A3) fV (fun b hb _ e => by have hb2 : b < A3 := hb; have e2 : b = A3 := e; omega) (fun b hb _ => hb)
        replace hc0 := hc0.keep (X' := fun b => b < A3) fV (fun b hb _ e => by have hb2 : b < A3 := hb; have e2 : b = A3 := e; omega) (fun b hb _ => hb)
        replace hk0 := hk0.keep (X' := fun b => b < A3) fV (fun b hb _ e => by have hb2 : b < A3 := hb; have e2 : b = A3 := e; omega) (fun b hb _ => hb)
        replace hk1 := hk1.keep (X' := fun b => b < A3) fV (fun b hb _ e => by have hb2 : b < A3 := hb; have e2 : b = A3 := e; omega) (fun b hb _ => hb)
        replace hk2 := hk2.keep (X' := fun b => b < A3) fV (fun b hb _ e => by have hb2 : b < A3 := hb; have e2 : b = A3 := e; omega) (fun b hb _ => hb)
        replace nW : Nw w W10 := Fr.trans nW fV (fun k hk => .inr (by have hk2 : k = A3 := hk; omega))
        clear fV hnl hlhB0 hlhV0 hlhV1 hlhV2
        go_upto_region 9 with fail
        have hqa : Hid _ := c_rborn q W10 ht hD.out hq0.out hq1.out
        rw [hx2.out] at hqa
        have hcon : Hid _ := hqa.out
        unfold RoP at hcon
        have hr0 := range_all hB0
        go_wp2_with (first | (refine wpList_load_as rfl 34 _ rfl (w.heap.size) 0 rfl (thV t uL uC uK uD) _ rfl hr0 Try.rowT Try.sizeT ?_) | (go_at_call 21; refine Calls.mono hcon.out ?_; rintro e W11 ⟨d1, d2, d3, d4, rfl, hk3, n11⟩; refine stop_here ?_))
        unfold Hid
        clear hcon hr0 hqa
        replace hB0 := (n11.block _ (heap_lt hB0) (fun h => h)).trans hB0
        replace hV0 := (n11.block _ (heap_lt hV0) (fun h => h)).trans hV0
        replace hV1 := (n11.block _ (heap_lt hV1) (fun h => h)).trans hV1
        replace hV2 := (n11.block _ (heap_lt hV2) (fun h => h)).trans hV2
        replace hV3 := (n11.block _ (heap_lt hV3) (fun h => h)).trans hV3
        replace ht := ht.nw n11
        replace hc0 := hc0.nw n11
        replace hk0 := hk0.nw n11
        replace hk1 := hk1.nw n11
        replace hk2 := hk2.nw n11
        replace nW := nw_trans nW n11
        obtain ⟨Y4, hY⟩ : ∃ Y, Hid (Y = W11.alloc (.cells (thC zeroT (.slice none 0 0) (.slice none 0 0) (.slice none 0 0) (.slice none 0 0)).toArray 34)) := ⟨_, rfl⟩
        have nY : Nw W11 Y4 := by rw [hY.out]; exact nw_alloc (nw_refl _) _
        have hV4 : Y4.heap[W11.heap.size]? = some (.cells (thC zeroT (.slice none 0 0) (.slice none 0 0) (.slice none 0 0) (.slice none 0 0)).toArray 34 (0, 0)) := by rw [hY.out]; exact heap_alloc_new _ _
        go_wp2_with (refine wpList_alloc_agg rfl 34 rfl _ Try.zeroTh ?_; rw [← hY.out]; refine stop_here ?_)
        unfold Hid
        clear hY
        have hlhB0 := heap_lt hB0
        replace hB0 := (nY.block _ (heap_lt hB0) (fun h => h)).trans hB0
        have hlhV0 := heap_lt hV0
        replace hV0 := (nY.block _ (heap_lt hV0) (fun h => h)).trans hV0
        have hlhV1 := heap_lt hV1
        replace hV1 := (nY.block _ (heap_lt hV1) (fun h => h)).trans hV1
        have hlhV2 := heap_lt hV2
        replace hV2 := (nY.block _ (heap_lt hV2) (fun h => h)).trans hV2
        have hlhV3 := heap_lt hV3
        replace hV3 := (nY.block _ (heap_lt hV3) (fun h => h)).trans hV3
        replace ht := (ht.mono (X' := fun b => b < W11.heap.size) (fun b _ hb => hb)).nw nY
        replace hc0 := (hc0.mono (X' := fun b => b < W11.heap.size) (fun b _ hb => hb)).nw nY
        replace hk0 := (hk0.mono (X' := fun b => b < W11.heap.size) (fun b _ hb => hb)).nw nY
        replace hk1 := (hk1.mono (X' := fun b => b < W11.heap.size) (fun b _ hb => hb)).nw nY
        replace hk2 := (hk2.mono (X' := fun b => b < W11.heap.size) (fun b _ hb => hb)).nw nY
        replace hk3 := (hk3.mono (X' := fun b => b < W11.heap.size) (fun b _ hb => hb)).nw nY
        have hnl : w.heap.size ≤ W11.heap.size := nW.size
        replace nW := nw_trans nW nY
        clear nY
        generalize W11.heap.size = A4 at *
        obtain ⟨W12, hV⟩ : ∃ V, Hid (V = Y4.setRow (A4) (thC x2 d1 d2 d3 d4).toArray) := ⟨_, rfl⟩
        have fV : Fr (fun k => k = A4) Y4 W12 := by rw [hV.out]; exact (Fr.refl (fun k => k = A4) Y4).setRow (.inl rfl) _
        have hnew : W12.heap[A4]? = some (.cells (thC x2 d1 d2 d3 d4).toArray 34 (0, 0)) := by rw [hV.out]; exact setRow_heap _ _ _ _ _ _ hV4
        refine wpList_store_all rfl 34 _ _ rfl (A4) rfl (thV x2 d1 d2 d3 d4) rfl (thC x2 d1 d2 d3 d4) rfl (thC zeroT (.slice none 0 0) (.slice none 0 0) (.slice none 0 0) (.slice none 0 0)) 34 hV4 rfl (hk3.one) Try.sizeT ?_
        rw [← hV.out]
        clear hV
        replace hB0 := (fV.block _ (heap_lt hB0) (by show ¬ _ = _; omega)).trans hB0
        replace hV0 := (fV.block _ (heap_lt hV0) (by show ¬ _ = _; omega)).trans hV0
        replace hV1 := (fV.block _ (heap_lt hV1) (by show ¬ _ = _; omega)).trans hV1
        replace hV2 := (fV.block _ (heap_lt hV2) (by show ¬ _ = _; omega)).trans hV2
        replace hV3 := (fV.block _ (heap_lt hV3) (by show ¬ _ = _; omega)).trans hV3
        replace hV4 := hnew
        clear hnew
        replace ht := ht.keep (X' := fun b => b < A4) fV (fun b hb _ e => by have hb2 : b < A4 := hb; have e2 : b = A4 := e; omega) (fun b hb _ => hb)
        replace hc0 := hc0.keep (X' := fun b => b < A4) fV (fun b hb _ e => by have hb2 : b < A4 := hb; have e2 : b = A4 := e; omega) (fun b hb _ => hb)
        replace hk0 := hk0.keep (X' := fun b => b < A4) fV (fun b hb _ e => by have hb2 : b < A4 := hb; have e2 : b = A4 := e; omega) (fun b hb _ => hb)
        replace hk1 := hk1.keep (X' := fun b => b < A4) fV (fun b hb _ e => by have hb2 : b < A4 := hb; have e2 : b = A4 := e; omega) (fun b hb _ => hb)
        replace hk2 := hk2.keep (X' := fun b => b < A4) fV (fun b hb _ e => by have hb2 : b < A4 := hb; have e2 : b = A4 := e; omega) (fun b hb _ => hb)
        replace hk3 := hk3.keep (X' := fun b => b < A4) fV (fun b hb _ e => by have hb2 : b < A4 := hb; have e2 : b = A4 := e; omega) (fun b hb _ => hb)
        replace nW : Nw w W12 := Fr.trans nW fV (fun k hk => .inr (by have hk2 : k = A4 := hk; omega))
        clear fV hnl hlhB0 hlhV0 hlhV1 hlhV2 hlhV3
        go_upto_region 10 with fail
        have hqa : Hid _ := c_drop id W12 hc0 hD.out
        rw [hx3.out] at hqa
        have hcon : Hid _ := hqa.out
        unfold ChP at hcon
        have hr1 := range_all hV0
        go_wp2_with (first | (refine wpList_load_as rfl 34 _ rfl (A0) 0 rfl (thV t o1 o2 o3 o4) _ rfl hr1 Try.rowT Try.sizeT ?_) | (go_at_call 22; refine Calls.mono hcon.out ?_; rintro e W13 ⟨e1, e2, e3, e4, rfl, hk4, n13⟩; refine stop_here ?_))
        unfold Hid
        clear hcon hr1 hqa
        replace hB0 := (n13.block _ (heap_lt hB0) (fun h => h)).trans hB0
        replace hV0 := (n13.block _ (heap_lt hV0) (fun h => h)).trans hV0
        replace hV1 := (n13.block _ (heap_lt hV1) (fun h => h)).trans hV1
        replace hV2 := (n13.block _ (heap_lt hV2) (fun h => h)).trans hV2
        replace hV3 := (n13.block _ (heap_lt hV3) (fun h => h)).trans hV3
        replace hV4 := (n13.block _ (heap_lt hV4) (fun h => h)).trans hV4
        replace ht := ht.nw n13
        replace hc0 := hc0.nw n13
        replace hk0 := hk0.nw n13
        replace hk1 := hk1.nw n13
        replace hk2 := hk2.nw n13
        replace hk3 := hk3.nw n13
        replace nW := nw_trans nW n13
        obtain ⟨Y5, hY⟩ : ∃ Y, Hid (Y = W13.alloc (.cells (thC zeroT (.slice none 0 0) (.slice none 0 0) (.slice none 0 0) (.slice none 0 0)).toArray 34)) := ⟨_, rfl⟩
        have nY : Nw W13 Y5 := by rw [hY.out]; exact nw_alloc (nw_refl _) _
        have hV5 : Y5.heap[W13.heap.size]? = some (.cells (thC zeroT (.slice none 0 0) (.slice none 0 0) (.slice none 0 0) (.slice none 0 0)).toArray 34 (0, 0)) := by rw [hY.out]; exact heap_alloc_new _ _
        go_wp2_with (refine wpList_alloc_agg rfl 34 rfl _ Try.zeroTh ?_; rw [← hY.out]; refine stop_here ?_)
        unfold Hid
        clear hY
        have hlhB0 := heap_lt hB0
        replace hB0 := (nY.block _ (heap_lt hB0) (fun h => h)).trans hB0
        have hlhV0 := heap_lt hV0
        replace hV0 := (nY.block _ (heap_lt hV0) (fun h => h)).trans hV0
        have hlhV1 := heap_lt hV1
        replace hV1 := (nY.block _ (heap_lt hV1) (fun h => h)).trans hV1
        have hlhV2 := heap_lt hV2
        replace hV2 := (nY.block _ (heap_lt hV2) (fun h => h)).trans hV2
        have hlhV3 := heap_lt hV3
        replace hV3 := (nY.block _ (heap_lt hV3) (fun h => h)).trans hV3
        have hlhV4 := heap_lt hV4
        replace hV4 := (nY.block _ (heap_lt hV4) (fun h => h)).trans hV4
        replace ht := (ht.mono (X' := fun b => b < W13.heap.size) (fun b _ hb => hb)).nw nY
        replace hc0 := (hc0.mono (X' := fun b => b < W13.heap.size) (fun b _ hb => hb)).nw nY
        replace hk0 := (hk0.mono (X' := fun b => b < W13.heap.size) (fun b _ hb => hb)).nw nY
        replace hk1 := (hk1.mono (X' := fun b => b < W13.heap.size) (fun b _ hb => hb)).nw nY
        replace hk2 := (hk2.mono (X' := fun b => b < W13.heap.size) (fun b _ hb => hb)).nw nY
        replace hk3 := (hk3.mono (X' := fun b => b < W13.heap.size) (fun b _ hb => hb)).nw nY
        replace hk4 := (hk4.mono (X' := fun b => b < W13.heap.size) (fun b _ hb => hb)).nw nY
        have hnl : w.heap.size ≤ W13.heap.size := nW.size
        replace nW := nw_trans nW nY
        clear nY
        generalize W13.heap.size = A5 at *
        obtain ⟨W14, hV⟩ : ∃ V, Hid (V = Y5.setRow (A5) (thC x3 e1 e2 e3 e4).toArray) := ⟨_, rfl⟩
        have fV : Fr (fun k => k = A5) Y5 W14 := by rw [hV.out]; exact (Fr.refl (fun k => k = A5) Y5).setRow (.inl rfl) _
        have hnew : W14.heap[A5]? = some (.cells (thC x3 e1 e2 e3 e4).toArray 34 (0, 0)) := by rw [hV.out]; exact setRow_heap _ _ _ _ _ _ hV5
        refine wpList_store_all rfl 34 _ _ rfl (A5) rfl (thV x3 e1 e2 e3 e4) rfl (thC x3 e1 e2 e3 e4) rfl (thC zeroT (.slice none 0 0) (.slice none 0 0) (.slice none 0 0) (.slice none 0 0)) 34 hV5 rfl (hk4.one) Try.sizeT ?_
        rw [← hV.out]
        clear hV
        replace hB0 := (fV.block _ (heap_lt hB0) (by show ¬ _ = _; omega)).trans hB0
        replace hV0 := (fV.block _ (heap_lt hV0) (by show ¬ _ = _; omega)).trans hV0
        replace hV1 := (fV.block _ (heap_lt hV1) (by show ¬ _ = _; omega)).trans hV1
        replace hV2 := (fV.block _ (heap_lt hV2) (by show ¬ _ = _; omega)).trans hV2
        replace hV3 := (fV.block _ (heap_lt hV3) (by show ¬ _ = _; omega)).trans hV3
        replace hV4 := (fV.block _ (heap_lt hV4) (by show ¬ _ = _; omega)).trans hV4
        replace hV5 := hnew
        clear hnew
        replace ht := ht.keep (X' := fun b => b < A5) fV (fun b hb _ e => by have hb2 : b < A5 := hb; have e2 : b = A5 := e; omega) (fun b hb _ => hb)
        replace hc0 := hc0.keep (X' := fun b => b < A5) fV (fun b hb _ e => by have hb2 : b < A5 := hb; have e2 : b = A5 := e; omega) (fun b hb _ => hb)
        replace hk0 := hk0.keep (X' := fun b => b < A5) fV (fun b hb _ e => by have hb2 : b < A5 := hb; have e2 : b = A5 := e; omega) (fun b hb _ => hb)
        replace hk1 := hk1.keep (X' := fun b => b < A5) fV (fun b hb _ e => by have hb2 : b < A5 := hb; have e2 : b = A5 := e; omega) (fun b hb _ => hb)
        replace hk2 := hk2.keep (X' := fun b => b < A5) fV (fun b hb _ e => by have hb2 : b < A5 := hb; have e2 : b = A5 := e; omega) (fun b hb _ => hb)
        replace hk3 := hk3.keep (X' := fun b => b < A5) fV (fun b hb _ e => by have hb2 : b < A5 := hb; have e2 : b = A5 := e; omega) (fun b hb _ => hb)
        replace hk4 := hk4.keep (X' := fun b => b < A5) fV (fun b hb _ e => by have hb2 : b < A5 := hb; have e2 : b = A5 := e; omega) (fun b hb _ => hb)
        replace nW : Nw w W14 := Fr.trans nW fV (fun k hk => .inr (by have hk2 : k = A5 := hk; omega))
        clear fV hnl hlhB0 hlhV0 hlhV1 hlhV2 hlhV3 hlhV4
        go_upto_region 11 with fail
        have hqa : Hid _ := c_rdrop id W14 ht hD.out
        rw [hx3.out] at hqa
        have hcon : Hid _ := hqa.out
        unfold RcP at hcon
        have hr0 := range_all hB0
        go_wp2_with (first | (refine wpList_load_as rfl 34 _ rfl (w.heap.size) 0 rfl (thV t uL uC uK uD) _ rfl hr0 Try.rowT Try.sizeT ?_) | (go_at_call 23; refine Calls.mono hcon.out ?_; rintro e W15 ⟨f1, f2, f3, f4, rfl, hk5, n15⟩; refine stop_here ?_))
        unfold Hid
        clear hcon hr0 hqa
        replace hB0 := (n15.block _ (heap_lt hB0) (fun h => h)).trans hB0
        replace hV0 := (n15.block _ (heap_lt hV0) (fun h => h)).trans hV0
        replace hV1 := (n15.block _ (heap_lt hV1) (fun h => h)).trans hV1
        replace hV2 := (n15.block _ (heap_lt hV2) (fun h => h)).trans hV2
        replace hV3 := (n15.block _ (heap_lt hV3) (fun h => h)).trans hV3
        replace hV4 := (n15.block _ (heap_lt hV4) (fun h => h)).trans hV4
        replace hV5 := (n15.block _ (heap_lt hV5) (fun h => h)).trans hV5
        replace ht := ht.nw n15
        replace hc0 := hc0.nw n15
        replace hk0 := hk0.nw n15
        replace hk1 := hk1.nw n15
        replace hk2 := hk2.nw n15
        replace hk3 := hk3.nw n15
        replace hk4 := hk4.nw n15
        replace nW := nw_trans nW n15
        obtain ⟨Y6, hY⟩ : ∃ Y, Hid (Y = W15.alloc (.cells (thC zeroT (.slice none 0 0) (.slice none 0 0) (.slice none 0 0) (.slice none 0 0)).toArray 34)) := ⟨_, rfl⟩
        have nY : Nw W15 Y6 := by rw [hY.out]; exact nw_alloc (nw_refl _) _
        have hV6 : Y6.heap[W15.heap.size]? = some (.cells (thC zeroT (.slice none 0 0) (.slice none 0 0) (.slice none 0 0) (.slice none 0 0)).toArray 34 (0, 0)) := by rw [hY.out]; exact heap_alloc_new _ _
        go_wp2_with (refine wpList_alloc_agg rfl 34 rfl _ Try.zeroTh ?_; rw [← hY.out]; refine stop_here ?_)
        unfold Hid
        clear hY
        have hlhB0 := heap_lt hB0
        replace hB0 := (nY.block _ (heap_lt hB0) (fun h => h)).trans hB0
        have hlhV0 := heap_lt hV0
        replace hV0 := (nY.block _ (heap_lt hV0) (fun h => h)).trans hV0
        have hlhV1 := heap_lt hV1
        replace hV1 := (nY.block _ (heap_lt hV1) (fun h => h)).trans hV1
        have hlhV2 := heap_lt hV2
        replace hV2 := (nY.block _ (heap_lt hV2) (fun h => h)).trans hV2
        have hlhV3 := heap_lt hV3
        replace hV3 := (nY.block _ (heap_lt hV3) (fun h => h)).trans hV3
        have hlhV4 := heap_lt hV4
        replace hV4 := (nY.block _ (heap_lt hV4) (fun h => h)).trans hV4
        have hlhV5 := heap_lt hV5
        replace hV5 := (nY.block _ (heap_lt hV5) (fun h => h)).trans hV5
        replace ht := (ht.mono (X' := fun b => b < W15.heap.size) (fun b _ hb => hb)).nw nY
        replace hc0 := (hc0.mono (X' := fun b => b < W15.heap.size) (fun b _ hb => hb)).nw nY
        replace hk0 := (hk0.mono (X' := fun b => b < W15.heap.size) (fun b _ hb => hb)).nw nY
        replace hk1 := (hk1.mono (X' := fun b => b < W15.heap.size) (fun b _ hb => hb)).nw nY
        replace hk2 := (hk2.mono (X' := fun b => b < W15.heap.size) (fun b _ hb => hb)).nw nY
        replace hk3 := (hk3.mono (X' := fun b => b < W15.heap.size) (fun b _ hb => hb)).nw nY
        replace hk4 := (hk4.mono (X' := fun b => b < W15.heap.size) (fun b _ hb => hb)).nw nY
        replace hk5 := (hk5.mono (X' := fun b => b < W15.heap.size) (fun b _ hb => hb)).nw nY
        have hnl : w.heap.size ≤ W15.heap.size := nW.size
        replace nW := nw_trans nW nY
        clear nY
        generalize W15.heap.size = A6 at *
        obtain ⟨W16, hV⟩ : ∃ V, Hid (V = Y6.setRow (A6) (thC x3 f1 f2 f3 f4).toArray) := ⟨_, rfl⟩
        have fV : Fr (fun k => k = A6) Y6 W16 := by rw [hV.out]; exact (Fr.refl (fun k => k = A6) Y6).setRow (.inl rfl) _
        have hnew : W16.heap[A6]? = some (.cells (thC x3 f1 f2 f3 f4).toArray 34 (0, 0)) := by rw [hV.out]; exact setRow_heap _ _ _ _ _ _ hV6
        refine wpList_store_all rfl 34 _ _ rfl (A6) rfl (thV x3 f1 f2 f3 f4) rfl (thC x3 f1 f2 f3 f4) rfl (thC zeroT (.slice none 0 0) (.slice none 0 0) (.slice none 0 0) (.slice none 0 0)) 34 hV6 rfl (hk5.one) Try.sizeT ?_
        rw [← hV.out]
        clear hV
        replace hB0 := (fV.block _ (heap_lt hB0) (by show ¬ _ = _; omega)).trans hB0
        replace hV0 := (fV.block _ (heap_lt hV0) (by show ¬ _ = _; omega)).trans hV0
        replace hV1 := (fV.block _ (heap_lt hV1) (by show ¬ _ = _; omega)).trans hV1
        replace hV2 := (fV.block _ (heap_lt hV2) (by show ¬ _ = _; omega)).trans hV2
        replace hV3 := (fV.block _ (heap_lt hV3) (by show ¬ _ = _; omega)).trans hV3
        replace hV4 := (fV.block _ (heap_lt hV4) (by show ¬ _ = _; omega)).trans hV4
        replace hV5 := (fV.block _ (heap_lt hV5) (by show ¬ _ = _; omega)).trans hV5
        replace hV6 := hnew
        clear hnew
        replace ht := ht.keep (X' := fun b => b < A6) fV (fun b hb _ e => by have hb2 : b < A6 := hb; have e2 : b = A6 := e; omega) (fun b hb _ => hb)
        replace hc0 := hc0.keep (X' := fun b => b < A6) fV (fun b hb _ e => by have hb2 : b < A6 := hb; have e2 : b = A6 := e; omega) (fun b hb _ => hb)
        replace hk0 := hk0.keep (X' := fun b => b < A6) fV (fun b hb _ e => by have hb2 : b < A6 := hb; have e2 : b = A6 := e; omega) (fun b hb _ => hb)
        replace hk1 := hk1.keep (X' := fun b => b < A6) fV (fun b hb _ e => by have hb2 : b < A6 := hb; have e2 : b = A6 := e; omega) (fun b hb _ => hb)
        replace hk2 := hk2.keep (X' := fun b => b < A6) fV (fun b hb _ e => by have hb2 : b < A6 := hb; have e2 : b = A6 := e; omega) (fun b hb _ => hb)
        replace hk3 := hk3.keep (X' := fun b => b < A6) fV (fun b hb _ e => by have hb2 : b < A6 := hb; have e2 : b = A6 := e; omega) (fun b hb _ => hb)
        replace hk4 := hk4.keep (X' := fun b => b < A6) fV (fun b hb _ e => by have hb2 : b < A6 := hb; have e2 : b = A6 := e; omega) (fun b hb _ => hb)
        replace hk5 := hk5.keep (X' := fun b => b < A6) fV (fun b hb _ e => by have hb2 : b < A6 := hb; have e2 : b = A6 := e; omega) (fun b hb _ => hb)
        replace nW : Nw w W16 := Fr.trans nW fV (fun k hk => .inr (by have hk2 : k = A6 := hk; omega))
        clear fV hnl hlhB0 hlhV0 hlhV1 hlhV2 hlhV3 hlhV4 hlhV5
        go_upto_region 12 with fail
        go_upto_region 13 with fail
        have hcon : Hid _ := c_rtsame W16 hk0 hk1
        unfold AnsP at hcon
        have hr2 := range_all hV1
        have hr3 := range_all hV2
        go_wp2_with (first | (refine wpList_load_as rfl 34 _ rfl (A1) 0 rfl (thV x1 a1 a2 a3 a4) _ rfl hr2 Try.rowT Try.sizeT ?_) | (refine wpList_load_as rfl 34 _ rfl (A2) 0 rfl (thV x1 b1 b2 b3 b4) _ rfl hr3 Try.rowT Try.sizeT ?_) | (go_at_call 24; refine Calls.mono hcon.out ?_; rintro e W17 ⟨r, rfl, hr, n17⟩; refine stop_here ?_))
        unfold Hid
        clear hcon hr2 hr3
        replace hB0 := (n17.block _ (heap_lt hB0) (fun h => h)).trans hB0
        replace hV0 := (n17.block _ (heap_lt hV0) (fun h => h)).trans hV0
        replace hV1 := (n17.block _ (heap_lt hV1) (fun h => h)).trans hV1
        replace hV2 := (n17.block _ (heap_lt hV2) (fun h => h)).trans hV2
        replace hV3 := (n17.block _ (heap_lt hV3) (fun h => h)).trans hV3
        replace hV4 := (n17.block _ (heap_lt hV4) (fun h => h)).trans hV4
        replace hV5 := (n17.block _ (heap_lt hV5) (fun h => h)).trans hV5
        replace hV6 := (n17.block _ (heap_lt hV6) (fun h => h)).trans hV6
        replace ht := ht.nw n17
        replace hc0 := hc0.nw n17
        replace hk0 := hk0.nw n17
        replace hk1 := hk1.nw n17
        replace hk2 := hk2.nw n17
        replace hk3 := hk3.nw n17
        replace hk4 := hk4.nw n17
        replace hk5 := hk5.nw n17
        replace nW := nw_trans nW n17
        obtain rfl := hr.2 (by trivial)
        clear hr
        have hcon : Hid _ := c_rtsame W17 hk2 hk3
        unfold AnsP at hcon
        have hr4 := range_all hV3
        have hr5 := range_all hV4
        go_wp2_with (first | (refine wpList_load_as rfl 34 _ rfl (A3) 0 rfl (thV x2 c1 c2 c3 c4) _ rfl hr4 Try.rowT Try.sizeT ?_) | (refine wpList_load_as rfl 34 _ rfl (A4) 0 rfl (thV x2 d1 d2 d3 d4) _ rfl hr5 Try.rowT Try.sizeT ?_) | (go_at_call 24; refine Calls.mono hcon.out ?_; rintro e W18 ⟨r, rfl, hr, n18⟩; refine stop_here ?_))
        unfold Hid
        clear hcon hr4 hr5
        replace hB0 := (n18.block _ (heap_lt hB0) (fun h => h)).trans hB0
        replace hV0 := (n18.block _ (heap_lt hV0) (fun h => h)).trans hV0
        replace hV1 := (n18.block _ (heap_lt hV1) (fun h => h)).trans hV1
        replace hV2 := (n18.block _ (heap_lt hV2) (fun h => h)).trans hV2
        replace hV3 := (n18.block _ (heap_lt hV3) (fun h => h)).trans hV3
        replace hV4 := (n18.block _ (heap_lt hV4) (fun h => h)).trans hV4
        replace hV5 := (n18.block _ (heap_lt hV5) (fun h => h)).trans hV5
        replace hV6 := (n18.block _ (heap_lt hV6) (fun h => h)).trans hV6
        replace ht := ht.nw n18
        replace hc0 := hc0.nw n18
        replace hk0 := hk0.nw n18
        replace hk1 := hk1.nw n18
        replace hk2 := hk2.nw n18
        replace hk3 := hk3.nw n18
        replace hk4 := hk4.nw n18
        replace hk5 := hk5.nw n18
        replace nW := nw_trans nW n18
        obtain rfl := hr.2 (by trivial)
        clear hr
        have hcon : Hid _ := c_rtsame W18 hk4 hk5
        unfold AnsP at hcon
        have hr6 := range_all hV5
        have hr7 := range_all hV6
        go_wp2_with (first | (refine wpList_load_as rfl 34 _ rfl (A5) 0 rfl (thV x3 e1 e2 e3 e4) _ rfl hr6 Try.rowT Try.sizeT ?_) | (refine wpList_load_as rfl 34 _ rfl (A6) 0 rfl (thV x3 f1 f2 f3 f4) _ rfl hr7 Try.rowT Try.sizeT ?_) | (go_at_call 24; refine Calls.mono hcon.out ?_; rintro e W19 ⟨r, rfl, hr, n19⟩; refine stop_here ?_))
        unfold Hid
        clear hcon hr6 hr7
        replace hB0 := (n19.block _ (heap_lt hB0) (fun h => h)).trans hB0
        replace hV0 := (n19.block _ (heap_lt hV0) (fun h => h)).trans hV0
        replace hV1 := (n19.block _ (heap_lt hV1) (fun h => h)).trans hV1
        replace hV2 := (n19.block _ (heap_lt hV2) (fun h => h)).trans hV2
        replace hV3 := (n19.block _ (heap_lt hV3) (fun h => h)).trans hV3
        replace hV4 := (n19.block _ (heap_lt hV4) (fun h => h)).trans hV4
        replace hV5 := (n19.block _ (heap_lt hV5) (fun h => h)).trans hV5
        replace hV6 := (n19.block _ (heap_lt hV6) (fun h => h)).trans hV6
        replace ht := ht.nw n19
        replace hc0 := hc0.nw n19
        replace hk0 := hk0.nw n19
        replace hk1 := hk1.nw n19
        replace hk2 := hk2.nw n19
        replace hk3 := hk3.nw n19
        replace hk4 := hk4.nw n19
        replace hk5 := hk5.nw n19
        replace nW := nw_trans nW n19
        obtain rfl := hr.2 (by trivial)
        clear hr
        have hcon : Hid _ := c_rtsame W19 hc0 ht
        unfold AnsP at hcon
        have hr0 := range_all hB0
        have hr1 := range_all hV0
        go_wp2_with (first | (refine wpList_load_as rfl 34 _ rfl (w.heap.size) 0 rfl (thV t uL uC uK uD) _ rfl hr0 Try.rowT Try.sizeT ?_) | (refine wpList_load_as rfl 34 _ rfl (A0) 0 rfl (thV t o1 o2 o3 o4) _ rfl hr1 Try.rowT Try.sizeT ?_) | (go_at_call 24; refine Calls.mono hcon.out ?_; rintro e W20 ⟨r, rfl, hr, n20⟩; refine stop_here ?_))
        unfold Hid
        clear hcon hr0 hr1
        replace hB0 := (n20.block _ (heap_lt hB0) (fun h => h)).trans hB0
        replace hV0 := (n20.block _ (heap_lt hV0) (fun h => h)).trans hV0
        replace hV1 := (n20.block _ (heap_lt hV1) (fun h => h)).trans hV1
        replace hV2 := (n20.block _ (heap_lt hV2) (fun h => h)).trans hV2
        replace hV3 := (n20.block _ (heap_lt hV3) (fun h => h)).trans hV3
        replace hV4 := (n20.block _ (heap_lt hV4) (fun h => h)).trans hV4
        replace hV5 := (n20.block _ (heap_lt hV5) (fun h => h)).trans hV5
        replace hV6 := (n20.block _ (heap_lt hV6) (fun h => h)).trans hV6
        replace ht := ht.nw n20
        replace hc0 := hc0.nw n20
        replace hk0 := hk0.nw n20
        replace hk1 := hk1.nw n20
        replace hk2 := hk2.nw n20
        replace hk3 := hk3.nw n20
        replace hk4 := hk4.nw n20
        replace hk5 := hk5.nw n20
        replace nW := nw_trans nW n20
        obtain rfl := hr.2 (by trivial)
        clear hr
        clear hB0 hV0 hV1 hV2 hV3 hV4 hV5 hV6 ht hc0 hk0 hk1 hk2 hk3 hk4 hk5
        go_wp2
        go_ret
        exact ⟨rfl, nW⟩
  · skip
    replace hD : Hid _ := hD
    have hcon : Hid _ := c_directory W1 ht hwf (by omega) (by omega)
    unfold AnsP at hcon
    have hr0 := range_all hB0
    go_wp2_with (first | (refine wpList_load_as rfl 34 _ rfl (w.heap.size) 0 rfl (thV t uL uC uK uD) _ rfl hr0 Try.rowT Try.sizeT ?_) | (go_at_call 10; refine Calls.mono hcon.out ?_; rintro e W2 ⟨r, rfl, hr, n2⟩; refine stop_here ?_))
    unfold Hid
    clear hcon hr0
    replace hB0 := (n2.block _ (heap_lt hB0) (fun h => h)).trans hB0
    replace ht := ht.nw n2
    replace nW := nw_trans nW n2
    obtain rfl : r = false := by (cases r; rfl; exact absurd (hr.1 rfl) hD.out)
    clear hr hB0 ht
    go_wp2
    go_ret
    exact ⟨rfl, nW⟩
end Go.Proofs.Ytppfcdnhmieejaa
