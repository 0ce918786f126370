/-
  ThingImages' walk.
-/
import Derived.Test.YtghlilncdfiojaaThY4S
import Derived.Test.YtghlilncdfiojaaThC3S
namespace Go.Proofs.Ytghlilncdfiojaa
set_option linter.unusedVariables false
set_option linter.unusedSimpArgs false
set_option maxRecDepth 20000
open Go.RowKit

theorem img_not {t : Th} {e : Ending} {w : World} (h : ImgP t e w) (hr : ¬ RightT t) : e = .returned (.tuple #[.slice none 0 0, .int .i64 111]) := by
  rcases h with ⟨h, _⟩ | ⟨_, h⟩
  · exact absurd h hr
  · exact h

set_option maxRecDepth 100000 in
set_option maxHeartbeats 6400000 in
theorem c_limages {X : Nat → Prop} {t : Th} {uL uC uK uD : Value} (w : World) (h : ThAt X w t uL uC uK uD) (hwf : WfT t) (l1 : t.cats.length ≤ 8796093021952) (l2 : t.ccats.length ≤ 8796093021952) (l3 : t.links.length ≤ 8796093021952) (l4 : t.data.length ≤ 140737488351232) :
    Calls Try.prog 5 #[(thV t uL uC uK uD)] w fun e w' => e = .returned (.bool true) ∧ Nw w w' := by
  obtain ⟨W, hW⟩ : ∃ W, Hid (W = w.alloc (.cells (thC t uL uC uK uD).toArray 34)) := ⟨_, rfl⟩
  have nW : Nw w W := by rw [hW.out]; exact nw_alloc (nw_refl w) _
  have hA : W.heap[w.heap.size]? = some (.cells (thC t uL uC uK uD).toArray 34 (0, 0)) := by rw [hW.out]; exact heap_alloc_new w _
  have ht := h.nw nW
  clear h
  have hcc : Hid _ := c_rtcopy W ht (by omega) (by omega) (by omega) (by omega)
  have hrA := range_all hA
  go_enter Try.func5, Try.ntmps5
  go_upto_region 1 with (refine wpList_box_agg rfl 34 _ rfl (thV t uL uC uK uD) _ rfl rfl ?_)
  rw [← hW.out]
  clear hW
  go_wp2_with (first | (refine wpList_load_as rfl 34 _ rfl (w.heap.size) 0 rfl (thV t uL uC uK uD) _ rfl hrA Try.rowT Try.sizeT ?_) | (go_at_call 15; refine Calls.mono hcc.out ?_; rintro e D1 ⟨q1, q2, q3, q4, rfl, hw, n5⟩; refine stop_here ?_))
  unfold Hid
  clear hcc hrA
  obtain ⟨YE1, hYE1⟩ : ∃ Y, Hid (Y = D1.alloc (.cells (thC zeroT (.slice none 0 0) (.slice none 0 0) (.slice none 0 0) (.slice none 0 0)).toArray 34)) := ⟨_, rfl⟩
  have hPE1 : YE1.heap[D1.heap.size]? = some (.cells (thC zeroT (.slice none 0 0) (.slice none 0 0) (.slice none 0 0) (.slice none 0 0)).toArray 34 (0, 0)) := by rw [hYE1.out]; exact heap_alloc_new D1 _
  have nYE1 : Nw D1 YE1 := by rw [hYE1.out]; exact nw_alloc (nw_refl _) _
  obtain ⟨E1, hVE1⟩ : ∃ V, Hid (V = YE1.setRow D1.heap.size (thC t q1 q2 q3 q4).toArray) := ⟨_, rfl⟩
  have hC : E1.heap[D1.heap.size]? = some (.cells (thC t q1 q2 q3 q4).toArray 34 (0, 0)) := by rw [hVE1.out]; exact setRow_heap _ _ _ _ _ _ hPE1
  have nE1 : Nw D1 E1 := by rw [hVE1.out]; exact Fr.setRow nYE1 (.inr (Nat.le_refl _)) _
  go_wp2_with (refine wpList_alloc_agg rfl 34 rfl _ Try.zeroTh ?_; rw [← hYE1.out]; refine stop_here ?_)
  unfold Hid
  refine wpList_store_all rfl 34 _ _ rfl D1.heap.size rfl (thV t q1 q2 q3 q4) rfl (thC t q1 q2 q3 q4) rfl (thC zeroT (.slice none 0 0) (.slice none 0 0) (.slice none 0 0) (.slice none 0 0)) 34 hPE1 rfl hw.one Try.sizeT ?_
  rw [← hVE1.out]
  clear hYE1 hVE1 hPE1 nYE1
  have n6 := nw_trans n5 nE1
  replace hA := (n6.block _ (heap_lt hA) (fun h => h)).trans hA
  replace ht := ht.nw n6
  replace hw := hw.nw nE1
  replace nW := nw_trans nW n6
  clear n5 n6 nE1
  generalize hcb : D1.heap.size = cb at *
  clear hcb
  by_cases hr : RightT t
  · skip
    obtain ⟨y, hy, -⟩ := img_some hr hwf
    replace hr : Hid (RightT t) := hr
    replace hy : Hid (imgO t = some y) := hy
    have hci : Hid _ := c_timage E1 hw hwf (by omega) (by omega)
    have hrC := range_all hC
    go_upto_region 2 with fail
    go_wp2_with (first | (refine wpList_load_as rfl 34 _ rfl (cb) 0 rfl (thV t q1 q2 q3 q4) _ rfl hrC Try.rowT Try.sizeT ?_) | (go_at_call 16; refine Calls.mono hci.out ?_; rintro e V3 ⟨hip, n8⟩; obtain ⟨i1, i3, rfl, hb1⟩ := img_yes2 hip hr.out hy.out; refine stop_here ?_))
    unfold Hid
    clear hci hrC
    replace hA := (n8.block _ (heap_lt hA) (fun h => h)).trans hA
    replace hC := (n8.block _ (heap_lt hC) (fun h => h)).trans hC
    replace ht := ht.nw n8
    replace hw := hw.nw n8
    replace nW := nw_trans nW n8
    clear n8 hip
    have hci : Hid _ := c_rimage V3 ht hwf (by omega) (by omega)
    have hrA := range_all hA
    go_upto_region 3 with fail
    go_wp2_with (first | (refine wpList_load_as rfl 34 _ rfl (w.heap.size) 0 rfl (thV t uL uC uK uD) _ rfl hrA Try.rowT Try.sizeT ?_) | (go_at_call 17; refine Calls.mono hci.out ?_; rintro e V4 ⟨hip, n8⟩; obtain ⟨i4, i6, rfl, hb2⟩ := img_yes2 hip hr.out hy.out; refine stop_here ?_))
    unfold Hid
    clear hci hrA
    replace hA := (n8.block _ (heap_lt hA) (fun h => h)).trans hA
    replace hC := (n8.block _ (heap_lt hC) (fun h => h)).trans hC
    replace ht := ht.nw n8
    replace hw := hw.nw n8
    replace nW := nw_trans nW n8
    replace hb1 := hb1.nw n8
    clear n8 hip
    go_upto_region 4 with fail
    go_wp2_with (first | (go_at_call 9; refine Calls.mono (c_alive _) ?_; rintro e V5 ⟨rfl, n8⟩; refine stop_here ?_))
    unfold Hid
    replace hA := (n8.block _ (heap_lt hA) (fun h => h)).trans hA
    replace hC := (n8.block _ (heap_lt hC) (fun h => h)).trans hC
    replace ht := ht.nw n8
    replace hw := hw.nw n8
    replace nW := nw_trans nW n8
    replace hb1 := hb1.nw n8
    replace hb2 := hb2.nw n8
    clear n8
    have s1 := run_string_sl (P := Try.prog) 28 5 9 Try.underlying28 Try.underlying5 Try.underlying9 hb1.sl
    have s2 := run_string_sl (P := Try.prog) 28 5 9 Try.underlying28 Try.underlying5 Try.underlying9 hb2.sl
    have hcs : Hid _ := c_rtsame V5 hw ht
    unfold AnsP at hcs
    have hrA := range_all hA
    have hrC := range_all hC
    clear hb1 hb2
    go_wp2_with (first | (refine wpList_load_as rfl 34 _ rfl (cb) 0 rfl (thV t q1 q2 q3 q4) _ rfl hrC Try.rowT Try.sizeT ?_) | (refine wpList_load_as rfl 34 _ rfl (w.heap.size) 0 rfl (thV t uL uC uK uD) _ rfl hrA Try.rowT Try.sizeT ?_) | (go_at_call 14; refine Calls.mono hcs.out ?_; rintro e V6 ⟨r1, rfl, q, n8⟩; obtain rfl := q.2 (by trivial); refine stop_here ?_))
    unfold Hid
    have nEnd : Hid (Nw w V6) := nw_trans nW n8
    clear hcs q hrA hrC hA hC ht hw n8
    go_wp2
    go_ret
    exact ⟨by first | rfl | simp, nEnd.out⟩
  · skip
    replace hr : Hid (¬ RightT t) := hr
    have hci : Hid _ := c_timage E1 hw hwf (by omega) (by omega)
    have hrC := range_all hC
    go_upto_region 2 with fail
    go_wp2_with (first | (refine wpList_load_as rfl 34 _ rfl (cb) 0 rfl (thV t q1 q2 q3 q4) _ rfl hrC Try.rowT Try.sizeT ?_) | (go_at_call 16; refine Calls.mono hci.out ?_; rintro e V3 ⟨hip, n8⟩; obtain rfl := img_not hip hr.out; refine stop_here ?_))
    unfold Hid
    clear hci hrC
    replace hA := (n8.block _ (heap_lt hA) (fun h => h)).trans hA
    replace hC := (n8.block _ (heap_lt hC) (fun h => h)).trans hC
    replace ht := ht.nw n8
    replace hw := hw.nw n8
    replace nW := nw_trans nW n8
    clear n8 hip
    have hci : Hid _ := c_rimage V3 ht hwf (by omega) (by omega)
    have hrA := range_all hA
    go_upto_region 3 with fail
    go_wp2_with (first | (refine wpList_load_as rfl 34 _ rfl (w.heap.size) 0 rfl (thV t uL uC uK uD) _ rfl hrA Try.rowT Try.sizeT ?_) | (go_at_call 17; refine Calls.mono hci.out ?_; rintro e V4 ⟨hip, n8⟩; obtain rfl := img_not hip hr.out; refine stop_here ?_))
    unfold Hid
    clear hci hrA
    replace hA := (n8.block _ (heap_lt hA) (fun h => h)).trans hA
    replace hC := (n8.block _ (heap_lt hC) (fun h => h)).trans hC
    replace ht := ht.nw n8
    replace hw := hw.nw n8
    replace nW := nw_trans nW n8
    clear n8 hip
    go_upto_region 4 with fail
    go_wp2_with (first | (go_at_call 9; refine Calls.mono (c_alive _) ?_; rintro e V5 ⟨rfl, n8⟩; refine stop_here ?_))
    unfold Hid
    replace hA := (n8.block _ (heap_lt hA) (fun h => h)).trans hA
    replace hC := (n8.block _ (heap_lt hC) (fun h => h)).trans hC
    replace ht := ht.nw n8
    replace hw := hw.nw n8
    replace nW := nw_trans nW n8
    clear n8
    have hb1 : BSl (fun _ => False) V5 (.slice none 0 0) [] := bsl_nil _ _
    have s1 := run_string_sl (P := Try.prog) 28 5 9 Try.underlying28 Try.underlying5 Try.underlying9 hb1.sl
    have hcs : Hid _ := c_rtsame V5 hw ht
    unfold AnsP at hcs
    have hrA := range_all hA
    have hrC := range_all hC
    clear hb1
    go_wp2_with (first | (refine wpList_load_as rfl 34 _ rfl (cb) 0 rfl (thV t q1 q2 q3 q4) _ rfl hrC Try.rowT Try.sizeT ?_) | (refine wpList_load_as rfl 34 _ rfl (w.heap.size) 0 rfl (thV t uL uC uK uD) _ rfl hrA Try.rowT Try.sizeT ?_) | (go_at_call 14; refine Calls.mono hcs.out ?_; rintro e V6 ⟨r1, rfl, q, n8⟩; obtain rfl := q.2 (by trivial); refine stop_here ?_))
    unfold Hid
    have nEnd : Hid (Nw w V6) := nw_trans nW n8
    clear hcs q hrA hrC hA hC ht hw n8
    go_wp2
    go_ret
    exact ⟨by first | rfl | simp, nEnd.out⟩
end Go.Proofs.Ytghlilncdfiojaa
