/-
  ThingBack's walk.
-/
import Derived.Test.YtghlilncdfiojaaThA1A
import Derived.Test.YtghlilncdfiojaaLibA
namespace Go.Proofs.Ytghlilncdfiojaa
set_option linter.unusedVariables false
set_option linter.unusedSimpArgs false
set_option maxRecDepth 20000
open Go.RowKit

theorem zero_not : ¬ RightT zeroT := fun h => by have := h.id.1; revert this; decide
theorem len_cc {t : Th} (h : RightT t) : t.ccats.length ≤ 6 := by
  rcases h.parts with ⟨hk, g⟩ | ⟨hk, g⟩ | ⟨hk, g⟩ | ⟨hk, g⟩ | ⟨hk, g⟩ | ⟨hk, g⟩
  · rw [h.same]; simp [ofK, baseT, zeroT, hk]
  · exact g.rgt.len
  · exact g.rgt.len
  · rw [h.same]; simp [ofK, baseT, zeroT, hk]
  · rw [h.same]; simp [ofK, baseT, zeroT, hk]
  · rw [h.same]; simp [ofK, baseT, zeroT, hk]

theorem img_yes2 {t : Th} {e : Ending} {w' : World} {y : List UInt8} (h : ImgP t e w') (hr : RightT t) (hy : imgO t = some y) : ∃ a c, e = .returned (.tuple #[.slice a y.length c, .int .i64 0]) ∧ BSl (fun b => b < w'.heap.size) w' (.slice a y.length c) y := by
  rcases h with ⟨_, v, y', h1, rfl, h3⟩ | ⟨h1, _⟩
  · rw [hy] at h1
    cases h1
    obtain ⟨a, c, rfl, _⟩ := h3.form
    exact ⟨a, c, rfl, h3⟩
  · exact absurd hr h1

theorem read_img {t : Th} {y : List UInt8} {e : Ending} {w' : World} (h : ReadP y e w') (hr : RightT t) (hw : WfT t) (hy : imgO t = some y) : ∃ uL uC uK uD, e = .returned (.tuple #[thV t uL uC uK uD, .int .i64 0]) ∧ ThAt (fun b => b < w'.heap.size) w' t uL uC uK uD := by
  rcases h with ⟨t', vL, vC, vK, vD, h1, h2, h3, rfl, h5⟩ | ⟨h1, _⟩
  · obtain rfl := img_inj h1 hr h2 hw h3 hy
    exact ⟨_, _, _, _, rfl, h5⟩
  · exact absurd hy (h1 t hr hw)

theorem read_none {y : List UInt8} {e : Ending} {w' : World} (h : ReadP y e w') (hno : ∀ u, RightT u → WfT u → imgO u ≠ some y) : e = .returned (.tuple #[(thV zeroT (.slice none 0 0) (.slice none 0 0) (.slice none 0 0) (.slice none 0 0)), .int .i64 111]) := by
  rcases h with ⟨t', vL, vC, vK, vD, h1, h2, h3, _⟩ | ⟨_, h2⟩
  · exact absurd h3 (hno t' h1 h2)
  · exact h2

theorem Try.infoB1 : (Try.prog.info? 5).map (fun i => (i.zero, i.size, i.bytes)) = some (some (.int .u8 0), 1, 1) := by kernel_rfl

set_option maxRecDepth 100000 in
set_option maxHeartbeats 6400000 in
theorem c_lback {X : Nat → Prop} {t : Th} {uL uC uK uD v : Value} {bs : List UInt8} (w : World) (h : ThAt X w t uL uC uK uD) (hwf : WfT t) (l1 : t.cats.length ≤ 8796093021952) (l2 : t.ccats.length ≤ 8796093021952) (hx : Sl w.heap.size w v bs.length (bs.map bv)) (hm : bs.length ≤ 140737488351232) :
    Calls Try.prog 7 #[(thV t uL uC uK uD), v] w fun e w' => e = .returned (.bool true) ∧ Nw w w' := by
  obtain ⟨i0, hi, hz0, hz1, hz2⟩ := info_parts Try.infoB1
  replace hx : Hid (Sl w.heap.size w v bs.length (bs.map bv)) := hx
  obtain ⟨W, hW⟩ : ∃ W, Hid (W = w.alloc (.cells (thC t uL uC uK uD).toArray 34)) := ⟨_, rfl⟩
  have nW : Nw w W := by rw [hW.out]; exact nw_alloc (nw_refl w) _
  have hA : W.heap[w.heap.size]? = some (.cells (thC t uL uC uK uD).toArray 34 (0, 0)) := by rw [hW.out]; exact heap_alloc_new w _
  have ht := h.nw nW
  clear h
  go_enter Try.func7, Try.ntmps7
  go_upto_region 1 with (refine wpList_box_agg rfl 34 _ rfl (thV t uL uC uK uD) _ rfl rfl ?_)
  rw [← hW.out]
  clear hW
  go_wp2_with (first | (go_at_call 9; refine Calls.mono (c_alive _) ?_; rintro e W1 ⟨rfl, n1⟩; refine stop_here ?_))
  unfold Hid
  replace hA := (n1.block _ (heap_lt hA) (fun h => h)).trans hA
  replace ht := ht.nw n1
  replace nW : Hid (Nw w W1) := nw_trans nW n1
  clear n1
  have hci : Hid _ := c_timage W1 ht hwf (by omega) (by omega)
  have hrA := range_all hA
  by_cases hr : RightT t
  · obtain ⟨y, hy, hyl0, -⟩ := img_some hr hwf
    have hyl : y.length ≤ 256 := by rw [hyl0]; exact size_le hr
    clear hyl0
    replace hy : Hid (imgO t = some y) := hy
    go_upto_region 3 with fail
    go_wp2_with (first | (refine wpList_load_as rfl 34 _ rfl (w.heap.size) 0 rfl (thV t uL uC uK uD) _ rfl hrA Try.rowT Try.sizeT ?_) | (go_at_call 16; refine Calls.mono hci.out ?_; rintro e W2 ⟨hip, n2⟩; obtain ⟨p1, p3, rfl, hbs⟩ := img_yes2 hip hr hy.out; refine stop_here ?_))
    unfold Hid
    clear hci hrA hip
    replace hA := (n2.block _ (heap_lt hA) (fun h => h)).trans hA
    replace ht := ht.nw n2
    have hcq : Hid _ := c_tright W2 ht (by omega) (by omega)
    unfold AnsP at hcq
    have hrA := range_all hA
    have hgt : decide ((256 : Int) < (y.length : Int)) = false := decide_eq_false (by omega)
    replace hr : Hid (RightT t) := hr
    go_upto_region 4 with fail
    go_wp2_with (first | (refine wpList_load_as rfl 34 _ rfl (w.heap.size) 0 rfl (thV t uL uC uK uD) _ rfl hrA Try.rowT Try.sizeT ?_) | (go_at_call 11; refine Calls.mono hcq.out ?_; rintro e W3 ⟨r1, rfl, q1, n3⟩; obtain rfl := q1.2 hr.out; refine stop_here ?_))
    unfold Hid
    clear hcq hrA q1
    replace hA := (n3.block _ (heap_lt hA) (fun h => h)).trans hA
    replace ht := ht.nw n3
    replace hbs := hbs.nw n3
    replace nW : Hid (Nw w W3) := nw_trans nW.out (nw_trans n2 n3)
    have hcr : Hid _ := c_tread W3 (hbs.sl.mono (Nat.le_refl _)) (Nat.le_refl _)
    clear n2 n3 hbs
    go_upto_region 7 with fail
    clear hgt
    go_wp2_with (first | (go_at_call 18; refine Calls.mono hcr.out ?_; rintro e R1 ⟨hrd, n4⟩; obtain ⟨gL, gC, gK, gD, rfl, hg⟩ := read_img hrd hr.out hwf hy.out; refine stop_here ?_))
    unfold Hid
    clear hcr hrd
    obtain ⟨YV1, hYV1⟩ : ∃ Y, Hid (Y = R1.alloc (.cells (thC zeroT (.slice none 0 0) (.slice none 0 0) (.slice none 0 0) (.slice none 0 0)).toArray 34)) := ⟨_, rfl⟩
    have hPV1 : YV1.heap[R1.heap.size]? = some (.cells (thC zeroT (.slice none 0 0) (.slice none 0 0) (.slice none 0 0) (.slice none 0 0)).toArray 34 (0, 0)) := by rw [hYV1.out]; exact heap_alloc_new R1 _
    have nYV1 : Nw R1 YV1 := by rw [hYV1.out]; exact nw_alloc (nw_refl _) _
    obtain ⟨V1, hVV1⟩ : ∃ V, Hid (V = YV1.setRow R1.heap.size (thC t gL gC gK gD).toArray) := ⟨_, rfl⟩
    have hG : V1.heap[R1.heap.size]? = some (.cells (thC t gL gC gK gD).toArray 34 (0, 0)) := by rw [hVV1.out]; exact setRow_heap _ _ _ _ _ _ hPV1
    have nV1 : Nw R1 V1 := by rw [hVV1.out]; exact Fr.setRow nYV1 (.inr (Nat.le_refl _)) _
    go_wp2_with (refine wpList_alloc_agg rfl 34 rfl _ Try.zeroTh ?_; rw [← hYV1.out]; refine stop_here ?_)
    unfold Hid
    refine wpList_store_all rfl 34 _ _ rfl R1.heap.size rfl (thV t gL gC gK gD) rfl (thC t gL gC gK gD) rfl (thC zeroT (.slice none 0 0) (.slice none 0 0) (.slice none 0 0) (.slice none 0 0)) 34 hPV1 rfl hg.one Try.sizeT ?_
    rw [← hVV1.out]
    clear hYV1 hVV1 hPV1 nYV1
    have nn : Nw W3 V1 := nw_trans n4 nV1
    replace hA := (nn.block _ (heap_lt hA) (fun h => h)).trans hA
    replace ht := ht.nw nn
    replace hg := hg.nw nV1
    replace nW : Hid (Nw w V1) := nw_trans nW.out nn
    clear nn n4 nV1
    have hcs : Hid _ := c_tsame V1 hg ht
    unfold AnsP at hcs
    have hrA := range_all hA
    have hrG := range_all hG
    go_upto_region 8 with fail
    go_wp2_with (first | (refine wpList_load_as rfl 34 _ rfl (R1.heap.size) 0 rfl (thV t gL gC gK gD) _ rfl hrG Try.rowT Try.sizeT ?_) | (refine wpList_load_as rfl 34 _ rfl (w.heap.size) 0 rfl (thV t uL uC uK uD) _ rfl hrA Try.rowT Try.sizeT ?_) | (go_at_call 13; refine Calls.mono hcs.out ?_; rintro e V2 ⟨r1, rfl, q1, n5⟩; obtain rfl := q1.2 (by trivial); refine stop_here ?_))
    unfold Hid
    replace nW : Hid (Nw w V2) := nw_trans nW.out n5
    clear hcs hrA hrG q1 n5 hA hG ht hg hyl hy hr
    go_upto_region 10 with fail
    have hxa : Sl w.heap.size (V2.alloc (.cells #[] 5)) v bs.length (bs.map bv) := hx.out.keep ((nw_alloc nW.out _).below (Nat.le_refl _) (fun _ h => h.elim))
    have hg2 : (V2.alloc (.cells #[] 5)).heap[V2.heap.size]? = some (.cells #[] 5 (0, 0)) := heap_alloc_new V2 _
    have nL : Nw V2 (V2.alloc (.cells #[] 5)) := nw_alloc (nw_refl _) _
    go_wp2_with (at_builtin; refine wpList_append_new _ rfl _ _ 28 rfl 5 i0 _ 1 1 Try.underlying28 hi hz0 hz1 hz2 rfl (by decide) _ rfl hg2 w.heap.size v bs.length (bs.map bv) rfl hxa (by simp) (bv_oneCell bs) (by unfold maxLen; omega) (by omega) ?_; refine stop_here ?_)
    unfold Hid
    intro va Wa howna na
    have hcr : Hid _ := c_tread Wa (sl_of_owns howna) (Nat.le_refl _)
    obtain ⟨xa, xc, hva⟩ := owns_form howna
    subst hva
    clear howna hxa hg2
    replace nL : Hid (Nw w Wa) := nw_trans nW.out (nw_trans nL na)
    clear na
    by_cases hex : ∃ u, RightT u ∧ WfT u ∧ imgO u = some bs
    · obtain ⟨u, hu, wu, eu⟩ := hex
      replace hu : Hid (RightT u) := hu
      replace eu : Hid (imgO u = some bs) := eu
      go_wp2_with (first | (go_at_call 18; refine Calls.mono hcr.out ?_; rintro e R2 ⟨hrd, n9⟩; obtain ⟨vL, vC, vK, vD, rfl, hut⟩ := read_img hrd hu.out wu eu.out; refine stop_here ?_))
      unfold Hid
      clear hcr hrd
      obtain ⟨YV2, hYV2⟩ : ∃ Y, Hid (Y = R2.alloc (.cells (thC zeroT (.slice none 0 0) (.slice none 0 0) (.slice none 0 0) (.slice none 0 0)).toArray 34)) := ⟨_, rfl⟩
      have hPV2 : YV2.heap[R2.heap.size]? = some (.cells (thC zeroT (.slice none 0 0) (.slice none 0 0) (.slice none 0 0) (.slice none 0 0)).toArray 34 (0, 0)) := by rw [hYV2.out]; exact heap_alloc_new R2 _
      have nYV2 : Nw R2 YV2 := by rw [hYV2.out]; exact nw_alloc (nw_refl _) _
      obtain ⟨V2, hVV2⟩ : ∃ V, Hid (V = YV2.setRow R2.heap.size (thC u vL vC vK vD).toArray) := ⟨_, rfl⟩
      have hB : V2.heap[R2.heap.size]? = some (.cells (thC u vL vC vK vD).toArray 34 (0, 0)) := by rw [hVV2.out]; exact setRow_heap _ _ _ _ _ _ hPV2
      have nV2 : Nw R2 V2 := by rw [hVV2.out]; exact Fr.setRow nYV2 (.inr (Nat.le_refl _)) _
      go_wp2_with (refine wpList_alloc_agg rfl 34 rfl _ Try.zeroTh ?_; rw [← hYV2.out]; refine stop_here ?_)
      unfold Hid
      refine wpList_store_all rfl 34 _ _ rfl R2.heap.size rfl (thV u vL vC vK vD) rfl (thC u vL vC vK vD) rfl (thC zeroT (.slice none 0 0) (.slice none 0 0) (.slice none 0 0) (.slice none 0 0)) 34 hPV2 rfl hut.one Try.sizeT ?_
      rw [← hVV2.out]
      clear hYV2 hVV2 hPV2 nYV2
      replace hut := hut.nw nV2
      have nV : Hid (Nw w V2) := nw_trans nL.out (nw_trans n9 nV2)
      clear n9 nV2
      have hlc := hu.out.rgt.len
      have hlk := len_cc hu.out
      have hci : Hid _ := c_timage V2 hut wu (by omega) (by omega)
      have hrB := range_all hB
      go_upto_region 13 with fail
      go_wp2_with (first | (refine wpList_load_as rfl 34 _ rfl (R2.heap.size) 0 rfl (thV u vL vC vK vD) _ rfl hrB Try.rowT Try.sizeT ?_) | (go_at_call 16; refine Calls.mono hci.out ?_; rintro e V3 ⟨hip, n8⟩; obtain ⟨i1, i3, rfl, hbs⟩ := img_yes2 hip hu.out eu.out; refine stop_here ?_))
      unfold Hid
      clear hci hrB
      replace hB := (n8.block _ (heap_lt hB) (fun h => h)).trans hB
      replace hut := hut.nw n8
      replace nV : Hid (Nw w V3) := nw_trans nV.out n8
      have hcq : Hid _ := c_tright V3 hut (by omega) (by omega)
      unfold AnsP at hcq
      have hrB := range_all hB
      clear hip n8 hlc hlk
      go_upto_region 14 with fail
      go_wp2_with (first | (refine wpList_load_as rfl 34 _ rfl (R2.heap.size) 0 rfl (thV u vL vC vK vD) _ rfl hrB Try.rowT Try.sizeT ?_) | (go_at_call 11; refine Calls.mono hcq.out ?_; rintro e V4 ⟨r1, rfl, q1, n7⟩; obtain rfl := q1.2 hu.out; refine stop_here ?_))
      unfold Hid
      clear hcq hrB q1
      replace hbs := hbs.nw n7
      have hx9 : Sl w.heap.size V4 v bs.length (bs.map bv) := hx.out.keep ((nw_trans nV.out n7).below (Nat.le_refl _) (fun _ h => h.elim))
      have nEnd : Hid (Nw w V4) := nw_trans nV.out n7
      have s1 := run_string_sl (P := Try.prog) 28 5 9 Try.underlying28 Try.underlying5 Try.underlying9 hbs.sl
      have s2 := run_string_sl (P := Try.prog) 28 5 9 Try.underlying28 Try.underlying5 Try.underlying9 hx9
      clear hbs hx9 hut hB n7
      go_wp2
      go_ret
      exact ⟨by simp, nEnd.out⟩
    · have hnz : Hid (¬ RightT zeroT) := zero_not
      replace hex : Hid _ := hex
      go_wp2_with (first | (go_at_call 18; refine Calls.mono hcr.out ?_; rintro e R2 ⟨hrd, n9⟩; obtain rfl := read_none hrd (fun u hu wu eu => hex.out ⟨u, hu, wu, eu⟩); refine stop_here ?_))
      unfold Hid
      clear hcr hrd
      obtain ⟨YV2, hYV2⟩ : ∃ Y, Hid (Y = R2.alloc (.cells (thC zeroT (.slice none 0 0) (.slice none 0 0) (.slice none 0 0) (.slice none 0 0)).toArray 34)) := ⟨_, rfl⟩
      have hPV2 : YV2.heap[R2.heap.size]? = some (.cells (thC zeroT (.slice none 0 0) (.slice none 0 0) (.slice none 0 0) (.slice none 0 0)).toArray 34 (0, 0)) := by rw [hYV2.out]; exact heap_alloc_new R2 _
      have nYV2 : Nw R2 YV2 := by rw [hYV2.out]; exact nw_alloc (nw_refl _) _
      obtain ⟨V2, hVV2⟩ : ∃ V, Hid (V = YV2.setRow R2.heap.size (thC zeroT (.slice none 0 0) (.slice none 0 0) (.slice none 0 0) (.slice none 0 0)).toArray) := ⟨_, rfl⟩
      have hB : V2.heap[R2.heap.size]? = some (.cells (thC zeroT (.slice none 0 0) (.slice none 0 0) (.slice none 0 0) (.slice none 0 0)).toArray 34 (0, 0)) := by rw [hVV2.out]; exact setRow_heap _ _ _ _ _ _ hPV2
      have nV2 : Nw R2 V2 := by rw [hVV2.out]; exact Fr.setRow nYV2 (.inr (Nat.le_refl _)) _
      go_wp2_with (refine wpList_alloc_agg rfl 34 rfl _ Try.zeroTh ?_; rw [← hYV2.out]; refine stop_here ?_)
      unfold Hid
      refine wpList_store_all rfl 34 _ _ rfl R2.heap.size rfl (thV zeroT (.slice none 0 0) (.slice none 0 0) (.slice none 0 0) (.slice none 0 0)) rfl (thC zeroT (.slice none 0 0) (.slice none 0 0) (.slice none 0 0) (.slice none 0 0)) rfl (thC zeroT (.slice none 0 0) (.slice none 0 0) (.slice none 0 0) (.slice none 0 0)) 34 hPV2 rfl (th_one _ _ _ _ _ rfl rfl rfl rfl) Try.sizeT ?_
      rw [← hVV2.out]
      clear hYV2 hVV2 hPV2 nYV2
      have nV : Hid (Nw w V2) := nw_trans nL.out (nw_trans n9 nV2)
      have hcq : Hid _ := c_tright V2 (⟨csl_nil _ _, csl_nil _ _, csl_nil _ _, bsl_nil _ _⟩ : ThAt (fun _ => False) V2 zeroT (.slice none 0 0) (.slice none 0 0) (.slice none 0 0) (.slice none 0 0)) (by decide) (by decide)
      unfold AnsP at hcq
      have hrB := range_all hB
      clear n9 nV2
      go_upto_region 12 with fail
      go_wp2_with (first | (refine wpList_load_as rfl 34 _ rfl (R2.heap.size) 0 rfl (thV zeroT (.slice none 0 0) (.slice none 0 0) (.slice none 0 0) (.slice none 0 0)) _ rfl hrB Try.rowT Try.sizeT ?_) | (go_at_call 11; refine Calls.mono hcq.out ?_; rintro e V4 ⟨r1, rfl, q1, n7⟩; obtain rfl : r1 = false := (by cases r1; rfl; exact absurd (q1.1 rfl) hnz.out); refine stop_here ?_))
      unfold Hid
      clear hcq hrB q1
      have nEnd : Hid (Nw w V4) := nw_trans nV.out n7
      clear hB n7
      go_wp2
      go_ret
      exact ⟨rfl, nEnd.out⟩
  · go_upto_region 3 with fail
    go_wp2_with (first | (refine wpList_load_as rfl 34 _ rfl (w.heap.size) 0 rfl (thV t uL uC uK uD) _ rfl hrA Try.rowT Try.sizeT ?_) | (go_at_call 16; refine Calls.mono hci.out ?_; rintro e W2 ⟨hip, n2⟩; obtain rfl := img_no hip hr; refine stop_here ?_))
    unfold Hid
    clear hci hrA hip
    replace hA := (n2.block _ (heap_lt hA) (fun h => h)).trans hA
    replace ht := ht.nw n2
    have hcq : Hid _ := c_tright W2 ht (by omega) (by omega)
    unfold AnsP at hcq
    have hrA := range_all hA
    replace hr : Hid (¬ RightT t) := hr
    go_upto_region 4 with fail
    go_wp2_with (first | (refine wpList_load_as rfl 34 _ rfl (w.heap.size) 0 rfl (thV t uL uC uK uD) _ rfl hrA Try.rowT Try.sizeT ?_) | (go_at_call 11; refine Calls.mono hcq.out ?_; rintro e W3 ⟨r1, rfl, q1, n3⟩; obtain rfl : r1 = false := (by cases r1; rfl; exact absurd (q1.1 rfl) hr.out); refine stop_here ?_))
    unfold Hid
    replace nW : Hid (Nw w W3) := nw_trans nW.out (nw_trans n2 n3)
    clear hcq hrA q1 n2 n3 hA ht hr
    go_upto_region 10 with fail
    have hxa : Sl w.heap.size (W3.alloc (.cells #[] 5)) v bs.length (bs.map bv) := hx.out.keep ((nw_alloc nW.out _).below (Nat.le_refl _) (fun _ h => h.elim))
    have hg2 : (W3.alloc (.cells #[] 5)).heap[W3.heap.size]? = some (.cells #[] 5 (0, 0)) := heap_alloc_new W3 _
    have nL : Nw W3 (W3.alloc (.cells #[] 5)) := nw_alloc (nw_refl _) _
    go_wp2_with (at_builtin; refine wpList_append_new _ rfl _ _ 28 rfl 5 i0 _ 1 1 Try.underlying28 hi hz0 hz1 hz2 rfl (by decide) _ rfl hg2 w.heap.size v bs.length (bs.map bv) rfl hxa (by simp) (bv_oneCell bs) (by unfold maxLen; omega) (by omega) ?_; refine stop_here ?_)
    unfold Hid
    intro va Wa howna na
    have hcr : Hid _ := c_tread Wa (sl_of_owns howna) (Nat.le_refl _)
    obtain ⟨xa, xc, hva⟩ := owns_form howna
    subst hva
    clear howna hxa hg2
    replace nL : Hid (Nw w Wa) := nw_trans nW.out (nw_trans nL na)
    clear na
    by_cases hex : ∃ u, RightT u ∧ WfT u ∧ imgO u = some bs
    · obtain ⟨u, hu, wu, eu⟩ := hex
      replace hu : Hid (RightT u) := hu
      replace eu : Hid (imgO u = some bs) := eu
      go_wp2_with (first | (go_at_call 18; refine Calls.mono hcr.out ?_; rintro e R2 ⟨hrd, n9⟩; obtain ⟨vL, vC, vK, vD, rfl, hut⟩ := read_img hrd hu.out wu eu.out; refine stop_here ?_))
      unfold Hid
      clear hcr hrd
      obtain ⟨YV2, hYV2⟩ : ∃ Y, Hid (Y = R2.alloc (.cells (thC zeroT (.slice none 0 0) (.slice none 0 0) (.slice none 0 0) (.slice none 0 0)).toArray 34)) := ⟨_, rfl⟩
      have hPV2 : YV2.heap[R2.heap.size]? = some (.cells (thC zeroT (.slice none 0 0) (.slice none 0 0) (.slice none 0 0) (.slice none 0 0)).toArray 34 (0, 0)) := by rw [hYV2.out]; exact heap_alloc_new R2 _
      have nYV2 : Nw R2 YV2 := by rw [hYV2.out]; exact nw_alloc (nw_refl _) _
      obtain ⟨V2, hVV2⟩ : ∃ V, Hid (V = YV2.setRow R2.heap.size (thC u vL vC vK vD).toArray) := ⟨_, rfl⟩
      have hB : V2.heap[R2.heap.size]? = some (.cells (thC u vL vC vK vD).toArray 34 (0, 0)) := by rw [hVV2.out]; exact setRow_heap _ _ _ _ _ _ hPV2
      have nV2 : Nw R2 V2 := by rw [hVV2.out]; exact Fr.setRow nYV2 (.inr (Nat.le_refl _)) _
      go_wp2_with (refine wpList_alloc_agg rfl 34 rfl _ Try.zeroTh ?_; rw [← hYV2.out]; refine stop_here ?_)
      unfold Hid
      refine wpList_store_all rfl 34 _ _ rfl R2.heap.size rfl (thV u vL vC vK vD) rfl (thC u vL vC vK vD) rfl (thC zeroT (.slice none 0 0) (.slice none 0 0) (.slice none 0 0) (.slice none 0 0)) 34 hPV2 rfl hut.one Try.sizeT ?_
      rw [← hVV2.out]
      clear hYV2 hVV2 hPV2 nYV2
      replace hut := hut.nw nV2
      have nV : Hid (Nw w V2) := nw_trans nL.out (nw_trans n9 nV2)
      clear n9 nV2
      have hlc := hu.out.rgt.len
      have hlk := len_cc hu.out
      have hci : Hid _ := c_timage V2 hut wu (by omega) (by omega)
      have hrB := range_all hB
      go_upto_region 13 with fail
      go_wp2_with (first | (refine wpList_load_as rfl 34 _ rfl (R2.heap.size) 0 rfl (thV u vL vC vK vD) _ rfl hrB Try.rowT Try.sizeT ?_) | (go_at_call 16; refine Calls.mono hci.out ?_; rintro e V3 ⟨hip, n8⟩; obtain ⟨i1, i3, rfl, hbs⟩ := img_yes2 hip hu.out eu.out; refine stop_here ?_))
      unfold Hid
      clear hci hrB
      replace hB := (n8.block _ (heap_lt hB) (fun h => h)).trans hB
      replace hut := hut.nw n8
      replace nV : Hid (Nw w V3) := nw_trans nV.out n8
      have hcq : Hid _ := c_tright V3 hut (by omega) (by omega)
      unfold AnsP at hcq
      have hrB := range_all hB
      clear hip n8 hlc hlk
      go_upto_region 14 with fail
      go_wp2_with (first | (refine wpList_load_as rfl 34 _ rfl (R2.heap.size) 0 rfl (thV u vL vC vK vD) _ rfl hrB Try.rowT Try.sizeT ?_) | (go_at_call 11; refine Calls.mono hcq.out ?_; rintro e V4 ⟨r1, rfl, q1, n7⟩; obtain rfl := q1.2 hu.out; refine stop_here ?_))
      unfold Hid
      clear hcq hrB q1
      replace hbs := hbs.nw n7
      have hx9 : Sl w.heap.size V4 v bs.length (bs.map bv) := hx.out.keep ((nw_trans nV.out n7).below (Nat.le_refl _) (fun _ h => h.elim))
      have nEnd : Hid (Nw w V4) := nw_trans nV.out n7
      have s1 := run_string_sl (P := Try.prog) 28 5 9 Try.underlying28 Try.underlying5 Try.underlying9 hbs.sl
      have s2 := run_string_sl (P := Try.prog) 28 5 9 Try.underlying28 Try.underlying5 Try.underlying9 hx9
      clear hbs hx9 hut hB n7
      go_wp2
      go_ret
      exact ⟨by simp, nEnd.out⟩
    · have hnz : Hid (¬ RightT zeroT) := zero_not
      replace hex : Hid _ := hex
      go_wp2_with (first | (go_at_call 18; refine Calls.mono hcr.out ?_; rintro e R2 ⟨hrd, n9⟩; obtain rfl := read_none hrd (fun u hu wu eu => hex.out ⟨u, hu, wu, eu⟩); refine stop_here ?_))
      unfold Hid
      clear hcr hrd
      obtain ⟨YV2, hYV2⟩ : ∃ Y, Hid (Y = R2.alloc (.cells (thC zeroT (.slice none 0 0) (.slice none 0 0) (.slice none 0 0) (.slice none 0 0)).toArray 34)) := ⟨_, rfl⟩
      have hPV2 : YV2.heap[R2.heap.size]? = some (.cells (thC zeroT (.slice none 0 0) (.slice none 0 0) (.slice none 0 0) (.slice none 0 0)).toArray 34 (0, 0)) := by rw [hYV2.out]; exact heap_alloc_new R2 _
      have nYV2 : Nw R2 YV2 := by rw [hYV2.out]; exact nw_alloc (nw_refl _) _
      obtain ⟨V2, hVV2⟩ : ∃ V, Hid (V = YV2.setRow R2.heap.size (thC zeroT (.slice none 0 0) (.slice none 0 0) (.slice none 0 0) (.slice none 0 0)).toArray) := ⟨_, rfl⟩
      have hB : V2.heap[R2.heap.size]? = some (.cells (thC zeroT (.slice none 0 0) (.slice none 0 0) (.slice none 0 0) (.slice none 0 0)).toArray 34 (0, 0)) := by rw [hVV2.out]; exact setRow_heap _ _ _ _ _ _ hPV2
      have nV2 : Nw R2 V2 := by rw [hVV2.out]; exact Fr.setRow nYV2 (.inr (Nat.le_refl _)) _
      go_wp2_with (refine wpList_alloc_agg rfl 34 rfl _ Try.zeroTh ?_; rw [← hYV2.out]; refine stop_here ?_)
      unfold Hid
      refine wpList_store_all rfl 34 _ _ rfl R2.heap.size rfl (thV zeroT (.slice none 0 0) (.slice none 0 0) (.slice none 0 0) (.slice none 0 0)) rfl (thC zeroT (.slice none 0 0) (.slice none 0 0) (.slice none 0 0) (.slice none 0 0)) rfl (thC zeroT (.slice none 0 0) (.slice none 0 0) (.slice none 0 0) (.slice none 0 0)) 34 hPV2 rfl (th_one _ _ _ _ _ rfl rfl rfl rfl) Try.sizeT ?_
      rw [← hVV2.out]
      clear hYV2 hVV2 hPV2 nYV2
      have nV : Hid (Nw w V2) := nw_trans nL.out (nw_trans n9 nV2)
      have hcq : Hid _ := c_tright V2 (⟨csl_nil _ _, csl_nil _ _, csl_nil _ _, bsl_nil _ _⟩ : ThAt (fun _ => False) V2 zeroT (.slice none 0 0) (.slice none 0 0) (.slice none 0 0) (.slice none 0 0)) (by decide) (by decide)
      unfold AnsP at hcq
      have hrB := range_all hB
      clear n9 nV2
      go_upto_region 12 with fail
      go_wp2_with (first | (refine wpList_load_as rfl 34 _ rfl (R2.heap.size) 0 rfl (thV zeroT (.slice none 0 0) (.slice none 0 0) (.slice none 0 0) (.slice none 0 0)) _ rfl hrB Try.rowT Try.sizeT ?_) | (go_at_call 11; refine Calls.mono hcq.out ?_; rintro e V4 ⟨r1, rfl, q1, n7⟩; obtain rfl : r1 = false := (by cases r1; rfl; exact absurd (q1.1 rfl) hnz.out); refine stop_here ?_))
      unfold Hid
      clear hcq hrB q1
      have nEnd : Hid (Nw w V4) := nw_trans nV.out n7
      clear hB n7
      go_wp2
      go_ret
      exact ⟨rfl, nEnd.out⟩
end Go.Proofs.Ytghlilncdfiojaa
