/-
  ThingSizes' walk.
-/
import Derived.Test.YtghlilncdfiojabThA1A
namespace Go.Proofs.Ytghlilncdfiojab
set_option linter.unusedVariables false
set_option linter.unusedSimpArgs false
set_option maxRecDepth 20000
open Go.RowKit

theorem img_yes3 {t : Th} {e : Ending} {w' : World} {y : List UInt8} (h : ImgP t e w') (hr : RightT t) (hy : imgO t = some y) : ∃ a c, e = .returned (.tuple #[.slice a y.length c, .int .i64 0]) := by
  rcases h with ⟨_, v, y', h1, rfl, h3⟩ | ⟨h1, _⟩
  · rw [hy] at h1
    cases h1
    obtain ⟨a, c, rfl, _⟩ := h3.form
    exact ⟨a, c, rfl⟩
  · exact absurd hr h1

set_option maxRecDepth 100000 in
set_option maxHeartbeats 6400000 in
theorem c_lsizes {X : Nat → Prop} {t : Th} {uL uC uK uD : Value} (w : World) (h : ThAt X w t uL uC uK uD) (hwf : WfT t) (l1 : t.cats.length ≤ 8796093021952) (l2 : t.ccats.length ≤ 8796093021952) :
    Calls Try.prog 3 #[thV t uL uC uK uD] w fun e w' => e = .returned (.bool true) ∧ Nw w w' := by
  obtain ⟨la, lc, rfl, hl1, hl2⟩ := h.l.form
  obtain ⟨ca, cc, rfl, hc1, hc2⟩ := h.c.form
  obtain ⟨ka, kc, rfl, hk1', hk2'⟩ := h.k.form
  obtain ⟨da, dc, rfl, hd1, hd2⟩ := h.d.form
  obtain ⟨n1, e1⟩ : ∃ n, Hid (t.cats.length = n) := ⟨_, rfl⟩
  obtain ⟨n2, e2⟩ : ∃ n, Hid (t.ccats.length = n) := ⟨_, rfl⟩
  obtain ⟨n3, e3⟩ : ∃ n, Hid (t.links.length = n) := ⟨_, rfl⟩
  obtain ⟨n4, e4⟩ : ∃ n, Hid (t.data.length = n) := ⟨_, rfl⟩
  rw [e1.out, e2.out, e3.out, e4.out] at h ⊢
  obtain ⟨W, hW⟩ : ∃ W, Hid (W = w.alloc (.cells (thC t (.slice la n1 lc) (.slice ca n2 cc) (.slice ka n3 kc) (.slice da n4 dc)).toArray 33)) := ⟨_, rfl⟩
  have nW : Nw w W := by rw [hW.out]; exact nw_alloc (nw_refl w) _
  have hA : W.heap[w.heap.size]? = some (.cells (thC t (.slice la n1 lc) (.slice ca n2 cc) (.slice ka n3 kc) (.slice da n4 dc)).toArray 33 (0, 0)) := by rw [hW.out]; exact heap_alloc_new w _
  have ht := h.nw nW
  clear h hl1 hl2 hc1 hc2 hk1' hk2' hd1 hd2
  go_enter Try.func3, Try.ntmps3
  go_upto_region 1 with (refine wpList_box_agg rfl 33 _ rfl (thV t (.slice la n1 lc) (.slice ca n2 cc) (.slice ka n3 kc) (.slice da n4 dc)) _ rfl rfl ?_)
  rw [← hW.out]
  clear hW
  go_wp2_with (first | (go_at_call 4; refine Calls.mono (c_alive _) ?_; rintro e W1 ⟨rfl, m1⟩; refine stop_here ?_))
  unfold Hid
  replace hA := (m1.block _ (heap_lt hA) (fun h => h)).trans hA
  replace ht := ht.nw m1
  replace nW : Hid (Nw w W1) := nw_trans nW m1
  clear m1
  have hci : Hid _ := c_timage W1 ht hwf (by omega) (by omega)
  have hrA := range_all hA
  by_cases hr : RightT t
  · obtain ⟨y, hy, hyl, -⟩ := img_some hr hwf
    replace hy : Hid (imgO t = some y) := hy
    replace hyl : Hid (y.length = sizeT t) := hyl
    go_upto_region 3 with fail
    go_wp2_with (first | (refine wpList_load_as rfl 33 _ rfl (w.heap.size) 0 rfl (thV t (.slice la n1 lc) (.slice ca n2 cc) (.slice ka n3 kc) (.slice da n4 dc)) _ rfl hrA Try.rowT Try.sizeT ?_) | (go_at_call 5; refine Calls.mono hci.out ?_; rintro e W2 ⟨hip, m2⟩; obtain ⟨p1, p3, rfl⟩ := img_yes3 hip hr hy.out; refine stop_here ?_))
    unfold Hid
    clear hci hrA hip
    replace hA := (m2.block _ (heap_lt hA) (fun h => h)).trans hA
    replace nW : Hid (Nw w W2) := nw_trans nW.out m2
    have hc6 : n1 ≤ 6 := by have := hr.rgt.len; rw [e1.out] at this; exact this
    replace hyl := hyl.out
    clear hy m2 ht l1 l2
    generalize y.length = ny at *
    have a1 : W2.cell? ⟨w.heap.size, 1, none⟩ = some (.int .i64 t.kind) := cell_blk hA rfl
    have a3 : W2.cell? ⟨w.heap.size, 3, none⟩ = some (.slice la n1 lc) := cell_blk hA rfl
    have a5 : W2.cell? ⟨w.heap.size, 5, none⟩ = some (.slice ca n2 cc) := cell_blk hA rfl
    have a8 : W2.cell? ⟨w.heap.size, 8, none⟩ = some (.slice ka n3 kc) := cell_blk hA rfl
    have a9 : W2.cell? ⟨w.heap.size, 9, none⟩ = some (.slice da n4 dc) := cell_blk hA rfl
    replace hyl : Hid (ny = sizeT t) := hyl
    have hpp := hr.parts
    clear hr hA hwf
    replace hpp : Hid (KindOk t) := hpp
    go_upto_region 6 with fail
    replace hyl := hyl.out
    rcases hpp.out with ⟨hk, g⟩ | ⟨hk, g⟩ | ⟨hk, g⟩ | ⟨hk, g⟩ | ⟨hk, g⟩ | ⟨hk, g⟩
    · have hsz : sizeT t = 14 + 9 * t.cats.length + (4 + 10 * t.links.length) := by simp [sizeT, hk]
      have hb := g.len
      have bk1 : (t.kind == 1) = true := by simp [hk]
      rw [e1.out, e3.out] at hsz
      rw [e3.out] at hb
      rw [hsz] at hyl
      replace hyl : Hid _ := hyl
      clear g hk hsz
      go_wp2
      go_ret
      refine ⟨?_, nW.out⟩
      have := hyl.out
      simp
      omega
    · have hsz : sizeT t = 14 + 9 * t.cats.length + (38 + 9 * t.ccats.length) := by simp [sizeT, hk]
      have hb := g.rgt.len
      have bk1 : (t.kind == 1) = false := by simp; omega
      have bk2 : (t.kind == 2) = true := by simp [hk]
      rw [e1.out, e2.out] at hsz
      rw [e2.out] at hb
      rw [hsz] at hyl
      replace hyl : Hid _ := hyl
      clear g hk hsz
      go_wp2
      go_ret
      refine ⟨?_, nW.out⟩
      have := hyl.out
      simp
      omega
    · have hsz : sizeT t = 14 + 9 * t.cats.length + (11 + 9 * t.ccats.length) := by simp [sizeT, hk]
      have hb := g.rgt.len
      have bk1 : (t.kind == 1) = false := by simp; omega
      have bk2 : (t.kind == 2) = false := by simp; omega
      have bk3 : (t.kind == 3) = true := by simp [hk]
      rw [e1.out, e2.out] at hsz
      rw [e2.out] at hb
      rw [hsz] at hyl
      replace hyl : Hid _ := hyl
      clear g hk hsz
      go_wp2
      go_ret
      refine ⟨?_, nW.out⟩
      have := hyl.out
      simp
      omega
    · have hsz : sizeT t = 14 + 9 * t.cats.length + (2 + t.data.length) := by simp [sizeT, hk]
      have hb := g.hi
      have bk1 : (t.kind == 1) = false := by simp; omega
      have bk2 : (t.kind == 2) = false := by simp; omega
      have bk3 : (t.kind == 3) = false := by simp; omega
      have bk4 : (t.kind == 4) = true := by simp [hk]
      rw [e1.out, e4.out] at hsz
      rw [e4.out] at hb
      rw [hsz] at hyl
      replace hyl : Hid _ := hyl
      clear g hk hsz
      go_wp2
      go_ret
      refine ⟨?_, nW.out⟩
      have := hyl.out
      simp
      omega
    · have hsz : sizeT t = 14 + 9 * t.cats.length + 64 := by simp [sizeT, hk]
      skip
      have bk1 : (t.kind == 1) = false := by simp; omega
      have bk2 : (t.kind == 2) = false := by simp; omega
      have bk3 : (t.kind == 3) = false := by simp; omega
      have bk4 : (t.kind == 4) = false := by simp; omega
      have bk5 : (t.kind == 5) = true := by simp [hk]
      rw [e1.out] at hsz
      skip
      rw [hsz] at hyl
      replace hyl : Hid _ := hyl
      clear g hk hsz
      go_wp2
      go_ret
      refine ⟨?_, nW.out⟩
      have := hyl.out
      simp
      omega
    · have hsz : sizeT t = 14 + 9 * t.cats.length := by simp [sizeT, hk]
      skip
      have bk1 : (t.kind == 1) = false := by simp; omega
      have bk2 : (t.kind == 2) = false := by simp; omega
      have bk3 : (t.kind == 3) = false := by simp; omega
      have bk4 : (t.kind == 4) = false := by simp; omega
      have bk5 : (t.kind == 5) = false := by simp; omega
      rw [e1.out] at hsz
      skip
      rw [hsz] at hyl
      replace hyl : Hid _ := hyl
      clear g hk hsz
      go_wp2
      go_ret
      refine ⟨?_, nW.out⟩
      have := hyl.out
      simp
      omega
  · go_upto_region 3 with fail
    go_wp2_with (first | (refine wpList_load_as rfl 33 _ rfl (w.heap.size) 0 rfl (thV t (.slice la n1 lc) (.slice ca n2 cc) (.slice ka n3 kc) (.slice da n4 dc)) _ rfl hrA Try.rowT Try.sizeT ?_) | (go_at_call 5; refine Calls.mono hci.out ?_; rintro e W2 ⟨hip, m2⟩; obtain rfl := img_no hip hr; refine stop_here ?_))
    unfold Hid
    replace nW : Hid (Nw w W2) := nw_trans nW.out m2
    clear hci hrA hip hA ht m2 hr
    go_wp2
    go_ret
    exact ⟨rfl, nW.out⟩
end Go.Proofs.Ytghlilncdfiojab
