/-
  LabelRights' walk.
-/
import Derived.Test.YtkjmlgdaopafhaaLabA1
import Derived.Test.YtkjmlgdaopafhaaLabR6
namespace Go.Proofs.Ytkjmlgdaopafhaa
set_option linter.unusedVariables false
set_option linter.unusedSimpArgs false
set_option maxRecDepth 20000
open Go.RowKit

theorem rgt_plain : Rgt 2 [] := ⟨by decide, by decide, by simp, ⟨List.Pairwise.nil, fun c hc => noM hc⟩, fun i h => by simp at h⟩

set_option maxRecDepth 20000 in
set_option maxHeartbeats 6400000 in
theorem c_rights {X : Nat → Prop} {v : Value} {xs : List Cat} (d : Int) (w : World) (h : CSl X w v xs) (hl : xs.length ≤ 8796093021952) :
    Calls Try.prog 5 #[labV d v] w fun e w' => e = .returned (.bool true) ∧ Nw w w' := by
  obtain ⟨ao, cap, rfl, ha1, ha2⟩ := h.form
  have hA : (w.alloc (.cells #[.int .i64 d, .slice ao xs.length cap] 26)).heap[w.heap.size]? = some (.cells #[.int .i64 d, .slice ao xs.length cap] 26 (0, 0)) := heap_alloc_new w _
  have nW : Nw w (w.alloc (.cells #[.int .i64 d, .slice ao xs.length cap] 26)) := nw_alloc (nw_refl w) _
  replace h := h.nw nW
  unfold labV
  go_enter Try.func5, Try.ntmps5
  go_upto_region 1 with fail
  generalize w.alloc (.cells #[.int .i64 d, .slice ao xs.length cap] 26) = W at *
  generalize w.heap.size = N at *
  have hSof : ∀ w', Nw W w' → (fun w' : World => Nw W w' ∧ w'.cell? ⟨N, 0, none⟩ = some (.int .i64 d) ∧ w'.cell? ⟨N, 1, none⟩ = some (.slice ao xs.length cap)) w' := fun w' hw => ⟨hw, cell_blk ((hw.block _ (heap_lt hA) (fun h => h)).trans hA) rfl, cell_blk ((hw.block _ (heap_lt hA) (fun h => h)).trans hA) rfl⟩
  have hW0 : Nw W W.drew := Fr.drew (Fr.refl _ W)
  refine wp_region_ord [] 13 [(0, false), (1, true), (2, true), (3, false), (4, true), (5, true), (6, true), (9, true), (7, false), (8, false), (10, false), (11, true), (12, true)] (fun w' : World => Nw W w' ∧ w'.cell? ⟨N, 0, none⟩ = some (.int .i64 d) ∧ w'.cell? ⟨N, 1, none⟩ = some (.slice ao xs.length cap)) (by kernel_rfl) (by kernel_rfl) ?_
  refine ord_actL _ rfl (fun K1 hK1 => ?_)
  go_wp2_with (go_at_call 9; refine Calls.mono (c_alive _) ?_; rintro e y0 ⟨rfl, qn⟩)
  have m0 := nw_trans hW0 qn
  refine hK1 _ _ (hSof _ m0) ?_
  clear hK1 K1 qn hW0
  have hS := hSof _ m0
  refine ord_quietL _ ?_ rfl hS rfl ?_ ?_
  rotate_left
  · rintro w' ⟨hn, h0, h1⟩; go_simp; first | rfl | (rw [if_pos (by omega)]; done) | (rw [if_pos (by omega)]; rfl) | (rw [if_pos (by omega)]; go_simp; rfl)
  simp only [Act.put, List.setIfInBounds_toArray, List.set_cons_zero, List.set_cons_succ]
  refine ord_quietL _ ?_ rfl hS rfl ?_ ?_
  rotate_left
  · rintro w' ⟨hn, h0, h1⟩; go_simp; first | rfl | (rw [if_pos (by omega)]; done) | (rw [if_pos (by omega)]; rfl) | (rw [if_pos (by omega)]; go_simp; rfl)
  simp only [Act.put, List.setIfInBounds_toArray, List.set_cons_zero, List.set_cons_succ]
  refine ord_actL _ rfl (fun K1 hK1 => ?_)
  have hcon : Hid _ := c_right 2 y0 (csl_nil (fun _ => True) y0) (by simp)
  unfold labV at hcon
  go_wp2_with (go_at_call 15; refine Calls.mono hcon.out ?_; rintro e y1 ⟨r, rfl, q1, qn⟩)
  have hr : r = true := q1.2 rgt_plain
  subst hr
  have m1 := nw_trans m0 qn
  refine hK1 _ _ (hSof _ m1) ?_
  clear hK1 K1 qn q1 hcon hS
  have hS := hSof _ m1
  refine ord_quietL _ ?_ rfl hS rfl ?_ ?_
  rotate_left
  · rintro w' ⟨hn, h0, h1⟩; go_simp; first | rfl | (rw [if_pos (by omega)]; done) | (rw [if_pos (by omega)]; rfl) | (rw [if_pos (by omega)]; go_simp; rfl)
  simp only [Act.put, List.setIfInBounds_toArray, List.set_cons_zero, List.set_cons_succ]
  refine ord_quietL _ ?_ rfl hS rfl ?_ ?_
  rotate_left
  · rintro w' ⟨hn, h0, h1⟩; go_simp; first | rfl | (rw [if_pos (by omega)]; done) | (rw [if_pos (by omega)]; rfl) | (rw [if_pos (by omega)]; go_simp; rfl)
  simp only [Act.put, List.setIfInBounds_toArray, List.set_cons_zero, List.set_cons_succ]
  refine ord_quietL _ ?_ rfl hS rfl ?_ ?_
  rotate_left
  · rintro w' ⟨hn, h0, h1⟩; go_simp; first | rfl | (rw [if_pos (by omega)]; done) | (rw [if_pos (by omega)]; rfl) | (rw [if_pos (by omega)]; go_simp; rfl)
  simp only [Act.put, List.setIfInBounds_toArray, List.set_cons_zero, List.set_cons_succ]
  refine ord_quietL _ ?_ rfl hS rfl ?_ ?_
  rotate_left
  · rintro w' ⟨hn, h0, h1⟩; go_simp; first | rfl | (rw [if_pos (by omega)]; done) | (rw [if_pos (by omega)]; rfl) | (rw [if_pos (by omega)]; go_simp; rfl)
  simp only [Act.put, List.setIfInBounds_toArray, List.set_cons_zero, List.set_cons_succ]
  refine ord_actL _ rfl (fun K1 hK1 => ?_)
  have hcon : Hid _ := c_copy d y1 (h.nw m1) (by omega)
  unfold labV at hcon
  go_wp2_with (go_at_call 16; refine Calls.mono hcon.out ?_; rintro e y2 ⟨u2, rfl, q1, qn⟩)
  have m2 := nw_trans m1 qn
  have c2 := q1.any
  obtain ⟨ua, uc, rfl, _, _⟩ := q1.form
  refine hK1 _ _ (hSof _ m2) ?_
  clear hK1 K1 qn q1 hcon hS
  refine ord_actL _ rfl (fun K1 hK1 => ?_)
  have hcon : Hid _ := c_right d y2 c2 (by omega)
  unfold labV at hcon
  go_wp2_with (go_at_call 15; refine Calls.mono hcon.out ?_; rintro e y3 ⟨r1, rfl, q1, qn⟩)
  have s1 : Hid _ := q1
  have m3 := nw_trans m2 qn
  refine hK1 _ _ (hSof _ m3) ?_
  clear hK1 K1 qn q1 hcon c2
  refine ord_actL _ rfl (fun K1 hK1 => ?_)
  have hcon : Hid _ := c_rright d y3 (h.nw m3) (by omega)
  unfold labV at hcon
  go_wp2_with (go_at_call 17; refine Calls.mono hcon.out ?_; rintro e y4 ⟨r2, rfl, q1, qn⟩)
  have hr : r1 = r2 := Bool.eq_iff_iff.2 (s1.out.trans q1.symm)
  subst hr
  have m4 := nw_trans m3 qn
  refine hK1 _ _ (hSof _ m4) ?_
  clear hK1 K1 qn q1 hcon s1
  have hS := hSof _ m4
  have hbb : (r1 == r1) = true := by simp
  refine ord_quietL _ ?_ rfl hS rfl ?_ ?_
  rotate_left
  · rintro w' ⟨hn, h0, h1⟩; go_simp; first | rfl | (rw [if_pos (by omega)]; done) | (rw [if_pos (by omega)]; rfl) | (rw [if_pos (by omega)]; go_simp; rfl)
  simp only [Act.put, List.setIfInBounds_toArray, List.set_cons_zero, List.set_cons_succ]
  refine ord_quietL _ ?_ rfl hS rfl ?_ ?_
  rotate_left
  · rintro w' ⟨hn, h0, h1⟩; go_simp; first | rfl | (rw [if_pos (by omega)]; done) | (rw [if_pos (by omega)]; rfl) | (rw [if_pos (by omega)]; go_simp; rfl)
  simp only [Act.put, List.setIfInBounds_toArray, List.set_cons_zero, List.set_cons_succ]
  refine ord_tail ?_
  simp only [List.drop_succ_cons, List.drop_zero]
  have hfin := nw_trans nW m4
  go_wp2
  go_ret
  exact ⟨by first | rfl | simp, hfin⟩
end Go.Proofs.Ytkjmlgdaopafhaa
