/-
  The chapter's example of flow.
-/
import Derived.Test.YtimgelekpghklaaFlowW1
import Derived.Test.YtimgelekpghklaaLabA1
namespace Go.Proofs.Ytimgelekpghklaa
set_option linter.unusedVariables false
set_option linter.unusedSimpArgs false
set_option maxRecDepth 20000
open Go.RowKit

set_option maxHeartbeats 1600000 in
theorem c_at (id lv : Int) (w : World) : Calls Try.prog 12 #[.int .u64 id, .int .i64 lv] w (MadeL w 2 (lev 2 [(id, lv)]) 1) := by
  have hZ : ((w.alloc (.cells #[.int .i64 0, .slice none 0 0] 24)).alloc (.cells #[.int .u64 id, .int .i64 lv] 33)).heap[w.heap.size]? = some (.cells #[.int .i64 0, .slice none 0 0] 24 (0, 0)) := heap_alloc2_old w _ _
  have nW : Nw w ((w.alloc (.cells #[.int .i64 0, .slice none 0 0] 24)).alloc (.cells #[.int .u64 id, .int .i64 lv] 33)) := nw_alloc (nw_alloc (nw_refl w) _) _
  have hc := csl_lit (w.alloc (.cells #[.int .i64 0, .slice none 0 0] 24)) id lv 33
  have hs : (w.alloc (.cells #[.int .i64 0, .slice none 0 0] 24)).heap.size = w.heap.size + 1 := by simp
  rw [hs] at hc
  have hcon : Hid _ := c_make 2 _ hc (by simp)
  clear hc hs
  go_enter Try.func12, Try.ntmps12
  go_wp2_with (go_at_call 28; refine Calls.mono hcon.out ?_; rintro e w2 ⟨u, ys, rfl, q1, q2, q3, q4, q5⟩; refine stop_here ?_)
  unfold Hid labV
  clear hcon
  obtain ⟨hans, hrr, z0, z1, zf⟩ := store_made (B := w.heap.size) (f := lev 2 [(id, lv)]) (N := 1) nW hZ (Nat.le_refl _) (Nat.le_refl _) q1 q2 q3 q4 q5
  obtain ⟨ua, uc, rfl, _, _⟩ := q1.form
  replace hans : Hid _ := hans
  clear q1 q2 q3 q4 q5 hZ nW
  go_wp2
  refine bodyPost_ret (results_cell1 rfl _ w.heap.size _ _ rfl rfl hrr Try.rowL Try.sizeL) rfl ?_
  exact hans.out

theorem rdL_plain : rdL (lev 2 []) (lev 2 []) := fun id => by simp [lev, tn]
theorem leL_plain : leL (lev 2 []) (lev 2 []) := fun id => Int.le_refl _
theorem rd_tainted {y : List Cat} (h : ∀ id, lev 2 y id = lev 2 [(7, 4)] id) : rdL (lev 2 y) (lev 2 []) := fun id => by
  rw [h]
  by_cases h7 : (7 : Int) = id <;> simp [lev, tn, h7]
theorem not_le {y : List Cat} (h : ∀ id, lev 2 y id = lev 2 [(7, 4)] id) : ¬ leL (lev 2 y) (lev 2 []) := fun hl => by
  have := hl 7
  rw [h] at this
  simp [lev] at this
theorem not_rd {y : List Cat} (h : ∀ id, lev 2 y id = lev 2 [(7, 4)] id) : ¬ rdL (lev 2 []) (lev 2 y) := fun hl => by
  have := hl 7
  rw [h] at this
  simp [lev, tn] at this
theorem rgt_plain2 : Rgt 2 [] := ⟨by decide, by decide, by simp, ⟨List.Pairwise.nil, fun c hc => noM hc⟩, fun i h => by simp at h⟩
theorem pu_plain : Pu 2 [] := ⟨by decide, fun i h => by simp at h⟩

set_option maxRecDepth 20000 in
set_option maxHeartbeats 6400000 in
theorem c_falive (w : World) : Calls Try.prog 5 #[] w fun e w' => e = .returned (.bool true) ∧ Nw w w' := by
  have hP : ((w.alloc (.cells #[.int .i64 2, .slice none 0 0] 24)).alloc (.cells #[.int .i64 2, .slice none 0 0, .int .i64 2, .slice none 0 0] 26)).heap[w.heap.size]? = some (.cells #[.int .i64 2, .slice none 0 0] 24 (0, 0)) := heap_alloc2_old w _ _
  have hQ : ((w.alloc (.cells #[.int .i64 2, .slice none 0 0] 24)).alloc (.cells #[.int .i64 2, .slice none 0 0, .int .i64 2, .slice none 0 0] 26)).heap[w.heap.size + 1]? = some (.cells #[.int .i64 2, .slice none 0 0, .int .i64 2, .slice none 0 0] 26 (0, 0)) := heap_alloc2_new w _ _
  have nW : Nw w ((w.alloc (.cells #[.int .i64 2, .slice none 0 0] 24)).alloc (.cells #[.int .i64 2, .slice none 0 0, .int .i64 2, .slice none 0 0] 26)) := nw_alloc (nw_alloc (nw_refl w) _) _
  go_enter Try.func5, Try.ntmps5
  go_upto_region 3 with fail
  generalize ((w.alloc (.cells #[.int .i64 2, .slice none 0 0] 24)).alloc (.cells #[.int .i64 2, .slice none 0 0, .int .i64 2, .slice none 0 0] 26)) = W at *
  generalize w.heap.size = N at *
  have hcon : Hid _ := c_at 7 4 W
  go_wp2_with (go_at_call 12; refine Calls.mono hcon.out ?_; rintro e W1 ⟨u1, y1, rfl, q1, _, l1, b1, qn⟩; refine stop_here ?_)
  unfold Hid
  obtain ⟨ad1, cp1, rfl, _, _⟩ := q1.form
  have e1 := q1.any
  replace l1 : Hid _ := l1
  replace hP := (qn.block _ (heap_lt hP) (fun h => h)).trans hP
  replace hQ := (qn.block _ (heap_lt hQ) (fun h => h)).trans hQ
  replace nW := nw_trans nW qn
  clear q1 qn hcon
  have hcon : Hid _ := c_at 7 4 W1
  unfold labV
  go_wp2_with (go_at_call 12; refine Calls.mono hcon.out ?_; rintro e W2 ⟨u2, y2, rfl, q1, _, l2, b2, qn⟩; refine stop_here ?_)
  unfold Hid
  obtain ⟨ad2, cp2, rfl, _, _⟩ := q1.form
  replace e1 := e1.nw qn
  have e2 := q1.any
  replace l2 : Hid _ := l2
  replace hP := (qn.block _ (heap_lt hP) (fun h => h)).trans hP
  replace hQ := (qn.block _ (heap_lt hQ) (fun h => h)).trans hQ
  replace nW := nw_trans nW qn
  clear q1 qn hcon
  have nV : Nw W2 (W2.alloc (.cells #[.int .i64 2, .slice ad1 y1.length cp1, .int .i64 2, .slice ad2 y2.length cp2] 26)) := nw_alloc (nw_refl W2) _
  have hV : (W2.alloc (.cells #[.int .i64 2, .slice ad1 y1.length cp1, .int .i64 2, .slice ad2 y2.length cp2] 26)).heap[W2.heap.size]? = some (.cells #[.int .i64 2, .slice ad1 y1.length cp1, .int .i64 2, .slice ad2 y2.length cp2] 26 (0, 0)) := heap_alloc_new W2 _
  unfold labV
  go_upto_region 4 with fail
  generalize (W2.alloc (.cells #[.int .i64 2, .slice ad1 y1.length cp1, .int .i64 2, .slice ad2 y2.length cp2] 26)) = U at *
  replace e1 := e1.nw nV
  replace e2 := e2.nw nV
  replace hP := (nV.block _ (heap_lt hP) (fun h => h)).trans hP
  replace hQ := (nV.block _ (heap_lt hQ) (fun h => h)).trans hQ
  replace nW := nw_trans nW nV
  generalize W2.heap.size = V at *
  clear nV
  have hSof : ∀ w', Nw U w' → (fun w' : World => Nw U w' ∧ w'.cell? ⟨N, 0, none⟩ = some (.int .i64 2) ∧ w'.cell? ⟨N, 1, none⟩ = some (.slice none 0 0) ∧ w'.cell? ⟨N + 1, 0, none⟩ = some (.int .i64 2) ∧ w'.cell? ⟨N + 1, 1, none⟩ = some (.slice none 0 0) ∧ w'.cell? ⟨N + 1, 2, none⟩ = some (.int .i64 2) ∧ w'.cell? ⟨N + 1, 3, none⟩ = some (.slice none 0 0) ∧ w'.cell? ⟨V, 0, none⟩ = some (.int .i64 2) ∧ w'.cell? ⟨V, 1, none⟩ = some (.slice ad1 y1.length cp1) ∧ w'.cell? ⟨V, 2, none⟩ = some (.int .i64 2) ∧ w'.cell? ⟨V, 3, none⟩ = some (.slice ad2 y2.length cp2)) w' := fun w' hw => ⟨hw, cell_blk ((hw.block _ (heap_lt hP) (fun h => h)).trans hP) rfl, cell_blk ((hw.block _ (heap_lt hP) (fun h => h)).trans hP) rfl, cell_blk ((hw.block _ (heap_lt hQ) (fun h => h)).trans hQ) rfl, cell_blk ((hw.block _ (heap_lt hQ) (fun h => h)).trans hQ) rfl, cell_blk ((hw.block _ (heap_lt hQ) (fun h => h)).trans hQ) rfl, cell_blk ((hw.block _ (heap_lt hQ) (fun h => h)).trans hQ) rfl, cell_blk ((hw.block _ (heap_lt hV) (fun h => h)).trans hV) rfl, cell_blk ((hw.block _ (heap_lt hV) (fun h => h)).trans hV) rfl, cell_blk ((hw.block _ (heap_lt hV) (fun h => h)).trans hV) rfl, cell_blk ((hw.block _ (heap_lt hV) (fun h => h)).trans hV) rfl⟩
  have hW0 : Nw U U.drew := Fr.drew (Fr.refl _ U)
  have hS := hSof _ hW0
  replace e1 := e1.nw hW0
  replace e2 := e2.nw hW0
  replace hSof : Hid _ := hSof
  refine wp_region_ord [] 36 [(0, true), (1, true), (2, false), (3, true), (4, true), (5, true), (6, false), (7, true), (8, true), (9, true), (10, true), (11, false), (12, true), (13, true), (14, true), (15, true), (16, false), (17, true), (18, true), (19, true), (20, true), (21, false), (22, false), (23, true), (24, true), (25, true), (26, true), (27, true), (28, false), (29, true), (30, true), (31, true), (32, true), (33, false), (34, true), (35, true)] (fun w' : World => Nw U w' ∧ w'.cell? ⟨N, 0, none⟩ = some (.int .i64 2) ∧ w'.cell? ⟨N, 1, none⟩ = some (.slice none 0 0) ∧ w'.cell? ⟨N + 1, 0, none⟩ = some (.int .i64 2) ∧ w'.cell? ⟨N + 1, 1, none⟩ = some (.slice none 0 0) ∧ w'.cell? ⟨N + 1, 2, none⟩ = some (.int .i64 2) ∧ w'.cell? ⟨N + 1, 3, none⟩ = some (.slice none 0 0) ∧ w'.cell? ⟨V, 0, none⟩ = some (.int .i64 2) ∧ w'.cell? ⟨V, 1, none⟩ = some (.slice ad1 y1.length cp1) ∧ w'.cell? ⟨V, 2, none⟩ = some (.int .i64 2) ∧ w'.cell? ⟨V, 3, none⟩ = some (.slice ad2 y2.length cp2)) (by kernel_rfl) (by kernel_rfl) ?_
  refine ord_quietL _ ?_ rfl hS rfl ?_ ?_
  rotate_left
  · rintro w' ⟨hn, h0, h1, h2, h3, h4, h5, h6, h7, h8, h9⟩; go_simp; first | rfl | (rw [if_pos (by omega)]; done) | (rw [if_pos (by omega)]; rfl) | (rw [if_pos (by omega)]; go_simp; rfl)
  simp only [Act.put, List.setIfInBounds_toArray, List.set_cons_zero, List.set_cons_succ]
  refine ord_quietL _ ?_ rfl hS rfl ?_ ?_
  rotate_left
  · rintro w' ⟨hn, h0, h1, h2, h3, h4, h5, h6, h7, h8, h9⟩; go_simp; first | rfl | (rw [if_pos (by omega)]; done) | (rw [if_pos (by omega)]; rfl) | (rw [if_pos (by omega)]; go_simp; rfl)
  simp only [Act.put, List.setIfInBounds_toArray, List.set_cons_zero, List.set_cons_succ]
  refine ord_actL _ rfl (fun K1 hK1 => ?_)
  have hcon : Hid _ := c_freads 2 2 2 U.drew (csl_nil (fun _ => True) U.drew) (csl_nil (fun _ => True) U.drew) (csl_nil (fun _ => True) U.drew) (by first | omega | simp) (by first | omega | simp) (by first | omega | simp)
  unfold whoV labV at hcon
  go_wp2_with (go_at_call 13; refine Calls.mono hcon.out ?_; rintro e wk0 ⟨r, rfl, q1, qn⟩)
  have m0 := nw_trans hW0 qn
  replace e1 := e1.nw qn
  replace e2 := e2.nw qn
  have hr : r = true := q1.2 rdL_plain
  subst hr
  refine hK1 _ _ (hSof.out _ m0) ?_
  clear hK1 K1 hcon qn hS hW0 q1
  have hS := hSof.out _ m0
  refine ord_quietL _ ?_ rfl hS rfl ?_ ?_
  rotate_left
  · rintro w' ⟨hn, h0, h1, h2, h3, h4, h5, h6, h7, h8, h9⟩; go_simp; first | rfl | (rw [if_pos (by omega)]; done) | (rw [if_pos (by omega)]; rfl) | (rw [if_pos (by omega)]; go_simp; rfl)
  simp only [Act.put, List.setIfInBounds_toArray, List.set_cons_zero, List.set_cons_succ]
  refine ord_quietL _ ?_ rfl hS rfl ?_ ?_
  rotate_left
  · rintro w' ⟨hn, h0, h1, h2, h3, h4, h5, h6, h7, h8, h9⟩; go_simp; first | rfl | (rw [if_pos (by omega)]; done) | (rw [if_pos (by omega)]; rfl) | (rw [if_pos (by omega)]; go_simp; rfl)
  simp only [Act.put, List.setIfInBounds_toArray, List.set_cons_zero, List.set_cons_succ]
  refine ord_quietL _ ?_ rfl hS rfl ?_ ?_
  rotate_left
  · rintro w' ⟨hn, h0, h1, h2, h3, h4, h5, h6, h7, h8, h9⟩; go_simp; first | rfl | (rw [if_pos (by omega)]; done) | (rw [if_pos (by omega)]; rfl) | (rw [if_pos (by omega)]; go_simp; rfl)
  simp only [Act.put, List.setIfInBounds_toArray, List.set_cons_zero, List.set_cons_succ]
  refine ord_actL _ rfl (fun K1 hK1 => ?_)
  have hcon : Hid _ := c_fwrites 2 2 2 wk0 (csl_nil (fun _ => True) wk0) (csl_nil (fun _ => True) wk0) (csl_nil (fun _ => True) wk0) (by first | omega | simp) (by first | omega | simp) (by first | omega | simp)
  unfold whoV labV at hcon
  go_wp2_with (go_at_call 14; refine Calls.mono hcon.out ?_; rintro e wk1 ⟨r, rfl, q1, qn⟩)
  have m1 := nw_trans m0 qn
  replace e1 := e1.nw qn
  replace e2 := e2.nw qn
  have hr : r = true := q1.2 ⟨rdL_plain, leL_plain⟩
  subst hr
  refine hK1 _ _ (hSof.out _ m1) ?_
  clear hK1 K1 hcon qn hS m0 q1
  have hS := hSof.out _ m1
  refine ord_quietL _ ?_ rfl hS rfl ?_ ?_
  rotate_left
  · rintro w' ⟨hn, h0, h1, h2, h3, h4, h5, h6, h7, h8, h9⟩; go_simp; first | rfl | (rw [if_pos (by omega)]; done) | (rw [if_pos (by omega)]; rfl) | (rw [if_pos (by omega)]; go_simp; rfl)
  simp only [Act.put, List.setIfInBounds_toArray, List.set_cons_zero, List.set_cons_succ]
  refine ord_quietL _ ?_ rfl hS rfl ?_ ?_
  rotate_left
  · rintro w' ⟨hn, h0, h1, h2, h3, h4, h5, h6, h7, h8, h9⟩; go_simp; first | rfl | (rw [if_pos (by omega)]; done) | (rw [if_pos (by omega)]; rfl) | (rw [if_pos (by omega)]; go_simp; rfl)
  simp only [Act.put, List.setIfInBounds_toArray, List.set_cons_zero, List.set_cons_succ]
  refine ord_quietL _ ?_ rfl hS rfl ?_ ?_
  rotate_left
  · rintro w' ⟨hn, h0, h1, h2, h3, h4, h5, h6, h7, h8, h9⟩; go_simp; first | rfl | (rw [if_pos (by omega)]; done) | (rw [if_pos (by omega)]; rfl) | (rw [if_pos (by omega)]; go_simp; rfl)
  simp only [Act.put, List.setIfInBounds_toArray, List.set_cons_zero, List.set_cons_succ]
  refine ord_quietL _ ?_ rfl hS rfl ?_ ?_
  rotate_left
  · rintro w' ⟨hn, h0, h1, h2, h3, h4, h5, h6, h7, h8, h9⟩; go_simp; first | rfl | (rw [if_pos (by omega)]; done) | (rw [if_pos (by omega)]; rfl) | (rw [if_pos (by omega)]; go_simp; rfl)
  simp only [Act.put, List.setIfInBounds_toArray, List.set_cons_zero, List.set_cons_succ]
  refine ord_actL _ rfl (fun K1 hK1 => ?_)
  have hcon : Hid _ := c_freads 2 2 2 wk1 e1 e2 (csl_nil (fun _ => True) wk1) (by first | omega | simp) (by first | omega | simp) (by first | omega | simp)
  unfold whoV labV at hcon
  go_wp2_with (go_at_call 13; refine Calls.mono hcon.out ?_; rintro e wk2 ⟨r, rfl, q1, qn⟩)
  have m2 := nw_trans m1 qn
  replace e1 := e1.nw qn
  replace e2 := e2.nw qn
  have hr : r = true := q1.2 (rd_tainted l1.out)
  subst hr
  refine hK1 _ _ (hSof.out _ m2) ?_
  clear hK1 K1 hcon qn hS m1 q1
  have hS := hSof.out _ m2
  refine ord_quietL _ ?_ rfl hS rfl ?_ ?_
  rotate_left
  · rintro w' ⟨hn, h0, h1, h2, h3, h4, h5, h6, h7, h8, h9⟩; go_simp; first | rfl | (rw [if_pos (by omega)]; done) | (rw [if_pos (by omega)]; rfl) | (rw [if_pos (by omega)]; go_simp; rfl)
  simp only [Act.put, List.setIfInBounds_toArray, List.set_cons_zero, List.set_cons_succ]
  refine ord_quietL _ ?_ rfl hS rfl ?_ ?_
  rotate_left
  · rintro w' ⟨hn, h0, h1, h2, h3, h4, h5, h6, h7, h8, h9⟩; go_simp; first | rfl | (rw [if_pos (by omega)]; done) | (rw [if_pos (by omega)]; rfl) | (rw [if_pos (by omega)]; go_simp; rfl)
  simp only [Act.put, List.setIfInBounds_toArray, List.set_cons_zero, List.set_cons_succ]
  refine ord_quietL _ ?_ rfl hS rfl ?_ ?_
  rotate_left
  · rintro w' ⟨hn, h0, h1, h2, h3, h4, h5, h6, h7, h8, h9⟩; go_simp; first | rfl | (rw [if_pos (by omega)]; done) | (rw [if_pos (by omega)]; rfl) | (rw [if_pos (by omega)]; go_simp; rfl)
  simp only [Act.put, List.setIfInBounds_toArray, List.set_cons_zero, List.set_cons_succ]
  refine ord_quietL _ ?_ rfl hS rfl ?_ ?_
  rotate_left
  · rintro w' ⟨hn, h0, h1, h2, h3, h4, h5, h6, h7, h8, h9⟩; go_simp; first | rfl | (rw [if_pos (by omega)]; done) | (rw [if_pos (by omega)]; rfl) | (rw [if_pos (by omega)]; go_simp; rfl)
  simp only [Act.put, List.setIfInBounds_toArray, List.set_cons_zero, List.set_cons_succ]
  refine ord_actL _ rfl (fun K1 hK1 => ?_)
  have hcon : Hid _ := c_fwrites 2 2 2 wk2 e1 e2 (csl_nil (fun _ => True) wk2) (by first | omega | simp) (by first | omega | simp) (by first | omega | simp)
  unfold whoV labV at hcon
  go_wp2_with (go_at_call 14; refine Calls.mono hcon.out ?_; rintro e wk3 ⟨r, rfl, q1, qn⟩)
  have m3 := nw_trans m2 qn
  replace e1 := e1.nw qn
  replace e2 := e2.nw qn
  have hr : r = false := by
    cases r with
    | false => rfl
    | true => exact absurd (q1.1 rfl) (fun h => not_le l1.out h.2)
  subst hr
  refine hK1 _ _ (hSof.out _ m3) ?_
  clear hK1 K1 hcon qn hS m2 q1
  have hS := hSof.out _ m3
  refine ord_quietL _ ?_ rfl hS rfl ?_ ?_
  rotate_left
  · rintro w' ⟨hn, h0, h1, h2, h3, h4, h5, h6, h7, h8, h9⟩; go_simp; first | rfl | (rw [if_pos (by omega)]; done) | (rw [if_pos (by omega)]; rfl) | (rw [if_pos (by omega)]; go_simp; rfl)
  simp only [Act.put, List.setIfInBounds_toArray, List.set_cons_zero, List.set_cons_succ]
  refine ord_quietL _ ?_ rfl hS rfl ?_ ?_
  rotate_left
  · rintro w' ⟨hn, h0, h1, h2, h3, h4, h5, h6, h7, h8, h9⟩; go_simp; first | rfl | (rw [if_pos (by omega)]; done) | (rw [if_pos (by omega)]; rfl) | (rw [if_pos (by omega)]; go_simp; rfl)
  simp only [Act.put, List.setIfInBounds_toArray, List.set_cons_zero, List.set_cons_succ]
  refine ord_quietL _ ?_ rfl hS rfl ?_ ?_
  rotate_left
  · rintro w' ⟨hn, h0, h1, h2, h3, h4, h5, h6, h7, h8, h9⟩; go_simp; first | rfl | (rw [if_pos (by omega)]; done) | (rw [if_pos (by omega)]; rfl) | (rw [if_pos (by omega)]; go_simp; rfl)
  simp only [Act.put, List.setIfInBounds_toArray, List.set_cons_zero, List.set_cons_succ]
  refine ord_quietL _ ?_ rfl hS rfl ?_ ?_
  rotate_left
  · rintro w' ⟨hn, h0, h1, h2, h3, h4, h5, h6, h7, h8, h9⟩; go_simp; first | rfl | (rw [if_pos (by omega)]; done) | (rw [if_pos (by omega)]; rfl) | (rw [if_pos (by omega)]; go_simp; rfl)
  simp only [Act.put, List.setIfInBounds_toArray, List.set_cons_zero, List.set_cons_succ]
  refine ord_actL _ rfl (fun K1 hK1 => ?_)
  have hcon : Hid _ := c_at 7 4 wk3
  unfold MadeL labV at hcon
  go_wp2_with (go_at_call 12; refine Calls.mono hcon.out ?_; rintro e wk4 ⟨u3, y3, rfl, q1, q2, q3, b3, qn⟩)
  have m4 := nw_trans m3 qn
  replace e1 := e1.nw qn
  replace e2 := e2.nw qn
  obtain ⟨ad3, cp3, rfl, _, _⟩ := q1.form
  have e3 := q1.any
  have l3 : Hid _ := q3
  refine hK1 _ _ (hSof.out _ m4) ?_
  clear hK1 K1 hcon qn hS m3 q1 q2 q3
  have hS := hSof.out _ m4
  refine ord_actL _ rfl (fun K1 hK1 => ?_)
  have hcon : Hid _ := c_freads 2 2 2 wk4 (csl_nil (fun _ => True) wk4) (csl_nil (fun _ => True) wk4) e3 (by first | omega | simp) (by first | omega | simp) (by first | omega | simp)
  unfold whoV labV at hcon
  go_wp2_with (go_at_call 13; refine Calls.mono hcon.out ?_; rintro e wk5 ⟨r, rfl, q1, qn⟩)
  have m5 := nw_trans m4 qn
  replace e1 := e1.nw qn
  replace e2 := e2.nw qn
  replace e3 := e3.nw qn
  have hr : r = false := by
    cases r with
    | false => rfl
    | true => exact absurd (q1.1 rfl) (not_rd l3.out)
  subst hr
  refine hK1 _ _ (hSof.out _ m5) ?_
  clear hK1 K1 hcon qn hS m4 q1
  have hS := hSof.out _ m5
  refine ord_quietL _ ?_ rfl hS rfl ?_ ?_
  rotate_left
  · rintro w' ⟨hn, h0, h1, h2, h3, h4, h5, h6, h7, h8, h9⟩; go_simp; first | rfl | (rw [if_pos (by omega)]; done) | (rw [if_pos (by omega)]; rfl) | (rw [if_pos (by omega)]; go_simp; rfl)
  simp only [Act.put, List.setIfInBounds_toArray, List.set_cons_zero, List.set_cons_succ]
  refine ord_quietL _ ?_ rfl hS rfl ?_ ?_
  rotate_left
  · rintro w' ⟨hn, h0, h1, h2, h3, h4, h5, h6, h7, h8, h9⟩; go_simp; first | rfl | (rw [if_pos (by omega)]; done) | (rw [if_pos (by omega)]; rfl) | (rw [if_pos (by omega)]; go_simp; rfl)
  simp only [Act.put, List.setIfInBounds_toArray, List.set_cons_zero, List.set_cons_succ]
  refine ord_quietL _ ?_ rfl hS rfl ?_ ?_
  rotate_left
  · rintro w' ⟨hn, h0, h1, h2, h3, h4, h5, h6, h7, h8, h9⟩; go_simp; first | rfl | (rw [if_pos (by omega)]; done) | (rw [if_pos (by omega)]; rfl) | (rw [if_pos (by omega)]; go_simp; rfl)
  simp only [Act.put, List.setIfInBounds_toArray, List.set_cons_zero, List.set_cons_succ]
  refine ord_quietL _ ?_ rfl hS rfl ?_ ?_
  rotate_left
  · rintro w' ⟨hn, h0, h1, h2, h3, h4, h5, h6, h7, h8, h9⟩; go_simp; first | rfl | (rw [if_pos (by omega)]; done) | (rw [if_pos (by omega)]; rfl) | (rw [if_pos (by omega)]; go_simp; rfl)
  simp only [Act.put, List.setIfInBounds_toArray, List.set_cons_zero, List.set_cons_succ]
  refine ord_quietL _ ?_ rfl hS rfl ?_ ?_
  rotate_left
  · rintro w' ⟨hn, h0, h1, h2, h3, h4, h5, h6, h7, h8, h9⟩; go_simp; first | rfl | (rw [if_pos (by omega)]; done) | (rw [if_pos (by omega)]; rfl) | (rw [if_pos (by omega)]; go_simp; rfl)
  simp only [Act.put, List.setIfInBounds_toArray, List.set_cons_zero, List.set_cons_succ]
  refine ord_actL _ rfl (fun K1 hK1 => ?_)
  have hcon : Hid _ := c_fmakes 2 2 2 wk5 (csl_nil (fun _ => True) wk5) (csl_nil (fun _ => True) wk5) (csl_nil (fun _ => True) wk5) (by first | omega | simp) (by first | omega | simp) (by first | omega | simp)
  unfold whoV labV at hcon
  go_wp2_with (go_at_call 15; refine Calls.mono hcon.out ?_; rintro e wk6 ⟨r, rfl, q1, qn⟩)
  have m6 := nw_trans m5 qn
  replace e1 := e1.nw qn
  replace e2 := e2.nw qn
  replace e3 := e3.nw qn
  have hr : r = true := q1.2 ⟨rgt_plain2, pu_plain, leL_plain, leL_plain⟩
  subst hr
  refine hK1 _ _ (hSof.out _ m6) ?_
  clear hK1 K1 hcon qn hS m5 q1
  have hS := hSof.out _ m6
  refine ord_quietL _ ?_ rfl hS rfl ?_ ?_
  rotate_left
  · rintro w' ⟨hn, h0, h1, h2, h3, h4, h5, h6, h7, h8, h9⟩; go_simp; first | rfl | (rw [if_pos (by omega)]; done) | (rw [if_pos (by omega)]; rfl) | (rw [if_pos (by omega)]; go_simp; rfl)
  simp only [Act.put, List.setIfInBounds_toArray, List.set_cons_zero, List.set_cons_succ]
  refine ord_quietL _ ?_ rfl hS rfl ?_ ?_
  rotate_left
  · rintro w' ⟨hn, h0, h1, h2, h3, h4, h5, h6, h7, h8, h9⟩; go_simp; first | rfl | (rw [if_pos (by omega)]; done) | (rw [if_pos (by omega)]; rfl) | (rw [if_pos (by omega)]; go_simp; rfl)
  simp only [Act.put, List.setIfInBounds_toArray, List.set_cons_zero, List.set_cons_succ]
  refine ord_quietL _ ?_ rfl hS rfl ?_ ?_
  rotate_left
  · rintro w' ⟨hn, h0, h1, h2, h3, h4, h5, h6, h7, h8, h9⟩; go_simp; first | rfl | (rw [if_pos (by omega)]; done) | (rw [if_pos (by omega)]; rfl) | (rw [if_pos (by omega)]; go_simp; rfl)
  simp only [Act.put, List.setIfInBounds_toArray, List.set_cons_zero, List.set_cons_succ]
  refine ord_quietL _ ?_ rfl hS rfl ?_ ?_
  rotate_left
  · rintro w' ⟨hn, h0, h1, h2, h3, h4, h5, h6, h7, h8, h9⟩; go_simp; first | rfl | (rw [if_pos (by omega)]; done) | (rw [if_pos (by omega)]; rfl) | (rw [if_pos (by omega)]; go_simp; rfl)
  simp only [Act.put, List.setIfInBounds_toArray, List.set_cons_zero, List.set_cons_succ]
  refine ord_actL _ rfl (fun K1 hK1 => ?_)
  have hcon : Hid _ := c_fmakes 2 2 2 wk6 e1 e2 (csl_nil (fun _ => True) wk6) (by first | omega | simp) (by first | omega | simp) (by first | omega | simp)
  unfold whoV labV at hcon
  go_wp2_with (go_at_call 15; refine Calls.mono hcon.out ?_; rintro e wk7 ⟨r, rfl, q1, qn⟩)
  have m7 := nw_trans m6 qn
  replace e1 := e1.nw qn
  replace e2 := e2.nw qn
  replace e3 := e3.nw qn
  have hr : r = false := by
    cases r with
    | false => rfl
    | true => exact absurd (q1.1 rfl) (fun h => not_le l1.out h.2.2.1)
  subst hr
  refine hK1 _ _ (hSof.out _ m7) ?_
  clear hK1 K1 hcon qn hS m6 q1
  have hS := hSof.out _ m7
  refine ord_quietL _ ?_ rfl hS rfl ?_ ?_
  rotate_left
  · rintro w' ⟨hn, h0, h1, h2, h3, h4, h5, h6, h7, h8, h9⟩; go_simp; first | rfl | (rw [if_pos (by omega)]; done) | (rw [if_pos (by omega)]; rfl) | (rw [if_pos (by omega)]; go_simp; rfl)
  simp only [Act.put, List.setIfInBounds_toArray, List.set_cons_zero, List.set_cons_succ]
  refine ord_quietL _ ?_ rfl hS rfl ?_ ?_
  rotate_left
  · rintro w' ⟨hn, h0, h1, h2, h3, h4, h5, h6, h7, h8, h9⟩; go_simp; first | rfl | (rw [if_pos (by omega)]; done) | (rw [if_pos (by omega)]; rfl) | (rw [if_pos (by omega)]; go_simp; rfl)
  simp only [Act.put, List.setIfInBounds_toArray, List.set_cons_zero, List.set_cons_succ]
  refine ord_tail ?_
  simp only [List.drop_succ_cons, List.drop_zero]
  have hfin := nw_trans nW m7
  go_wp2
  go_ret
  exact ⟨by first | rfl | simp, hfin⟩
end Go.Proofs.Ytimgelekpghklaa
