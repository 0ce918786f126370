/-
  The chapter's example.
-/
import Derived.Test.YtnljfhjindenpaaLabD8
namespace Go.Proofs.Ytnljfhjindenpaa
set_option linter.unusedVariables false
set_option linter.unusedSimpArgs false
set_option maxRecDepth 20000
open Go.RowKit

theorem lev_one {u : List Cat} {d a b : Int} (h : ∀ id, lev d u id = lev d [(a, b)] id) : lev d u a = b ∧ ∀ id, id ≠ a → lev d u id = d := by
  refine ⟨by rw [h]; simp [lev], fun id hid => ?_⟩
  rw [h]
  have : ¬ a = id := fun e => hid e.symm
  simp [lev, this]

theorem csl_lit (w : World) (a b : Int) (t : TypeId) : CSl (fun _ => True) (w.alloc (.cells #[.int .u64 a, .int .i64 b] t)) (.slice (some ⟨w.heap.size, 0, none⟩) 1 1) [(a, b)] := by
  have h := sl_lit w #[.int .u64 a, .int .i64 b] t 1 (by omega)
  obtain ⟨ao, cap, hv, hc, hn, hcs⟩ := h
  exact ⟨ao, cap, hv, hc, hn, fun i c hi => by
    obtain ⟨b, off, h1, _, h3⟩ := hcs i c hi
    exact ⟨b, off, h1, trivial, h3⟩⟩

set_option maxHeartbeats 3200000 in
theorem c_alive (w : World) : Calls Try.prog 10 #[] w fun e w' => e = .returned (.bool true) ∧ Nw w w' := by
  have hcon1 : Hid _ := c_make 2 _ (csl_lit w 7 4 27) (by decide)
  go_enter Try.func10, Try.ntmps10
  go_wp2_with (go_at_call 37; refine Calls.mono hcon1.out ?_; rintro e w1 ⟨u1, y1, rfl, a1, a2, a3, a4, a5⟩; refine stop_here ?_)
  unfold Hid labV
  have n1 : Nw w w1 := nw_trans (nw_alloc (nw_refl w) _) a5
  clear hcon1 a5
  have c1 : CSl (fun _ => True) w1 u1 y1 := a1.any
  obtain ⟨l1, l2⟩ := lev_one a3
  have hcon2 : Hid _ := c_make 2 _ (csl_lit w1 7 0 27) (by decide)
  obtain ⟨ua, uc, rfl, _, _⟩ := a1.form
  clear a1 a2 a3
  go_wp2_with (go_at_call 37; refine Calls.mono hcon2.out ?_; rintro e w2 ⟨u2, y2, rfl, b1, b2, b3, b4, b5⟩; refine stop_here ?_)
  unfold Hid labV
  have n2 : Nw w1 w2 := nw_trans (nw_alloc (nw_refl w1) _) b5
  clear hcon2 b5
  have c2 : CSl (fun _ => True) w2 (.slice ua y1.length uc) y1 := c1.nw n2
  have d2 : CSl (fun _ => True) w2 u2 y2 := b1.any
  obtain ⟨m1, m2⟩ := lev_one b3
  obtain ⟨va, vc, rfl, _, _⟩ := b1.form
  clear b1 b2 b3 c1
  have n12 := nw_trans n1 n2
  clear n1 n2
  have hy1 : y1.length ≤ 1 := a4
  have hy2 : y2.length ≤ 1 := b4
  have ll : Hid (lev 2 y1 7 = 4 ∧ ∀ id, id ≠ 7 → lev 2 y1 id = 2) := ⟨l1, l2⟩
  have mm : Hid (lev 2 y2 7 = 0 ∧ ∀ id, id ≠ 7 → lev 2 y2 id = 2) := ⟨m1, m2⟩
  clear l1 l2 m1 m2 a4 b4
  obtain ⟨W, hW⟩ : ∃ W, Hid (W = ((w2.alloc (.cells #[.int .i64 2, .slice none 0 0] 24)).alloc (.cells #[.int .i64 2, .slice ua y1.length uc] 24)).alloc (.cells #[.int .i64 2, .slice va y2.length vc] 24)) := ⟨_, rfl⟩
  have nW : Nw w2 W := by rw [hW.out]; exact nw_alloc (nw_alloc (nw_alloc (nw_refl w2) _) _) _
  have hA : W.heap[w2.heap.size]? = some (.cells #[.int .i64 2, .slice none 0 0] 24 (0, 0)) := by
    rw [hW.out, Below.heap_alloc _ _ _ (by simp; try omega)]; exact heap_alloc2_old w2 _ _
  have hB : W.heap[w2.heap.size + 1]? = some (.cells #[.int .i64 2, .slice ua y1.length uc] 24 (0, 0)) := by
    rw [hW.out, Below.heap_alloc _ _ _ (by simp; try omega)]; exact heap_alloc2_new w2 _ _
  have hC : W.heap[w2.heap.size + 1 + 1]? = some (.cells #[.int .i64 2, .slice va y2.length vc] 24 (0, 0)) := by
    rw [hW.out]
    have := heap_alloc_new ((w2.alloc (.cells #[.int .i64 2, .slice none 0 0] 24)).alloc (.cells #[.int .i64 2, .slice ua y1.length uc] 24)) (.cells #[.int .i64 2, .slice va y2.length vc] 24)
    simpa using this
  go_upto_region 2 with fail
  rw [← hW.out]
  have cW := c2.nw nW
  have dW := d2.nw nW
  have nwW := nw_trans n12 nW
  clear c2 d2 nW n12 hW
  generalize w2.heap.size = N at *
  have hSof : ∀ w', Nw W w' → (fun w' : World => Nw W w' ∧ w'.cell? ⟨N, 0, none⟩ = some (.int .i64 2) ∧ w'.cell? ⟨N, 1, none⟩ = some (.slice none 0 0) ∧ w'.cell? ⟨N + 1, 0, none⟩ = some (.int .i64 2) ∧ w'.cell? ⟨N + 1, 1, none⟩ = some (.slice ua y1.length uc) ∧ w'.cell? ⟨N + 1 + 1, 0, none⟩ = some (.int .i64 2) ∧ w'.cell? ⟨N + 1 + 1, 1, none⟩ = some (.slice va y2.length vc)) w' := fun w' hw => ⟨hw, cell_blk ((hw.block _ (heap_lt hA) (fun h => h)).trans hA) rfl, cell_blk ((hw.block _ (heap_lt hA) (fun h => h)).trans hA) rfl, cell_blk ((hw.block _ (heap_lt hB) (fun h => h)).trans hB) rfl, cell_blk ((hw.block _ (heap_lt hB) (fun h => h)).trans hB) rfl, cell_blk ((hw.block _ (heap_lt hC) (fun h => h)).trans hC) rfl, cell_blk ((hw.block _ (heap_lt hC) (fun h => h)).trans hC) rfl⟩
  have hW0 : Nw W W.drew := Fr.drew (Fr.refl _ W)
  have hS := hSof _ hW0
  refine wp_region_ord [] 25 [(0, true), (1, true), (2, false), (3, true), (4, true), (5, true), (6, true), (7, false), (8, true), (9, true), (10, true), (11, true), (12, false), (13, false), (14, true), (15, true), (16, true), (17, false), (18, true), (19, true), (20, true), (21, true), (22, false), (23, true), (24, true)] (fun w' : World => Nw W w' ∧ w'.cell? ⟨N, 0, none⟩ = some (.int .i64 2) ∧ w'.cell? ⟨N, 1, none⟩ = some (.slice none 0 0) ∧ w'.cell? ⟨N + 1, 0, none⟩ = some (.int .i64 2) ∧ w'.cell? ⟨N + 1, 1, none⟩ = some (.slice ua y1.length uc) ∧ w'.cell? ⟨N + 1 + 1, 0, none⟩ = some (.int .i64 2) ∧ w'.cell? ⟨N + 1 + 1, 1, none⟩ = some (.slice va y2.length vc)) (by kernel_rfl) (by kernel_rfl) ?_
  refine ord_quietL _ ?_ rfl hS rfl ?_ ?_
  rotate_left
  · rintro w' ⟨hS0, hS1, hS2, hS3, hS4, hS5, hS6⟩; go_simp; first | rfl | (rw [if_pos (by omega)]; done) | (rw [if_pos (by omega)]; rfl) | (rw [if_pos (by omega)]; go_simp; rfl)
  simp only [Act.put, List.setIfInBounds_toArray, List.set_cons_zero, List.set_cons_succ]
  refine ord_quietL _ ?_ rfl hS rfl ?_ ?_
  rotate_left
  · rintro w' ⟨hS0, hS1, hS2, hS3, hS4, hS5, hS6⟩; go_simp; first | rfl | (rw [if_pos (by omega)]; done) | (rw [if_pos (by omega)]; rfl) | (rw [if_pos (by omega)]; go_simp; rfl)
  simp only [Act.put, List.setIfInBounds_toArray, List.set_cons_zero, List.set_cons_succ]
  refine ord_actL _ rfl (fun K1 hK1 => ?_)
  have hcon : Hid _ := c_leq (X := fun _ => True) (Y := fun _ => True) 2 2 _ (cW.nw hW0) (csl_nil _ W.drew) (by omega) (by simp)
  unfold labV at hcon
  go_wp2_with (go_at_call 23; refine Calls.mono hcon.out ?_; rintro e w3 ⟨r, rfl, q1, q2⟩)
  have hr : r = false := by
    cases r with
    | false => rfl
    | true =>
      have := q1.1 rfl 7
      rw [ll.out.1] at this
      simp [lev] at this
  subst hr
  have hW1 := nw_trans hW0 q2
  refine hK1 _ _ (hSof _ hW1) ?_
  clear hK1 K1 hcon q1 q2 hS hW0
  have hS := hSof _ hW1
  refine ord_quietL _ ?_ rfl hS rfl ?_ ?_
  rotate_left
  · rintro w' ⟨hS0, hS1, hS2, hS3, hS4, hS5, hS6⟩; go_simp; first | rfl | (rw [if_pos (by omega)]; done) | (rw [if_pos (by omega)]; rfl) | (rw [if_pos (by omega)]; go_simp; rfl)
  simp only [Act.put, List.setIfInBounds_toArray, List.set_cons_zero, List.set_cons_succ]
  refine ord_quietL _ ?_ rfl hS rfl ?_ ?_
  rotate_left
  · rintro w' ⟨hS0, hS1, hS2, hS3, hS4, hS5, hS6⟩; go_simp; first | rfl | (rw [if_pos (by omega)]; done) | (rw [if_pos (by omega)]; rfl) | (rw [if_pos (by omega)]; go_simp; rfl)
  simp only [Act.put, List.setIfInBounds_toArray, List.set_cons_zero, List.set_cons_succ]
  refine ord_quietL _ ?_ rfl hS rfl ?_ ?_
  rotate_left
  · rintro w' ⟨hS0, hS1, hS2, hS3, hS4, hS5, hS6⟩; go_simp; first | rfl | (rw [if_pos (by omega)]; done) | (rw [if_pos (by omega)]; rfl) | (rw [if_pos (by omega)]; go_simp; rfl)
  simp only [Act.put, List.setIfInBounds_toArray, List.set_cons_zero, List.set_cons_succ]
  refine ord_quietL _ ?_ rfl hS rfl ?_ ?_
  rotate_left
  · rintro w' ⟨hS0, hS1, hS2, hS3, hS4, hS5, hS6⟩; go_simp; first | rfl | (rw [if_pos (by omega)]; done) | (rw [if_pos (by omega)]; rfl) | (rw [if_pos (by omega)]; go_simp; rfl)
  simp only [Act.put, List.setIfInBounds_toArray, List.set_cons_zero, List.set_cons_succ]
  refine ord_actL _ rfl (fun K1 hK1 => ?_)
  have hcon : Hid _ := c_leq (X := fun _ => True) (Y := fun _ => True) 2 2 _ (csl_nil _ w3) (cW.nw hW1) (by simp) (by omega)
  unfold labV at hcon
  go_wp2_with (go_at_call 23; refine Calls.mono hcon.out ?_; rintro e w4 ⟨r, rfl, q1, q2⟩)
  have hr : r = true := q1.2 (fun id => by
    by_cases hid : id = 7
    · subst hid; rw [ll.out.1]; simp [lev]
    · rw [ll.out.2 id hid]; simp [lev])
  subst hr
  have hW2 := nw_trans hW1 q2
  refine hK1 _ _ (hSof _ hW2) ?_
  clear hK1 K1 hcon q1 q2 hS hW1
  have hS := hSof _ hW2
  refine ord_quietL _ ?_ rfl hS rfl ?_ ?_
  rotate_left
  · rintro w' ⟨hS0, hS1, hS2, hS3, hS4, hS5, hS6⟩; go_simp; first | rfl | (rw [if_pos (by omega)]; done) | (rw [if_pos (by omega)]; rfl) | (rw [if_pos (by omega)]; go_simp; rfl)
  simp only [Act.put, List.setIfInBounds_toArray, List.set_cons_zero, List.set_cons_succ]
  refine ord_quietL _ ?_ rfl hS rfl ?_ ?_
  rotate_left
  · rintro w' ⟨hS0, hS1, hS2, hS3, hS4, hS5, hS6⟩; go_simp; first | rfl | (rw [if_pos (by omega)]; done) | (rw [if_pos (by omega)]; rfl) | (rw [if_pos (by omega)]; go_simp; rfl)
  simp only [Act.put, List.setIfInBounds_toArray, List.set_cons_zero, List.set_cons_succ]
  refine ord_quietL _ ?_ rfl hS rfl ?_ ?_
  rotate_left
  · rintro w' ⟨hS0, hS1, hS2, hS3, hS4, hS5, hS6⟩; go_simp; first | rfl | (rw [if_pos (by omega)]; done) | (rw [if_pos (by omega)]; rfl) | (rw [if_pos (by omega)]; go_simp; rfl)
  simp only [Act.put, List.setIfInBounds_toArray, List.set_cons_zero, List.set_cons_succ]
  refine ord_quietL _ ?_ rfl hS rfl ?_ ?_
  rotate_left
  · rintro w' ⟨hS0, hS1, hS2, hS3, hS4, hS5, hS6⟩; go_simp; first | rfl | (rw [if_pos (by omega)]; done) | (rw [if_pos (by omega)]; rfl) | (rw [if_pos (by omega)]; go_simp; rfl)
  simp only [Act.put, List.setIfInBounds_toArray, List.set_cons_zero, List.set_cons_succ]
  refine ord_actL _ rfl (fun K1 hK1 => ?_)
  have hcon : Hid _ := c_raise 2 _ (dW.nw hW2) (by omega)
  unfold labV at hcon
  go_wp2_with (go_at_call 15; refine Calls.mono hcon.out ?_; rintro e w5 ⟨u5, y5, rfl, q1, q2, q3, q4, q5⟩)
  have hW3 := nw_trans hW2 q5
  have e5 : Hid (lev (tn 0 5 2) y5 7 = 5 ∧ ∀ id, id ≠ 7 → lev (tn 0 5 2) y5 id = 2) := ⟨by rw [q3, mm.out.1]; rfl, fun id hid => by rw [q3, mm.out.2 id hid]; rfl⟩
  have c5 := q1.any
  obtain ⟨sa, sc, rfl, _, _⟩ := q1.form
  refine hK1 _ _ (hSof _ hW3) ?_
  clear hK1 K1 hcon q1 q2 q3 q5 hS hW2
  have hS := hSof _ hW3
  have hy5 : y5.length ≤ 1 := by omega
  refine ord_actL _ rfl (fun K1 hK1 => ?_)
  have hcon : Hid _ := c_leq 2 (tn 0 5 2) _ (cW.nw hW3) c5 (by omega) (by omega)
  unfold labV at hcon
  go_wp2_with (go_at_call 23; refine Calls.mono hcon.out ?_; rintro e w6 ⟨r, rfl, q1, q2⟩)
  have hr : r = true := q1.2 (fun id => by
    by_cases hid : id = 7
    · subst hid; rw [ll.out.1, e5.out.1]; rfl
    · rw [ll.out.2 id hid, e5.out.2 id hid]; rfl)
  subst hr
  have hW4 := nw_trans hW3 q2
  refine hK1 _ _ (hSof _ hW4) ?_
  clear hK1 K1 hcon q1 q2 hS hW3 c5
  have hS := hSof _ hW4
  refine ord_quietL _ ?_ rfl hS rfl ?_ ?_
  rotate_left
  · rintro w' ⟨hS0, hS1, hS2, hS3, hS4, hS5, hS6⟩; go_simp; first | rfl | (rw [if_pos (by omega)]; done) | (rw [if_pos (by omega)]; rfl) | (rw [if_pos (by omega)]; go_simp; rfl)
  simp only [Act.put, List.setIfInBounds_toArray, List.set_cons_zero, List.set_cons_succ]
  refine ord_quietL _ ?_ rfl hS rfl ?_ ?_
  rotate_left
  · rintro w' ⟨hS0, hS1, hS2, hS3, hS4, hS5, hS6⟩; go_simp; first | rfl | (rw [if_pos (by omega)]; done) | (rw [if_pos (by omega)]; rfl) | (rw [if_pos (by omega)]; go_simp; rfl)
  simp only [Act.put, List.setIfInBounds_toArray, List.set_cons_zero, List.set_cons_succ]
  refine ord_quietL _ ?_ rfl hS rfl ?_ ?_
  rotate_left
  · rintro w' ⟨hS0, hS1, hS2, hS3, hS4, hS5, hS6⟩; go_simp; first | rfl | (rw [if_pos (by omega)]; done) | (rw [if_pos (by omega)]; rfl) | (rw [if_pos (by omega)]; go_simp; rfl)
  simp only [Act.put, List.setIfInBounds_toArray, List.set_cons_zero, List.set_cons_succ]
  refine ord_actL _ rfl (fun K1 hK1 => ?_)
  have hcon : Hid _ := c_level 2 7 _ (cW.nw hW4)
  rw [ll.out.1] at hcon
  unfold labV at hcon
  go_wp2_with (go_at_call 20; refine Calls.mono hcon.out ?_; rintro e w7 ⟨rfl, q2⟩)
  have hW5 := nw_trans hW4 q2
  refine hK1 _ _ (hSof _ hW5) ?_
  clear hK1 K1 hcon q2 hS hW4
  have hS := hSof _ hW5
  refine ord_quietL _ ?_ rfl hS rfl ?_ ?_
  rotate_left
  · rintro w' ⟨hS0, hS1, hS2, hS3, hS4, hS5, hS6⟩; go_simp; first | rfl | (rw [if_pos (by omega)]; done) | (rw [if_pos (by omega)]; rfl) | (rw [if_pos (by omega)]; go_simp; rfl)
  simp only [Act.put, List.setIfInBounds_toArray, List.set_cons_zero, List.set_cons_succ]
  refine ord_quietL _ ?_ rfl hS rfl ?_ ?_
  rotate_left
  · rintro w' ⟨hS0, hS1, hS2, hS3, hS4, hS5, hS6⟩; go_simp; first | rfl | (rw [if_pos (by omega)]; done) | (rw [if_pos (by omega)]; rfl) | (rw [if_pos (by omega)]; go_simp; rfl)
  simp only [Act.put, List.setIfInBounds_toArray, List.set_cons_zero, List.set_cons_succ]
  refine ord_quietL _ ?_ rfl hS rfl ?_ ?_
  rotate_left
  · rintro w' ⟨hS0, hS1, hS2, hS3, hS4, hS5, hS6⟩; go_simp; first | rfl | (rw [if_pos (by omega)]; done) | (rw [if_pos (by omega)]; rfl) | (rw [if_pos (by omega)]; go_simp; rfl)
  simp only [Act.put, List.setIfInBounds_toArray, List.set_cons_zero, List.set_cons_succ]
  refine ord_quietL _ ?_ rfl hS rfl ?_ ?_
  rotate_left
  · rintro w' ⟨hS0, hS1, hS2, hS3, hS4, hS5, hS6⟩; go_simp; first | rfl | (rw [if_pos (by omega)]; done) | (rw [if_pos (by omega)]; rfl) | (rw [if_pos (by omega)]; go_simp; rfl)
  simp only [Act.put, List.setIfInBounds_toArray, List.set_cons_zero, List.set_cons_succ]
  refine ord_actL _ rfl (fun K1 hK1 => ?_)
  have hcon : Hid _ := c_level 2 8 _ (cW.nw hW5)
  rw [ll.out.2 8 (by decide)] at hcon
  unfold labV at hcon
  go_wp2_with (go_at_call 20; refine Calls.mono hcon.out ?_; rintro e w8 ⟨rfl, q2⟩)
  have hW6 := nw_trans hW5 q2
  refine hK1 _ _ (hSof _ hW6) ?_
  clear hK1 K1 hcon q2 hS hW5
  have hS := hSof _ hW6
  refine ord_quietL _ ?_ rfl hS rfl ?_ ?_
  rotate_left
  · rintro w' ⟨hS0, hS1, hS2, hS3, hS4, hS5, hS6⟩; go_simp; first | rfl | (rw [if_pos (by omega)]; done) | (rw [if_pos (by omega)]; rfl) | (rw [if_pos (by omega)]; go_simp; rfl)
  simp only [Act.put, List.setIfInBounds_toArray, List.set_cons_zero, List.set_cons_succ]
  refine ord_quietL _ ?_ rfl hS rfl ?_ ?_
  rotate_left
  · rintro w' ⟨hS0, hS1, hS2, hS3, hS4, hS5, hS6⟩; go_simp; first | rfl | (rw [if_pos (by omega)]; done) | (rw [if_pos (by omega)]; rfl) | (rw [if_pos (by omega)]; go_simp; rfl)
  simp only [Act.put, List.setIfInBounds_toArray, List.set_cons_zero, List.set_cons_succ]
  refine ord_tail ?_
  simp only [List.drop_succ_cons, List.drop_zero]
  have hfin := nw_trans nwW hW6
  go_wp2
  go_ret
  exact ⟨rfl, hfin⟩
end Go.Proofs.Ytnljfhjindenpaa
