/-
  Package label: Set.
-/
import Derived.Test.YtnljfhjindenpabLabI7
import Derived.Test.YtnljfhjindenpabLabD7
import Derived.Test.YtnljfhjindenpabLibGrow2
namespace Go.Proofs.Ytnljfhjindenpab
set_option linter.unusedVariables false
set_option linter.unusedSimpArgs false
set_option maxRecDepth 20000
open Go.RowKit

theorem owns_base {w : World} {b b' : Nat} {t : TypeId} {s : Nat} {v : Value} {n : Nat} {xs : List Value} (h : w.ownsRow b t s v n xs) (hb : b' ≤ b) : w.ownsRow b' t s v n xs :=
  ⟨h.1, h.2.imp id (fun ⟨g, cap, cur, e, hg, r⟩ => ⟨g, cap, cur, e, Nat.le_trans hb hg, r⟩)⟩

/-- A copy, and a category's own block, in whatever order. -/
def FSet (W : World) (c : Cat) (xs : List Cat) : Nat → Value → Nat → Nat → World → Prop
  | 4 => fun v lo hi w => w.ownsRow lo 35 2 v xs.length (ccells xs) ∧ (∀ b, v.ownBlock = some b → b < hi) ∧ W.heap.size ≤ lo
  | 8 => fun v lo hi w => v = .slice (some ⟨lo, 0, none⟩) 1 1 ∧ lo < hi ∧ W.heap.size ≤ lo ∧ w.heap[lo]? = some (.cells (ccell c).toArray 35 (0, 0))
  | _ => fun _ _ _ _ => True

set_option maxRecDepth 20000 in
set_option maxHeartbeats 3200000 in
theorem c_set {X : Nat → Prop} {v : Value} {xs : List Cat} (d id lv : Int) (w : World) (h : CSl X w v xs) (hl : xs.length + 1 ≤ 8796093022208) :
    Calls Try.prog 9 #[labV d v, .int .u64 id, .int .i64 lv] w (MadeL w d (lev d ((id, lv) :: xs)) (xs.length + 1)) := by
  obtain ⟨ao, cap, rfl, ha1, ha2⟩ := h.form
  obtain ⟨W, hW⟩ : ∃ W, Hid (W = (w.alloc (.cells #[.int .i64 d, .slice ao xs.length cap] 24)).alloc (.cells #[.int .i64 0, .slice none 0 0] 24)) := ⟨_, rfl⟩
  have nW : Nw w W := by rw [hW.out]; exact nw_alloc (nw_alloc (nw_refl w) _) _
  have hA : W.heap[w.heap.size]? = some (.cells #[.int .i64 d, .slice ao xs.length cap] 24 (0, 0)) := by rw [hW.out]; exact heap_alloc2_old w _ _
  have hZ : W.heap[w.heap.size + 1]? = some (.cells #[.int .i64 0, .slice none 0 0] 24 (0, 0)) := by rw [hW.out]; exact heap_alloc2_new w _ _
  have e0 := h.nw nW
  have hl' : Hid (xs.length + 1 ≤ 8796093022208) := hl
  unfold labV
  go_enter Try.func9, Try.ntmps9
  go_upto_region 1 with fail
  rw [← hW.out]
  clear hW h
  have hSof : ∀ w', Nw W w' → (fun w' : World => Nw W w' ∧ w'.cell? ⟨w.heap.size, 0, none⟩ = some (.int .i64 d) ∧ w'.cell? ⟨w.heap.size, 1, none⟩ = some (.slice ao xs.length cap)) w' := fun w' hw => ⟨hw, cell_blk ((hw.block _ (heap_lt hA) (fun h => h)).trans hA) rfl, cell_blk ((hw.block _ (heap_lt hA) (fun h => h)).trans hA) rfl⟩
  have hW0 : Nw W W.drew := Fr.drew (Fr.refl _ W)
  have hS := hSof _ hW0
  have hgrp : Hid (∀ w', Nw W w' → Calls Try.prog 35 #[.slice ao xs.length cap] w' fun e w'' => ∃ u, e = .returned u ∧ w''.ownsRow w'.heap.size 35 2 u xs.length (ccells xs) ∧ Nw w' w'') := fun w' hw => c_cloneO w' (e0.nw hw) (by omega)
  refine wp_region_plan [] 11 [(0, []), (1, []), (2, []), (3, []), (5, []), (6, []), (7, []), (0, [(4, []), (8, [])]), (0, [(9, [])]), (0, [(10, [])])] (fun w' : World => Nw W w' ∧ w'.cell? ⟨w.heap.size, 0, none⟩ = some (.int .i64 d) ∧ w'.cell? ⟨w.heap.size, 1, none⟩ = some (.slice ao xs.length cap)) (by kernel_rfl) (by kernel_rfl) ?_
  refine plan_quiet _ ?_ rfl hS rfl ?_ ?_
  rotate_left
  · rintro w' ⟨hn, h0, h1⟩; go_simp; first | rfl | (rw [if_pos (by omega)]; done) | (rw [if_pos (by omega)]; rfl) | (rw [if_pos (by omega)]; go_simp; rfl)
  simp only [Act.put, List.setIfInBounds_toArray, List.set_cons_zero, List.set_cons_succ]
  refine plan_quiet _ ?_ rfl hS rfl ?_ ?_
  rotate_left
  · rintro w' ⟨hn, h0, h1⟩; go_simp; first | rfl | (rw [if_pos (by omega)]; done) | (rw [if_pos (by omega)]; rfl) | (rw [if_pos (by omega)]; go_simp; rfl)
  simp only [Act.put, List.setIfInBounds_toArray, List.set_cons_zero, List.set_cons_succ]
  refine plan_quiet _ ?_ rfl hS rfl ?_ ?_
  rotate_left
  · rintro w' ⟨hn, h0, h1⟩; go_simp; first | rfl | (rw [if_pos (by omega)]; done) | (rw [if_pos (by omega)]; rfl) | (rw [if_pos (by omega)]; go_simp; rfl)
  simp only [Act.put, List.setIfInBounds_toArray, List.set_cons_zero, List.set_cons_succ]
  refine plan_quiet _ ?_ rfl hS rfl ?_ ?_
  rotate_left
  · rintro w' ⟨hn, h0, h1⟩; go_simp; first | rfl | (rw [if_pos (by omega)]; done) | (rw [if_pos (by omega)]; rfl) | (rw [if_pos (by omega)]; go_simp; rfl)
  simp only [Act.put, List.setIfInBounds_toArray, List.set_cons_zero, List.set_cons_succ]
  refine plan_quiet _ ?_ rfl hS rfl ?_ ?_
  rotate_left
  · rintro w' ⟨hn, h0, h1⟩; go_simp; first | rfl | (rw [if_pos (by omega)]; done) | (rw [if_pos (by omega)]; rfl) | (rw [if_pos (by omega)]; go_simp; rfl)
  simp only [Act.put, List.setIfInBounds_toArray, List.set_cons_zero, List.set_cons_succ]
  refine plan_quiet _ ?_ rfl hS rfl ?_ ?_
  rotate_left
  · rintro w' ⟨hn, h0, h1⟩; go_simp; first | rfl | (rw [if_pos (by omega)]; done) | (rw [if_pos (by omega)]; rfl) | (rw [if_pos (by omega)]; go_simp; rfl)
  simp only [Act.put, List.setIfInBounds_toArray, List.set_cons_zero, List.set_cons_succ]
  refine plan_quiet _ ?_ rfl hS rfl ?_ ?_
  rotate_left
  · rintro w' ⟨hn, h0, h1⟩; go_simp; first | rfl | (rw [if_pos (by omega)]; done) | (rw [if_pos (by omega)]; rfl) | (rw [if_pos (by omega)]; go_simp; rfl)
  simp only [Act.put, List.setIfInBounds_toArray, List.set_cons_zero, List.set_cons_succ]
  refine plan_group2 (fun | 4 => 11 | 8 => 15 | _ => 0) (FSet W (id, lv) xs) Nw (by decide) (by decide) (by decide) (fun a b ha hb => hSof b (nw_trans ha.1 hb)) (fun a b h => h.size) ?FG hS ?steps ?fin
  case FG =>
    intro p hp v lo hi w1 w2 h1 h2
    simp only [List.mem_cons, List.not_mem_nil, or_false] at hp
    rcases hp with rfl | rfl
    · obtain ⟨q1, q2, q3⟩ := h1
      exact ⟨owns_of_block q1 (fun k hk => h2.block k (q1.lt k hk).2 (fun h => h)), q2, q3⟩
    · obtain ⟨q1, q2, q3, q4⟩ := h1
      exact ⟨q1, q2, q3, (h2.block _ (heap_lt q4) (fun h => h)).trans q4⟩
  case steps =>
    intro p hp x lo hi w2 hS2 hd
    simp only [List.mem_cons, List.not_mem_nil, or_false] at hp
    have hws := hS2.1.size
    rcases hp with rfl | rfl
    · refine ⟨_, rfl, fun K hK => ?_⟩
      simp only [putAll, Act.put, List.setIfInBounds_toArray, List.set_cons_zero, List.set_cons_succ] at hK ⊢
      have hcon := hgrp.out w2 hS2.1
      clear hd hS
      go_wp2_with (go_at_call 35; refine Calls.mono hcon ?_; rintro e w3 ⟨u, rfl, q1, q5⟩; refine stop_here ?_)
      unfold Hid
      obtain ⟨ja, jc, rfl⟩ := owns_form q1
      go_wp2
      exact hK _ _ q5 ⟨q1, fun b hb => (q1.lt b hb).2, hws⟩
    · refine ⟨_, rfl, fun K hK => ?_⟩
      simp only [putAll, Act.put, List.setIfInBounds_toArray, List.set_cons_zero, List.set_cons_succ] at hK ⊢
      clear hd hS
      go_wp2
      exact hK _ _ (nw_alloc (nw_refl w2) _) ⟨rfl, by simp, hws, heap_alloc_new w2 _⟩
  case fin =>
    intro x lo hi w2 hS2 hF hR
    obtain ⟨⟨j1, j2, j3⟩, j4⟩ := hF (4, []) (by simp)
    obtain ⟨⟨p1, p2, p3, p4⟩, p5⟩ := hF (8, []) (by simp)
    have r := hR (4, []) (by simp) (8, []) (by simp) (by decide)
    simp only at j1 j2 j3 j4 p1 p2 p3 p4 p5 r
    obtain ⟨ja, jc, hj⟩ := owns_form j1
    simp only [putAll, Act.put, List.setIfInBounds_toArray, List.set_cons_zero, List.set_cons_succ, hj, p1]
    rw [hj] at j1 j2
    have hne : (Value.slice ja xs.length jc).ownBlock ≠ some (lo 8) := fun h => by
      have h1 := j2 _ h
      have h2 := (j1.lt _ h).1
      omega
    generalize lo 8 = q at *
    have hcon1 : Hid _ := c_insert (base := W.heap.size) (c := (id, lv)) w2 hS2.1.size (owns_base j1 j3) (by omega) p4 hne
    clear hF hR hj p1 j1 j2 j3 j4 p2 p3 p4 p5 r hne hS hgrp
    refine plan_act _ rfl (fun K1 hK1 => ?_)
    go_wp2_with (go_at_call 34; refine Calls.mono hcon1.out ?_; rintro e w3 ⟨u, rfl, q1, q5⟩; refine stop_here ?_)
    unfold Hid
    have m3 : Nw W w3 := Fr.trans hS2.1 q5 (fun k hk => .inr hk)
    have c3 := q1.csl
    obtain ⟨ua, uc, rfl, _, _⟩ := c3.form
    have hcon : Hid _ := c_make d w3 c3 (by simpa using hl)
    go_wp2
    refine hK1 _ _ (hSof _ m3) ?_
    clear hK1 K1 hcon1 q1 q5 hS2 c3
    refine plan_act _ rfl (fun K1 hK1 => ?_)
    go_wp2_with (go_at_call 33; refine Calls.mono hcon.out ?_; rintro e w4 ⟨u2, y2, rfl, q1, q2, q3, q4, q5⟩; refine stop_here ?_)
    unfold Hid
    have m4 := nw_trans m3 q5
    have hZ3 := (m3.block _ (heap_lt hZ) (fun h => h)).trans hZ
    obtain ⟨hans, hrr, z0, z1, zf⟩ := store_made (B := w.heap.size + 1) (f := lev d ((id, lv) :: xs)) (N := xs.length + 1) (nw_trans nW m3) hZ3 (Nat.le_refl _) (by omega) q1 q2 q3 (by simpa using q4) q5
    obtain ⟨fa, fc, rfl, _, _⟩ := q1.form
    unfold labV
    go_wp2
    refine hK1 _ _ (hSof _ m4) ?_
    clear hK1 K1 hcon q1 q2 q3 q4 q5 hSof m3 m4 hZ3
    refine plan_tail ?_
    simp only [List.drop_succ_cons, List.drop_zero]
    replace hans : Hid _ := hans
    go_wp2
    refine bodyPost_ret (results_cell1 rfl _ (w.heap.size + 1) _ _ rfl rfl hrr Try.rowL Try.sizeL) rfl ?_
    exact hans.out
end Go.Proofs.Ytnljfhjindenpab
