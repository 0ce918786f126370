/-
  The document's Set.
-/
import Derived.Test.YtnljfhjindenpaaLabR5
import Derived.Test.YtnljfhjindenpaaLabD7
namespace Go.Proofs.Ytnljfhjindenpaa
set_option linter.unusedVariables false
set_option linter.unusedSimpArgs false
set_option maxRecDepth 20000
open Go.RowKit

set_option maxHeartbeats 3200000 in
theorem c_rset {X : Nat → Prop} {v : Value} {xs : List Cat} (d id lv : Int) (w : World) (h : CSl X w v xs) (hl : xs.length + 1 ≤ 8796093022208) :
    Calls Try.prog 19 #[labV d v, .int .u64 id, .int .i64 lv] w (MadeL w d (lev d ((id, lv) :: xs)) (xs.length + 1)) := by
  obtain ⟨i0, hj, hj0, hj1, hj2⟩ := info_parts3 Try.infoC
  obtain ⟨ao, cap, rfl, ha1, ha2⟩ := h.form
  obtain ⟨W, hW⟩ : ∃ W, Hid (W = ((w.alloc (.cells #[.int .i64 d, .slice ao xs.length cap] 24)).alloc (.cells #[.int .i64 0, .slice none 0 0] 24)).alloc (.cells #[.int .u64 id, .int .i64 lv] 27)) := ⟨_, rfl⟩
  have nW : Nw w W := by rw [hW.out]; exact nw_alloc (nw_alloc (nw_alloc (nw_refl w) _) _) _
  have hA : W.heap[w.heap.size]? = some (.cells #[.int .i64 d, .slice ao xs.length cap] 24 (0, 0)) := by
    rw [hW.out, Below.heap_alloc _ _ _ (by simp; try omega)]; exact heap_alloc2_old w _ _
  have hZ : W.heap[w.heap.size + 1]? = some (.cells #[.int .i64 0, .slice none 0 0] 24 (0, 0)) := by
    rw [hW.out, Below.heap_alloc _ _ _ (by simp; try omega)]; exact heap_alloc2_new w _ _
  have hC : W.heap[w.heap.size + 1 + 1]? = some (.cells #[.int .u64 id, .int .i64 lv] 27 (0, 0)) := by
    rw [hW.out]
    have := heap_alloc_new ((w.alloc (.cells #[.int .i64 d, .slice ao xs.length cap] 24)).alloc (.cells #[.int .i64 0, .slice none 0 0] 24)) (.cells #[.int .u64 id, .int .i64 lv] 27)
    simpa using this
  have hsz : W.heap.size = w.heap.size + 1 + 1 + 1 := by rw [hW.out]; simp
  have hsl := (h.nw nW).sl
  have hrA : W.drew.ownsRow (w.heap.size + 1 + 1) 27 2 (.slice (some ⟨w.heap.size + 1 + 1, 0, none⟩) 1 1) 1 [.int .u64 id, .int .i64 lv] := ⟨rfl, .inr ⟨w.heap.size + 1 + 1, 1, #[.int .u64 id, .int .i64 lv], rfl, Nat.le_refl _, hC, Nat.le_refl _, by unfold maxLen; omega, rfl, rfl⟩⟩
  have hslA : Sl W.heap.size W.drew (.slice ao xs.length cap) xs.length (ccells xs) := hsl.keep ((Below.refl _ W).drew)
  have hkl : (ccells xs).length = xs.length * 2 := ccells_length xs
  have hone := ccells_oneCell xs
  unfold labV
  go_enter Try.func19, Try.ntmps19
  go_upto_region 2 with fail
  rw [← hW.out]
  clear hW hsl
  have hSof : ∀ w', Fr (fun q => w.heap.size + 1 + 1 ≤ q) W w' → (fun w' : World => Fr (fun q => w.heap.size + 1 + 1 ≤ q) W w' ∧ w'.cell? ⟨w.heap.size, 0, none⟩ = some (.int .i64 d) ∧ w'.cell? ⟨w.heap.size, 1, none⟩ = some (.slice ao xs.length cap)) w' := fun w' hw => ⟨hw, cell_blk ((hw.block _ (heap_lt hA) (by omega)).trans hA) rfl, cell_blk ((hw.block _ (heap_lt hA) (by omega)).trans hA) rfl⟩
  have hW0 : Fr (fun q => w.heap.size + 1 + 1 ≤ q) W W.drew := Fr.drew (Fr.refl _ W)
  have hS := hSof _ hW0
  refine wp_region_ord [] 8 [(0, true), (1, true), (2, true), (3, true), (4, true), (5, false), (6, true), (7, false)] (fun w' : World => Fr (fun q => w.heap.size + 1 + 1 ≤ q) W w' ∧ w'.cell? ⟨w.heap.size, 0, none⟩ = some (.int .i64 d) ∧ w'.cell? ⟨w.heap.size, 1, none⟩ = some (.slice ao xs.length cap)) (by kernel_rfl) (by kernel_rfl) ?_
  refine ord_quietL _ ?_ rfl hS rfl ?_ ?_
  rotate_left
  · rintro w' ⟨hn, h0, h1⟩; go_simp; first | rfl | (rw [if_pos (by omega)]; done) | (rw [if_pos (by omega)]; rfl) | (rw [if_pos (by omega)]; go_simp; rfl)
  simp only [Act.put, List.setIfInBounds_toArray, List.set_cons_zero, List.set_cons_succ]
  refine ord_quietL _ ?_ rfl hS rfl ?_ ?_
  rotate_left
  · rintro w' ⟨hn, h0, h1⟩; go_simp; first | rfl | (rw [if_pos (by omega)]; done) | (rw [if_pos (by omega)]; rfl) | (rw [if_pos (by omega)]; go_simp; rfl)
  simp only [Act.put, List.setIfInBounds_toArray, List.set_cons_zero, List.set_cons_succ]
  refine ord_quietL _ ?_ rfl hS rfl ?_ ?_
  rotate_left
  · rintro w' ⟨hn, h0, h1⟩; go_simp; first | rfl | (rw [if_pos (by omega)]; done) | (rw [if_pos (by omega)]; rfl) | (rw [if_pos (by omega)]; go_simp; rfl)
  simp only [Act.put, List.setIfInBounds_toArray, List.set_cons_zero, List.set_cons_succ]
  refine ord_quietL _ ?_ rfl hS rfl ?_ ?_
  rotate_left
  · rintro w' ⟨hn, h0, h1⟩; go_simp; first | rfl | (rw [if_pos (by omega)]; done) | (rw [if_pos (by omega)]; rfl) | (rw [if_pos (by omega)]; go_simp; rfl)
  simp only [Act.put, List.setIfInBounds_toArray, List.set_cons_zero, List.set_cons_succ]
  refine ord_quietL _ ?_ rfl hS rfl ?_ ?_
  rotate_left
  · rintro w' ⟨hn, h0, h1⟩; go_simp; first | rfl | (rw [if_pos (by omega)]; done) | (rw [if_pos (by omega)]; rfl) | (rw [if_pos (by omega)]; go_simp; rfl)
  simp only [Act.put, List.setIfInBounds_toArray, List.set_cons_zero, List.set_cons_succ]
  refine ord_actL _ rfl (fun K1 hK1 => ?_)
  go_wp2_with (at_builtin; refine wpList_append_sl _ rfl _ _ 22 rfl (w.heap.size + 1 + 1) 27 i0 _ 2 16 Try.underlying22 hj hj0 hj1 hj2 rfl (by decide) _ _ _ rfl hrA _ _ _ _ rfl hslA hkl hone ?d2 ?d3 ?d4 ?_)
  case d2 => unfold maxLen; omega
  case d3 => omega
  intro v9 w9 hown9 hgrow9 hat9
  have m9 : Fr (fun q => w.heap.size + 1 + 1 ≤ q) W w9 := hW0.grown hgrow9 (fun q hq => .inl (hrA.lt q hq).1)
  have hown : w9.ownsRow (w.heap.size + 1 + 1) 27 2 v9 ((id, lv) :: xs).length (ccells ((id, lv) :: xs)) := by
    rw [ccells_cons]
    simpa [Nat.add_comm] using hown9
  have k1 := (mk_of_owns hown).csl
  obtain ⟨a9, c9, rfl, _, _⟩ := k1.form
  go_wp2
  refine hK1 _ _ (hSof _ m9) ?_
  clear hK1 K1 hgrow9 hat9 hown9 hrA hslA hS hown
  have hS := hSof _ m9
  refine ord_quietL _ ?_ rfl hS rfl ?_ ?_
  rotate_left
  · rintro w' ⟨hn, h0, h1⟩; go_simp; first | rfl | (rw [if_pos (by omega)]; done) | (rw [if_pos (by omega)]; rfl) | (rw [if_pos (by omega)]; go_simp; rfl)
  simp only [Act.put, List.setIfInBounds_toArray, List.set_cons_zero, List.set_cons_succ]
  refine ord_actL _ rfl (fun K1 hK1 => ?_)
  have hcon : Hid _ := c_form d w9 k1 (by simpa using hl)
  unfold labV at hcon
  go_wp2_with (go_at_call 43; refine Calls.mono hcon.out ?_; rintro e w2 ⟨u2, y2, rfl, q1, q2, q3, q4, q5⟩)
  have m2 := fr_nw m9 q5
  have nw9 : Nw w w9 := Fr.trans nW m9 (fun q hq => .inr (by omega))
  have hZ9 := (m9.block _ (heap_lt hZ) (by omega)).trans hZ
  obtain ⟨hans, hrr, z0, z1, zf⟩ := store_made (B := w.heap.size + 1) (f := lev d ((id, lv) :: xs)) (N := xs.length + 1) nw9 hZ9 (Nat.le_refl _) (by omega) q1 q2 q3 (by simpa using q4) q5
  obtain ⟨fa, fc, rfl, _, _⟩ := q1.form
  refine hK1 _ _ (hSof _ m2) ?_
  clear hK1 K1 hcon q1 q2 q3 q4 q5 hS hSof m9 m2 nw9 hZ9 k1
  refine ord_tail ?_
  simp only [List.drop_succ_cons, List.drop_zero]
  replace hans : Hid _ := hans
  unfold labV
  go_wp2
  refine bodyPost_ret (results_cell1 rfl _ (w.heap.size + 1) _ _ rfl rfl hrr Try.rowL Try.sizeL) rfl ?_
  exact hans.out
end Go.Proofs.Ytnljfhjindenpaa
