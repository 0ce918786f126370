/-
  The document's Copy and Leq.
-/
import Derived.Test.YtnljfhjindenpaaLabR2
namespace Go.Proofs.Ytnljfhjindenpaa
set_option linter.unusedVariables false
set_option linter.unusedSimpArgs false
set_option maxRecDepth 20000
open Go.RowKit

/-- A label laid into a result's variable. -/
theorem store_lab {w W w2 : World} {d : Int} {B : Nat} {u : Value} {ys : List Cat} (hnw : Nw w W) (hZ : W.heap[B]? = some (.cells #[.int .i64 0, .slice none 0 0] 24 (0, 0))) (hB : w.heap.size ≤ B) (q1 : CSl (fun b => W.heap.size ≤ b) w2 u ys) (q5 : Nw W w2) :
    CSl (fun b => w.heap.size ≤ b) ((w2.setCell ⟨B, 0, none⟩ (.int .i64 d)).setCell ⟨B, 1, none⟩ u) u ys ∧ Nw w ((w2.setCell ⟨B, 0, none⟩ (.int .i64 d)).setCell ⟨B, 1, none⟩ u) ∧ ((w2.setCell ⟨B, 0, none⟩ (.int .i64 d)).setCell ⟨B, 1, none⟩ u).rangeAt B 0 [.int .i64 d, u] ∧ w2.cell? ⟨B, 0, none⟩ = some (.int .i64 0) ∧ w2.cell? ⟨B, 1, none⟩ = some (.slice none 0 0) ∧ ∀ k, w2.frozen? ⟨B, k, none⟩ = false := by
  have hZ2 := (q5.block _ (heap_lt hZ) (fun h => h)).trans hZ
  have hlt := heap_lt hZ
  have hsz := hnw.size
  have hR6 : ((w2.setCell ⟨B, 0, none⟩ (.int .i64 d)).setCell ⟨B, 1, none⟩ u).heap[B]? = some (.cells #[.int .i64 d, u] 24 (0, 0)) := by
    rw [blk_setCell (blk_setCell hZ2)]; rfl
  have hf6 : Fr (fun k => k = B) w2 ((w2.setCell ⟨B, 0, none⟩ (.int .i64 d)).setCell ⟨B, 1, none⟩ u) := ((Fr.refl (fun k => k = B) w2).setCell (p := ⟨B, 0, none⟩) (.inl rfl) _).setCell (p := ⟨B, 1, none⟩) (.inl rfl) _
  exact ⟨q1.keep hf6 (fun b hb _ h => by omega) (fun b hb _ => by omega), Fr.trans (nw_trans hnw q5) hf6 (fun k hk => .inr (by omega)), range_all (C := [.int .i64 d, u]) hR6, cell_blk hZ2 rfl, cell_blk hZ2 rfl, fun k => free_blk hZ2⟩

set_option maxHeartbeats 1600000 in
theorem c_copy {X : Nat → Prop} {v : Value} {xs : List Cat} (d : Int) (w : World) (h : CSl X w v xs) (hl : xs.length ≤ 8796093022208) :
    Calls Try.prog 9 #[labV d v] w fun e w' => ∃ u, e = .returned (labV d u) ∧ CSl (fun b => w.heap.size ≤ b) w' u xs ∧ Nw w w' := by
  obtain ⟨i0, hj, hj0, hj1, hj2⟩ := info_parts3 Try.infoC
  obtain ⟨ao, cap, rfl, ha1, ha2⟩ := h.form
  obtain ⟨W, hW⟩ : ∃ W, Hid (W = (w.alloc (.cells #[.int .i64 d, .slice ao xs.length cap] 24)).alloc (.cells #[.int .i64 0, .slice none 0 0] 24)) := ⟨_, rfl⟩
  have nW : Nw w W := by rw [hW.out]; exact nw_alloc (nw_alloc (nw_refl w) _) _
  have hA : W.heap[w.heap.size]? = some (.cells #[.int .i64 d, .slice ao xs.length cap] 24 (0, 0)) := by rw [hW.out]; exact heap_alloc2_old w _ _
  have hZ : W.heap[w.heap.size + 1]? = some (.cells #[.int .i64 0, .slice none 0 0] 24 (0, 0)) := by rw [hW.out]; exact heap_alloc2_new w _ _
  have hsl := (h.nw nW).sl
  unfold labV
  go_enter Try.func9, Try.ntmps9
  go_upto_region 1 with fail
  rw [← hW.out]
  clear hW
  have hN0 : w.heap.size + 1 < W.heap.size := heap_lt hZ
  have hSof : ∀ w', Nw W w' → (fun w' : World => Nw W w' ∧ w'.cell? ⟨w.heap.size, 0, none⟩ = some (.int .i64 d) ∧ w'.cell? ⟨w.heap.size, 1, none⟩ = some (.slice ao xs.length cap)) w' := fun w' hw => ⟨hw, cell_blk ((hw.block _ (heap_lt hA) (fun h => h)).trans hA) rfl, cell_blk ((hw.block _ (heap_lt hA) (fun h => h)).trans hA) rfl⟩
  have hW0 : Nw W W.drew := Fr.drew (Fr.refl _ W)
  have hS := hSof _ hW0
  refine wp_region_ord [] 7 [(0, true), (1, true), (3, true), (4, true), (2, false), (5, false), (6, true)] (fun w' : World => Nw W w' ∧ w'.cell? ⟨w.heap.size, 0, none⟩ = some (.int .i64 d) ∧ w'.cell? ⟨w.heap.size, 1, none⟩ = some (.slice ao xs.length cap)) (by kernel_rfl) (by kernel_rfl) ?_
  refine ord_quietL _ ?_ rfl hS rfl ?_ ?_
  rotate_left
  · rintro w' ⟨hn, h0, h1⟩; go_simp; first | rfl | (rw [if_pos (by omega)]; done) | (rw [if_pos (by omega)]; rfl) | (rw [if_pos (by omega)]; go_simp; rfl)
  simp only [Act.put, List.setIfInBounds_toArray, List.set_cons_zero, List.set_cons_succ]
  refine ord_quietL _ ?_ rfl hS rfl ?_ ?_
  rotate_left
  · rintro w' ⟨hn, h0, h1⟩; go_simp; first | rfl | (rw [if_pos (by omega)]; done) | (rw [if_pos (by omega)]; rfl) | (rw [if_pos (by omega)]; go_simp; rfl)
  simp only [Act.put, List.setIfInBounds_toArray, List.set_cons_zero, List.set_cons_succ]
  refine ord_quietL _ ?_ rfl hS rfl ?_ ?_
  rotate_left
  · rintro w' ⟨hn, h0, h1⟩; go_simp; first | rfl | (rw [if_pos (by omega)]; done) | (rw [if_pos (by omega)]; rfl) | (rw [if_pos (by omega)]; go_simp; rfl)
  simp only [Act.put, List.setIfInBounds_toArray, List.set_cons_zero, List.set_cons_succ]
  refine ord_quietL _ ?_ rfl hS rfl ?_ ?_
  rotate_left
  · rintro w' ⟨hn, h0, h1⟩; go_simp; first | rfl | (rw [if_pos (by omega)]; done) | (rw [if_pos (by omega)]; rfl) | (rw [if_pos (by omega)]; go_simp; rfl)
  simp only [Act.put, List.setIfInBounds_toArray, List.set_cons_zero, List.set_cons_succ]
  refine ord_actL _ rfl (fun K1 hK1 => ?_)
  have hrA : (W.drew.alloc (.cells #[] 27)).ownsRow W.heap.size 27 2 (.slice (some ⟨W.heap.size, 0, none⟩) 0 0) 0 [] := ⟨rfl, .inr ⟨W.heap.size, 0, #[], rfl, Nat.le_refl _, heap_alloc_new W.drew _, Nat.le_refl _, Nat.zero_le _, rfl, rfl⟩⟩
  have hslA : Sl W.heap.size (W.drew.alloc (.cells #[] 27)) (.slice ao xs.length cap) xs.length (ccells xs) := hsl.keep (((Below.refl _ W).drew).alloc (Nat.le_refl _) _)
  have hkl : (ccells xs).length = xs.length * 2 := ccells_length xs
  have hone := ccells_oneCell xs
  have hmk : Hid (∀ (u : Value) (w' : World), w'.ownsRow W.heap.size 27 2 u xs.length (ccells xs) → MkAt W.heap.size w' u xs) := fun u w' h => mk_of_owns h
  have nA : Nw W (W.drew.alloc (.cells #[] 27)) := nw_alloc hW0 _
  go_wp2_with (refine wpList_buildSlice0 rfl 22 27 rfl Try.underlying22 (by kernel_rfl) ?_)
  refine hK1 _ _ (hSof _ nA) ?_
  clear hK1 K1 hS
  refine ord_actL _ rfl (fun K1 hK1 => ?_)
  go_wp2_with (at_builtin; refine wpList_append_sl _ rfl _ _ 22 rfl W.heap.size 27 i0 _ 2 16 Try.underlying22 hj hj0 hj1 hj2 rfl (by decide) _ _ _ rfl hrA _ _ _ _ rfl hslA hkl hone ?d2 ?d3 ?d4 ?_)
  case d2 => unfold maxLen; omega
  case d3 => omega
  case d4 => simp
  intro v9 w9 hown9 hgrow9 hat9
  have n9 : Nw W w9 := Fr.grown nA hgrow9 (fun q hq => .inr (hrA.lt q hq).1)
  have hm9 := hmk.out v9 w9 (by simpa using hown9)
  obtain ⟨a9, c9, rfl⟩ := owns_form hown9
  go_wp2
  refine hK1 _ _ (hSof _ n9) ?_
  clear hK1 K1 hgrow9 hat9 hown9 hrA hslA
  have hS := hSof _ n9
  refine ord_quietL _ ?_ rfl hS rfl ?_ ?_
  rotate_left
  · rintro w' ⟨hn, h0, h1⟩; go_simp; first | rfl | (rw [if_pos (by omega)]; done) | (rw [if_pos (by omega)]; rfl) | (rw [if_pos (by omega)]; go_simp; rfl)
  simp only [Act.put, List.setIfInBounds_toArray, List.set_cons_zero, List.set_cons_succ]
  refine ord_tail ?_
  simp only [List.drop_succ_cons, List.drop_zero]
  obtain ⟨k1, k2, hrr, z0, z1, zf⟩ := store_lab (d := d) (B := w.heap.size + 1) nW hZ (by omega) hm9.csl n9
  have hans : Hid _ := And.intro k1 k2
  clear k1 k2 hS hSof hm9 n9 nA hA hZ hmk
  go_wp2
  refine bodyPost_ret (results_cell1 rfl _ (w.heap.size + 1) _ _ rfl rfl hrr Try.rowL Try.sizeL) rfl ?_
  exact ⟨_, rfl, hans.out.1, hans.out.2⟩
end Go.Proofs.Ytnljfhjindenpaa
