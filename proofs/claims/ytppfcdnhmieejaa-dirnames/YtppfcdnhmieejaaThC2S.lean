/-
  Copy: the program's, the document's.
-/
import Derived.Test.YtppfcdnhmieejaaThC1S
import Derived.Test.YtppfcdnhmieejaaLabS
namespace Go.Proofs.Ytppfcdnhmieejaa
set_option linter.unusedVariables false
set_option linter.unusedSimpArgs false
set_option maxRecDepth 20000
open Go.RowKit

theorem th_one (t : Th) (a b c d : Value) (ha : a.oneCell' = true) (hb : b.oneCell' = true) (hc : c.oneCell' = true) (hd : d.oneCell' = true) : ∀ v ∈ thC t a b c d, v.oneCell' = true := by
  simp only [thC, List.mem_cons, List.not_mem_nil, or_false, forall_eq_or_imp, forall_eq]
  exact ⟨rfl, rfl, rfl, ha, rfl, hb, rfl, rfl, hc, hd, rfl, rfl, rfl, rfl, rfl, rfl, rfl, rfl, rfl, rfl, rfl, rfl, rfl, rfl, rfl, rfl⟩

set_option maxHeartbeats 3200000 in
theorem c_tcopy {X : Nat → Prop} {t : Th} {uL uC uK uD : Value} (w : World) (h : ThAt X w t uL uC uK uD) (l1 : t.cats.length ≤ 8796093022208) (l2 : t.ccats.length ≤ 8796093022208) (l3 : t.links.length ≤ 8796093022208) (l4 : t.data.length ≤ 140737488355328) :
    Calls Try.prog 29 #[thV t uL uC uK uD] w fun e w' => ∃ u1 u2 u3 u4, e = .returned (thV t u1 u2 u3 u4) ∧ CopT (w.heap.size) w' t u1 u2 u3 u4 ∧ Nw w w' := by
  obtain ⟨W, hW⟩ : ∃ W, Hid (W = (w.alloc (.cells (thC t uL uC uK uD).toArray 34)).alloc (.cells (thC zeroT (.slice none 0 0) (.slice none 0 0) (.slice none 0 0) (.slice none 0 0)).toArray 34)) := ⟨_, rfl⟩
  have nW : Nw w W := by rw [hW.out]; exact nw_alloc (nw_alloc (nw_refl w) _) _
  have hA : W.heap[w.heap.size]? = some (.cells (thC t uL uC uK uD).toArray 34 (0, 0)) := by rw [hW.out]; exact heap_alloc2_old w _ _
  have hZ : W.heap[w.heap.size + 1]? = some (.cells (thC zeroT (.slice none 0 0) (.slice none 0 0) (.slice none 0 0) (.slice none 0 0)).toArray 34 (0, 0)) := by rw [hW.out]; exact heap_alloc2_new w _ _
  have ht := (h.mono (X' := fun b => b < w.heap.size) (fun b _ hb => hb)).nw nW
  go_enter Try.func29, Try.ntmps29
  go_upto_region 1 with (first | refine wpList_box_agg rfl 34 _ rfl (thV t uL uC uK uD) _ rfl rfl ?_ | (refine wpList_alloc_agg rfl 34 rfl _ Try.zeroTh ?_; rw [← hW.out]))
  clear hW
  have hSof : ∀ w', Nw W w' → (fun w' : World => Nw W w' ∧ w'.heap[w.heap.size]? = some (.cells (thC t uL uC uK uD).toArray 34 (0, 0))) w' := fun w' hw => ⟨hw, (hw.block _ (heap_lt hA) (fun h => h)).trans hA⟩
  have hW0 : Nw W W.drew := Fr.drew (Fr.refl _ W)
  have hS := hSof _ hW0
  replace ht := ht.nw hW0
  replace hSof : Hid _ := hSof
  refine wp_region_ord [] 10 [(0, true), (4, true), (1, true), (5, true), (2, true), (6, true), (3, false), (8, true), (9, true), (7, false)] (fun w' : World => Nw W w' ∧ w'.heap[w.heap.size]? = some (.cells (thC t uL uC uK uD).toArray 34 (0, 0))) (by kernel_rfl) (by kernel_rfl) ?_
  refine ord_quietL _ ?_ rfl hS rfl ?_ ?_
  rotate_left
  · rintro w' ⟨hn, rhA⟩; go_simp; first | rfl | (rw [if_pos (by omega)]; done) | (rw [if_pos (by omega)]; rfl) | (rw [if_pos (by omega)]; go_simp; rfl)
  simp only [Act.put, List.setIfInBounds_toArray, List.set_cons_zero, List.set_cons_succ]
  refine ord_quietL _ ?_ rfl hS rfl ?_ ?_
  rotate_left
  · rintro w' ⟨hn, rhA⟩; go_simp; first | rfl | (rw [if_pos (by omega)]; done) | (rw [if_pos (by omega)]; rfl) | (rw [if_pos (by omega)]; go_simp; rfl)
  simp only [Act.put, List.setIfInBounds_toArray, List.set_cons_zero, List.set_cons_succ]
  refine ord_quietL _ ?_ rfl hS rfl ?_ ?_
  rotate_left
  · rintro w' ⟨hn, rhA⟩; go_simp; first | rfl | (rw [if_pos (by omega)]; done) | (rw [if_pos (by omega)]; rfl) | (rw [if_pos (by omega)]; go_simp; rfl)
  simp only [Act.put, List.setIfInBounds_toArray, List.set_cons_zero, List.set_cons_succ]
  refine ord_quietL _ ?_ rfl hS rfl ?_ ?_
  rotate_left
  · rintro w' ⟨hn, rhA⟩; go_simp; first | rfl | (rw [if_pos (by omega)]; done) | (rw [if_pos (by omega)]; rfl) | (rw [if_pos (by omega)]; go_simp; rfl)
  simp only [Act.put, List.setIfInBounds_toArray, List.set_cons_zero, List.set_cons_succ]
  refine ord_quietL _ ?_ rfl hS rfl ?_ ?_
  rotate_left
  · rintro w' ⟨hn, rhA⟩; have g0 : w'.cell? ⟨w.heap.size, 3, none⟩ = some (uL) := cell_blk rhA rfl; go_simp; first | rfl | (rw [if_pos (by omega)]; done) | (rw [if_pos (by omega)]; rfl) | (rw [if_pos (by omega)]; go_simp; rfl)
  simp only [Act.put, List.setIfInBounds_toArray, List.set_cons_zero, List.set_cons_succ]
  refine ord_quietL _ ?_ rfl hS rfl ?_ ?_
  rotate_left
  · rintro w' ⟨hn, rhA⟩; have g0 : w'.cell? ⟨w.heap.size, 5, none⟩ = some (uC) := cell_blk rhA rfl; go_simp; first | rfl | (rw [if_pos (by omega)]; done) | (rw [if_pos (by omega)]; rfl) | (rw [if_pos (by omega)]; go_simp; rfl)
  simp only [Act.put, List.setIfInBounds_toArray, List.set_cons_zero, List.set_cons_succ]
  refine ord_actL _ rfl (fun K1 hK1 => ?_)
  have hcon : Hid _ := c_clC W.drew ht.l (by omega)
  go_wp2_with (go_at_call 41; refine Calls.mono hcon.out ?_; rintro e wk0 ⟨u1, rfl, ou1, qn⟩)
  have m0 := nw_trans hW0 qn
  replace ht := ht.nw qn
  replace ou1 : Hid _ := ou1
  have zu1 : Hid (w.heap.size + 1 < W.drew.heap.size) := by have q1 := hW0.size; have q2 := heap_lt hZ; unfold Hid; omega
  refine hK1 _ _ (hSof.out _ m0) ?_
  clear hK1 K1 hcon qn hS hW0
  have hS := hSof.out _ m0
  refine ord_quietL _ ?_ rfl hS rfl ?_ ?_
  rotate_left
  · rintro w' ⟨hn, rhA⟩; go_simp; first | rfl | (rw [if_pos (by omega)]; done) | (rw [if_pos (by omega)]; rfl) | (rw [if_pos (by omega)]; go_simp; rfl)
  simp only [Act.put, List.setIfInBounds_toArray, List.set_cons_zero, List.set_cons_succ]
  refine ord_quietL _ ?_ rfl hS rfl ?_ ?_
  rotate_left
  · rintro w' ⟨hn, rhA⟩; go_simp; first | rfl | (rw [if_pos (by omega)]; done) | (rw [if_pos (by omega)]; rfl) | (rw [if_pos (by omega)]; go_simp; rfl)
  simp only [Act.put, List.setIfInBounds_toArray, List.set_cons_zero, List.set_cons_succ]
  refine ord_actL _ rfl (fun K1 hK1 => ?_)
  have hcon : Hid _ := c_clC wk0 ht.c (by omega)
  go_wp2_with (go_at_call 41; refine Calls.mono hcon.out ?_; rintro e wk1 ⟨u2, rfl, ou2, qn⟩)
  have m1 := nw_trans m0 qn
  replace ht := ht.nw qn
  replace ou2 : Hid _ := ou2
  have zu2 : Hid (w.heap.size + 1 < wk0.heap.size) := by have q1 := m0.size; have q2 := heap_lt hZ; unfold Hid; omega
  have n12 : Hid _ := qn
  refine hK1 _ _ (hSof.out _ m1) ?_
  clear hK1 K1 hcon qn hS m0
  have hS := hSof.out _ m1
  refine ord_tail ?_
  simp only [List.drop_succ_cons, List.drop_zero]
  have hA1 := (m1.block _ (heap_lt hA) (fun h => h)).trans hA
  have g3 : wk1.cell? ⟨w.heap.size, 3, none⟩ = some uL := cell_blk hA1 rfl
  have g5 : wk1.cell? ⟨w.heap.size, 5, none⟩ = some uC := cell_blk hA1 rfl
  have gf : ∀ k, wk1.frozen? ⟨w.heap.size, k, none⟩ = false := fun k => free_blk hA1
  obtain ⟨V, hV⟩ : ∃ V, Hid (V = (wk1.setCell ⟨w.heap.size, 3, none⟩ u1).setCell ⟨w.heap.size, 5, none⟩ u2) := ⟨_, rfl⟩
  have fV : Fr (fun k => k = w.heap.size) wk1 V := by rw [hV.out]; exact ((Fr.refl (fun k => k = w.heap.size) wk1).setCell (p := ⟨w.heap.size, 3, none⟩) (.inl rfl) _).setCell (p := ⟨w.heap.size, 5, none⟩) (.inl rfl) _
  have hAV : V.heap[w.heap.size]? = some (.cells (thC t u1 u2 uK uD).toArray 34 (0, 0)) := by rw [hV.out, blk_setCell (blk_setCell hA1)]; rfl
  obtain ⟨u1a, u1n, u1c, hu1⟩ : ∃ a n c, u1 = .slice a n c := by obtain ⟨a, c, h⟩ := owns_form ou1.out; exact ⟨a, _, c, h⟩
  obtain ⟨u2a, u2n, u2c, hu2⟩ : ∃ a n c, u2 = .slice a n c := by obtain ⟨a, c, h⟩ := owns_form ou2.out; exact ⟨a, _, c, h⟩
  subst hu1; subst hu2
  go_upto_region 2 with fail
  rw [← hV.out]
  clear hV g3 g5 gf
  have hZV := (fV.block _ (heap_lt ((m1.block _ (heap_lt hZ) (fun h => h)).trans hZ)) (by omega)).trans ((m1.block _ (heap_lt hZ) (fun h => h)).trans hZ)
  have htV : ThAt (fun b => b < w.heap.size) V t uL uC uK uD := ht.keep fV (fun b hb _ e => by omega) (fun b hb _ => hb)
  have m0s : Hid _ := m1
  clear hA ht hA1
  have hSof : ∀ w', Nw V w' → (fun w' : World => Nw V w' ∧ w'.heap[w.heap.size]? = some (.cells (thC t (.slice u1a u1n u1c) (.slice u2a u2n u2c) uK uD).toArray 34 (0, 0))) w' := fun w' hw => ⟨hw, (hw.block _ (heap_lt hAV) (fun h => h)).trans hAV⟩
  have hW0 : Nw V V.drew := Fr.drew (Fr.refl _ V)
  have hS := hSof _ hW0
  replace htV := htV.nw hW0
  replace hSof : Hid _ := hSof
  refine wp_region_ord [] 7 [(0, true), (3, true), (1, true), (4, true), (2, false), (6, true), (5, false)] (fun w' : World => Nw V w' ∧ w'.heap[w.heap.size]? = some (.cells (thC t (.slice u1a u1n u1c) (.slice u2a u2n u2c) uK uD).toArray 34 (0, 0))) (by kernel_rfl) (by kernel_rfl) ?_
  refine ord_quietL _ ?_ rfl hS rfl ?_ ?_
  rotate_left
  · rintro w' ⟨hn, rhAV⟩; go_simp; first | rfl | (rw [if_pos (by omega)]; done) | (rw [if_pos (by omega)]; rfl) | (rw [if_pos (by omega)]; go_simp; rfl)
  simp only [Act.put, List.setIfInBounds_toArray, List.set_cons_zero, List.set_cons_succ]
  refine ord_quietL _ ?_ rfl hS rfl ?_ ?_
  rotate_left
  · rintro w' ⟨hn, rhAV⟩; go_simp; first | rfl | (rw [if_pos (by omega)]; done) | (rw [if_pos (by omega)]; rfl) | (rw [if_pos (by omega)]; go_simp; rfl)
  simp only [Act.put, List.setIfInBounds_toArray, List.set_cons_zero, List.set_cons_succ]
  refine ord_quietL _ ?_ rfl hS rfl ?_ ?_
  rotate_left
  · rintro w' ⟨hn, rhAV⟩; have g0 : w'.cell? ⟨w.heap.size, 8, none⟩ = some (uK) := cell_blk rhAV rfl; go_simp; first | rfl | (rw [if_pos (by omega)]; done) | (rw [if_pos (by omega)]; rfl) | (rw [if_pos (by omega)]; go_simp; rfl)
  simp only [Act.put, List.setIfInBounds_toArray, List.set_cons_zero, List.set_cons_succ]
  refine ord_quietL _ ?_ rfl hS rfl ?_ ?_
  rotate_left
  · rintro w' ⟨hn, rhAV⟩; have g0 : w'.cell? ⟨w.heap.size, 9, none⟩ = some (uD) := cell_blk rhAV rfl; go_simp; first | rfl | (rw [if_pos (by omega)]; done) | (rw [if_pos (by omega)]; rfl) | (rw [if_pos (by omega)]; go_simp; rfl)
  simp only [Act.put, List.setIfInBounds_toArray, List.set_cons_zero, List.set_cons_succ]
  refine ord_actL _ rfl (fun K1 hK1 => ?_)
  have hcon : Hid _ := c_clL V.drew htV.k (by omega)
  go_wp2_with (go_at_call 42; refine Calls.mono hcon.out ?_; rintro e wk0 ⟨u3, rfl, ou3, qn⟩)
  have m0 := nw_trans hW0 qn
  replace htV := htV.nw qn
  replace ou3 : Hid _ := ou3
  have zu3 : Hid (w.heap.size + 1 < V.drew.heap.size) := by have q1 := hW0.size; have q2 := heap_lt hZV; unfold Hid; omega
  refine hK1 _ _ (hSof.out _ m0) ?_
  clear hK1 K1 hcon qn hS hW0
  have hS := hSof.out _ m0
  refine ord_quietL _ ?_ rfl hS rfl ?_ ?_
  rotate_left
  · rintro w' ⟨hn, rhAV⟩; go_simp; first | rfl | (rw [if_pos (by omega)]; done) | (rw [if_pos (by omega)]; rfl) | (rw [if_pos (by omega)]; go_simp; rfl)
  simp only [Act.put, List.setIfInBounds_toArray, List.set_cons_zero, List.set_cons_succ]
  refine ord_actL _ rfl (fun K1 hK1 => ?_)
  have hcon : Hid _ := c_clB wk0 htV.d (by omega)
  go_wp2_with (go_at_call 43; refine Calls.mono hcon.out ?_; rintro e wk1 ⟨u4, rfl, ou4, qn⟩)
  have m1 := nw_trans m0 qn
  replace htV := htV.nw qn
  replace ou4 : Hid _ := ou4
  have zu4 : Hid (w.heap.size + 1 < wk0.heap.size) := by have q1 := m0.size; have q2 := heap_lt hZV; unfold Hid; omega
  have n34 : Hid _ := qn
  refine hK1 _ _ (hSof.out _ m1) ?_
  clear hK1 K1 hcon qn hS m0
  have hS := hSof.out _ m1
  refine ord_tail ?_
  simp only [List.drop_succ_cons, List.drop_zero]
  have hA1 := (m1.block _ (heap_lt hAV) (fun h => h)).trans hAV
  have g8 : wk1.cell? ⟨w.heap.size, 8, none⟩ = some uK := cell_blk hA1 rfl
  have g9 : wk1.cell? ⟨w.heap.size, 9, none⟩ = some uD := cell_blk hA1 rfl
  have gf : ∀ k, wk1.frozen? ⟨w.heap.size, k, none⟩ = false := fun k => free_blk hA1
  obtain ⟨V2, hV⟩ : ∃ V2, Hid (V2 = (wk1.setCell ⟨w.heap.size, 8, none⟩ u3).setCell ⟨w.heap.size, 9, none⟩ u4) := ⟨_, rfl⟩
  have fV2 : Fr (fun k => k = w.heap.size) wk1 V2 := by rw [hV.out]; exact ((Fr.refl (fun k => k = w.heap.size) wk1).setCell (p := ⟨w.heap.size, 8, none⟩) (.inl rfl) _).setCell (p := ⟨w.heap.size, 9, none⟩) (.inl rfl) _
  obtain ⟨u3a, u3n, u3c, hu3⟩ : ∃ a n c, u3 = .slice a n c := by obtain ⟨a, c, h⟩ := owns_form ou3.out; exact ⟨a, _, c, h⟩
  obtain ⟨u4a, u4n, u4c, hu4⟩ : ∃ a n c, u4 = .slice a n c := by obtain ⟨a, c, h⟩ := owns_form ou4.out; exact ⟨a, _, c, h⟩
  subst hu3; subst hu4
  have hAV2 : V2.heap[w.heap.size]? = some (.cells (thC t (.slice u1a u1n u1c) (.slice u2a u2n u2c) (.slice u3a u3n u3c) (.slice u4a u4n u4c)).toArray 34 (0, 0)) := by rw [hV.out, blk_setCell (blk_setCell hA1)]; rfl
  go_upto_region 3 with fail
  rw [← hV.out]
  clear hV g8 g9 gf
  have hZ2 := (fV2.block _ (heap_lt ((m1.block _ (heap_lt hZV) (fun h => h)).trans hZV)) (by omega)).trans ((m1.block _ (heap_lt hZV) (fun h => h)).trans hZV)
  have s0 := heap_lt hZ
  have s1 := m0s.out.size
  have s2 := fV.size
  have s3 := m1.size
  have s4 := fV2.size
  have q1 := zu1.out
  have q2 := zu2.out
  have q3 := zu3.out
  have q4 := zu4.out
  have oo1 : CopT (w.heap.size + 2) V2 t (.slice u1a u1n u1c) (.slice u2a u2n u2c) (.slice u3a u3n u3c) (.slice u4a u4n u4c) := ⟨owns_mono (owns_fr (owns_nw (owns_fr (owns_nw ou1.out n12.out) fV (by intro k hk; omega)) m1) fV2 (by intro k hk; omega)) (by omega), owns_mono (owns_fr (owns_nw (owns_fr ou2.out fV (by intro k hk; omega)) m1) fV2 (by intro k hk; omega)) (by omega), owns_mono (owns_fr (owns_nw ou3.out n34.out) fV2 (by intro k hk; omega)) (by omega), owns_mono (owns_fr ou4.out fV2 (by intro k hk; omega)) (by omega)⟩
  have hN2 : Nw w V2 := Fr.trans (nw_trans (Fr.trans (nw_trans nW m0s.out) fV (fun k hk => .inr (by omega))) m1) fV2 (fun k hk => .inr (by omega))
  clear fV fV2 ou1 ou2 ou3 ou4 zu1 zu2 zu3 zu4 n12 n34 m0s hZV hAV hZ nW htV q1 q2 q3 q4 s0 s1 s2 s3 s4 hA1 hSof hS
  have hr0 : V2.rangeAt w.heap.size 0 (thC t (.slice u1a u1n u1c) (.slice u2a u2n u2c) (.slice u3a u3n u3c) (.slice u4a u4n u4c)) := range_all hAV2
  have hfin : Hid ((V2.setRow (w.heap.size + 1) (thC t (.slice u1a u1n u1c) (.slice u2a u2n u2c) (.slice u3a u3n u3c) (.slice u4a u4n u4c)).toArray).rangeAt (w.heap.size + 1) 0 (thC t (.slice u1a u1n u1c) (.slice u2a u2n u2c) (.slice u3a u3n u3c) (.slice u4a u4n u4c)) ∧ Fr (fun k => k = w.heap.size + 1) V2 (V2.setRow (w.heap.size + 1) (thC t (.slice u1a u1n u1c) (.slice u2a u2n u2c) (.slice u3a u3n u3c) (.slice u4a u4n u4c)).toArray)) := ⟨range_all (setRow_heap _ _ _ _ _ _ hZ2), (Fr.refl (fun k => k = w.heap.size + 1) V2).setRow (.inl rfl) _⟩
  go_wp2_with (refine wpList_load_as rfl 34 _ rfl (w.heap.size) 0 rfl (thV t (.slice u1a u1n u1c) (.slice u2a u2n u2c) (.slice u3a u3n u3c) (.slice u4a u4n u4c)) _ rfl hr0 Try.rowT Try.sizeT ?_; refine stop_here ?_)
  unfold Hid
  refine wpList_store_all rfl 34 _ _ rfl (w.heap.size + 1) rfl (thV t (.slice u1a u1n u1c) (.slice u2a u2n u2c) (.slice u3a u3n u3c) (.slice u4a u4n u4c)) rfl (thC t (.slice u1a u1n u1c) (.slice u2a u2n u2c) (.slice u3a u3n u3c) (.slice u4a u4n u4c)) rfl (thC zeroT (.slice none 0 0) (.slice none 0 0) (.slice none 0 0) (.slice none 0 0)) 34 hZ2 rfl (th_one _ _ _ _ _ rfl rfl rfl rfl) Try.sizeT ?_
  go_wp2
  refine bodyPost_ret (results_cell1 rfl _ (w.heap.size + 1) _ (thV t (.slice u1a u1n u1c) (.slice u2a u2n u2c) (.slice u3a u3n u3c) (.slice u4a u4n u4c)) rfl rfl hfin.out.1 Try.rowT Try.sizeT) rfl ?_
  exact ⟨_, _, _, _, rfl, (oo1.fr hfin.out.2 (fun k hk => by omega)).mono (by omega), Fr.trans hN2 hfin.out.2 (fun k hk => .inr (by omega))⟩
end Go.Proofs.Ytppfcdnhmieejaa
