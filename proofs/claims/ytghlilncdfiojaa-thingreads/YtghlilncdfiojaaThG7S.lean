/-
  Read.
-/
import Derived.Test.YtghlilncdfiojaaThG6S
namespace Go.Proofs.Ytghlilncdfiojaa
set_option linter.unusedVariables false
set_option linter.unusedSimpArgs false
set_option maxRecDepth 20000
open Go.RowKit

/-- What Read answers. -/
def ReadP (bs : List UInt8) (e : Ending) (w' : World) : Prop :=
  (∃ t vL vC vK vD, RightT t ∧ WfT t ∧ imgO t = some bs ∧ e = .returned (.tuple #[thV t vL vC vK vD, .int .i64 0]) ∧ ThAt (fun b => b < w'.heap.size) w' t vL vC vK vD) ∨
  ((∀ u, RightT u → WfT u → imgO u ≠ some bs) ∧ e = .returned (.tuple #[(thV zeroT (.slice none 0 0) (.slice none 0 0) (.slice none 0 0) (.slice none 0 0)), .int .i64 111]))

theorem img_yes {t : Th} {e : Ending} {w' : World} {y : List UInt8} (h : ImgP t e w') (hr : RightT t) (hy : imgO t = some y) : ∃ a n c, e = .returned (.tuple #[.slice a n c, .int .i64 0]) ∧ BSl (fun b => b < w'.heap.size) w' (.slice a n c) y := by
  rcases h with ⟨_, v, y', h1, rfl, h3⟩ | ⟨h1, _⟩
  · rw [hy] at h1
    cases h1
    obtain ⟨a, c, rfl, _⟩ := h3.form
    exact ⟨a, _, c, rfl, h3⟩
  · exact absurd hr h1
theorem img_no {t : Th} {e : Ending} {w' : World} (h : ImgP t e w') (hr : ¬ RightT t) : e = .returned (.tuple #[.slice none 0 0, .int .i64 111]) := by
  rcases h with ⟨h1, _⟩ | ⟨_, h2⟩
  · exact absurd h1 hr
  · exact h2

set_option maxRecDepth 100000 in
set_option maxHeartbeats 6400000 in
theorem c_tread {K : Nat} {v : Value} {bs : List UInt8} (w : World) (hx : Sl K w v bs.length (bs.map bv)) (hK : K ≤ w.heap.size) :
    Calls Try.prog 18 #[v] w fun e w' => ReadP bs e w' ∧ Nw w w' := by
  obtain ⟨W, hW⟩ : ∃ W, Hid (W = w.alloc (.cells (thC zeroT (.slice none 0 0) (.slice none 0 0) (.slice none 0 0) (.slice none 0 0)).toArray 34)) := ⟨_, rfl⟩
  have nW : Nw w W := by rw [hW.out]; exact nw_alloc (nw_refl w) _
  have hZ : W.heap[w.heap.size]? = some (.cells (thC zeroT (.slice none 0 0) (.slice none 0 0) (.slice none 0 0) (.slice none 0 0)).toArray 34 (0, 0)) := by rw [hW.out]; exact heap_alloc_new w _
  have hxW : Sl K W v bs.length (bs.map bv) := hx.keep (nW.below hK (fun _ h => h.elim))
  have hWs : w.heap.size ≤ W.heap.size := nW.size
  have hcg : Hid _ := c_guessed (Z0 := w.heap.size) W hZ hxW (Nat.le_trans hK nW.size)
  obtain ⟨ao, cap, rfl, hcap, hao, _⟩ := hx
  generalize hvv : (Value.slice ao bs.length cap) = v at *
  replace hxW : Hid (Sl K W v bs.length (bs.map bv)) := hxW
  clear hcap hao
  go_enter Try.func18, Try.ntmps18
  go_upto_region 1 with (refine wpList_alloc_agg rfl 34 rfl _ Try.zeroTh ?_)
  rw [← hW.out]
  clear hW
  go_wp2_with (go_at_call 49; refine Calls.mono hcg.out ?_; rintro e W2 ⟨⟨t, vL, vC, vK, vD, rfl, ht, hwf, l1, l2, hguess⟩, n2⟩; refine stop_here ?_)
  unfold Hid
  clear hcg
  obtain ⟨g1, e1, rfl, _⟩ := ht.l.form
  obtain ⟨g2, e2, rfl, _⟩ := ht.c.form
  obtain ⟨g3, e3, rfl, _⟩ := ht.k.form
  obtain ⟨g4, e4, rfl, _⟩ := ht.d.form
  replace hZ := (n2.block _ (heap_lt hZ) (fun h => h)).trans hZ
  obtain ⟨Y, hY⟩ : ∃ Y, Hid (Y = W2.alloc (.cells (thC zeroT (.slice none 0 0) (.slice none 0 0) (.slice none 0 0) (.slice none 0 0)).toArray 34)) := ⟨_, rfl⟩
  have hP : Y.heap[W2.heap.size]? = some (.cells (thC zeroT (.slice none 0 0) (.slice none 0 0) (.slice none 0 0) (.slice none 0 0)).toArray 34 (0, 0)) := by rw [hY.out]; exact heap_alloc_new W2 _
  have nY : Nw W2 Y := by rw [hY.out]; exact nw_alloc (nw_refl _) _
  obtain ⟨Y2, hY2⟩ : ∃ Y2, Hid (Y2 = Y.setRow W2.heap.size (thC t (.slice g1 t.cats.length e1) (.slice g2 t.ccats.length e2) (.slice g3 t.links.length e3) (.slice g4 t.data.length e4)).toArray) := ⟨_, rfl⟩
  have hP2 : Y2.heap[W2.heap.size]? = some (.cells (thC t (.slice g1 t.cats.length e1) (.slice g2 t.ccats.length e2) (.slice g3 t.links.length e3) (.slice g4 t.data.length e4)).toArray 34 (0, 0)) := by rw [hY2.out]; exact setRow_heap _ _ _ _ _ _ hP
  have nY2 : Nw W2 Y2 := by rw [hY2.out]; exact Fr.setRow nY (.inr (Nat.le_refl _)) _
  replace hZ := (nY2.block _ (heap_lt hZ) (fun h => h)).trans hZ
  have ht2 := ht.nw nY2
  have nW2 : Hid (Nw w Y2) := nw_trans (nw_trans nW n2) nY2
  have nWY : Nw W Y2 := nw_trans n2 nY2
  replace hguess : Hid _ := hguess
  go_wp2_with (refine wpList_alloc_agg rfl 34 rfl _ Try.zeroTh ?_; rw [← hY.out]; refine stop_here ?_)
  unfold Hid
  refine wpList_store_all rfl 34 _ _ rfl W2.heap.size rfl (thV t (.slice g1 t.cats.length e1) (.slice g2 t.ccats.length e2) (.slice g3 t.links.length e3) (.slice g4 t.data.length e4)) rfl (thC t (.slice g1 t.cats.length e1) (.slice g2 t.ccats.length e2) (.slice g3 t.links.length e3) (.slice g4 t.data.length e4)) rfl (thC zeroT (.slice none 0 0) (.slice none 0 0) (.slice none 0 0) (.slice none 0 0)) 34 hP rfl (th_one _ _ _ _ _ rfl rfl rfl rfl) Try.sizeT ?_
  rw [← hY2.out]
  clear ht hP hY hY2 nY nY2 n2 nW
  have hr2 := range_all hP2
  have hci : Hid _ := c_timage Y2 ht2 hwf (by omega) (by omega)
  clear l1 l2
  by_cases hr : RightT t
  · obtain ⟨y, hy, -⟩ := img_some hr hwf
    go_wp2_with (first | (refine wpList_load_as rfl 34 _ rfl (W2.heap.size) 0 rfl (thV t (.slice g1 t.cats.length e1) (.slice g2 t.ccats.length e2) (.slice g3 t.links.length e3) (.slice g4 t.data.length e4)) _ rfl hr2 Try.rowT Try.sizeT ?_) | (go_at_call 16; refine Calls.mono hci.out ?_; rintro e V ⟨hip, n3⟩; obtain ⟨p1, p2, p3, rfl, hbs⟩ := img_yes hip hr hy; refine stop_here ?_))
    unfold Hid
    clear hci hr2
    have hcq : Hid _ := c_eqbs V hbs (bsl_of_sl ((hxW.out.keep ((nw_trans nWY n3).below (Nat.le_trans hK hWs) (fun _ h => h.elim)))))
    replace hZ := (n3.block _ (heap_lt hZ) (fun h => h)).trans hZ
    have hP3 := (n3.block _ (heap_lt hP2) (fun h => h)).trans hP2
    replace ht2 := ht2.nw n3
    clear hP2 nWY hxW
    by_cases hyb : y = bs
    · replace hyb : Hid _ := hyb
      go_upto_region 3 with fail
      go_wp2_with (go_at_call 38; refine Calls.mono hcq.out ?_; rintro e V2 ⟨r, rfl, hre, n4⟩; obtain rfl := hre.2 hyb.out; refine stop_here ?_)
      unfold Hid
      clear hcq
      replace hZ := (n4.block _ (heap_lt hZ) (fun h => h)).trans hZ
      replace hP3 := (n4.block _ (heap_lt hP3) (fun h => h)).trans hP3
      replace ht2 := ht2.nw n4
      have hr3 := range_all hP3
      have fin : Hid (ReadP bs (.returned (.tuple #[(thV t (.slice g1 t.cats.length e1) (.slice g2 t.ccats.length e2) (.slice g3 t.links.length e3) (.slice g4 t.data.length e4)), .int .i64 0])) (V2.setRow w.heap.size (thC t (.slice g1 t.cats.length e1) (.slice g2 t.ccats.length e2) (.slice g3 t.links.length e3) (.slice g4 t.data.length e4)).toArray) ∧ Nw w (V2.setRow w.heap.size (thC t (.slice g1 t.cats.length e1) (.slice g2 t.ccats.length e2) (.slice g3 t.links.length e3) (.slice g4 t.data.length e4)).toArray)) := by
        have fz : Fr (fun b => b = w.heap.size) V2 (V2.setRow w.heap.size (thC t (.slice g1 t.cats.length e1) (.slice g2 t.ccats.length e2) (.slice g3 t.links.length e3) (.slice g4 t.data.length e4)).toArray) := (Fr.refl (fun b => b = w.heap.size) V2).setRow (.inl rfl) _
        refine ⟨.inl ⟨t, _, _, _, _, hr, hwf, by rw [hy, hyb.out], rfl, ?_⟩, Fr.setRow (nw_trans (nw_trans nW2.out n3) n4) (.inr (Nat.le_refl _)) _⟩
        exact ht2.keep fz (fun b hb _ e => hb.2 e) (fun b _ hb => Nat.lt_of_lt_of_le hb fz.size)
      go_upto_region 5 with fail
      go_wp2_with (refine wpList_load_as rfl 34 _ rfl (W2.heap.size) 0 rfl (thV t (.slice g1 t.cats.length e1) (.slice g2 t.ccats.length e2) (.slice g3 t.links.length e3) (.slice g4 t.data.length e4)) _ rfl hr3 Try.rowT Try.sizeT ?_; refine stop_here ?_)
      unfold Hid
      refine wpList_store_all rfl 34 _ _ rfl w.heap.size rfl (thV t (.slice g1 t.cats.length e1) (.slice g2 t.ccats.length e2) (.slice g3 t.links.length e3) (.slice g4 t.data.length e4)) rfl (thC t (.slice g1 t.cats.length e1) (.slice g2 t.ccats.length e2) (.slice g3 t.links.length e3) (.slice g4 t.data.length e4)) rfl (thC zeroT (.slice none 0 0) (.slice none 0 0) (.slice none 0 0) (.slice none 0 0)) 34 hZ rfl (th_one _ _ _ _ _ rfl rfl rfl rfl) Try.sizeT ?_
      go_wp2
      refine bodyPost_ret (results_cell2 rfl _ w.heap.size _ (thV t (.slice g1 t.cats.length e1) (.slice g2 t.ccats.length e2) (.slice g3 t.links.length e3) (.slice g4 t.data.length e4)) rfl rfl (range_all (setRow_heap _ _ _ _ _ _ hZ)) Try.rowT Try.sizeT) rfl ?_
      exact fin.out
    · have hnone : Hid (∀ u, RightT u → WfT u → imgO u ≠ some bs) := fun u hu wu e => by
        have := hguess.out u hu wu e
        subst this
        rw [e] at hy
        exact hyb (Option.some.inj hy).symm
      replace hyb : Hid _ := hyb
      go_upto_region 3 with fail
      go_wp2_with (go_at_call 38; refine Calls.mono hcq.out ?_; rintro e V2 ⟨r, rfl, hre, n4⟩; obtain rfl : r = false := by (cases r; rfl; exact absurd (hre.1 rfl) hyb.out)
                   refine stop_here ?_)
      unfold Hid
      clear hcq
      replace hZ := (n4.block _ (heap_lt hZ) (fun h => h)).trans hZ
      have nV2 := nw_trans (nw_trans nW2.out n3) n4
      go_upto_region 4 with fail
      refine wp_region_list ?_
      simp only [List.toList_toArray, List.append_eq, List.cons_append, List.nil_append]
      refine wpList_build_as rfl 34 _ rfl (thV zeroT (.slice none 0 0) (.slice none 0 0) (.slice none 0 0) (.slice none 0 0)) (thC zeroT (.slice none 0 0) (.slice none 0 0) (.slice none 0 0) (.slice none 0 0)).toArray rfl ?z ?_
      case z =>
        simp only [List.map_nil]
        exact Try.builtZ
      simp only [pL, List.set]
      refine wpList_store_all rfl 34 _ _ rfl w.heap.size rfl (thV zeroT (.slice none 0 0) (.slice none 0 0) (.slice none 0 0) (.slice none 0 0)) rfl (thC zeroT (.slice none 0 0) (.slice none 0 0) (.slice none 0 0) (.slice none 0 0)) rfl (thC zeroT (.slice none 0 0) (.slice none 0 0) (.slice none 0 0) (.slice none 0 0)) 34 hZ rfl (th_one _ _ _ _ _ rfl rfl rfl rfl) Try.sizeT ?_
      go_wp2
      refine bodyPost_ret (results_cell2 rfl _ w.heap.size _ (thV zeroT (.slice none 0 0) (.slice none 0 0) (.slice none 0 0) (.slice none 0 0)) rfl rfl (range_all (setRow_heap _ _ _ _ _ _ hZ)) Try.rowT Try.sizeT) rfl ?_
      exact ⟨.inr ⟨hnone.out, rfl⟩, Fr.setRow nV2 (.inr (Nat.le_refl _)) _⟩
  · have hnone : Hid (∀ u, RightT u → WfT u → imgO u ≠ some bs) := fun u hu wu e => by
      have := hguess.out u hu wu e
      subst this
      exact hr hu
    go_wp2_with (first | (refine wpList_load_as rfl 34 _ rfl (W2.heap.size) 0 rfl (thV t (.slice g1 t.cats.length e1) (.slice g2 t.ccats.length e2) (.slice g3 t.links.length e3) (.slice g4 t.data.length e4)) _ rfl hr2 Try.rowT Try.sizeT ?_) | (go_at_call 16; refine Calls.mono hci.out ?_; rintro e V ⟨hip, n3⟩; obtain rfl := img_no hip hr; refine stop_here ?_))
    unfold Hid
    clear hci hr2 hP2
    replace hZ := (n3.block _ (heap_lt hZ) (fun h => h)).trans hZ
    have nV2 := nw_trans nW2.out n3
    go_upto_region 4 with fail
    refine wp_region_list ?_
    simp only [List.toList_toArray, List.append_eq, List.cons_append, List.nil_append]
    refine wpList_build_as rfl 34 _ rfl (thV zeroT (.slice none 0 0) (.slice none 0 0) (.slice none 0 0) (.slice none 0 0)) (thC zeroT (.slice none 0 0) (.slice none 0 0) (.slice none 0 0) (.slice none 0 0)).toArray rfl ?z ?_
    case z =>
      simp only [List.map_nil]
      exact Try.builtZ
    simp only [pL, List.set]
    refine wpList_store_all rfl 34 _ _ rfl w.heap.size rfl (thV zeroT (.slice none 0 0) (.slice none 0 0) (.slice none 0 0) (.slice none 0 0)) rfl (thC zeroT (.slice none 0 0) (.slice none 0 0) (.slice none 0 0) (.slice none 0 0)) rfl (thC zeroT (.slice none 0 0) (.slice none 0 0) (.slice none 0 0) (.slice none 0 0)) 34 hZ rfl (th_one _ _ _ _ _ rfl rfl rfl rfl) Try.sizeT ?_
    go_wp2
    refine bodyPost_ret (results_cell2 rfl _ w.heap.size _ (thV zeroT (.slice none 0 0) (.slice none 0 0) (.slice none 0 0) (.slice none 0 0)) rfl rfl (range_all (setRow_heap _ _ _ _ _ _ hZ)) Try.rowT Try.sizeT) rfl ?_
    exact ⟨.inr ⟨hnone.out, rfl⟩, Fr.setRow nV2 (.inr (Nat.le_refl _)) _⟩
end Go.Proofs.Ytghlilncdfiojaa
