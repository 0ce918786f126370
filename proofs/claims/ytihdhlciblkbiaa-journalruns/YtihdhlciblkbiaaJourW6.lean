/-
  Package journal: readRecord.
-/
import Derived.Test.YtihdhlciblkbiaaJourW5
namespace Go.Proofs.Ytihdhlciblkbiaa
set_option linter.unusedVariables false
set_option linter.unusedSimpArgs false
set_option maxRecDepth 20000
open Go.RowKit

/-- What reading a place comes to. -/
def RecRead (D : Dk) (f gen cnt : Nat) (w : World) (e : Ending) (w' : World) : Prop :=
  Nw w w' ∧ ((∃ v x, D.recAt f gen cnt = some x ∧ e = .returned (.tuple #[v, .bool true]) ∧ Fresh w w' v x ∧ x.length ≤ 384) ∨
    (D.recAt f gen cnt = none ∧ e = .returned (.tuple #[.slice none 0 0, .bool false])))

theorem range_nw {w w' : World} {g o : Nat} {cs : List Value} (h : w.rangeAt g o cs) (hn : Nw w w') : w'.rangeAt g o cs :=
  fun i x hx => (World.cell?_of_block (w := w) (a := ⟨g, o + i, none⟩) (hn.block g (World.block_lt_of_cell? w _ (h i x hx)) id)).trans (h i x hx)

theorem cell_nw {w w' : World} {g o : Nat} {c : Value} (h : w.cell? ⟨g, o, none⟩ = some c) (hn : Nw w w') : w'.cell? ⟨g, o, none⟩ = some c :=
  (World.cell?_of_block (w := w) (a := ⟨g, o, none⟩) (hn.block g (World.block_lt_of_cell? w _ h) id)).trans h

theorem Fresh.nw {w w1 w2 : World} {v : Value} {bs : List UInt8} (h : Fresh w w1 v bs) (hn : Nw w1 w2) : Fresh w w2 v bs :=
  Slp.keep h fun q hq => ⟨⟨hq.1, Nat.lt_of_lt_of_le hq.2 hn.size⟩, hn.block q hq.2 id⟩

set_option maxHeartbeats 3200000 in
theorem c_readRecord {base b : Nat} {S : Nat → Prop} {D : Dk} {j f gen cnt : Nat} (w : World) (hD : DiskAt base w b S D) (hJ : JrAt w j b f gen cnt) (hr : headN f cnt + 4 ≤ D.st.length) :
    Calls Try.prog 37 #[.pointer (some ⟨j, 0, none⟩)] w fun e w' => RecRead D f gen cnt w e w' := by
  have hok := hD.ok
  have hD0 := hD
  have hJ0 := hJ
  have hr0 := hr
  have hlen := hok.read ((headN f cnt : Nat) : Int)
  have hRA : Hid (D.recAt f gen cnt = if hdOk gen cnt (D.read (headN f cnt : Int)) ∧ (crcAdd 0#32 (D.recB f cnt (rdN (D.read (headN f cnt : Int))))).toNat = rdS (D.read (headN f cnt : Int)) then some (D.recB f cnt (rdN (D.read (headN f cnt : Int)))) else none) := rfl
  have hrl := fun n => recB_length hok f cnt n
  obtain ⟨hN0, hNE⟩ : ∃ hN0, Hid (headN f cnt = hN0) := ⟨_, rfl⟩
  rw [hNE.out] at hr hlen hRA
  have hhas : Hid (D.has (hN0 : Int) = true) := by unfold Hid Dk.has; simp; omega
  obtain ⟨L, hL⟩ : ∃ L, Hid (L = D.read (hN0 : Int)) := ⟨_, rfl⟩
  rw [← hL.out] at hlen hRA
  have hC : Hid (∀ w', Nw w w' → w'.cell? ⟨j, 0, none⟩ = some (.pointer (some ⟨b, 0, none⟩))) := fun w' h => (hJ.nw h).cells.1
  go_enter Try.func37, Try.ntmps37
  go_wp2
  have rg_1 := RdV.start w
  refine wp_region_tree [] 12 (.quiet 0 (.quiet 1 (.quiet 2 (.quiet 3 (.quiet 4 (.two 5 (.two 6 (.quiet 7 (.quiet 8 (.quiet 9 (.one 10 (.one 11 .tail))))) 10 (.one 6 (.quiet 7 (.quiet 8 (.quiet 9 (.one 11 .tail)))))) 10 (.one 5 (.one 6 (.quiet 7 (.quiet 8 (.quiet 9 (.one 11 .tail)))))))))))) (fun w' : World => w'.cell? ⟨j, 0, none⟩ = some (.pointer (some ⟨b, 0, none⟩))) (fun a a' w' => ∃ g : Nat, a' = (((((((((((a.put (some 12) (.pointer (some ⟨j, 0, none⟩))).put (some 13) (.pointer (some ⟨j, 0, none⟩))).put (some 14) (.pointer (some ⟨j, 0, none⟩))).put (some 15) (.pointer (some ⟨b, 0, none⟩))).put (some 16) (.pointer (some ⟨j, 0, none⟩))).put (some 17) (.int .i64 (hN0 : Int))).put (some 18) (.tuple #[sec L, .int .i64 0])).put (some 11) (.tuple #[sec L, .int .i64 0])).put (some 19) (sec L)).put (some 20) (.int .i64 0)).put (some 4) (.pointer (some ⟨g, 0, none⟩))) ∧ Nw w w' ∧ w.heap.size ≤ g ∧ w'.heap[g]? = some (.cells (L.map bv).toArray 55 (0, 0))) (by kernel_rfl) (by kernel_rfl) ?_ ?_
  · skip
    refine tree_quiet _ ?_ rfl (hC.out _ rg_1.nw) rfl ?_ ?_
    rotate_left
    · rintro w' hS1; go_simp; rfl
    simp only [Act.put, List.setIfInBounds_toArray, List.set_cons_zero, List.set_cons_succ]
    refine tree_quiet _ ?_ rfl (hC.out _ rg_1.nw) rfl ?_ ?_
    rotate_left
    · rintro w' hS1; go_simp; rfl
    simp only [Act.put, List.setIfInBounds_toArray, List.set_cons_zero, List.set_cons_succ]
    refine tree_quiet _ ?_ rfl (hC.out _ rg_1.nw) rfl ?_ ?_
    rotate_left
    · rintro w' hS1; go_simp; rfl
    simp only [Act.put, List.setIfInBounds_toArray, List.set_cons_zero, List.set_cons_succ]
    refine tree_quiet _ ?_ rfl (hC.out _ rg_1.nw) rfl ?_ ?_
    rotate_left
    · rintro w' hS1; go_simp; rfl
    simp only [Act.put, List.setIfInBounds_toArray, List.set_cons_zero, List.set_cons_succ]
    refine tree_quiet _ ?_ rfl (hC.out _ rg_1.nw) rfl ?_ ?_
    rotate_left
    · rintro w' hS1; go_simp; rfl
    simp only [Act.put, List.setIfInBounds_toArray, List.set_cons_zero, List.set_cons_succ]
    generalize w.drew = W_2 at *
    refine tree_two _ _ rfl rfl (fun K1 hK1 => ?_) (fun K1 hK1 => ?_)
    · skip
      go_wp2_with (go_at_call 29; refine stop_here ?_)
      unfold Hid
      refine (c_headAt _ (hJ.nw rg_1.nw)).mono ?_
      rw [hNE.out]
      rintro e W_3 ⟨rfl, hn_⟩
      have rg_4 := rg_1.call hn_
      clear hn_
      go_wp2
      refine hK1 _ _ (hC.out _ rg_4.nw) ?_
      clear hK1 K1
      refine tree_two _ _ rfl rfl (fun K1 hK1 => ?_) (fun K1 hK1 => ?_)
      · skip
        go_wp2_with (go_at_call 52; refine stop_here ?_)
        unfold Hid
        refine (c_read _ _ (hD.keep rg_4.nw (fun _ _ => id))).mono ?_
        rw [← hL.out, hhas.out, if_pos rfl]
        rintro e W_5 ⟨rfl, hn_⟩
        have rg_6 := rg_4.call hn_
        clear hn_
        go_wp2
        refine hK1 _ _ (hC.out _ rg_6.nw) ?_
        clear hK1 K1
        refine tree_quiet _ ?_ rfl (hC.out _ rg_6.nw) rfl ?_ ?_
        rotate_left
        · rintro w' hS1; go_simp; rfl
        simp only [Act.put, List.setIfInBounds_toArray, List.set_cons_zero, List.set_cons_succ]
        refine tree_quiet _ ?_ rfl (hC.out _ rg_6.nw) rfl ?_ ?_
        rotate_left
        · rintro w' hS1; go_simp; rfl
        simp only [Act.put, List.setIfInBounds_toArray, List.set_cons_zero, List.set_cons_succ]
        refine tree_quiet _ ?_ rfl (hC.out _ rg_6.nw) rfl ?_ ?_
        rotate_left
        · rintro w' hS1; go_simp; rfl
        simp only [Act.put, List.setIfInBounds_toArray, List.set_cons_zero, List.set_cons_succ]
        refine tree_one _ rfl (fun K1 hK1 => ?_)
        have rg_8 := rg_6.makeA
        go_wp2_with (refine wpList_alloc_agg rfl 55 rfl _ Try.zeroS ?_)
        refine hK1 _ _ (hC.out _ rg_8.nw) ?_
        clear hK1 K1
        generalize W_5.alloc (.cells (z128.map bv).toArray 55) = W_7 at *
        refine tree_one _ rfl (fun K1 hK1 => ?_)
        obtain ⟨hbw, hle, hput⟩ := rg_8.put L
        go_wp2_with (refine wpList_store_all rfl 55 _ _ rfl (W_5.heap.size) rfl (sec L) rfl _ rfl _ 55 (rg_8.var _ rfl).2 (sec_fit hlen) (bv_oneCell _) (sizeS hlen) ?_)
        refine hK1 _ _ (hC.out _ hbw) ?_
        refine tree_tail ?_
        exact ⟨_, rfl, hbw, hle, hput⟩
      · skip
        have rg_10 := rg_4.makeA
        go_wp2_with (refine wpList_alloc_agg rfl 55 rfl _ Try.zeroS ?_)
        refine hK1 _ _ (hC.out _ rg_10.nw) ?_
        clear hK1 K1
        generalize W_3.alloc (.cells (z128.map bv).toArray 55) = W_9 at *
        refine tree_one _ rfl (fun K1 hK1 => ?_)
        go_wp2_with (go_at_call 52; refine stop_here ?_)
        unfold Hid
        refine (c_read _ _ (hD.keep rg_10.nw (fun _ _ => id))).mono ?_
        rw [← hL.out, hhas.out, if_pos rfl]
        rintro e W_11 ⟨rfl, hn_⟩
        have rg_12 := rg_10.call hn_
        clear hn_
        go_wp2
        refine hK1 _ _ (hC.out _ rg_12.nw) ?_
        clear hK1 K1
        refine tree_quiet _ ?_ rfl (hC.out _ rg_12.nw) rfl ?_ ?_
        rotate_left
        · rintro w' hS1; go_simp; rfl
        simp only [Act.put, List.setIfInBounds_toArray, List.set_cons_zero, List.set_cons_succ]
        refine tree_quiet _ ?_ rfl (hC.out _ rg_12.nw) rfl ?_ ?_
        rotate_left
        · rintro w' hS1; go_simp; rfl
        simp only [Act.put, List.setIfInBounds_toArray, List.set_cons_zero, List.set_cons_succ]
        refine tree_quiet _ ?_ rfl (hC.out _ rg_12.nw) rfl ?_ ?_
        rotate_left
        · rintro w' hS1; go_simp; rfl
        simp only [Act.put, List.setIfInBounds_toArray, List.set_cons_zero, List.set_cons_succ]
        refine tree_one _ rfl (fun K1 hK1 => ?_)
        obtain ⟨hbw, hle, hput⟩ := rg_12.put L
        go_wp2_with (refine wpList_store_all rfl 55 _ _ rfl (W_3.heap.size) rfl (sec L) rfl _ rfl _ 55 (rg_12.var _ rfl).2 (sec_fit hlen) (bv_oneCell _) (sizeS hlen) ?_)
        refine hK1 _ _ (hC.out _ hbw) ?_
        refine tree_tail ?_
        exact ⟨_, rfl, hbw, hle, hput⟩
    · skip
      have rg_14 := rg_1.makeA
      go_wp2_with (refine wpList_alloc_agg rfl 55 rfl _ Try.zeroS ?_)
      refine hK1 _ _ (hC.out _ rg_14.nw) ?_
      clear hK1 K1
      generalize W_2.alloc (.cells (z128.map bv).toArray 55) = W_13 at *
      refine tree_one _ rfl (fun K1 hK1 => ?_)
      go_wp2_with (go_at_call 29; refine stop_here ?_)
      unfold Hid
      refine (c_headAt _ (hJ.nw rg_14.nw)).mono ?_
      rw [hNE.out]
      rintro e W_15 ⟨rfl, hn_⟩
      have rg_16 := rg_14.call hn_
      clear hn_
      go_wp2
      refine hK1 _ _ (hC.out _ rg_16.nw) ?_
      clear hK1 K1
      refine tree_one _ rfl (fun K1 hK1 => ?_)
      go_wp2_with (go_at_call 52; refine stop_here ?_)
      unfold Hid
      refine (c_read _ _ (hD.keep rg_16.nw (fun _ _ => id))).mono ?_
      rw [← hL.out, hhas.out, if_pos rfl]
      rintro e W_17 ⟨rfl, hn_⟩
      have rg_18 := rg_16.call hn_
      clear hn_
      go_wp2
      refine hK1 _ _ (hC.out _ rg_18.nw) ?_
      clear hK1 K1
      refine tree_quiet _ ?_ rfl (hC.out _ rg_18.nw) rfl ?_ ?_
      rotate_left
      · rintro w' hS1; go_simp; rfl
      simp only [Act.put, List.setIfInBounds_toArray, List.set_cons_zero, List.set_cons_succ]
      refine tree_quiet _ ?_ rfl (hC.out _ rg_18.nw) rfl ?_ ?_
      rotate_left
      · rintro w' hS1; go_simp; rfl
      simp only [Act.put, List.setIfInBounds_toArray, List.set_cons_zero, List.set_cons_succ]
      refine tree_quiet _ ?_ rfl (hC.out _ rg_18.nw) rfl ?_ ?_
      rotate_left
      · rintro w' hS1; go_simp; rfl
      simp only [Act.put, List.setIfInBounds_toArray, List.set_cons_zero, List.set_cons_succ]
      refine tree_one _ rfl (fun K1 hK1 => ?_)
      obtain ⟨hbw, hle, hput⟩ := rg_18.put L
      go_wp2_with (refine wpList_store_all rfl 55 _ _ rfl (W_2.heap.size) rfl (sec L) rfl _ rfl _ 55 (rg_18.var _ rfl).2 (sec_fit hlen) (bv_oneCell _) (sizeS hlen) ?_)
      refine hK1 _ _ (hC.out _ hbw) ?_
      refine tree_tail ?_
      exact ⟨_, rfl, hbw, hle, hput⟩
  rintro a' W1 ⟨g, rfl, hn1, hg, hblk⟩
  simp only [Act.put, List.setIfInBounds_toArray, List.set_cons_zero, List.set_cons_succ, List.drop_succ_cons, List.drop_zero]
  have hrow := range_all hblk
  clear hD hJ hC hhas hL hblk
  go_wp2_with (first
    | (refine wpList_load_as rfl 55 (.tmp 4) rfl g 0 rfl (sec L) _ rfl hrow Try.rowS (sizeS hlen) ?_)
    | (go_at_call 53; refine stop_here ?_))
  unfold Hid
  refine (c_open L _ hlen).mono ?_
  rintro e W2 ⟨v2, rfl, hs2, hb2⟩
  have hn2 : Nw w W2 := hn1.trans (nw_of_below hb2)
  have hoM := oM_lt L
  have hoB := oB_length L
  obtain ⟨ao2, cap2, rfl⟩ := sl_form hs2
  clear hrow hb2 hn1 hg
  by_cases ho : (openS L).isSome = true
  case neg =>
    have ho' : (openS L).isSome = false := by simpa using ho
    have HN : Hid (D.recAt f gen cnt = none) := by unfold Hid; rw [hRA.out, if_neg (fun h => ho h.1.1)]
    rw [ho']
    clear hRA hD0 hJ0 hs2 ho ho'
    generalize oM L = mv at *
    generalize (oB L).length = bl at *
    go_wp2
    go_ret2
    exact ⟨hn2, .inr ⟨HN.out, rfl⟩⟩
  rw [ho]
  have hJ2 := hJ0.nw hn2
  go_wp2_with (go_at_call 48; refine stop_here ?_)
  unfold Hid
  refine (c_mark _ hJ2).mono ?_
  rintro e W3 ⟨rfl, hn3'⟩
  have hb3 := below_of_nw hn3'
  have hs3 := (hs2.keep hb3).mono hb3.size
  have hn3 := hn2.trans hn3'
  have hmk := hdMark_lt hJ2.gl hJ2.cl
  clear hs2 hn3' hb3 hn2 hJ2
  by_cases hm : oM L = hdMark gen cnt
  case neg =>
    have HN : Hid (D.recAt f gen cnt = none) := by unfold Hid; rw [hRA.out, if_neg (fun h => hm h.1.2.1)]
    have hne : ((oM L : Int) != (hdMark gen cnt : Int)) = true := by simp; omega
    clear hRA hD0 hJ0 hs3 ho hm
    generalize oM L = mv at *
    generalize hdMark gen cnt = mk at *
    generalize (oB L).length = bl at *
    go_wp2
    go_ret2
    exact ⟨hn3, .inr ⟨HN.out, rfl⟩⟩
  obtain ⟨mk, hmkE⟩ : ∃ mk, Hid (hdMark gen cnt = mk) := ⟨_, rfl⟩
  have hm0 : Hid (oM L = hdMark gen cnt) := hm
  rw [hm, hmkE.out]
  rw [hmkE.out] at hmk
  clear hm
  go_wp2_with (go_at_call 54; refine stop_here ?_)
  unfold Hid
  refine (c_unpack ⟨#[50, 52]⟩ _ _ (oB L) _ (by decide) hs3 (Nat.le_refl _)).mono ?_
  have hu24 := unpack24 (oB L)
  rintro e W4 ⟨hb4, hcase⟩
  rw [show (⟨#[50, 52]⟩ : ByteArray).data.toList = [50, 52] from rfl, hu24] at hcase
  have hn4 := hn3.trans (nw_of_below hb4)
  clear hb4 hs3 hn3 hu24
  by_cases h6 : (oB L).length = 6
  case neg =>
    have HN : Hid (D.recAt f gen cnt = none) := by unfold Hid; rw [hRA.out, if_neg (fun h => h6 h.1.2.2.1)]
    rw [if_neg h6] at hcase
    rcases hcase with ⟨fs, v, hu, -, -⟩ | ⟨-, rfl⟩
    · cases hu
    clear hRA hD0 hJ0 ho hm0 h6
    generalize (oB L).length = bl at *
    go_wp2
    go_ret2
    exact ⟨hn4, .inr ⟨HN.out, rfl⟩⟩
  rw [if_pos h6] at hcase
  rcases hcase with ⟨fs, v, hu, rfl, hf⟩ | ⟨hu, -⟩
  case inr => cases hu
  obtain rfl := Option.some.inj hu
  obtain ⟨aof, capf, rfl, hcf, -, hcs⟩ := hf
  obtain ⟨fb, foff, bv0, rfl, hbK, hc0, -, -, hl0, -⟩ := hcs 0 _ rfl
  obtain ⟨b1, off1, bv1, he, -, hc1, -, -, hl1, -⟩ := hcs 1 _ rfl
  simp only [Option.some.injEq, Addr.mk.injEq, and_true] at he
  obtain ⟨rfl, rfl⟩ := he
  have hc0 : W4.cell? ⟨fb, foff, none⟩ = some (.int .u64 (rdN L : Int)) := hc0
  have hc1 : W4.cell? ⟨fb, foff + 2, none⟩ = some (.int .u64 (rdS L : Int)) := hc1
  have hl1 : rdS L < 18446744073709551616 := hl1
  have hNl := rdN_lt L
  clear hu hcs hbK hl0
  simp only [List.length_cons, List.length_nil, Nat.zero_add, Nat.reduceAdd] at hcf ⊢
  by_cases hN : rdN L ≤ 384
  case neg =>
    have HN : Hid (D.recAt f gen cnt = none) := by unfold Hid; rw [hRA.out, if_neg (fun h => hN h.1.2.2.2)]
    have hd : decide (384 < (rdN L : Int)) = true := decide_eq_true (by omega)
    clear hRA hD0 hJ0 ho hm0 h6 hc1 hN
    generalize (oB L).length = bl at *
    generalize rdN L = rn at *
    go_wp2
    go_ret2
    exact ⟨hn4, .inr ⟨HN.out, rfl⟩⟩
  have hd : decide (384 < (rdN L : Int)) = false := decide_eq_false (by omega)
  have hRA2 : Hid (D.recAt f gen cnt = if (crcAdd 0#32 (D.recB f cnt (rdN L))).toNat = rdS L then some (D.recB f cnt (rdN L)) else none) := by
    unfold Hid
    rw [hRA.out]
    by_cases hq : (crcAdd 0#32 (D.recB f cnt (rdN L))).toNat = rdS L
    · rw [if_pos hq, if_pos ⟨⟨ho, hm0.out, h6, hN⟩, hq⟩]
    · rw [if_neg hq, if_neg (fun h => hq h.2)]
  have hiw : IntKind.i64.wrap (rdN L : Int) = (rdN L : Int) := by rw [IntKind.wrap_i64]; omega
  have hx := hrl (rdN L)
  clear hRA ho hm0 h6 hrl
  generalize (oB L).length = bl at *
  generalize rdN L = rn at *
  generalize rdS L = rs at *
  go_wp2_with (go_at_call 55; refine stop_here ?_)
  unfold Hid
  refine (c_readBytes _ (hD0.keep hn4 (fun _ _ => id)) (hJ0.nw hn4) hN hr0).mono ?_
  rintro e W5 ⟨v5, rfl, hfr, hn5'⟩
  have hs5 : Sl W5.heap.size W5 v5 (D.recB f cnt rn).length ((D.recB f cnt rn).map bv) := Slp.slw hfr
  have hn5 := hn4.trans hn5'
  have hfr5 := hfr.later (w := w) hn4.size
  have hc1 := cell_nw hc1 hn5'
  clear hfr hn5' hn4 hD0 hJ0 hc0
  obtain ⟨x, hxE⟩ : ∃ x, Hid (x = D.recB f cnt rn) := ⟨_, rfl⟩
  rw [← hxE.out] at hx hs5 hfr5 hRA2
  clear hxE
  subst hx
  obtain ⟨ao5, cap5, rfl⟩ := sl_form hs5
  have hpt := (parts_one (n := W5.heap.size) 37 hs5 (Nat.le_refl _) (by omega) rfl).keep ((Below.refl _ _).drew)
  have hb6 : Below W5.heap.size W5 (W5.alloc (.cells #[.slice ao5 x.length cap5] 37)).drew := ((Below.refl _ _).alloc (Nat.le_refl _) _).drew
  have hc6 := cell_nw hc1 (nw_of_below hb6)
  have hn6 := hn5.trans (nw_of_below hb6)
  have hfr6 := hfr5.nw (nw_of_below hb6)
  clear hs5 hn5 hfr5 hb6
  go_wp2
  have hS : (fun w' : World => w'.cell? ⟨fb, foff + 2, none⟩ = some (.int .u64 (rs : Int))) W5.drew := hc1
  refine wp_region_ord [] 12 [(0, true), (1, true), (2, true), (3, true), (7, true), (8, true), (9, true), (10, true), (4, false), (5, false), (6, true), (11, true)] (fun w' : World => w'.cell? ⟨fb, foff + 2, none⟩ = some (.int .u64 (rs : Int))) (by kernel_rfl) (by kernel_rfl) ?_
  refine ord_quietL _ ?_ rfl hS rfl ?_ ?_
  rotate_left
  · rintro w' hS1; go_simp; rfl
  simp only [Act.put, List.setIfInBounds_toArray, List.set_cons_zero, List.set_cons_succ]
  refine ord_quietL _ ?_ rfl hS rfl ?_ ?_
  rotate_left
  · rintro w' hS1; go_simp; rfl
  simp only [Act.put, List.setIfInBounds_toArray, List.set_cons_zero, List.set_cons_succ]
  refine ord_quietL _ ?_ rfl hS rfl ?_ ?_
  rotate_left
  · rintro w' hS1; go_simp; rfl
  simp only [Act.put, List.setIfInBounds_toArray, List.set_cons_zero, List.set_cons_succ]
  refine ord_quietL _ ?_ rfl hS rfl ?_ ?_
  rotate_left
  · rintro w' hS1; go_simp; rfl
  simp only [Act.put, List.setIfInBounds_toArray, List.set_cons_zero, List.set_cons_succ]
  refine ord_quietL _ ?_ rfl hS rfl ?_ ?_
  rotate_left
  · rintro w' hS1; go_simp; rfl
  simp only [Act.put, List.setIfInBounds_toArray, List.set_cons_zero, List.set_cons_succ]
  refine ord_quietL _ ?_ rfl hS rfl ?_ ?_
  rotate_left
  · rintro w' hS1; go_simp; rfl
  simp only [Act.put, List.setIfInBounds_toArray, List.set_cons_zero, List.set_cons_succ]
  refine ord_quietL _ ?_ rfl hS rfl ?_ ?_
  rotate_left
  · rintro w' hS1; go_simp; rfl
  simp only [Act.put, List.setIfInBounds_toArray, List.set_cons_zero, List.set_cons_succ]
  refine ord_quietL _ ?_ rfl hS rfl ?_ ?_
  rotate_left
  · rintro w' hS1; go_simp; rfl
  simp only [Act.put, List.setIfInBounds_toArray, List.set_cons_zero, List.set_cons_succ]
  refine ord_actL _ rfl (fun K1 hK1 => ?_)
  go_wp2
  refine hK1 _ _ hc6 ?_
  clear hK1 K1 hS hc1
  generalize (W5.alloc (.cells #[.slice ao5 x.length cap5] 37)).drew = W6 at *
  refine ord_actL _ rfl (fun K1 hK1 => ?_)
  go_wp2_with fail
  refine (c_sum _ _ [x] _ hpt (by simp)).mono ?_
  rintro e w6 ⟨rfl, rfl⟩
  have hcs : Hid (∃ c : BitVec 32, crcSum [x] = c ∧ c.toNat = (crcAdd 0#32 x).toNat) := ⟨_, rfl, rfl⟩
  obtain ⟨c, hcs1, hcs2⟩ := hcs.out
  rw [hcs1]
  have hcs2 : Hid (c.toNat = (crcAdd 0#32 x).toNat) := hcs2
  have hcw : IntKind.u64.wrap (tn c) = tn c := by rw [IntKind.wrap_u64]; have := tn_lo c; have := tn_hi c; omega
  have hcm : tn c % 18446744073709551616 = tn c := by have := tn_lo c; have := tn_hi c; omega
  have hT : Hid (tn c = ((c.toNat : Nat) : Int)) := rfl
  clear hcs hcs1 hpt
  by_cases hq : c.toNat = rs
  · have HN : Hid (D.recAt f gen cnt = some x) := by unfold Hid; rw [hRA2.out, if_pos (by rw [← hcs2.out]; exact hq)]
    have hne : (tn c != (rs : Int)) = false := by rw [hT.out, hq]; simp
    clear hRA2 hcs2 hq
    go_wp2
    refine hK1 _ _ hc6 ?_
    clear hK1 K1
    refine ord_quietL _ ?_ rfl hc6 rfl ?_ ?_
    rotate_left
    · rintro w' hS1; go_simp; rfl
    simp only [Act.put, List.setIfInBounds_toArray, List.set_cons_zero, List.set_cons_succ]
    refine ord_quietL _ ?_ rfl hc6 rfl ?_ ?_
    rotate_left
    · rintro w' hS1; go_simp; rfl
    simp only [Act.put, List.setIfInBounds_toArray, List.set_cons_zero, List.set_cons_succ]
    refine ord_tail ?_
    simp only [List.drop_succ_cons, List.drop_zero]
    clear hc6 hT
    go_wp2
    go_ret2
    exact ⟨hn6, .inl ⟨_, _, HN.out, rfl, hfr6, hN⟩⟩
  · have HN : Hid (D.recAt f gen cnt = none) := by unfold Hid; rw [hRA2.out, if_neg (by rw [← hcs2.out]; exact hq)]
    have hne : (tn c != (rs : Int)) = true := by rw [hT.out]; simp; omega
    clear hRA2 hcs2 hq
    go_wp2
    refine hK1 _ _ hc6 ?_
    clear hK1 K1
    refine ord_quietL _ ?_ rfl hc6 rfl ?_ ?_
    rotate_left
    · rintro w' hS1; go_simp; rfl
    simp only [Act.put, List.setIfInBounds_toArray, List.set_cons_zero, List.set_cons_succ]
    refine ord_quietL _ ?_ rfl hc6 rfl ?_ ?_
    rotate_left
    · rintro w' hS1; go_simp; rfl
    simp only [Act.put, List.setIfInBounds_toArray, List.set_cons_zero, List.set_cons_succ]
    refine ord_tail ?_
    simp only [List.drop_succ_cons, List.drop_zero]
    clear hc6 hT
    go_wp2
    go_ret2
    exact ⟨hn6, .inr ⟨HN.out, rfl⟩⟩
end Go.Proofs.Ytihdhlciblkbiaa
