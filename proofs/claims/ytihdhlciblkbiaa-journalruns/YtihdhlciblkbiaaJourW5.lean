/-
  Package journal: readBytes.
-/
import Derived.Test.YtihdhlciblkbiaaJourW4
import Derived.Test.YtihdhlciblkbiaaLibTree
namespace Go.Proofs.Ytihdhlciblkbiaa
set_option linter.unusedVariables false
set_option linter.unusedSimpArgs false
set_option maxRecDepth 20000
open Go.RowKit

/-- Inside a region that reads a sector into a new variable: nothing old turns; the variable, once it is there. -/
structure RdV (W wr : World) (G : Option Nat) : Prop where
  nw : Nw W wr
  var : ∀ g, G = some g → W.heap.size ≤ g ∧ wr.heap[g]? = some (.cells (z128.map bv).toArray 55 (0, 0))

theorem RdV.start (W : World) : RdV W W.drew none := ⟨(Fr.refl _ W).drew, fun _ e => by cases e⟩

theorem Nw.trans {a b c : World} (h : Nw a b) (k : Nw b c) : Nw a c := Fr.trans h k (fun _ => False.elim)

theorem RdV.call {W wr w1 : World} {G : Option Nat} (h : RdV W wr G) (hn : Nw wr w1) : RdV W w1 G :=
  ⟨h.nw.trans hn, fun g e => ⟨(h.var g e).1, (hn.block g (heap_lt (h.var g e).2) id).trans (h.var g e).2⟩⟩

theorem RdV.makeA {W wr : World} (h : RdV W wr none) : RdV W (wr.alloc (.cells (z128.map bv).toArray 55)) (some wr.heap.size) :=
  ⟨Fr.alloc h.nw _, fun g e => by
    simp only [Option.some.injEq] at e
    subst e
    exact ⟨h.nw.size, heap_alloc_new wr _⟩⟩

theorem RdV.put {W wr : World} {g : Nat} (h : RdV W wr (some g)) (L : List UInt8) :
    Nw W (wr.setRow g (L.map bv).toArray) ∧ W.heap.size ≤ g ∧ (wr.setRow g (L.map bv).toArray).heap[g]? = some (.cells (L.map bv).toArray 55 (0, 0)) :=
  ⟨Fr.setRow h.nw (.inr (h.var g rfl).1) _, (h.var g rfl).1, setRow_heap _ _ _ _ 55 _ (h.var g rfl).2⟩

/-- A slice of bytes cut at its end. -/
theorem run_upto (ao : Option Addr) (n cap h : Nat) (hh : h ≤ cap) (w : World) : (Instr.sliceAt 37 (.slice ao n cap) none (some (.int .i64 (h : Int))) none).run Try.prog w = .ok (.slice ao h cap) w := by
  have he : Try.prog.elem 37 = 5 := by kernel_rfl
  have hu : Try.prog.underlying 37 = some (.slice (Try.prog.elem 37)) := by rw [he]; exact Try.underlying37
  have h5 : (sizeOf 5).run Try.prog w = .ok 1 w := by
    have := Try.size5
    cases hq : Try.prog.info? 5 with
    | none => rw [hq] at this; cases this
    | some i =>
      rw [hq] at this
      simp only [Option.map_some, Option.some.injEq] at this
      simp [sizeOf, typeInfo, hq, this]
  rw [run_sliceAt_slice w _ _ _ _ _ hu, run_slice_h w _ _ _ _ hu .i64 (h : Int) (by omega) (by omega), he, h5]
  simp only [Result.andThen, sliced, Int.toNat_natCast, Nat.zero_mul, Nat.sub_zero]
  congr 2
  split
  · rfl
  · cases ao with
    | none => rfl
    | some a => simp [Addr.add]

theorem info5 : ∃ i, Try.prog.info? 5 = some i ∧ i.zero = some (.int .u8 0) ∧ i.size = 1 ∧ i.bytes = 1 := by
  have h : (Try.prog.info? 5).map (fun i => (i.zero, i.size, i.bytes)) = some (some (.int .u8 0), 1, 1) := by kernel_rfl
  cases hq : Try.prog.info? 5 with
  | none => rw [hq] at h; cases h
  | some i =>
    rw [hq] at h
    simp only [Option.map_some, Option.some.injEq, Prod.mk.injEq] at h
    exact ⟨i, rfl, h.1, h.2.1, h.2.2⟩

theorem owns_cap {w : World} {base e n : Nat} {ao : Option Addr} {cap : Nat} {xs : List Value} (h : w.ownsRow base e 1 (.slice ao n cap) n xs) : n ≤ cap ∧ cap ≤ maxLen := by
  obtain ⟨ao', cap', hv, hc, -⟩ := sl_of_owns h
  simp only [Value.slice.injEq, true_and] at hv
  obtain ⟨-, rfl⟩ := hv
  exact hc

/-- What was read, cut to its length, in new memory. -/
theorem fresh_cut {w wr : World} {ao : Option Addr} {m cap n : Nat} {bs : List UInt8} (h : wr.ownsRow w.heap.size 5 1 (.slice ao m cap) m (bs.map bv)) (hm : bs.length = m) (hn : n ≤ m) : Fresh w wr (.slice ao n cap) (bs.take n) := by
  obtain ⟨ao', cap', hv, hc, hz, hcs⟩ := (slp_of_owns h).keep (X' := fun b => w.heap.size ≤ b ∧ b < wr.heap.size) (fun b hb => ⟨h.lt b hb, rfl⟩)
  simp only [Value.slice.injEq, true_and] at hv
  obtain ⟨rfl, rfl⟩ := hv
  have hl : (bs.take n).length = n := by rw [List.length_take]; omega
  refine ⟨ao, cap, by rw [hl], by rw [hl]; exact ⟨by omega, hc.2⟩, hz, fun i c hi => hcs i c ?_⟩
  rw [List.getElem?_map, List.getElem?_take] at hi
  split at hi
  · rw [List.getElem?_map]; exact hi
  · simp at hi

set_option maxHeartbeats 3200000 in
theorem c_readBytes {base b : Nat} {S : Nat → Prop} {D : Dk} {j f gen cnt n : Nat} (w : World) (hD : DiskAt base w b S D) (hJ : JrAt w j b f gen cnt) (hn : n ≤ 384) (hr : headN f cnt + 4 ≤ D.st.length) :
    Calls Try.prog 55 #[.pointer (some ⟨j, 0, none⟩), .int .i64 (n : Int)] w fun e w' => ∃ v, e = .returned (.tuple #[v, .int .i64 0]) ∧ Fresh w w' v (D.recB f cnt n) ∧ Nw w w' := by
  have hok := hD.ok
  have hn3 := secsN_le hn
  have hge := secsN_ge n
  have hal : Try.prog.arrayLen 55 = 128 := by kernel_rfl
  obtain ⟨i0, hi, hz0, hz1, hz2⟩ := info5
  have hN2 : headN f cnt ≤ 2016 := by have := hJ.fl; have := hJ.cl; unfold headN; omega
  have hRB : Hid (D.recB f cnt n = (D.bytesAt (headN f cnt + 1) (secsN n)).take n) := rfl
  have hbl := fun k => bytesAt_length hok (headN f cnt + 1) k
  obtain ⟨m, hm⟩ : ∃ m, Hid (secsN n = m) := ⟨_, rfl⟩
  obtain ⟨hN0, hNE⟩ : ∃ hN0, Hid (headN f cnt = hN0) := ⟨_, rfl⟩
  rw [hm.out] at hn3 hge hRB
  rw [hNE.out] at hN2 hr hRB hbl
  go_enter Try.func55, Try.ntmps55
  go_wp2_with (go_at_call 43; refine (c_sectorsFor n _ (by omega)).mono ?_; rw [hm.out]; rintro e w' ⟨rfl, rfl⟩)
  go_loopw [6, 12] (fun v i wr => ∃ k : Nat, k ≤ m ∧ i = .int .i64 k ∧ wr.ownsRow w.heap.size 5 1 v (k * 128) ((D.bytesAt (hN0 + 1) k).map bv) ∧ Nw w wr) (fun _ i _ => m - (intOf i).toNat)
  case atStart => exact ⟨0, Nat.zero_le _, rfl, World.ownsRow_nil _ _ _ _, Fr.refl _ _⟩
  case round =>
    obtain ⟨k, hk, rfl, hown, hnw⟩ := hrel
    by_cases hlt : k < m
    case neg =>
      obtain rfl : k = m := by omega
      obtain ⟨ao, cap, rfl⟩ := owns_form hown
      obtain ⟨hc1, hc2⟩ := owns_cap hown
      have HF : Hid (Fresh w wr (.slice ao n cap) (D.recB f cnt n)) := by
        unfold Hid
        rw [hRB.out]
        exact fresh_cut hown (hbl k) (by omega)
      have kc : ∀ w' : World, (Instr.sliceAt 37 (.slice ao (k * 128) cap) none (some (.int .i64 (n : Int))) none).run Try.prog w' = .ok (.slice ao n cap) w' := fun w' => run_upto _ _ _ _ (by omega) w'
      clear hown hD hJ hRB hbl
      go_wp2
      go_ret2
      exact ⟨_, rfl, HF.out, hnw⟩
    have hD := hD.keep hnw (fun _ _ => id)
    have hJ := hJ.nw hnw
    have hw2 : IntKind.i64.wrap ((hN0 : Int) + 1) = (hN0 : Int) + 1 := by rw [IntKind.wrap_i64]; omega
    have hw3 : IntKind.i64.wrap ((hN0 : Int) + 1 + (k : Int)) = (hN0 : Int) + 1 + (k : Int) := by rw [IntKind.wrap_i64]; omega
    have hI : Hid (((hN0 : Int) + 1 + (k : Int)) = ((hN0 + 1 + k : Nat) : Int)) := by unfold Hid; omega
    have hhas : Hid (D.has ((hN0 + 1 + k : Nat) : Int) = true) := by unfold Hid Dk.has; simp; omega
    have hlen := hok.read ((hN0 + 1 + k : Nat) : Int)
    have hBS : Hid (D.bytesAt (hN0 + 1) (k + 1) = D.bytesAt (hN0 + 1) k ++ D.read ((hN0 + 1 + k : Nat) : Int)) := rfl
    obtain ⟨L, hL⟩ : ∃ L, Hid (L = D.read ((hN0 + 1 + k : Nat) : Int)) := ⟨_, rfl⟩
    rw [← hL.out] at hlen hBS
    have hC : Hid (∀ w', Nw wr w' → w'.cell? ⟨j, 0, none⟩ = some (.pointer (some ⟨b, 0, none⟩))) := fun w' h => (hJ.nw h).cells.1
    have hbk := hbl k
    obtain ⟨ao, cap, rfl⟩ := owns_form hown
    go_wp2
    have rg_1 := RdV.start wr
    refine wp_region_tree [] 15 (.quiet 0 (.quiet 1 (.quiet 2 (.quiet 3 (.quiet 4 (.quiet 7 (.two 5 (.quiet 6 (.quiet 8 (.two 9 (.quiet 10 (.quiet 11 (.quiet 12 (.one 13 (.one 14 .tail))))) 13 (.one 9 (.quiet 10 (.quiet 11 (.quiet 12 (.one 14 .tail)))))))) 13 (.one 5 (.quiet 6 (.quiet 8 (.one 9 (.quiet 10 (.quiet 11 (.quiet 12 (.one 14 .tail))))))))))))))) (fun w' : World => w'.cell? ⟨j, 0, none⟩ = some (.pointer (some ⟨b, 0, none⟩))) (fun a a' w' => ∃ g : Nat, a' = ((((((((((((((a.put (some 16) (.pointer (some ⟨j, 0, none⟩))).put (some 17) (.pointer (some ⟨j, 0, none⟩))).put (some 18) (.pointer (some ⟨j, 0, none⟩))).put (some 19) (.pointer (some ⟨b, 0, none⟩))).put (some 20) (.pointer (some ⟨j, 0, none⟩))).put (some 23) (.int .i64 (k : Int))).put (some 21) (.int .i64 (hN0 : Int))).put (some 22) (.int .i64 ((hN0 : Int) + 1))).put (some 24) (.int .i64 ((hN0 : Int) + 1 + (k : Int)))).put (some 25) (.tuple #[sec L, .int .i64 0])).put (some 15) (.tuple #[sec L, .int .i64 0])).put (some 26) (sec L)).put (some 27) (.int .i64 0)).put (some 8) (.pointer (some ⟨g, 0, none⟩))) ∧ Nw wr w' ∧ wr.heap.size ≤ g ∧ w'.heap[g]? = some (.cells (L.map bv).toArray 55 (0, 0))) (by kernel_rfl) (by kernel_rfl) ?_ ?_
    · skip
      refine tree_quiet _ ?_ rfl (hC.out _ rg_1.nw) rfl ?_ ?_
      rotate_left
      · rintro w' hS1; go_simp; rfl
      simp only [Act.put, List.setIfInBounds_toArray, List.set_cons_zero, List.set_cons_succ]
      refine tree_quiet _ ?_ rfl (hC.out _ rg_1.nw) rfl ?_ ?_
      rotate_left
      · rintro w' hS1; go_simp; rfl
      simp only [Act.put, List.setIfInBounds_toArray, List.set_cons_zero, List.set_cons_succ]
      refine tree_quiet _ ?_ rfl (hC.out _ rg_1.nw) rfl ?_ ?_
      rotate_left
      · rintro w' hS1; go_simp; rfl
      simp only [Act.put, List.setIfInBounds_toArray, List.set_cons_zero, List.set_cons_succ]
      refine tree_quiet _ ?_ rfl (hC.out _ rg_1.nw) rfl ?_ ?_
      rotate_left
      · rintro w' hS1; go_simp; rfl
      simp only [Act.put, List.setIfInBounds_toArray, List.set_cons_zero, List.set_cons_succ]
      refine tree_quiet _ ?_ rfl (hC.out _ rg_1.nw) rfl ?_ ?_
      rotate_left
      · rintro w' hS1; go_simp; rfl
      simp only [Act.put, List.setIfInBounds_toArray, List.set_cons_zero, List.set_cons_succ]
      refine tree_quiet _ ?_ rfl (hC.out _ rg_1.nw) rfl ?_ ?_
      rotate_left
      · rintro w' hS1; go_simp; rfl
      simp only [Act.put, List.setIfInBounds_toArray, List.set_cons_zero, List.set_cons_succ]
      generalize wr.drew = W_2 at *
      refine tree_two _ _ rfl rfl (fun K1 hK1 => ?_) (fun K1 hK1 => ?_)
      · skip
        go_wp2_with (go_at_call 29; refine stop_here ?_)
        unfold Hid
        refine (c_headAt _ (hJ.nw rg_1.nw)).mono ?_
        rw [hNE.out]
        rintro e W_3 ⟨rfl, hn_⟩
        have rg_4 := rg_1.call hn_
        clear hn_
        go_wp2
        refine hK1 _ _ (hC.out _ rg_4.nw) ?_
        clear hK1 K1
        refine tree_quiet _ ?_ rfl (hC.out _ rg_4.nw) rfl ?_ ?_
        rotate_left
        · rintro w' hS1; go_simp; rfl
        simp only [Act.put, List.setIfInBounds_toArray, List.set_cons_zero, List.set_cons_succ]
        refine tree_quiet _ ?_ rfl (hC.out _ rg_4.nw) rfl ?_ ?_
        rotate_left
        · rintro w' hS1; go_simp; rfl
        simp only [Act.put, List.setIfInBounds_toArray, List.set_cons_zero, List.set_cons_succ]
        refine tree_two _ _ rfl rfl (fun K1 hK1 => ?_) (fun K1 hK1 => ?_)
        · skip
          go_wp2_with (go_at_call 52; refine stop_here ?_)
          unfold Hid
          refine (c_read _ _ (hD.keep rg_4.nw (fun _ _ => id))).mono ?_
          rw [hI.out, ← hL.out, hhas.out, if_pos rfl]
          rintro e W_5 ⟨rfl, hn_⟩
          have rg_6 := rg_4.call hn_
          clear hn_
          go_wp2
          refine hK1 _ _ (hC.out _ rg_6.nw) ?_
          clear hK1 K1
          refine tree_quiet _ ?_ rfl (hC.out _ rg_6.nw) rfl ?_ ?_
          rotate_left
          · rintro w' hS1; go_simp; rfl
          simp only [Act.put, List.setIfInBounds_toArray, List.set_cons_zero, List.set_cons_succ]
          refine tree_quiet _ ?_ rfl (hC.out _ rg_6.nw) rfl ?_ ?_
          rotate_left
          · rintro w' hS1; go_simp; rfl
          simp only [Act.put, List.setIfInBounds_toArray, List.set_cons_zero, List.set_cons_succ]
          refine tree_quiet _ ?_ rfl (hC.out _ rg_6.nw) rfl ?_ ?_
          rotate_left
          · rintro w' hS1; go_simp; rfl
          simp only [Act.put, List.setIfInBounds_toArray, List.set_cons_zero, List.set_cons_succ]
          refine tree_one _ rfl (fun K1 hK1 => ?_)
          have rg_8 := rg_6.makeA
          go_wp2_with (refine wpList_alloc_agg rfl 55 rfl _ Try.zeroS ?_)
          refine hK1 _ _ (hC.out _ rg_8.nw) ?_
          clear hK1 K1
          generalize W_5.alloc (.cells (z128.map bv).toArray 55) = W_7 at *
          refine tree_one _ rfl (fun K1 hK1 => ?_)
          obtain ⟨hbw, hle, hput⟩ := rg_8.put L
          go_wp2_with (refine wpList_store_all rfl 55 _ _ rfl (W_5.heap.size) rfl (sec L) rfl _ rfl _ 55 (rg_8.var _ rfl).2 (sec_fit hlen) (bv_oneCell _) (sizeS hlen) ?_)
          refine hK1 _ _ (hC.out _ hbw) ?_
          refine tree_tail ?_
          exact ⟨_, rfl, hbw, hle, hput⟩
        · skip
          have rg_10 := rg_4.makeA
          go_wp2_with (refine wpList_alloc_agg rfl 55 rfl _ Try.zeroS ?_)
          refine hK1 _ _ (hC.out _ rg_10.nw) ?_
          clear hK1 K1
          generalize W_3.alloc (.cells (z128.map bv).toArray 55) = W_9 at *
          refine tree_one _ rfl (fun K1 hK1 => ?_)
          go_wp2_with (go_at_call 52; refine stop_here ?_)
          unfold Hid
          refine (c_read _ _ (hD.keep rg_10.nw (fun _ _ => id))).mono ?_
          rw [hI.out, ← hL.out, hhas.out, if_pos rfl]
          rintro e W_11 ⟨rfl, hn_⟩
          have rg_12 := rg_10.call hn_
          clear hn_
          go_wp2
          refine hK1 _ _ (hC.out _ rg_12.nw) ?_
          clear hK1 K1
          refine tree_quiet _ ?_ rfl (hC.out _ rg_12.nw) rfl ?_ ?_
          rotate_left
          · rintro w' hS1; go_simp; rfl
          simp only [Act.put, List.setIfInBounds_toArray, List.set_cons_zero, List.set_cons_succ]
          refine tree_quiet _ ?_ rfl (hC.out _ rg_12.nw) rfl ?_ ?_
          rotate_left
          · rintro w' hS1; go_simp; rfl
          simp only [Act.put, List.setIfInBounds_toArray, List.set_cons_zero, List.set_cons_succ]
          refine tree_quiet _ ?_ rfl (hC.out _ rg_12.nw) rfl ?_ ?_
          rotate_left
          · rintro w' hS1; go_simp; rfl
          simp only [Act.put, List.setIfInBounds_toArray, List.set_cons_zero, List.set_cons_succ]
          refine tree_one _ rfl (fun K1 hK1 => ?_)
          obtain ⟨hbw, hle, hput⟩ := rg_12.put L
          go_wp2_with (refine wpList_store_all rfl 55 _ _ rfl (W_3.heap.size) rfl (sec L) rfl _ rfl _ 55 (rg_12.var _ rfl).2 (sec_fit hlen) (bv_oneCell _) (sizeS hlen) ?_)
          refine hK1 _ _ (hC.out _ hbw) ?_
          refine tree_tail ?_
          exact ⟨_, rfl, hbw, hle, hput⟩
      · skip
        have rg_14 := rg_1.makeA
        go_wp2_with (refine wpList_alloc_agg rfl 55 rfl _ Try.zeroS ?_)
        refine hK1 _ _ (hC.out _ rg_14.nw) ?_
        clear hK1 K1
        generalize W_2.alloc (.cells (z128.map bv).toArray 55) = W_13 at *
        refine tree_one _ rfl (fun K1 hK1 => ?_)
        go_wp2_with (go_at_call 29; refine stop_here ?_)
        unfold Hid
        refine (c_headAt _ (hJ.nw rg_14.nw)).mono ?_
        rw [hNE.out]
        rintro e W_15 ⟨rfl, hn_⟩
        have rg_16 := rg_14.call hn_
        clear hn_
        go_wp2
        refine hK1 _ _ (hC.out _ rg_16.nw) ?_
        clear hK1 K1
        refine tree_quiet _ ?_ rfl (hC.out _ rg_16.nw) rfl ?_ ?_
        rotate_left
        · rintro w' hS1; go_simp; rfl
        simp only [Act.put, List.setIfInBounds_toArray, List.set_cons_zero, List.set_cons_succ]
        refine tree_quiet _ ?_ rfl (hC.out _ rg_16.nw) rfl ?_ ?_
        rotate_left
        · rintro w' hS1; go_simp; rfl
        simp only [Act.put, List.setIfInBounds_toArray, List.set_cons_zero, List.set_cons_succ]
        refine tree_one _ rfl (fun K1 hK1 => ?_)
        go_wp2_with (go_at_call 52; refine stop_here ?_)
        unfold Hid
        refine (c_read _ _ (hD.keep rg_16.nw (fun _ _ => id))).mono ?_
        rw [hI.out, ← hL.out, hhas.out, if_pos rfl]
        rintro e W_17 ⟨rfl, hn_⟩
        have rg_18 := rg_16.call hn_
        clear hn_
        go_wp2
        refine hK1 _ _ (hC.out _ rg_18.nw) ?_
        clear hK1 K1
        refine tree_quiet _ ?_ rfl (hC.out _ rg_18.nw) rfl ?_ ?_
        rotate_left
        · rintro w' hS1; go_simp; rfl
        simp only [Act.put, List.setIfInBounds_toArray, List.set_cons_zero, List.set_cons_succ]
        refine tree_quiet _ ?_ rfl (hC.out _ rg_18.nw) rfl ?_ ?_
        rotate_left
        · rintro w' hS1; go_simp; rfl
        simp only [Act.put, List.setIfInBounds_toArray, List.set_cons_zero, List.set_cons_succ]
        refine tree_quiet _ ?_ rfl (hC.out _ rg_18.nw) rfl ?_ ?_
        rotate_left
        · rintro w' hS1; go_simp; rfl
        simp only [Act.put, List.setIfInBounds_toArray, List.set_cons_zero, List.set_cons_succ]
        refine tree_one _ rfl (fun K1 hK1 => ?_)
        obtain ⟨hbw, hle, hput⟩ := rg_18.put L
        go_wp2_with (refine wpList_store_all rfl 55 _ _ rfl (W_2.heap.size) rfl (sec L) rfl _ rfl _ 55 (rg_18.var _ rfl).2 (sec_fit hlen) (bv_oneCell _) (sizeS hlen) ?_)
        refine hK1 _ _ (hC.out _ hbw) ?_
        refine tree_tail ?_
        exact ⟨_, rfl, hbw, hle, hput⟩
    rintro a' W2 ⟨g, rfl, hn2, hg, hblk⟩
    simp only [Act.put, List.setIfInBounds_toArray, List.set_cons_zero, List.set_cons_succ, List.drop_succ_cons, List.drop_zero]
    have hown2 := owns_keep hown (below_of_nw hn2)
    have hsl : Sl W2.heap.size W2 (.slice (some ⟨g, 0, none⟩) 128 128) 128 (L.map bv) := sl_blk hblk 0 128 128 _ (Nat.le_refl _) (by omega) (heap_lt hblk) (fun i x hx => by simpa using hx)
    have hnw2 := hnw.trans hn2
    clear hD hJ hC hhas hI hw2 hw3 hL hown
    go_wp2_with (at_builtin; refine wpList_append_sl _ rfl _ _ 37 rfl w.heap.size 5 i0 (.int .u8 0) 1 1 Try.underlying37 hi hz0 hz1 hz2 rfl (by decide) _ (k * 128) _ rfl hown2 _ _ 128 _ rfl hsl (by simpa using hlen) (bv_oneCell _) (by unfold maxLen; omega) (by omega) hnw2.size ?_; intro v3 W3 ho3 hg3 hv3)
    have ho4 : W3.ownsRow w.heap.size 5 1 v3 ((k + 1) * 128) ((D.bytesAt (hN0 + 1) (k + 1)).map bv) := by
      rw [hBS.out, List.map_append, show (k + 1) * 128 = k * 128 + 128 by omega]
      exact ho3
    have hn3' : Nw w W3 := Fr.grown hnw2 hg3 (fun q hq => .inr (hown2.lt q hq).1)
    obtain ⟨_, _, rfl⟩ := owns_form ho4
    clear ho3 hg3 hv3 hown2 hsl hblk hnw2 hn2 hnw
    go_wp2
    go_roundw
    case rel => exact ⟨k + 1, by omega, by go_num, ho4, hn3'⟩
    case measure => simp [intOf]; omega
end Go.Proofs.Ytihdhlciblkbiaa
