/-
  SealApart returns true for every two marks and bodies: unlike marks or bodies have unlike seals.
  Conditions: none; the statement is the given one, for every input.
-/
import Derived.Test.YtpkefojkehahlaaRows
import Derived.Test.YtpkefojkehahlaaSealT1
import Derived.WalkKit
import Derived.ProofKit
import Derived.OpenShut
import Derived.ShutString
import Derived.ChangeOld
import Derived.Below
import Derived.SizedLaws
namespace Go.Proofs.Ytpkefojkehahlaa.sealApart
open Go.ChangeShapes Go.WideShapes Go.ChangeAt Go.RowKit
open Go.ChangeMaps (open_string shut_string)
set_option linter.unusedVariables false
set_option linter.unusedSimpArgs false

theorem own : ownKnob Try.prog.godebug = none := by kernel_rfl
theorem laidOut : laidOutB Try.prog = true := by kernel_rfl

set_option maxRecDepth 20000 in
set_option maxHeartbeats 3200000 in
/-- The law's own walk. -/
theorem walk (w : World) (a0 b0 : Nat) (w0 : a0 < 18446744073709551616) (u0 : b0 < 18446744073709551616) (v1 u1 : Value) (x1 y1 : List UInt8) (w1 : Sl w.heap.size w v1 x1.length (x1.map bv)) (q1 : Sl w.heap.size w u1 y1.length (y1.map bv)) (l1 : x1.length ≤ 140737488351232) (k1 : y1.length ≤ 140737488351232) :
    Calls Try.prog 8 #[.agg #[.int .u64 (a0 : Int), .int .u64 (b0 : Int)], .agg #[v1, u1]] w fun e w' => e = .returned (.bool true) ∧ Below w.heap.size w w' := by
  obtain ⟨i0, hi, hz0, hz1, hz2⟩ := info_parts Try.info5
  have hal1 : Try.prog.arrayLen 37 = 2 := by kernel_rfl
  have hal2 : Try.prog.arrayLen 38 = 2 := by kernel_rfl
  obtain ⟨vo, vc, rfl⟩ := sl_form w1
  obtain ⟨uo, uc, rfl⟩ := sl_form q1
  have hst := TwAt.start w a0 b0 (.slice vo x1.length vc) (.slice uo y1.length uc)
  obtain ⟨L0, hL0⟩ : ∃ L, Hid (L = mkS a0 x1) := ⟨_, rfl⟩
  obtain ⟨E0, hE0⟩ : ∃ E, Hid (E = mkE a0 x1) := ⟨_, rfl⟩
  obtain ⟨L1, hL1⟩ : ∃ L, Hid (L = mkS b0 y1) := ⟨_, rfl⟩
  obtain ⟨E1, hE1⟩ : ∃ E, Hid (E = mkE b0 y1) := ⟨_, rfl⟩
  have hlen0 : L0.length = 128 := by rw [hL0.out]; exact mkS_length _ _
  have hlen1 : L1.length = 128 := by rw [hL1.out]; exact mkS_length _ _
  go_enter Try.func8, Try.ntmps8
  go_wp2_with (first
    | (go_at_call 11; refine stop_here ?_))
  unfold Hid
  refine (c_alive _).mono ?_
  rintro e W1 ⟨rfl, hb1⟩
  have hat1 := hst.keep hb1
  clear hst hb1
  go_wp2
  have rg0_1 := RgAt.start hat1
  refine wp_region_tree [] 12 (.quiet 0 (.quiet 1 (.quiet 3 (.quiet 4 (.two 2 (.two 5 (.two 6 (.quiet 7 (.quiet 8 (.quiet 9 (.one 10 (.one 11 .tail))))) 10 (.one 6 (.quiet 7 (.quiet 8 (.quiet 9 (.one 11 .tail)))))) 10 (.one 5 (.one 6 (.quiet 7 (.quiet 8 (.quiet 9 (.one 11 .tail))))))) 10 (.one 2 (.one 5 (.one 6 (.quiet 7 (.quiet 8 (.quiet 9 (.one 11 .tail)))))))))))) (TwS w.heap.size a0 b0 (.slice vo x1.length vc) (.slice uo y1.length uc)) (fun a a' w' => ∃ (u v : Value) (g : Nat), a' = (((((((((((a.put (some 12) (.pointer (some ⟨w.heap.size, 0, none⟩))).put (some 13) (.int .u64 (a0 : Int))).put (some 14) u).put (some 15) (.pointer (some ⟨w.heap.size + 1, 0, none⟩))).put (some 16) (.slice vo x1.length vc)).put (some 17) v).put (some 18) (.tuple #[sec L0, .int .i64 E0])).put (some 11) (.tuple #[sec L0, .int .i64 E0])).put (some 19) (sec L0)).put (some 20) (.int .i64 E0)).put (some 5) (.pointer (some ⟨g, 0, none⟩))) ∧ TwAt w w' a0 b0 (.slice vo x1.length vc) (.slice uo y1.length uc) ∧ Below W1.heap.size W1 w' ∧ w'.heap[g]? = some (.cells (L0.map bv).toArray 27 (0, 0))) (by kernel_rfl) (by kernel_rfl) ?_ ?_
  · skip
    refine tree_quiet _ ?_ rfl rg0_1.tw.s rfl ?_ ?_
    rotate_left
    · rintro w' ⟨hS1, hS2, hS3, hS4⟩; go_simp; rfl
    simp only [Act.put, List.setIfInBounds_toArray, List.set_cons_zero, List.set_cons_succ]
    refine tree_quiet _ ?_ rfl rg0_1.tw.s rfl ?_ ?_
    rotate_left
    · rintro w' ⟨hS1, hS2, hS3, hS4⟩; go_simp; rfl
    simp only [Act.put, List.setIfInBounds_toArray, List.set_cons_zero, List.set_cons_succ]
    refine tree_quiet _ ?_ rfl rg0_1.tw.s rfl ?_ ?_
    rotate_left
    · rintro w' ⟨hS1, hS2, hS3, hS4⟩; go_simp; rfl
    simp only [Act.put, List.setIfInBounds_toArray, List.set_cons_zero, List.set_cons_succ]
    refine tree_quiet _ ?_ rfl rg0_1.tw.s rfl ?_ ?_
    rotate_left
    · rintro w' ⟨hS1, hS2, hS3, hS4⟩; go_simp; rfl
    simp only [Act.put, List.setIfInBounds_toArray, List.set_cons_zero, List.set_cons_succ]
    generalize W1.drew = W0_2 at *
    refine tree_two _ _ rfl rfl (fun K1 hK1 => ?_) (fun K1 hK1 => ?_)
    · skip
      have rg0_3 := rg0_1.makeB
      go_wp2
      refine hK1 _ _ rg0_3.tw.s ?_
      clear hK1 K1
      have hrow := rg0_3.row _ _ rfl
      generalize W0_2.alloc (.cells #[] 5) = W0_4 at *
      refine tree_two _ _ rfl rfl (fun K1 hK1 => ?_) (fun K1 hK1 => ?_)
      · skip
        have hsl := w1.keep rg0_3.tw.bel
        go_wp2_with (at_builtin; refine wpList_append_sl _ rfl _ _ 23 rfl W1.heap.size 5 i0 (.int .u8 0) 1 1 Try.underlying23 hi hz0 hz1 hz2 rfl (by decide) _ 0 [] rfl hrow w.heap.size _ x1.length (x1.map bv) rfl hsl (by simp) (bv_oneCell _) (by unfold maxLen; omega) (by omega) rg0_3.bel.size ?_)
        intro v0_5 W0_6 ho hgr hvr
        have rg0_7 := rg0_3.grow (ys := x1) (by simpa using ho) hgr hvr
        have hrow := rg0_7.row _ _ rfl
        obtain ⟨_, _, rfl⟩ := owns_form hrow
        clear ho hgr hvr hsl
        go_wp2
        refine hK1 _ _ rg0_7.tw.s ?_
        clear hK1 K1
        refine tree_two _ _ rfl rfl (fun K1 hK1 => ?_) (fun K1 hK1 => ?_)
        · skip
          go_wp2_with (go_at_call 10; refine stop_here ?_)
          unfold Hid
          refine (c_make a0 _ x1 _ _ w0 (sl_of_owns hrow) (Nat.le_refl _) (by omega)).mono ?_
          rw [← hL0.out, ← hE0.out]
          rintro e W0_8 ⟨rfl, hbc⟩
          have rg0_9 := rg0_7.call hbc
          clear hbc hrow
          go_wp2
          refine hK1 _ _ rg0_9.tw.s ?_
          clear hK1 K1
          refine tree_quiet _ ?_ rfl rg0_9.tw.s rfl ?_ ?_
          rotate_left
          · rintro w' ⟨hS1, hS2, hS3, hS4⟩; go_simp; rfl
          simp only [Act.put, List.setIfInBounds_toArray, List.set_cons_zero, List.set_cons_succ]
          refine tree_quiet _ ?_ rfl rg0_9.tw.s rfl ?_ ?_
          rotate_left
          · rintro w' ⟨hS1, hS2, hS3, hS4⟩; go_simp; rfl
          simp only [Act.put, List.setIfInBounds_toArray, List.set_cons_zero, List.set_cons_succ]
          refine tree_quiet _ ?_ rfl rg0_9.tw.s rfl ?_ ?_
          rotate_left
          · rintro w' ⟨hS1, hS2, hS3, hS4⟩; go_simp; rfl
          simp only [Act.put, List.setIfInBounds_toArray, List.set_cons_zero, List.set_cons_succ]
          refine tree_one _ rfl (fun K1 hK1 => ?_)
          have rg0_10 := rg0_9.makeA
          go_wp2_with (refine wpList_alloc_agg rfl 27 rfl _ Try.zeroS ?_)
          refine hK1 _ _ rg0_10.tw.s ?_
          clear hK1 K1
          generalize W0_8.alloc (.cells (z128.map bv).toArray 27) = W0_11 at *
          refine tree_one _ rfl (fun K1 hK1 => ?_)
          obtain ⟨htw, hbw, hput⟩ := rg0_10.put L0
          go_wp2_with (refine wpList_store_all rfl 27 _ _ rfl (W0_8.heap.size) rfl (sec L0) rfl _ rfl _ 27 (rg0_10.var _ rfl).2 (sec_fit hlen0) (bv_oneCell _) (sizeS hlen0) ?_)
          refine hK1 _ _ htw.s ?_
          refine tree_tail ?_
          exact ⟨_, _, _, rfl, htw, hbw, hput⟩
        · skip
          have rg0_12 := rg0_7.makeA
          go_wp2_with (refine wpList_alloc_agg rfl 27 rfl _ Try.zeroS ?_)
          refine hK1 _ _ rg0_12.tw.s ?_
          clear hK1 K1
          have hrow := rg0_12.row _ _ rfl
          generalize W0_6.alloc (.cells (z128.map bv).toArray 27) = W0_13 at *
          refine tree_one _ rfl (fun K1 hK1 => ?_)
          go_wp2_with (go_at_call 10; refine stop_here ?_)
          unfold Hid
          refine (c_make a0 _ x1 _ _ w0 (sl_of_owns hrow) (Nat.le_refl _) (by omega)).mono ?_
          rw [← hL0.out, ← hE0.out]
          rintro e W0_14 ⟨rfl, hbc⟩
          have rg0_15 := rg0_12.call hbc
          clear hbc hrow
          go_wp2
          refine hK1 _ _ rg0_15.tw.s ?_
          clear hK1 K1
          refine tree_quiet _ ?_ rfl rg0_15.tw.s rfl ?_ ?_
          rotate_left
          · rintro w' ⟨hS1, hS2, hS3, hS4⟩; go_simp; rfl
          simp only [Act.put, List.setIfInBounds_toArray, List.set_cons_zero, List.set_cons_succ]
          refine tree_quiet _ ?_ rfl rg0_15.tw.s rfl ?_ ?_
          rotate_left
          · rintro w' ⟨hS1, hS2, hS3, hS4⟩; go_simp; rfl
          simp only [Act.put, List.setIfInBounds_toArray, List.set_cons_zero, List.set_cons_succ]
          refine tree_quiet _ ?_ rfl rg0_15.tw.s rfl ?_ ?_
          rotate_left
          · rintro w' ⟨hS1, hS2, hS3, hS4⟩; go_simp; rfl
          simp only [Act.put, List.setIfInBounds_toArray, List.set_cons_zero, List.set_cons_succ]
          refine tree_one _ rfl (fun K1 hK1 => ?_)
          obtain ⟨htw, hbw, hput⟩ := rg0_15.put L0
          go_wp2_with (refine wpList_store_all rfl 27 _ _ rfl (W0_6.heap.size) rfl (sec L0) rfl _ rfl _ 27 (rg0_15.var _ rfl).2 (sec_fit hlen0) (bv_oneCell _) (sizeS hlen0) ?_)
          refine hK1 _ _ htw.s ?_
          refine tree_tail ?_
          exact ⟨_, _, _, rfl, htw, hbw, hput⟩
      · skip
        have rg0_16 := rg0_3.makeA
        go_wp2_with (refine wpList_alloc_agg rfl 27 rfl _ Try.zeroS ?_)
        refine hK1 _ _ rg0_16.tw.s ?_
        clear hK1 K1
        have hrow := rg0_16.row _ _ rfl
        generalize W0_4.alloc (.cells (z128.map bv).toArray 27) = W0_17 at *
        refine tree_one _ rfl (fun K1 hK1 => ?_)
        have hsl := w1.keep rg0_16.tw.bel
        go_wp2_with (at_builtin; refine wpList_append_sl _ rfl _ _ 23 rfl W1.heap.size 5 i0 (.int .u8 0) 1 1 Try.underlying23 hi hz0 hz1 hz2 rfl (by decide) _ 0 [] rfl hrow w.heap.size _ x1.length (x1.map bv) rfl hsl (by simp) (bv_oneCell _) (by unfold maxLen; omega) (by omega) rg0_16.bel.size ?_)
        intro v0_18 W0_19 ho hgr hvr
        have rg0_20 := rg0_16.grow (ys := x1) (by simpa using ho) hgr hvr
        have hrow := rg0_20.row _ _ rfl
        obtain ⟨_, _, rfl⟩ := owns_form hrow
        clear ho hgr hvr hsl
        go_wp2
        refine hK1 _ _ rg0_20.tw.s ?_
        clear hK1 K1
        refine tree_one _ rfl (fun K1 hK1 => ?_)
        go_wp2_with (go_at_call 10; refine stop_here ?_)
        unfold Hid
        refine (c_make a0 _ x1 _ _ w0 (sl_of_owns hrow) (Nat.le_refl _) (by omega)).mono ?_
        rw [← hL0.out, ← hE0.out]
        rintro e W0_21 ⟨rfl, hbc⟩
        have rg0_22 := rg0_20.call hbc
        clear hbc hrow
        go_wp2
        refine hK1 _ _ rg0_22.tw.s ?_
        clear hK1 K1
        refine tree_quiet _ ?_ rfl rg0_22.tw.s rfl ?_ ?_
        rotate_left
        · rintro w' ⟨hS1, hS2, hS3, hS4⟩; go_simp; rfl
        simp only [Act.put, List.setIfInBounds_toArray, List.set_cons_zero, List.set_cons_succ]
        refine tree_quiet _ ?_ rfl rg0_22.tw.s rfl ?_ ?_
        rotate_left
        · rintro w' ⟨hS1, hS2, hS3, hS4⟩; go_simp; rfl
        simp only [Act.put, List.setIfInBounds_toArray, List.set_cons_zero, List.set_cons_succ]
        refine tree_quiet _ ?_ rfl rg0_22.tw.s rfl ?_ ?_
        rotate_left
        · rintro w' ⟨hS1, hS2, hS3, hS4⟩; go_simp; rfl
        simp only [Act.put, List.setIfInBounds_toArray, List.set_cons_zero, List.set_cons_succ]
        refine tree_one _ rfl (fun K1 hK1 => ?_)
        obtain ⟨htw, hbw, hput⟩ := rg0_22.put L0
        go_wp2_with (refine wpList_store_all rfl 27 _ _ rfl (W0_4.heap.size) rfl (sec L0) rfl _ rfl _ 27 (rg0_22.var _ rfl).2 (sec_fit hlen0) (bv_oneCell _) (sizeS hlen0) ?_)
        refine hK1 _ _ htw.s ?_
        refine tree_tail ?_
        exact ⟨_, _, _, rfl, htw, hbw, hput⟩
    · skip
      have rg0_23 := rg0_1.makeA
      go_wp2_with (refine wpList_alloc_agg rfl 27 rfl _ Try.zeroS ?_)
      refine hK1 _ _ rg0_23.tw.s ?_
      clear hK1 K1
      generalize W0_2.alloc (.cells (z128.map bv).toArray 27) = W0_24 at *
      refine tree_one _ rfl (fun K1 hK1 => ?_)
      have rg0_25 := rg0_23.makeB
      go_wp2
      refine hK1 _ _ rg0_25.tw.s ?_
      clear hK1 K1
      have hrow := rg0_25.row _ _ rfl
      generalize W0_24.alloc (.cells #[] 5) = W0_26 at *
      refine tree_one _ rfl (fun K1 hK1 => ?_)
      have hsl := w1.keep rg0_25.tw.bel
      go_wp2_with (at_builtin; refine wpList_append_sl _ rfl _ _ 23 rfl W1.heap.size 5 i0 (.int .u8 0) 1 1 Try.underlying23 hi hz0 hz1 hz2 rfl (by decide) _ 0 [] rfl hrow w.heap.size _ x1.length (x1.map bv) rfl hsl (by simp) (bv_oneCell _) (by unfold maxLen; omega) (by omega) rg0_25.bel.size ?_)
      intro v0_27 W0_28 ho hgr hvr
      have rg0_29 := rg0_25.grow (ys := x1) (by simpa using ho) hgr hvr
      have hrow := rg0_29.row _ _ rfl
      obtain ⟨_, _, rfl⟩ := owns_form hrow
      clear ho hgr hvr hsl
      go_wp2
      refine hK1 _ _ rg0_29.tw.s ?_
      clear hK1 K1
      refine tree_one _ rfl (fun K1 hK1 => ?_)
      go_wp2_with (go_at_call 10; refine stop_here ?_)
      unfold Hid
      refine (c_make a0 _ x1 _ _ w0 (sl_of_owns hrow) (Nat.le_refl _) (by omega)).mono ?_
      rw [← hL0.out, ← hE0.out]
      rintro e W0_30 ⟨rfl, hbc⟩
      have rg0_31 := rg0_29.call hbc
      clear hbc hrow
      go_wp2
      refine hK1 _ _ rg0_31.tw.s ?_
      clear hK1 K1
      refine tree_quiet _ ?_ rfl rg0_31.tw.s rfl ?_ ?_
      rotate_left
      · rintro w' ⟨hS1, hS2, hS3, hS4⟩; go_simp; rfl
      simp only [Act.put, List.setIfInBounds_toArray, List.set_cons_zero, List.set_cons_succ]
      refine tree_quiet _ ?_ rfl rg0_31.tw.s rfl ?_ ?_
      rotate_left
      · rintro w' ⟨hS1, hS2, hS3, hS4⟩; go_simp; rfl
      simp only [Act.put, List.setIfInBounds_toArray, List.set_cons_zero, List.set_cons_succ]
      refine tree_quiet _ ?_ rfl rg0_31.tw.s rfl ?_ ?_
      rotate_left
      · rintro w' ⟨hS1, hS2, hS3, hS4⟩; go_simp; rfl
      simp only [Act.put, List.setIfInBounds_toArray, List.set_cons_zero, List.set_cons_succ]
      refine tree_one _ rfl (fun K1 hK1 => ?_)
      obtain ⟨htw, hbw, hput⟩ := rg0_31.put L0
      go_wp2_with (refine wpList_store_all rfl 27 _ _ rfl (W0_2.heap.size) rfl (sec L0) rfl _ rfl _ 27 (rg0_31.var _ rfl).2 (sec_fit hlen0) (bv_oneCell _) (sizeS hlen0) ?_)
      refine hK1 _ _ htw.s ?_
      refine tree_tail ?_
      exact ⟨_, _, _, rfl, htw, hbw, hput⟩
  rintro a' W2 ⟨u3, v3, g0, rfl, hat2, hbel2, hblk0⟩
  simp only [Act.put, List.setIfInBounds_toArray, List.set_cons_zero, List.set_cons_succ, List.drop_succ_cons, List.drop_zero]
  clear hat1 hbel2
  go_wp2
  have rg1_1 := RgAt.start hat2
  refine wp_region_tree [] 12 (.quiet 0 (.quiet 1 (.quiet 3 (.quiet 4 (.two 2 (.two 5 (.two 6 (.quiet 7 (.quiet 8 (.quiet 9 (.one 10 (.one 11 .tail))))) 10 (.one 6 (.quiet 7 (.quiet 8 (.quiet 9 (.one 11 .tail)))))) 10 (.one 5 (.one 6 (.quiet 7 (.quiet 8 (.quiet 9 (.one 11 .tail))))))) 10 (.one 2 (.one 5 (.one 6 (.quiet 7 (.quiet 8 (.quiet 9 (.one 11 .tail)))))))))))) (TwS w.heap.size a0 b0 (.slice vo x1.length vc) (.slice uo y1.length uc)) (fun a a' w' => ∃ (u v : Value) (g : Nat), a' = (((((((((((a.put (some 22) (.pointer (some ⟨w.heap.size, 1, none⟩))).put (some 23) (.int .u64 (b0 : Int))).put (some 24) u).put (some 25) (.pointer (some ⟨w.heap.size + 1, 1, none⟩))).put (some 26) (.slice uo y1.length uc)).put (some 27) v).put (some 28) (.tuple #[sec L1, .int .i64 E1])).put (some 21) (.tuple #[sec L1, .int .i64 E1])).put (some 29) (sec L1)).put (some 30) (.int .i64 E1)).put (some 7) (.pointer (some ⟨g, 0, none⟩))) ∧ TwAt w w' a0 b0 (.slice vo x1.length vc) (.slice uo y1.length uc) ∧ Below W2.heap.size W2 w' ∧ w'.heap[g]? = some (.cells (L1.map bv).toArray 27 (0, 0))) (by kernel_rfl) (by kernel_rfl) ?_ ?_
  · skip
    refine tree_quiet _ ?_ rfl rg1_1.tw.s rfl ?_ ?_
    rotate_left
    · rintro w' ⟨hS1, hS2, hS3, hS4⟩; go_simp; rfl
    simp only [Act.put, List.setIfInBounds_toArray, List.set_cons_zero, List.set_cons_succ]
    refine tree_quiet _ ?_ rfl rg1_1.tw.s rfl ?_ ?_
    rotate_left
    · rintro w' ⟨hS1, hS2, hS3, hS4⟩; go_simp; rfl
    simp only [Act.put, List.setIfInBounds_toArray, List.set_cons_zero, List.set_cons_succ]
    refine tree_quiet _ ?_ rfl rg1_1.tw.s rfl ?_ ?_
    rotate_left
    · rintro w' ⟨hS1, hS2, hS3, hS4⟩; go_simp; rfl
    simp only [Act.put, List.setIfInBounds_toArray, List.set_cons_zero, List.set_cons_succ]
    refine tree_quiet _ ?_ rfl rg1_1.tw.s rfl ?_ ?_
    rotate_left
    · rintro w' ⟨hS1, hS2, hS3, hS4⟩; go_simp; rfl
    simp only [Act.put, List.setIfInBounds_toArray, List.set_cons_zero, List.set_cons_succ]
    generalize W2.drew = W1_2 at *
    refine tree_two _ _ rfl rfl (fun K1 hK1 => ?_) (fun K1 hK1 => ?_)
    · skip
      have rg1_3 := rg1_1.makeB
      go_wp2
      refine hK1 _ _ rg1_3.tw.s ?_
      clear hK1 K1
      have hrow := rg1_3.row _ _ rfl
      generalize W1_2.alloc (.cells #[] 5) = W1_4 at *
      refine tree_two _ _ rfl rfl (fun K1 hK1 => ?_) (fun K1 hK1 => ?_)
      · skip
        have hsl := q1.keep rg1_3.tw.bel
        go_wp2_with (at_builtin; refine wpList_append_sl _ rfl _ _ 23 rfl W2.heap.size 5 i0 (.int .u8 0) 1 1 Try.underlying23 hi hz0 hz1 hz2 rfl (by decide) _ 0 [] rfl hrow w.heap.size _ y1.length (y1.map bv) rfl hsl (by simp) (bv_oneCell _) (by unfold maxLen; omega) (by omega) rg1_3.bel.size ?_)
        intro v1_5 W1_6 ho hgr hvr
        have rg1_7 := rg1_3.grow (ys := y1) (by simpa using ho) hgr hvr
        have hrow := rg1_7.row _ _ rfl
        obtain ⟨_, _, rfl⟩ := owns_form hrow
        clear ho hgr hvr hsl
        go_wp2
        refine hK1 _ _ rg1_7.tw.s ?_
        clear hK1 K1
        refine tree_two _ _ rfl rfl (fun K1 hK1 => ?_) (fun K1 hK1 => ?_)
        · skip
          go_wp2_with (go_at_call 10; refine stop_here ?_)
          unfold Hid
          refine (c_make b0 _ y1 _ _ u0 (sl_of_owns hrow) (Nat.le_refl _) (by omega)).mono ?_
          rw [← hL1.out, ← hE1.out]
          rintro e W1_8 ⟨rfl, hbc⟩
          have rg1_9 := rg1_7.call hbc
          clear hbc hrow
          go_wp2
          refine hK1 _ _ rg1_9.tw.s ?_
          clear hK1 K1
          refine tree_quiet _ ?_ rfl rg1_9.tw.s rfl ?_ ?_
          rotate_left
          · rintro w' ⟨hS1, hS2, hS3, hS4⟩; go_simp; rfl
          simp only [Act.put, List.setIfInBounds_toArray, List.set_cons_zero, List.set_cons_succ]
          refine tree_quiet _ ?_ rfl rg1_9.tw.s rfl ?_ ?_
          rotate_left
          · rintro w' ⟨hS1, hS2, hS3, hS4⟩; go_simp; rfl
          simp only [Act.put, List.setIfInBounds_toArray, List.set_cons_zero, List.set_cons_succ]
          refine tree_quiet _ ?_ rfl rg1_9.tw.s rfl ?_ ?_
          rotate_left
          · rintro w' ⟨hS1, hS2, hS3, hS4⟩; go_simp; rfl
          simp only [Act.put, List.setIfInBounds_toArray, List.set_cons_zero, List.set_cons_succ]
          refine tree_one _ rfl (fun K1 hK1 => ?_)
          have rg1_10 := rg1_9.makeA
          go_wp2_with (refine wpList_alloc_agg rfl 27 rfl _ Try.zeroS ?_)
          refine hK1 _ _ rg1_10.tw.s ?_
          clear hK1 K1
          generalize W1_8.alloc (.cells (z128.map bv).toArray 27) = W1_11 at *
          refine tree_one _ rfl (fun K1 hK1 => ?_)
          obtain ⟨htw, hbw, hput⟩ := rg1_10.put L1
          go_wp2_with (refine wpList_store_all rfl 27 _ _ rfl (W1_8.heap.size) rfl (sec L1) rfl _ rfl _ 27 (rg1_10.var _ rfl).2 (sec_fit hlen1) (bv_oneCell _) (sizeS hlen1) ?_)
          refine hK1 _ _ htw.s ?_
          refine tree_tail ?_
          exact ⟨_, _, _, rfl, htw, hbw, hput⟩
        · skip
          have rg1_12 := rg1_7.makeA
          go_wp2_with (refine wpList_alloc_agg rfl 27 rfl _ Try.zeroS ?_)
          refine hK1 _ _ rg1_12.tw.s ?_
          clear hK1 K1
          have hrow := rg1_12.row _ _ rfl
          generalize W1_6.alloc (.cells (z128.map bv).toArray 27) = W1_13 at *
          refine tree_one _ rfl (fun K1 hK1 => ?_)
          go_wp2_with (go_at_call 10; refine stop_here ?_)
          unfold Hid
          refine (c_make b0 _ y1 _ _ u0 (sl_of_owns hrow) (Nat.le_refl _) (by omega)).mono ?_
          rw [← hL1.out, ← hE1.out]
          rintro e W1_14 ⟨rfl, hbc⟩
          have rg1_15 := rg1_12.call hbc
          clear hbc hrow
          go_wp2
          refine hK1 _ _ rg1_15.tw.s ?_
          clear hK1 K1
          refine tree_quiet _ ?_ rfl rg1_15.tw.s rfl ?_ ?_
          rotate_left
          · rintro w' ⟨hS1, hS2, hS3, hS4⟩; go_simp; rfl
          simp only [Act.put, List.setIfInBounds_toArray, List.set_cons_zero, List.set_cons_succ]
          refine tree_quiet _ ?_ rfl rg1_15.tw.s rfl ?_ ?_
          rotate_left
          · rintro w' ⟨hS1, hS2, hS3, hS4⟩; go_simp; rfl
          simp only [Act.put, List.setIfInBounds_toArray, List.set_cons_zero, List.set_cons_succ]
          refine tree_quiet _ ?_ rfl rg1_15.tw.s rfl ?_ ?_
          rotate_left
          · rintro w' ⟨hS1, hS2, hS3, hS4⟩; go_simp; rfl
          simp only [Act.put, List.setIfInBounds_toArray, List.set_cons_zero, List.set_cons_succ]
          refine tree_one _ rfl (fun K1 hK1 => ?_)
          obtain ⟨htw, hbw, hput⟩ := rg1_15.put L1
          go_wp2_with (refine wpList_store_all rfl 27 _ _ rfl (W1_6.heap.size) rfl (sec L1) rfl _ rfl _ 27 (rg1_15.var _ rfl).2 (sec_fit hlen1) (bv_oneCell _) (sizeS hlen1) ?_)
          refine hK1 _ _ htw.s ?_
          refine tree_tail ?_
          exact ⟨_, _, _, rfl, htw, hbw, hput⟩
      · skip
        have rg1_16 := rg1_3.makeA
        go_wp2_with (refine wpList_alloc_agg rfl 27 rfl _ Try.zeroS ?_)
        refine hK1 _ _ rg1_16.tw.s ?_
        clear hK1 K1
        have hrow := rg1_16.row _ _ rfl
        generalize W1_4.alloc (.cells (z128.map bv).toArray 27) = W1_17 at *
        refine tree_one _ rfl (fun K1 hK1 => ?_)
        have hsl := q1.keep rg1_16.tw.bel
        go_wp2_with (at_builtin; refine wpList_append_sl _ rfl _ _ 23 rfl W2.heap.size 5 i0 (.int .u8 0) 1 1 Try.underlying23 hi hz0 hz1 hz2 rfl (by decide) _ 0 [] rfl hrow w.heap.size _ y1.length (y1.map bv) rfl hsl (by simp) (bv_oneCell _) (by unfold maxLen; omega) (by omega) rg1_16.bel.size ?_)
        intro v1_18 W1_19 ho hgr hvr
        have rg1_20 := rg1_16.grow (ys := y1) (by simpa using ho) hgr hvr
        have hrow := rg1_20.row _ _ rfl
        obtain ⟨_, _, rfl⟩ := owns_form hrow
        clear ho hgr hvr hsl
        go_wp2
        refine hK1 _ _ rg1_20.tw.s ?_
        clear hK1 K1
        refine tree_one _ rfl (fun K1 hK1 => ?_)
        go_wp2_with (go_at_call 10; refine stop_here ?_)
        unfold Hid
        refine (c_make b0 _ y1 _ _ u0 (sl_of_owns hrow) (Nat.le_refl _) (by omega)).mono ?_
        rw [← hL1.out, ← hE1.out]
        rintro e W1_21 ⟨rfl, hbc⟩
        have rg1_22 := rg1_20.call hbc
        clear hbc hrow
        go_wp2
        refine hK1 _ _ rg1_22.tw.s ?_
        clear hK1 K1
        refine tree_quiet _ ?_ rfl rg1_22.tw.s rfl ?_ ?_
        rotate_left
        · rintro w' ⟨hS1, hS2, hS3, hS4⟩; go_simp; rfl
        simp only [Act.put, List.setIfInBounds_toArray, List.set_cons_zero, List.set_cons_succ]
        refine tree_quiet _ ?_ rfl rg1_22.tw.s rfl ?_ ?_
        rotate_left
        · rintro w' ⟨hS1, hS2, hS3, hS4⟩; go_simp; rfl
        simp only [Act.put, List.setIfInBounds_toArray, List.set_cons_zero, List.set_cons_succ]
        refine tree_quiet _ ?_ rfl rg1_22.tw.s rfl ?_ ?_
        rotate_left
        · rintro w' ⟨hS1, hS2, hS3, hS4⟩; go_simp; rfl
        simp only [Act.put, List.setIfInBounds_toArray, List.set_cons_zero, List.set_cons_succ]
        refine tree_one _ rfl (fun K1 hK1 => ?_)
        obtain ⟨htw, hbw, hput⟩ := rg1_22.put L1
        go_wp2_with (refine wpList_store_all rfl 27 _ _ rfl (W1_4.heap.size) rfl (sec L1) rfl _ rfl _ 27 (rg1_22.var _ rfl).2 (sec_fit hlen1) (bv_oneCell _) (sizeS hlen1) ?_)
        refine hK1 _ _ htw.s ?_
        refine tree_tail ?_
        exact ⟨_, _, _, rfl, htw, hbw, hput⟩
    · skip
      have rg1_23 := rg1_1.makeA
      go_wp2_with (refine wpList_alloc_agg rfl 27 rfl _ Try.zeroS ?_)
      refine hK1 _ _ rg1_23.tw.s ?_
      clear hK1 K1
      generalize W1_2.alloc (.cells (z128.map bv).toArray 27) = W1_24 at *
      refine tree_one _ rfl (fun K1 hK1 => ?_)
      have rg1_25 := rg1_23.makeB
      go_wp2
      refine hK1 _ _ rg1_25.tw.s ?_
      clear hK1 K1
      have hrow := rg1_25.row _ _ rfl
      generalize W1_24.alloc (.cells #[] 5) = W1_26 at *
      refine tree_one _ rfl (fun K1 hK1 => ?_)
      have hsl := q1.keep rg1_25.tw.bel
      go_wp2_with (at_builtin; refine wpList_append_sl _ rfl _ _ 23 rfl W2.heap.size 5 i0 (.int .u8 0) 1 1 Try.underlying23 hi hz0 hz1 hz2 rfl (by decide) _ 0 [] rfl hrow w.heap.size _ y1.length (y1.map bv) rfl hsl (by simp) (bv_oneCell _) (by unfold maxLen; omega) (by omega) rg1_25.bel.size ?_)
      intro v1_27 W1_28 ho hgr hvr
      have rg1_29 := rg1_25.grow (ys := y1) (by simpa using ho) hgr hvr
      have hrow := rg1_29.row _ _ rfl
      obtain ⟨_, _, rfl⟩ := owns_form hrow
      clear ho hgr hvr hsl
      go_wp2
      refine hK1 _ _ rg1_29.tw.s ?_
      clear hK1 K1
      refine tree_one _ rfl (fun K1 hK1 => ?_)
      go_wp2_with (go_at_call 10; refine stop_here ?_)
      unfold Hid
      refine (c_make b0 _ y1 _ _ u0 (sl_of_owns hrow) (Nat.le_refl _) (by omega)).mono ?_
      rw [← hL1.out, ← hE1.out]
      rintro e W1_30 ⟨rfl, hbc⟩
      have rg1_31 := rg1_29.call hbc
      clear hbc hrow
      go_wp2
      refine hK1 _ _ rg1_31.tw.s ?_
      clear hK1 K1
      refine tree_quiet _ ?_ rfl rg1_31.tw.s rfl ?_ ?_
      rotate_left
      · rintro w' ⟨hS1, hS2, hS3, hS4⟩; go_simp; rfl
      simp only [Act.put, List.setIfInBounds_toArray, List.set_cons_zero, List.set_cons_succ]
      refine tree_quiet _ ?_ rfl rg1_31.tw.s rfl ?_ ?_
      rotate_left
      · rintro w' ⟨hS1, hS2, hS3, hS4⟩; go_simp; rfl
      simp only [Act.put, List.setIfInBounds_toArray, List.set_cons_zero, List.set_cons_succ]
      refine tree_quiet _ ?_ rfl rg1_31.tw.s rfl ?_ ?_
      rotate_left
      · rintro w' ⟨hS1, hS2, hS3, hS4⟩; go_simp; rfl
      simp only [Act.put, List.setIfInBounds_toArray, List.set_cons_zero, List.set_cons_succ]
      refine tree_one _ rfl (fun K1 hK1 => ?_)
      obtain ⟨htw, hbw, hput⟩ := rg1_31.put L1
      go_wp2_with (refine wpList_store_all rfl 27 _ _ rfl (W1_2.heap.size) rfl (sec L1) rfl _ rfl _ 27 (rg1_31.var _ rfl).2 (sec_fit hlen1) (bv_oneCell _) (sizeS hlen1) ?_)
      refine hK1 _ _ htw.s ?_
      refine tree_tail ?_
      exact ⟨_, _, _, rfl, htw, hbw, hput⟩
  rintro a' W3 ⟨u4, v4, g1, rfl, hat3, hbel3, hblk1⟩
  simp only [Act.put, List.setIfInBounds_toArray, List.set_cons_zero, List.set_cons_succ, List.drop_succ_cons, List.drop_zero]
  have hblk0 := keep_blk hblk0 hbel3
  clear hat2 hbel3
  have hbE : Hid (Below w.heap.size w W3) := hat3.bel
  have hEr : -9223372036854775808 ≤ E1 ∧ E1 ≤ 9223372036854775807 := by rw [hE1.out]; unfold mkE; split <;> omega
  by_cases ho0 : okS a0 x1
  case neg =>
    have f0 : E0 = 51 := by rw [hE0.out]; unfold mkE; rw [if_neg ho0]
    subst f0
    clear hat3 hblk0 hblk1 hL0 hE0 hL1 hE1 ho0
    have hE5 : -9223372036854775808 ≤ E1 ∧ E1 ≤ 9223372036854775807 := hEr
    go_wp2
    go_ret
    exact ⟨rfl, hbE.out⟩
  have f0 : E0 = 0 := by rw [hE0.out]; unfold mkE; rw [if_pos ho0]
  subst f0
  by_cases ho1 : okS b0 y1
  case neg =>
    have f1 : E1 = 51 := by rw [hE1.out]; unfold mkE; rw [if_neg ho1]
    subst f1
    clear hat3 hblk0 hblk1 hL0 hE0 hL1 hE1 ho0 ho1
    go_wp2
    go_ret
    exact ⟨rfl, hbE.out⟩
  have f1 : E1 = 0 := by rw [hE1.out]; unfold mkE; rw [if_pos ho1]
  subst f1
  have g0e : L0 = sealOf a0 x1 := by rw [hL0.out]; unfold mkS; rw [if_pos ho0]
  have g1e : L1 = sealOf b0 y1 := by rw [hL1.out]; unfold mkS; rw [if_pos ho1]
  have hq := eqlS L0 L1 hlen0 hlen1
  have hgd := guardS
  have hcv0 : ∀ w' : World, Below w.heap.size w w' → (convert 23 9 (.slice vo x1.length vc)).run Try.prog w' = .ok (.string ⟨x1.toArray⟩) w' := fun w' hb => run_string_sl 23 5 9 Try.underlying23 Try.underlying5 Try.underlying9 (w1.keep hb)
  have hcv1 : ∀ w' : World, Below w.heap.size w w' → (convert 23 9 (.slice uo y1.length uc)).run Try.prog w' = .ok (.string ⟨y1.toArray⟩) w' := fun w' hb => run_string_sl 23 5 9 Try.underlying23 Try.underlying5 Try.underlying9 (q1.keep hb)
  have hS : (fun w' : World => TwS w.heap.size a0 b0 (.slice vo x1.length vc) (.slice uo y1.length uc) w' ∧ w'.rangeAt g0 0 (L0.map bv) ∧ w'.rangeAt g1 0 (L1.map bv) ∧ (convert 23 9 (.slice vo x1.length vc)).run Try.prog w' = .ok (.string ⟨x1.toArray⟩) w' ∧ (convert 23 9 (.slice uo y1.length uc)).run Try.prog w' = .ok (.string ⟨y1.toArray⟩) w') W3.drew :=
    ⟨hat3.drew.s, range_all hblk0, range_all hblk1, hcv0 _ hat3.drew.bel, hcv1 _ hat3.drew.bel⟩
  clear hcv0 hcv1 w1 q1
  have HS0 : Hid ((⟨x1.toArray⟩ : ByteArray) = ⟨y1.toArray⟩ → x1 = y1) := fun h => by simpa using h
  by_cases hab : a0 = b0
  case neg =>
    have hne : (L0 == L1) = false := by
      rw [beq_eq_false_iff_ne, g0e, g1e]
      exact fun h => hab (seal_inj w0 u0 ho0 ho1 h).1
    have hd : ((a0 : Int) == (b0 : Int)) = false := by rw [beq_eq_false_iff_ne]; omega
    rw [hne] at hq
    clear hne g0e g1e hat3 hblk0 hblk1 hL0 hE0 hL1 hE1 ho0 ho1 HS0
    generalize (⟨x1.toArray⟩ : ByteArray) = S0 at *
    generalize (⟨y1.toArray⟩ : ByteArray) = S1 at *
    go_wp2
    refine wp_region_ord [] 18 [(0, true), (1, true), (2, true), (3, true), (4, true), (5, true), (6, true), (7, true), (8, true), (9, true), (10, true), (11, true), (12, true), (13, true), (14, true), (15, true), (16, true), (17, true)] (fun w' : World => TwS w.heap.size a0 b0 (.slice vo x1.length vc) (.slice uo y1.length uc) w' ∧ w'.rangeAt g0 0 (L0.map bv) ∧ w'.rangeAt g1 0 (L1.map bv) ∧ (convert 23 9 (.slice vo x1.length vc)).run Try.prog w' = .ok (.string S0) w' ∧ (convert 23 9 (.slice uo y1.length uc)).run Try.prog w' = .ok (.string S1) w') (by kernel_rfl) (by kernel_rfl) ?_
    refine ord_quietL _ (sec L0) rfl hS rfl ?_ ?_
    · rintro w' ⟨⟨hS1, hS2, hS3, hS4⟩, hS5, hS6, hS7, hS8⟩; exact run_load_quiet 27 _ w' rfl g0 0 rfl _ hS5 Try.rowS (sizeS hlen0)
    simp only [Act.put, List.setIfInBounds_toArray, List.set_cons_zero, List.set_cons_succ]
    refine ord_quietL _ (sec L1) rfl hS rfl ?_ ?_
    · rintro w' ⟨⟨hS1, hS2, hS3, hS4⟩, hS5, hS6, hS7, hS8⟩; exact run_load_quiet 27 _ w' rfl g1 0 rfl _ hS6 Try.rowS (sizeS hlen1)
    simp only [Act.put, List.setIfInBounds_toArray, List.set_cons_zero, List.set_cons_succ]
    refine ord_quietL _ ?_ rfl hS rfl ?_ ?_
    rotate_left
    · rintro w' ⟨⟨hS1, hS2, hS3, hS4⟩, hS5, hS6, hS7, hS8⟩; go_simp; rfl
    simp only [Act.put, List.setIfInBounds_toArray, List.set_cons_zero, List.set_cons_succ]
    refine ord_quietL _ ?_ rfl hS rfl ?_ ?_
    rotate_left
    · rintro w' ⟨⟨hS1, hS2, hS3, hS4⟩, hS5, hS6, hS7, hS8⟩; go_simp; rfl
    simp only [Act.put, List.setIfInBounds_toArray, List.set_cons_zero, List.set_cons_succ]
    refine ord_quietL _ ?_ rfl hS rfl ?_ ?_
    rotate_left
    · rintro w' ⟨⟨hS1, hS2, hS3, hS4⟩, hS5, hS6, hS7, hS8⟩; go_simp; rfl
    simp only [Act.put, List.setIfInBounds_toArray, List.set_cons_zero, List.set_cons_succ]
    refine ord_quietL _ ?_ rfl hS rfl ?_ ?_
    rotate_left
    · rintro w' ⟨⟨hS1, hS2, hS3, hS4⟩, hS5, hS6, hS7, hS8⟩; go_simp; rfl
    simp only [Act.put, List.setIfInBounds_toArray, List.set_cons_zero, List.set_cons_succ]
    refine ord_quietL _ ?_ rfl hS rfl ?_ ?_
    rotate_left
    · rintro w' ⟨⟨hS1, hS2, hS3, hS4⟩, hS5, hS6, hS7, hS8⟩; go_simp; rfl
    simp only [Act.put, List.setIfInBounds_toArray, List.set_cons_zero, List.set_cons_succ]
    refine ord_quietL _ ?_ rfl hS rfl ?_ ?_
    rotate_left
    · rintro w' ⟨⟨hS1, hS2, hS3, hS4⟩, hS5, hS6, hS7, hS8⟩; go_simp; rfl
    simp only [Act.put, List.setIfInBounds_toArray, List.set_cons_zero, List.set_cons_succ]
    refine ord_quietL _ ?_ rfl hS rfl ?_ ?_
    rotate_left
    · rintro w' ⟨⟨hS1, hS2, hS3, hS4⟩, hS5, hS6, hS7, hS8⟩; go_simp; rfl
    simp only [Act.put, List.setIfInBounds_toArray, List.set_cons_zero, List.set_cons_succ]
    refine ord_skipL _ rfl hS rfl ?_
    simp only [Act.put, List.setIfInBounds_toArray, List.set_cons_zero, List.set_cons_succ]
    refine ord_skipL _ rfl hS rfl ?_
    simp only [Act.put, List.setIfInBounds_toArray, List.set_cons_zero, List.set_cons_succ]
    refine ord_skipL _ rfl hS rfl ?_
    simp only [Act.put, List.setIfInBounds_toArray, List.set_cons_zero, List.set_cons_succ]
    refine ord_skipL _ rfl hS rfl ?_
    simp only [Act.put, List.setIfInBounds_toArray, List.set_cons_zero, List.set_cons_succ]
    refine ord_skipL _ rfl hS rfl ?_
    simp only [Act.put, List.setIfInBounds_toArray, List.set_cons_zero, List.set_cons_succ]
    refine ord_skipL _ rfl hS rfl ?_
    simp only [Act.put, List.setIfInBounds_toArray, List.set_cons_zero, List.set_cons_succ]
    refine ord_skipL _ rfl hS rfl ?_
    simp only [Act.put, List.setIfInBounds_toArray, List.set_cons_zero, List.set_cons_succ]
    refine ord_quietL _ ?_ rfl hS rfl ?_ ?_
    rotate_left
    · rintro w' ⟨⟨hS1, hS2, hS3, hS4⟩, hS5, hS6, hS7, hS8⟩; go_simp; rfl
    simp only [Act.put, List.setIfInBounds_toArray, List.set_cons_zero, List.set_cons_succ]
    refine ord_quietL _ ?_ rfl hS rfl ?_ ?_
    rotate_left
    · rintro w' ⟨⟨hS1, hS2, hS3, hS4⟩, hS5, hS6, hS7, hS8⟩; go_simp; rfl
    simp only [Act.put, List.setIfInBounds_toArray, List.set_cons_zero, List.set_cons_succ]
    refine ord_tail ?_
    simp only [List.drop_succ_cons, List.drop_zero]
    go_wp2
    go_ret
    exact ⟨rfl, hbE.out.drew⟩
  subst hab
  by_cases hxy : x1 = y1
  case pos =>
    have hne : (L0 == L1) = true := by rw [beq_iff_eq, g0e, g1e, hxy]
    have hbs : (⟨x1.toArray⟩ : ByteArray) = ⟨y1.toArray⟩ := by rw [hxy]
    rw [hne] at hq
    clear hne g0e g1e hat3 hblk0 hblk1 hL0 hE0 hL1 hE1 ho0 ho1 HS0 hxy
    generalize (⟨x1.toArray⟩ : ByteArray) = S0 at *
    generalize (⟨y1.toArray⟩ : ByteArray) = S1 at *
    subst hbs
    go_wp2
    refine wp_region_ord [] 18 [(0, true), (1, true), (2, true), (3, true), (4, true), (5, true), (6, true), (7, true), (8, true), (9, true), (10, true), (11, true), (12, true), (13, true), (14, true), (15, true), (16, true), (17, true)] (fun w' : World => TwS w.heap.size a0 a0 (.slice vo x1.length vc) (.slice uo y1.length uc) w' ∧ w'.rangeAt g0 0 (L0.map bv) ∧ w'.rangeAt g1 0 (L1.map bv) ∧ (convert 23 9 (.slice vo x1.length vc)).run Try.prog w' = .ok (.string S0) w' ∧ (convert 23 9 (.slice uo y1.length uc)).run Try.prog w' = .ok (.string S0) w') (by kernel_rfl) (by kernel_rfl) ?_
    refine ord_quietL _ (sec L0) rfl hS rfl ?_ ?_
    · rintro w' ⟨⟨hS1, hS2, hS3, hS4⟩, hS5, hS6, hS7, hS8⟩; exact run_load_quiet 27 _ w' rfl g0 0 rfl _ hS5 Try.rowS (sizeS hlen0)
    simp only [Act.put, List.setIfInBounds_toArray, List.set_cons_zero, List.set_cons_succ]
    refine ord_quietL _ (sec L1) rfl hS rfl ?_ ?_
    · rintro w' ⟨⟨hS1, hS2, hS3, hS4⟩, hS5, hS6, hS7, hS8⟩; exact run_load_quiet 27 _ w' rfl g1 0 rfl _ hS6 Try.rowS (sizeS hlen1)
    simp only [Act.put, List.setIfInBounds_toArray, List.set_cons_zero, List.set_cons_succ]
    refine ord_quietL _ ?_ rfl hS rfl ?_ ?_
    rotate_left
    · rintro w' ⟨⟨hS1, hS2, hS3, hS4⟩, hS5, hS6, hS7, hS8⟩; go_simp; rfl
    simp only [Act.put, List.setIfInBounds_toArray, List.set_cons_zero, List.set_cons_succ]
    refine ord_quietL _ ?_ rfl hS rfl ?_ ?_
    rotate_left
    · rintro w' ⟨⟨hS1, hS2, hS3, hS4⟩, hS5, hS6, hS7, hS8⟩; go_simp; rfl
    simp only [Act.put, List.setIfInBounds_toArray, List.set_cons_zero, List.set_cons_succ]
    refine ord_quietL _ ?_ rfl hS rfl ?_ ?_
    rotate_left
    · rintro w' ⟨⟨hS1, hS2, hS3, hS4⟩, hS5, hS6, hS7, hS8⟩; go_simp; rfl
    simp only [Act.put, List.setIfInBounds_toArray, List.set_cons_zero, List.set_cons_succ]
    refine ord_quietL _ ?_ rfl hS rfl ?_ ?_
    rotate_left
    · rintro w' ⟨⟨hS1, hS2, hS3, hS4⟩, hS5, hS6, hS7, hS8⟩; go_simp; rfl
    simp only [Act.put, List.setIfInBounds_toArray, List.set_cons_zero, List.set_cons_succ]
    refine ord_quietL _ ?_ rfl hS rfl ?_ ?_
    rotate_left
    · rintro w' ⟨⟨hS1, hS2, hS3, hS4⟩, hS5, hS6, hS7, hS8⟩; go_simp; rfl
    simp only [Act.put, List.setIfInBounds_toArray, List.set_cons_zero, List.set_cons_succ]
    refine ord_quietL _ ?_ rfl hS rfl ?_ ?_
    rotate_left
    · rintro w' ⟨⟨hS1, hS2, hS3, hS4⟩, hS5, hS6, hS7, hS8⟩; go_simp; rfl
    simp only [Act.put, List.setIfInBounds_toArray, List.set_cons_zero, List.set_cons_succ]
    refine ord_quietL _ ?_ rfl hS rfl ?_ ?_
    rotate_left
    · rintro w' ⟨⟨hS1, hS2, hS3, hS4⟩, hS5, hS6, hS7, hS8⟩; go_simp; rfl
    simp only [Act.put, List.setIfInBounds_toArray, List.set_cons_zero, List.set_cons_succ]
    refine ord_quietL _ ?_ rfl hS rfl ?_ ?_
    rotate_left
    · rintro w' ⟨⟨hS1, hS2, hS3, hS4⟩, hS5, hS6, hS7, hS8⟩; go_simp; rfl
    simp only [Act.put, List.setIfInBounds_toArray, List.set_cons_zero, List.set_cons_succ]
    refine ord_quietL _ ?_ rfl hS rfl ?_ ?_
    rotate_left
    · rintro w' ⟨⟨hS1, hS2, hS3, hS4⟩, hS5, hS6, hS7, hS8⟩; go_simp; rfl
    simp only [Act.put, List.setIfInBounds_toArray, List.set_cons_zero, List.set_cons_succ]
    refine ord_quietL _ ?_ rfl hS rfl ?_ ?_
    rotate_left
    · rintro w' ⟨⟨hS1, hS2, hS3, hS4⟩, hS5, hS6, hS7, hS8⟩; go_simp; rfl
    simp only [Act.put, List.setIfInBounds_toArray, List.set_cons_zero, List.set_cons_succ]
    refine ord_quietL _ ?_ rfl hS rfl ?_ ?_
    rotate_left
    · rintro w' ⟨⟨hS1, hS2, hS3, hS4⟩, hS5, hS6, hS7, hS8⟩; go_simp; rfl
    simp only [Act.put, List.setIfInBounds_toArray, List.set_cons_zero, List.set_cons_succ]
    refine ord_quietL _ ?_ rfl hS rfl ?_ ?_
    rotate_left
    · rintro w' ⟨⟨hS1, hS2, hS3, hS4⟩, hS5, hS6, hS7, hS8⟩; go_simp; rfl
    simp only [Act.put, List.setIfInBounds_toArray, List.set_cons_zero, List.set_cons_succ]
    refine ord_quietL _ ?_ rfl hS rfl ?_ ?_
    rotate_left
    · rintro w' ⟨⟨hS1, hS2, hS3, hS4⟩, hS5, hS6, hS7, hS8⟩; go_simp; rfl
    simp only [Act.put, List.setIfInBounds_toArray, List.set_cons_zero, List.set_cons_succ]
    refine ord_quietL _ ?_ rfl hS rfl ?_ ?_
    rotate_left
    · rintro w' ⟨⟨hS1, hS2, hS3, hS4⟩, hS5, hS6, hS7, hS8⟩; go_simp; rfl
    simp only [Act.put, List.setIfInBounds_toArray, List.set_cons_zero, List.set_cons_succ]
    refine ord_quietL _ ?_ rfl hS rfl ?_ ?_
    rotate_left
    · rintro w' ⟨⟨hS1, hS2, hS3, hS4⟩, hS5, hS6, hS7, hS8⟩; go_simp; rfl
    simp only [Act.put, List.setIfInBounds_toArray, List.set_cons_zero, List.set_cons_succ]
    refine ord_quietL _ ?_ rfl hS rfl ?_ ?_
    rotate_left
    · rintro w' ⟨⟨hS1, hS2, hS3, hS4⟩, hS5, hS6, hS7, hS8⟩; go_simp; rfl
    simp only [Act.put, List.setIfInBounds_toArray, List.set_cons_zero, List.set_cons_succ]
    refine ord_tail ?_
    simp only [List.drop_succ_cons, List.drop_zero]
    go_wp2
    go_ret
    exact ⟨rfl, hbE.out.drew⟩
  have hne : (L0 == L1) = false := by
    rw [beq_eq_false_iff_ne, g0e, g1e]
    exact fun h => hxy (seal_inj w0 u0 ho0 ho1 h).2
  have hbs2 : ((⟨x1.toArray⟩ : ByteArray).toList == (⟨y1.toArray⟩ : ByteArray).toList) = false := by rw [ByteArray.toList_mk, ByteArray.toList_mk]; exact beq_eq_false_iff_ne.2 hxy
  rw [hne] at hq
  clear hne g0e g1e hat3 hblk0 hblk1 hL0 hE0 hL1 hE1 ho0 ho1 HS0 hxy
  generalize (⟨x1.toArray⟩ : ByteArray) = S0 at *
  generalize (⟨y1.toArray⟩ : ByteArray) = S1 at *
  go_wp2
  refine wp_region_ord [] 18 [(0, true), (1, true), (2, true), (3, true), (4, true), (5, true), (6, true), (7, true), (8, true), (9, true), (10, true), (11, true), (12, true), (13, true), (14, true), (15, true), (16, true), (17, true)] (fun w' : World => TwS w.heap.size a0 a0 (.slice vo x1.length vc) (.slice uo y1.length uc) w' ∧ w'.rangeAt g0 0 (L0.map bv) ∧ w'.rangeAt g1 0 (L1.map bv) ∧ (convert 23 9 (.slice vo x1.length vc)).run Try.prog w' = .ok (.string S0) w' ∧ (convert 23 9 (.slice uo y1.length uc)).run Try.prog w' = .ok (.string S1) w') (by kernel_rfl) (by kernel_rfl) ?_
  refine ord_quietL _ (sec L0) rfl hS rfl ?_ ?_
  · rintro w' ⟨⟨hS1, hS2, hS3, hS4⟩, hS5, hS6, hS7, hS8⟩; exact run_load_quiet 27 _ w' rfl g0 0 rfl _ hS5 Try.rowS (sizeS hlen0)
  simp only [Act.put, List.setIfInBounds_toArray, List.set_cons_zero, List.set_cons_succ]
  refine ord_quietL _ (sec L1) rfl hS rfl ?_ ?_
  · rintro w' ⟨⟨hS1, hS2, hS3, hS4⟩, hS5, hS6, hS7, hS8⟩; exact run_load_quiet 27 _ w' rfl g1 0 rfl _ hS6 Try.rowS (sizeS hlen1)
  simp only [Act.put, List.setIfInBounds_toArray, List.set_cons_zero, List.set_cons_succ]
  refine ord_quietL _ ?_ rfl hS rfl ?_ ?_
  rotate_left
  · rintro w' ⟨⟨hS1, hS2, hS3, hS4⟩, hS5, hS6, hS7, hS8⟩; go_simp; rfl
  simp only [Act.put, List.setIfInBounds_toArray, List.set_cons_zero, List.set_cons_succ]
  refine ord_quietL _ ?_ rfl hS rfl ?_ ?_
  rotate_left
  · rintro w' ⟨⟨hS1, hS2, hS3, hS4⟩, hS5, hS6, hS7, hS8⟩; go_simp; rfl
  simp only [Act.put, List.setIfInBounds_toArray, List.set_cons_zero, List.set_cons_succ]
  refine ord_quietL _ ?_ rfl hS rfl ?_ ?_
  rotate_left
  · rintro w' ⟨⟨hS1, hS2, hS3, hS4⟩, hS5, hS6, hS7, hS8⟩; go_simp; rfl
  simp only [Act.put, List.setIfInBounds_toArray, List.set_cons_zero, List.set_cons_succ]
  refine ord_quietL _ ?_ rfl hS rfl ?_ ?_
  rotate_left
  · rintro w' ⟨⟨hS1, hS2, hS3, hS4⟩, hS5, hS6, hS7, hS8⟩; go_simp; rfl
  simp only [Act.put, List.setIfInBounds_toArray, List.set_cons_zero, List.set_cons_succ]
  refine ord_quietL _ ?_ rfl hS rfl ?_ ?_
  rotate_left
  · rintro w' ⟨⟨hS1, hS2, hS3, hS4⟩, hS5, hS6, hS7, hS8⟩; go_simp; rfl
  simp only [Act.put, List.setIfInBounds_toArray, List.set_cons_zero, List.set_cons_succ]
  refine ord_quietL _ ?_ rfl hS rfl ?_ ?_
  rotate_left
  · rintro w' ⟨⟨hS1, hS2, hS3, hS4⟩, hS5, hS6, hS7, hS8⟩; go_simp; rfl
  simp only [Act.put, List.setIfInBounds_toArray, List.set_cons_zero, List.set_cons_succ]
  refine ord_quietL _ ?_ rfl hS rfl ?_ ?_
  rotate_left
  · rintro w' ⟨⟨hS1, hS2, hS3, hS4⟩, hS5, hS6, hS7, hS8⟩; go_simp; rfl
  simp only [Act.put, List.setIfInBounds_toArray, List.set_cons_zero, List.set_cons_succ]
  refine ord_quietL _ ?_ rfl hS rfl ?_ ?_
  rotate_left
  · rintro w' ⟨⟨hS1, hS2, hS3, hS4⟩, hS5, hS6, hS7, hS8⟩; go_simp; rfl
  simp only [Act.put, List.setIfInBounds_toArray, List.set_cons_zero, List.set_cons_succ]
  refine ord_quietL _ ?_ rfl hS rfl ?_ ?_
  rotate_left
  · rintro w' ⟨⟨hS1, hS2, hS3, hS4⟩, hS5, hS6, hS7, hS8⟩; go_simp; rfl
  simp only [Act.put, List.setIfInBounds_toArray, List.set_cons_zero, List.set_cons_succ]
  refine ord_quietL _ ?_ rfl hS rfl ?_ ?_
  rotate_left
  · rintro w' ⟨⟨hS1, hS2, hS3, hS4⟩, hS5, hS6, hS7, hS8⟩; go_simp; rfl
  simp only [Act.put, List.setIfInBounds_toArray, List.set_cons_zero, List.set_cons_succ]
  refine ord_quietL _ ?_ rfl hS rfl ?_ ?_
  rotate_left
  · rintro w' ⟨⟨hS1, hS2, hS3, hS4⟩, hS5, hS6, hS7, hS8⟩; go_simp; rfl
  simp only [Act.put, List.setIfInBounds_toArray, List.set_cons_zero, List.set_cons_succ]
  refine ord_quietL _ ?_ rfl hS rfl ?_ ?_
  rotate_left
  · rintro w' ⟨⟨hS1, hS2, hS3, hS4⟩, hS5, hS6, hS7, hS8⟩; go_simp; rfl
  simp only [Act.put, List.setIfInBounds_toArray, List.set_cons_zero, List.set_cons_succ]
  refine ord_quietL _ ?_ rfl hS rfl ?_ ?_
  rotate_left
  · rintro w' ⟨⟨hS1, hS2, hS3, hS4⟩, hS5, hS6, hS7, hS8⟩; go_simp; rfl
  simp only [Act.put, List.setIfInBounds_toArray, List.set_cons_zero, List.set_cons_succ]
  refine ord_quietL _ ?_ rfl hS rfl ?_ ?_
  rotate_left
  · rintro w' ⟨⟨hS1, hS2, hS3, hS4⟩, hS5, hS6, hS7, hS8⟩; go_simp; rfl
  simp only [Act.put, List.setIfInBounds_toArray, List.set_cons_zero, List.set_cons_succ]
  refine ord_quietL _ ?_ rfl hS rfl ?_ ?_
  rotate_left
  · rintro w' ⟨⟨hS1, hS2, hS3, hS4⟩, hS5, hS6, hS7, hS8⟩; go_simp; rfl
  simp only [Act.put, List.setIfInBounds_toArray, List.set_cons_zero, List.set_cons_succ]
  refine ord_quietL _ ?_ rfl hS rfl ?_ ?_
  rotate_left
  · rintro w' ⟨⟨hS1, hS2, hS3, hS4⟩, hS5, hS6, hS7, hS8⟩; go_simp; rfl
  simp only [Act.put, List.setIfInBounds_toArray, List.set_cons_zero, List.set_cons_succ]
  refine ord_tail ?_
  simp only [List.drop_succ_cons, List.drop_zero]
  go_wp2
  go_ret
  exact ⟨rfl, hbE.out.drew⟩

set_option maxRecDepth 100000 in
theorem lifted (os : Os) (started : os.Started) (H : Type) (enc : TypeId × Value → H) :
    ReturnsInHanded {} Try.checked os 8 .any (Rows.sealApartSpec.pre6 enc Try.prog Try.f8 Rows.sealApartRow.domain false) (Rows.sealApartSpec.post enc Try.prog Try.f8 false true false false) := by
  refine returnsInHanded_of_change_sized (C := Try.checked) own started (by kernel_rfl) Try.func8
    (ChangeSpec.witness6 (enc := enc) (C := Try.checked) false ⟨#[], #[.agg #[.int .u64 0, .int .u64 0], .agg #[.slice none 0 0, .slice none 0 0]], []⟩ 8 (by kernel_rfl) (by kernel_rfl) (by kernel_rfl) (by kernel_rfl)) ?_
  intro W base args ds gs before hval0 hW hcnd hsz0 _
  have hval : ∀ (j : Nat) t v, Try.f8.params[j]? = some t → args[j]? = some v → Value.okWide Try.prog W .any base t v := hval0
  have hsz : (DataW.weightsEach Try.prog (Try.f8.params.toList ++ Rows.sealApartSpec.plain.varTypes Try.prog) (ds ++ gs)).all (· ≤ reachBytes) = true := hsz0
  have hW' := hW
  obtain ⟨p, q, hA0, hV, rfl, hfz, hnd⟩ := hW
  have hA : DataW.TrodAll enc Try.prog W 0 (fun _ => true) true Try.f8.params.toList args.toList ds p := hA0
  rw [Try.params8] at hA hval hsz
  obtain ⟨v0, vs0, d0, ds0, p0, q0, hargs, rfl, rfl, h0, r0⟩ := trodAll_cons hA
  obtain ⟨v1, vs1, d1, ds1, p1, q1, rfl, rfl, rfl, h1, r1⟩ := trodAll_cons r0
  obtain ⟨rfl, rfl, rfl⟩ := trodAll_nil r1
  obtain rfl : args = #[v0, v1] := by cases args; simp_all
  obtain ⟨rfl, rfl⟩ := trodVars_none hV
  have k0 := h0
  have lt0 : ∀ x ∈ p0, x.block < W.heap.size := by obtain ⟨m, hm⟩ := k0; exact DataW.trod_lt m _ _ _ hm
  obtain ⟨a0, b0, rfl, w0, u0⟩ := open_marks (hval 0 37 v0 rfl rfl) h0
  have k1 := h1
  have lt1 : ∀ x ∈ p1, x.block < W.heap.size := by obtain ⟨m, hm⟩ := k1; exact DataW.trod_lt m _ _ _ hm
  obtain ⟨c1, g1, x1, y1, rfl, w1, q1, l1, m1⟩ := open_bodies (hval 1 38 v1 rfl rfl) h1 (fun n hn => by have := List.all_eq_true.1 hsz n (DataW.weights_mem_each (j := 1) (t := 38) rfl rfl n hn); simpa using this)
  clear hA0 hval0
  refine (walk W a0 b0 w0 u0 c1 g1 x1 y1 w1 q1 l1 m1).mono fun e W' ⟨he, bel⟩ => ?_
  subst he
  exact ⟨_, rfl, _, _, _, [], _, [], hW', trodAll_mk1 (shut_bool Try.underlying4 _), (trodAll_cons_mk (Below.trod laidOut (by kernel_rfl) (of_decide_eq_true (by kernel_rfl)) k0 bel lt0) (trodAll_cons_mk (Below.trod laidOut (by kernel_rfl) (of_decide_eq_true (by kernel_rfl)) k1 bel lt1) trodAll_mk0)), rfl, bel.frame _, fun h => by cases h⟩

theorem over : Rows.sealApartRow.holds Try.pinned (OpenSpec.ofChange Rows.sealApartSpec) :=
  OpenClaim.holds_of_wide 8 Try.f8 rfl rfl rfl rfl rfl rfl rfl ⟨rfl, rfl, rfl, rfl, rfl⟩ rfl rfl rfl rfl rfl (by kernel_rfl) Try.func8 (by kernel_rfl)
    (of_decide_eq_true (by kernel_rfl)) (by unfold Func.isWrapper; first | (rw [if_pos (by decide +kernel)]; kernel_rfl) | (rw [if_neg (by decide +kernel)]; exact ⟨rfl, rfl⟩))
    (fun os started H enc _ => lifted os started H enc)
end Go.Proofs.Ytpkefojkehahlaa.sealApart
namespace Go.Proofs.Ytpkefojkehahlaa
/-- The given statement. -/
theorem sealApart_holds : Rows.SealApartSaid := sealApart.over
end Go.Proofs.Ytpkefojkehahlaa
