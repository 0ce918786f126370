/-
  SealTears returns true for every two marks and bodies and every cut: a torn sector is one of both, whole, or none.
  Conditions: none; the statement is the given one, for every input.
-/
import Derived.Test.YtpkefojkehahlaaRows
import Derived.Test.YtpkefojkehahlaaSealT1
import Derived.Test.YtpkefojkehahlaaDiskTorn
import Derived.WalkKit
import Derived.ProofKit
import Derived.OpenShut
import Derived.ShutString
import Derived.ChangeOld
import Derived.Below
import Derived.SizedLaws
namespace Go.Proofs.Ytpkefojkehahlaa.sealTears
open Go.ChangeShapes Go.WideShapes Go.ChangeAt Go.RowKit
open Go.ChangeMaps (open_string shut_string)
set_option linter.unusedVariables false
set_option linter.unusedSimpArgs false

theorem own : ownKnob Try.prog.godebug = none := by kernel_rfl
theorem laidOut : laidOutB Try.prog = true := by kernel_rfl

theorem c_torn2 (old new : List UInt8) (cut : Int) (w : World) (ho : old.length = 128) (hn : new.length = 128) :
    Calls Try.prog 14 #[sec old, sec new, .int .i64 cut] w fun e w' => ∃ c : Nat, c ≤ 128 ∧ e = .returned (sec (lay old new c)) ∧ RowKit.Below w.heap.size w w' :=
  (c_torn old new cut w ho hn).mono fun e w' ⟨h1, h2⟩ => ⟨(clamp cut 128).toNat, by have := clamp_range cut 128 (by omega); omega, h1, h2.below (Nat.le_refl _) (fun _ => False.elim)⟩

set_option maxRecDepth 20000 in
set_option maxHeartbeats 6400000 in
/-- The law's own walk. -/
theorem walk (w : World) (a0 b0 : Nat) (w0 : a0 < 18446744073709551616) (u0 : b0 < 18446744073709551616) (v1 u1 : Value) (x1 y1 : List UInt8) (w1 : Sl w.heap.size w v1 x1.length (x1.map bv)) (q1 : Sl w.heap.size w u1 y1.length (y1.map bv)) (l1 : x1.length ≤ 140737488351232) (k1 : y1.length ≤ 140737488351232) (a2 : Int) (w2 : (Lit.int .i64 a2).wf = true) :
    Calls Try.prog 7 #[.agg #[.int .u64 (a0 : Int), .int .u64 (b0 : Int)], .agg #[v1, u1], .int .i64 a2] w fun e w' => e = .returned (.bool true) ∧ Below w.heap.size w w' := by
  obtain ⟨i0, hi, hz0, hz1, hz2⟩ := info_parts Try.info5
  have hal1 : Try.prog.arrayLen 37 = 2 := by kernel_rfl
  have hal2 : Try.prog.arrayLen 38 = 2 := by kernel_rfl
  obtain ⟨cm, hmn⟩ : ∃ cm : Int, ∀ (w : World) (ts : Array TypeId) (t : TypeId), (Builtin.min_ ts t #[.int .i64 a2, .int .i64 128]).run Try.prog w = .ok (.int .i64 cm) w := ⟨_, fun w ts t => run_min_int2 w ts t .i64 .i64 a2 128⟩
  obtain ⟨cx, hmx⟩ : ∃ cx : Int, ∀ (w : World) (ts : Array TypeId) (t : TypeId), (Builtin.max_ ts t #[.int .i64 0, .int .i64 cm]).run Try.prog w = .ok (.int .i64 cx) w := ⟨_, fun w ts t => run_max_int2 w ts t .i64 .i64 0 cm⟩
  obtain ⟨vo, vc, rfl⟩ := sl_form w1
  obtain ⟨uo, uc, rfl⟩ := sl_form q1
  have hst := TwAt.start w a0 b0 (.slice vo x1.length vc) (.slice uo y1.length uc)
  obtain ⟨L0, hL0⟩ : ∃ L, Hid (L = mkS a0 x1) := ⟨_, rfl⟩
  obtain ⟨E0, hE0⟩ : ∃ E, Hid (E = mkE a0 x1) := ⟨_, rfl⟩
  obtain ⟨L1, hL1⟩ : ∃ L, Hid (L = mkS b0 y1) := ⟨_, rfl⟩
  obtain ⟨E1, hE1⟩ : ∃ E, Hid (E = mkE b0 y1) := ⟨_, rfl⟩
  have hlen0 : L0.length = 128 := by rw [hL0.out]; exact mkS_length _ _
  have hlen1 : L1.length = 128 := by rw [hL1.out]; exact mkS_length _ _
  go_enter Try.func7, Try.ntmps7
  go_wp2_with (first
    | (go_at_call 11; refine stop_here ?_))
  unfold Hid
  refine (c_alive _).mono ?_
  rintro e W1 ⟨rfl, hb1⟩
  have hat1 := hst.keep hb1
  clear hst hb1
  go_wp2
  have rg0_1 := RgAt.start hat1
  refine wp_region_tree [] 12 (.quiet 0 (.quiet 1 (.quiet 3 (.quiet 4 (.two 2 (.two 5 (.two 6 (.quiet 7 (.quiet 8 (.quiet 9 (.one 10 (.one 11 .tail))))) 10 (.one 6 (.quiet 7 (.quiet 8 (.quiet 9 (.one 11 .tail)))))) 10 (.one 5 (.one 6 (.quiet 7 (.quiet 8 (.quiet 9 (.one 11 .tail))))))) 10 (.one 2 (.one 5 (.one 6 (.quiet 7 (.quiet 8 (.quiet 9 (.one 11 .tail)))))))))))) (TwS w.heap.size a0 b0 (.slice vo x1.length vc) (.slice uo y1.length uc)) (fun a a' w' => ∃ (u v : Value) (g : Nat), a' = (((((((((((a.put (some 18) (.pointer (some ⟨w.heap.size, 0, none⟩))).put (some 19) (.int .u64 (a0 : Int))).put (some 20) u).put (some 21) (.pointer (some ⟨w.heap.size + 1, 0, none⟩))).put (some 22) (.slice vo x1.length vc)).put (some 23) v).put (some 24) (.tuple #[sec L0, .int .i64 E0])).put (some 17) (.tuple #[sec L0, .int .i64 E0])).put (some 25) (sec L0)).put (some 26) (.int .i64 E0)).put (some 7) (.pointer (some ⟨g, 0, none⟩))) ∧ TwAt w w' a0 b0 (.slice vo x1.length vc) (.slice uo y1.length uc) ∧ Below W1.heap.size W1 w' ∧ w'.heap[g]? = some (.cells (L0.map bv).toArray 27 (0, 0))) (by kernel_rfl) (by kernel_rfl) ?_ ?_
  · skip
    refine tree_quiet _ ?_ rfl rg0_1.tw.s rfl ?_ ?_
    rotate_left
    · rintro w' ⟨hS1, hS2, hS3, hS4⟩; go_simp; rfl
    simp only [Act.put, List.setIfInBounds_toArray, List.set_cons_zero, List.set_cons_succ]
    refine tree_quiet _ ?_ rfl rg0_1.tw.s rfl ?_ ?_
    rotate_left
    · rintro w' ⟨hS1, hS2, hS3, hS4⟩; go_simp; rfl
    simp only [Act.put, List.setIfInBounds_toArray, List.set_cons_zero, List.set_cons_succ]
    refine tree_quiet _ ?_ rfl rg0_1.tw.s rfl ?_ ?_
    rotate_left
    · rintro w' ⟨hS1, hS2, hS3, hS4⟩; go_simp; rfl
    simp only [Act.put, List.setIfInBounds_toArray, List.set_cons_zero, List.set_cons_succ]
    refine tree_quiet _ ?_ rfl rg0_1.tw.s rfl ?_ ?_
    rotate_left
    · rintro w' ⟨hS1, hS2, hS3, hS4⟩; go_simp; rfl
    simp only [Act.put, List.setIfInBounds_toArray, List.set_cons_zero, List.set_cons_succ]
    generalize W1.drew = W0_2 at *
    refine tree_two _ _ rfl rfl (fun K1 hK1 => ?_) (fun K1 hK1 => ?_)
    · skip
      have rg0_3 := rg0_1.makeB
      go_wp2
      refine hK1 _ _ rg0_3.tw.s ?_
      clear hK1 K1
      have hrow := rg0_3.row _ _ rfl
      generalize W0_2.alloc (.cells #[] 5) = W0_4 at *
      refine tree_two _ _ rfl rfl (fun K1 hK1 => ?_) (fun K1 hK1 => ?_)
      · skip
        have hsl := w1.keep rg0_3.tw.bel
        go_wp2_with (at_builtin; refine wpList_append_sl _ rfl _ _ 23 rfl W1.heap.size 5 i0 (.int .u8 0) 1 1 Try.underlying23 hi hz0 hz1 hz2 rfl (by decide) _ 0 [] rfl hrow w.heap.size _ x1.length (x1.map bv) rfl hsl (by simp) (bv_oneCell _) (by unfold maxLen; omega) (by omega) rg0_3.bel.size ?_)
        intro v0_5 W0_6 ho hgr hvr
        have rg0_7 := rg0_3.grow (ys := x1) (by simpa using ho) hgr hvr
        have hrow := rg0_7.row _ _ rfl
        obtain ⟨_, _, rfl⟩ := owns_form hrow
        clear ho hgr hvr hsl
        go_wp2
        refine hK1 _ _ rg0_7.tw.s ?_
        clear hK1 K1
        refine tree_two _ _ rfl rfl (fun K1 hK1 => ?_) (fun K1 hK1 => ?_)
        · skip
          go_wp2_with (go_at_call 10; refine stop_here ?_)
          unfold Hid
          refine (c_make a0 _ x1 _ _ w0 (sl_of_owns hrow) (Nat.le_refl _) (by omega)).mono ?_
          rw [← hL0.out, ← hE0.out]
          rintro e W0_8 ⟨rfl, hbc⟩
          have rg0_9 := rg0_7.call hbc
          clear hbc hrow
          go_wp2
          refine hK1 _ _ rg0_9.tw.s ?_
          clear hK1 K1
          refine tree_quiet _ ?_ rfl rg0_9.tw.s rfl ?_ ?_
          rotate_left
          · rintro w' ⟨hS1, hS2, hS3, hS4⟩; go_simp; rfl
          simp only [Act.put, List.setIfInBounds_toArray, List.set_cons_zero, List.set_cons_succ]
          refine tree_quiet _ ?_ rfl rg0_9.tw.s rfl ?_ ?_
          rotate_left
          · rintro w' ⟨hS1, hS2, hS3, hS4⟩; go_simp; rfl
          simp only [Act.put, List.setIfInBounds_toArray, List.set_cons_zero, List.set_cons_succ]
          refine tree_quiet _ ?_ rfl rg0_9.tw.s rfl ?_ ?_
          rotate_left
          · rintro w' ⟨hS1, hS2, hS3, hS4⟩; go_simp; rfl
          simp only [Act.put, List.setIfInBounds_toArray, List.set_cons_zero, List.set_cons_succ]
          refine tree_one _ rfl (fun K1 hK1 => ?_)
          have rg0_10 := rg0_9.makeA
          go_wp2_with (refine wpList_alloc_agg rfl 27 rfl _ Try.zeroS ?_)
          refine hK1 _ _ rg0_10.tw.s ?_
          clear hK1 K1
          generalize W0_8.alloc (.cells (z128.map bv).toArray 27) = W0_11 at *
          refine tree_one _ rfl (fun K1 hK1 => ?_)
          obtain ⟨htw, hbw, hput⟩ := rg0_10.put L0
          go_wp2_with (refine wpList_store_all rfl 27 _ _ rfl (W0_8.heap.size) rfl (sec L0) rfl _ rfl _ 27 (rg0_10.var _ rfl).2 (sec_fit hlen0) (bv_oneCell _) (sizeS hlen0) ?_)
          refine hK1 _ _ htw.s ?_
          refine tree_tail ?_
          exact ⟨_, _, _, rfl, htw, hbw, hput⟩
        · skip
          have rg0_12 := rg0_7.makeA
          go_wp2_with (refine wpList_alloc_agg rfl 27 rfl _ Try.zeroS ?_)
          refine hK1 _ _ rg0_12.tw.s ?_
          clear hK1 K1
          have hrow := rg0_12.row _ _ rfl
          generalize W0_6.alloc (.cells (z128.map bv).toArray 27) = W0_13 at *
          refine tree_one _ rfl (fun K1 hK1 => ?_)
          go_wp2_with (go_at_call 10; refine stop_here ?_)
          unfold Hid
          refine (c_make a0 _ x1 _ _ w0 (sl_of_owns hrow) (Nat.le_refl _) (by omega)).mono ?_
          rw [← hL0.out, ← hE0.out]
          rintro e W0_14 ⟨rfl, hbc⟩
          have rg0_15 := rg0_12.call hbc
          clear hbc hrow
          go_wp2
          refine hK1 _ _ rg0_15.tw.s ?_
          clear hK1 K1
          refine tree_quiet _ ?_ rfl rg0_15.tw.s rfl ?_ ?_
          rotate_left
          · rintro w' ⟨hS1, hS2, hS3, hS4⟩; go_simp; rfl
          simp only [Act.put, List.setIfInBounds_toArray, List.set_cons_zero, List.set_cons_succ]
          refine tree_quiet _ ?_ rfl rg0_15.tw.s rfl ?_ ?_
          rotate_left
          · rintro w' ⟨hS1, hS2, hS3, hS4⟩; go_simp; rfl
          simp only [Act.put, List.setIfInBounds_toArray, List.set_cons_zero, List.set_cons_succ]
          refine tree_quiet _ ?_ rfl rg0_15.tw.s rfl ?_ ?_
          rotate_left
          · rintro w' ⟨hS1, hS2, hS3, hS4⟩; go_simp; rfl
          simp only [Act.put, List.setIfInBounds_toArray, List.set_cons_zero, List.set_cons_succ]
          refine tree_one _ rfl (fun K1 hK1 => ?_)
          obtain ⟨htw, hbw, hput⟩ := rg0_15.put L0
          go_wp2_with (refine wpList_store_all rfl 27 _ _ rfl (W0_6.heap.size) rfl (sec L0) rfl _ rfl _ 27 (rg0_15.var _ rfl).2 (sec_fit hlen0) (bv_oneCell _) (sizeS hlen0) ?_)
          refine hK1 _ _ htw.s ?_
          refine tree_tail ?_
          exact ⟨_, _, _, rfl, htw, hbw, hput⟩
      · skip
        have rg0_16 := rg0_3.makeA
        go_wp2_with (refine wpList_alloc_agg rfl 27 rfl _ Try.zeroS ?_)
        refine hK1 _ _ rg0_16.tw.s ?_
        clear hK1 K1
        have hrow := rg0_16.row _ _ rfl
        generalize W0_4.alloc (.cells (z128.map bv).toArray 27) = W0_17 at *
        refine tree_one _ rfl (fun K1 hK1 => ?_)
        have hsl := w1.keep rg0_16.tw.bel
        go_wp2_with (at_builtin; refine wpList_append_sl _ rfl _ _ 23 rfl W1.heap.size 5 i0 (.int .u8 0) 1 1 Try.underlying23 hi hz0 hz1 hz2 rfl (by decide) _ 0 [] rfl hrow w.heap.size _ x1.length (x1.map bv) rfl hsl (by simp) (bv_oneCell _) (by unfold maxLen; omega) (by omega) rg0_16.bel.size ?_)
        intro v0_18 W0_19 ho hgr hvr
        have rg0_20 := rg0_16.grow (ys := x1) (by simpa using ho) hgr hvr
        have hrow := rg0_20.row _ _ rfl
        obtain ⟨_, _, rfl⟩ := owns_form hrow
        clear ho hgr hvr hsl
        go_wp2
        refine hK1 _ _ rg0_20.tw.s ?_
        clear hK1 K1
        refine tree_one _ rfl (fun K1 hK1 => ?_)
        go_wp2_with (go_at_call 10; refine stop_here ?_)
        unfold Hid
        refine (c_make a0 _ x1 _ _ w0 (sl_of_owns hrow) (Nat.le_refl _) (by omega)).mono ?_
        rw [← hL0.out, ← hE0.out]
        rintro e W0_21 ⟨rfl, hbc⟩
        have rg0_22 := rg0_20.call hbc
        clear hbc hrow
        go_wp2
        refine hK1 _ _ rg0_22.tw.s ?_
        clear hK1 K1
        refine tree_quiet _ ?_ rfl rg0_22.tw.s rfl ?_ ?_
        rotate_left
        · rintro w' ⟨hS1, hS2, hS3, hS4⟩; go_simp; rfl
        simp only [Act.put, List.setIfInBounds_toArray, List.set_cons_zero, List.set_cons_succ]
        refine tree_quiet _ ?_ rfl rg0_22.tw.s rfl ?_ ?_
        rotate_left
        · rintro w' ⟨hS1, hS2, hS3, hS4⟩; go_simp; rfl
        simp only [Act.put, List.setIfInBounds_toArray, List.set_cons_zero, List.set_cons_succ]
        refine tree_quiet _ ?_ rfl rg0_22.tw.s rfl ?_ ?_
        rotate_left
        · rintro w' ⟨hS1, hS2, hS3, hS4⟩; go_simp; rfl
        simp only [Act.put, List.setIfInBounds_toArray, List.set_cons_zero, List.set_cons_succ]
        refine tree_one _ rfl (fun K1 hK1 => ?_)
        obtain ⟨htw, hbw, hput⟩ := rg0_22.put L0
        go_wp2_with (refine wpList_store_all rfl 27 _ _ rfl (W0_4.heap.size) rfl (sec L0) rfl _ rfl _ 27 (rg0_22.var _ rfl).2 (sec_fit hlen0) (bv_oneCell _) (sizeS hlen0) ?_)
        refine hK1 _ _ htw.s ?_
        refine tree_tail ?_
        exact ⟨_, _, _, rfl, htw, hbw, hput⟩
    · skip
      have rg0_23 := rg0_1.makeA
      go_wp2_with (refine wpList_alloc_agg rfl 27 rfl _ Try.zeroS ?_)
      refine hK1 _ _ rg0_23.tw.s ?_
      clear hK1 K1
      generalize W0_2.alloc (.cells (z128.map bv).toArray 27) = W0_24 at *
      refine tree_one _ rfl (fun K1 hK1 => ?_)
      have rg0_25 := rg0_23.makeB
      go_wp2
      refine hK1 _ _ rg0_25.tw.s ?_
      clear hK1 K1
      have hrow := rg0_25.row _ _ rfl
      generalize W0_24.alloc (.cells #[] 5) = W0_26 at *
      refine tree_one _ rfl (fun K1 hK1 => ?_)
      have hsl := w1.keep rg0_25.tw.bel
      go_wp2_with (at_builtin; refine wpList_append_sl _ rfl _ _ 23 rfl W1.heap.size 5 i0 (.int .u8 0) 1 1 Try.underlying23 hi hz0 hz1 hz2 rfl (by decide) _ 0 [] rfl hrow w.heap.size _ x1.length (x1.map bv) rfl hsl (by simp) (bv_oneCell _) (by unfold maxLen; omega) (by omega) rg0_25.bel.size ?_)
      intro v0_27 W0_28 ho hgr hvr
      have rg0_29 := rg0_25.grow (ys := x1) (by simpa using ho) hgr hvr
      have hrow := rg0_29.row _ _ rfl
      obtain ⟨_, _, rfl⟩ := owns_form hrow
      clear ho hgr hvr hsl
      go_wp2
      refine hK1 _ _ rg0_29.tw.s ?_
      clear hK1 K1
      refine tree_one _ rfl (fun K1 hK1 => ?_)
      go_wp2_with (go_at_call 10; refine stop_here ?_)
      unfold Hid
      refine (c_make a0 _ x1 _ _ w0 (sl_of_owns hrow) (Nat.le_refl _) (by omega)).mono ?_
      rw [← hL0.out, ← hE0.out]
      rintro e W0_30 ⟨rfl, hbc⟩
      have rg0_31 := rg0_29.call hbc
      clear hbc hrow
      go_wp2
      refine hK1 _ _ rg0_31.tw.s ?_
      clear hK1 K1
      refine tree_quiet _ ?_ rfl rg0_31.tw.s rfl ?_ ?_
      rotate_left
      · rintro w' ⟨hS1, hS2, hS3, hS4⟩; go_simp; rfl
      simp only [Act.put, List.setIfInBounds_toArray, List.set_cons_zero, List.set_cons_succ]
      refine tree_quiet _ ?_ rfl rg0_31.tw.s rfl ?_ ?_
      rotate_left
      · rintro w' ⟨hS1, hS2, hS3, hS4⟩; go_simp; rfl
      simp only [Act.put, List.setIfInBounds_toArray, List.set_cons_zero, List.set_cons_succ]
      refine tree_quiet _ ?_ rfl rg0_31.tw.s rfl ?_ ?_
      rotate_left
      · rintro w' ⟨hS1, hS2, hS3, hS4⟩; go_simp; rfl
      simp only [Act.put, List.setIfInBounds_toArray, List.set_cons_zero, List.set_cons_succ]
      refine tree_one _ rfl (fun K1 hK1 => ?_)
      obtain ⟨htw, hbw, hput⟩ := rg0_31.put L0
      go_wp2_with (refine wpList_store_all rfl 27 _ _ rfl (W0_2.heap.size) rfl (sec L0) rfl _ rfl _ 27 (rg0_31.var _ rfl).2 (sec_fit hlen0) (bv_oneCell _) (sizeS hlen0) ?_)
      refine hK1 _ _ htw.s ?_
      refine tree_tail ?_
      exact ⟨_, _, _, rfl, htw, hbw, hput⟩
  rintro a' W2 ⟨u3, v3, g0, rfl, hat2, hbel2, hblk0⟩
  simp only [Act.put, List.setIfInBounds_toArray, List.set_cons_zero, List.set_cons_succ, List.drop_succ_cons, List.drop_zero]
  clear hat1 hbel2
  go_wp2
  have rg1_1 := RgAt.start hat2
  refine wp_region_tree [] 12 (.quiet 0 (.quiet 1 (.quiet 3 (.quiet 4 (.two 2 (.two 5 (.two 6 (.quiet 7 (.quiet 8 (.quiet 9 (.one 10 (.one 11 .tail))))) 10 (.one 6 (.quiet 7 (.quiet 8 (.quiet 9 (.one 11 .tail)))))) 10 (.one 5 (.one 6 (.quiet 7 (.quiet 8 (.quiet 9 (.one 11 .tail))))))) 10 (.one 2 (.one 5 (.one 6 (.quiet 7 (.quiet 8 (.quiet 9 (.one 11 .tail)))))))))))) (TwS w.heap.size a0 b0 (.slice vo x1.length vc) (.slice uo y1.length uc)) (fun a a' w' => ∃ (u v : Value) (g : Nat), a' = (((((((((((a.put (some 28) (.pointer (some ⟨w.heap.size, 1, none⟩))).put (some 29) (.int .u64 (b0 : Int))).put (some 30) u).put (some 31) (.pointer (some ⟨w.heap.size + 1, 1, none⟩))).put (some 32) (.slice uo y1.length uc)).put (some 33) v).put (some 34) (.tuple #[sec L1, .int .i64 E1])).put (some 27) (.tuple #[sec L1, .int .i64 E1])).put (some 35) (sec L1)).put (some 36) (.int .i64 E1)).put (some 9) (.pointer (some ⟨g, 0, none⟩))) ∧ TwAt w w' a0 b0 (.slice vo x1.length vc) (.slice uo y1.length uc) ∧ Below W2.heap.size W2 w' ∧ w'.heap[g]? = some (.cells (L1.map bv).toArray 27 (0, 0))) (by kernel_rfl) (by kernel_rfl) ?_ ?_
  · skip
    refine tree_quiet _ ?_ rfl rg1_1.tw.s rfl ?_ ?_
    rotate_left
    · rintro w' ⟨hS1, hS2, hS3, hS4⟩; go_simp; rfl
    simp only [Act.put, List.setIfInBounds_toArray, List.set_cons_zero, List.set_cons_succ]
    refine tree_quiet _ ?_ rfl rg1_1.tw.s rfl ?_ ?_
    rotate_left
    · rintro w' ⟨hS1, hS2, hS3, hS4⟩; go_simp; rfl
    simp only [Act.put, List.setIfInBounds_toArray, List.set_cons_zero, List.set_cons_succ]
    refine tree_quiet _ ?_ rfl rg1_1.tw.s rfl ?_ ?_
    rotate_left
    · rintro w' ⟨hS1, hS2, hS3, hS4⟩; go_simp; rfl
    simp only [Act.put, List.setIfInBounds_toArray, List.set_cons_zero, List.set_cons_succ]
    refine tree_quiet _ ?_ rfl rg1_1.tw.s rfl ?_ ?_
    rotate_left
    · rintro w' ⟨hS1, hS2, hS3, hS4⟩; go_simp; rfl
    simp only [Act.put, List.setIfInBounds_toArray, List.set_cons_zero, List.set_cons_succ]
    generalize W2.drew = W1_2 at *
    refine tree_two _ _ rfl rfl (fun K1 hK1 => ?_) (fun K1 hK1 => ?_)
    · skip
      have rg1_3 := rg1_1.makeB
      go_wp2
      refine hK1 _ _ rg1_3.tw.s ?_
      clear hK1 K1
      have hrow := rg1_3.row _ _ rfl
      generalize W1_2.alloc (.cells #[] 5) = W1_4 at *
      refine tree_two _ _ rfl rfl (fun K1 hK1 => ?_) (fun K1 hK1 => ?_)
      · skip
        have hsl := q1.keep rg1_3.tw.bel
        go_wp2_with (at_builtin; refine wpList_append_sl _ rfl _ _ 23 rfl W2.heap.size 5 i0 (.int .u8 0) 1 1 Try.underlying23 hi hz0 hz1 hz2 rfl (by decide) _ 0 [] rfl hrow w.heap.size _ y1.length (y1.map bv) rfl hsl (by simp) (bv_oneCell _) (by unfold maxLen; omega) (by omega) rg1_3.bel.size ?_)
        intro v1_5 W1_6 ho hgr hvr
        have rg1_7 := rg1_3.grow (ys := y1) (by simpa using ho) hgr hvr
        have hrow := rg1_7.row _ _ rfl
        obtain ⟨_, _, rfl⟩ := owns_form hrow
        clear ho hgr hvr hsl
        go_wp2
        refine hK1 _ _ rg1_7.tw.s ?_
        clear hK1 K1
        refine tree_two _ _ rfl rfl (fun K1 hK1 => ?_) (fun K1 hK1 => ?_)
        · skip
          go_wp2_with (go_at_call 10; refine stop_here ?_)
          unfold Hid
          refine (c_make b0 _ y1 _ _ u0 (sl_of_owns hrow) (Nat.le_refl _) (by omega)).mono ?_
          rw [← hL1.out, ← hE1.out]
          rintro e W1_8 ⟨rfl, hbc⟩
          have rg1_9 := rg1_7.call hbc
          clear hbc hrow
          go_wp2
          refine hK1 _ _ rg1_9.tw.s ?_
          clear hK1 K1
          refine tree_quiet _ ?_ rfl rg1_9.tw.s rfl ?_ ?_
          rotate_left
          · rintro w' ⟨hS1, hS2, hS3, hS4⟩; go_simp; rfl
          simp only [Act.put, List.setIfInBounds_toArray, List.set_cons_zero, List.set_cons_succ]
          refine tree_quiet _ ?_ rfl rg1_9.tw.s rfl ?_ ?_
          rotate_left
          · rintro w' ⟨hS1, hS2, hS3, hS4⟩; go_simp; rfl
          simp only [Act.put, List.setIfInBounds_toArray, List.set_cons_zero, List.set_cons_succ]
          refine tree_quiet _ ?_ rfl rg1_9.tw.s rfl ?_ ?_
          rotate_left
          · rintro w' ⟨hS1, hS2, hS3, hS4⟩; go_simp; rfl
          simp only [Act.put, List.setIfInBounds_toArray, List.set_cons_zero, List.set_cons_succ]
          refine tree_one _ rfl (fun K1 hK1 => ?_)
          have rg1_10 := rg1_9.makeA
          go_wp2_with (refine wpList_alloc_agg rfl 27 rfl _ Try.zeroS ?_)
          refine hK1 _ _ rg1_10.tw.s ?_
          clear hK1 K1
          generalize W1_8.alloc (.cells (z128.map bv).toArray 27) = W1_11 at *
          refine tree_one _ rfl (fun K1 hK1 => ?_)
          obtain ⟨htw, hbw, hput⟩ := rg1_10.put L1
          go_wp2_with (refine wpList_store_all rfl 27 _ _ rfl (W1_8.heap.size) rfl (sec L1) rfl _ rfl _ 27 (rg1_10.var _ rfl).2 (sec_fit hlen1) (bv_oneCell _) (sizeS hlen1) ?_)
          refine hK1 _ _ htw.s ?_
          refine tree_tail ?_
          exact ⟨_, _, _, rfl, htw, hbw, hput⟩
        · skip
          have rg1_12 := rg1_7.makeA
          go_wp2_with (refine wpList_alloc_agg rfl 27 rfl _ Try.zeroS ?_)
          refine hK1 _ _ rg1_12.tw.s ?_
          clear hK1 K1
          have hrow := rg1_12.row _ _ rfl
          generalize W1_6.alloc (.cells (z128.map bv).toArray 27) = W1_13 at *
          refine tree_one _ rfl (fun K1 hK1 => ?_)
          go_wp2_with (go_at_call 10; refine stop_here ?_)
          unfold Hid
          refine (c_make b0 _ y1 _ _ u0 (sl_of_owns hrow) (Nat.le_refl _) (by omega)).mono ?_
          rw [← hL1.out, ← hE1.out]
          rintro e W1_14 ⟨rfl, hbc⟩
          have rg1_15 := rg1_12.call hbc
          clear hbc hrow
          go_wp2
          refine hK1 _ _ rg1_15.tw.s ?_
          clear hK1 K1
          refine tree_quiet _ ?_ rfl rg1_15.tw.s rfl ?_ ?_
          rotate_left
          · rintro w' ⟨hS1, hS2, hS3, hS4⟩; go_simp; rfl
          simp only [Act.put, List.setIfInBounds_toArray, List.set_cons_zero, List.set_cons_succ]
          refine tree_quiet _ ?_ rfl rg1_15.tw.s rfl ?_ ?_
          rotate_left
          · rintro w' ⟨hS1, hS2, hS3, hS4⟩; go_simp; rfl
          simp only [Act.put, List.setIfInBounds_toArray, List.set_cons_zero, List.set_cons_succ]
          refine tree_quiet _ ?_ rfl rg1_15.tw.s rfl ?_ ?_
          rotate_left
          · rintro w' ⟨hS1, hS2, hS3, hS4⟩; go_simp; rfl
          simp only [Act.put, List.setIfInBounds_toArray, List.set_cons_zero, List.set_cons_succ]
          refine tree_one _ rfl (fun K1 hK1 => ?_)
          obtain ⟨htw, hbw, hput⟩ := rg1_15.put L1
          go_wp2_with (refine wpList_store_all rfl 27 _ _ rfl (W1_6.heap.size) rfl (sec L1) rfl _ rfl _ 27 (rg1_15.var _ rfl).2 (sec_fit hlen1) (bv_oneCell _) (sizeS hlen1) ?_)
          refine hK1 _ _ htw.s ?_
          refine tree_tail ?_
          exact ⟨_, _, _, rfl, htw, hbw, hput⟩
      · skip
        have rg1_16 := rg1_3.makeA
        go_wp2_with (refine wpList_alloc_agg rfl 27 rfl _ Try.zeroS ?_)
        refine hK1 _ _ rg1_16.tw.s ?_
        clear hK1 K1
        have hrow := rg1_16.row _ _ rfl
        generalize W1_4.alloc (.cells (z128.map bv).toArray 27) = W1_17 at *
        refine tree_one _ rfl (fun K1 hK1 => ?_)
        have hsl := q1.keep rg1_16.tw.bel
        go_wp2_with (at_builtin; refine wpList_append_sl _ rfl _ _ 23 rfl W2.heap.size 5 i0 (.int .u8 0) 1 1 Try.underlying23 hi hz0 hz1 hz2 rfl (by decide) _ 0 [] rfl hrow w.heap.size _ y1.length (y1.map bv) rfl hsl (by simp) (bv_oneCell _) (by unfold maxLen; omega) (by omega) rg1_16.bel.size ?_)
        intro v1_18 W1_19 ho hgr hvr
        have rg1_20 := rg1_16.grow (ys := y1) (by simpa using ho) hgr hvr
        have hrow := rg1_20.row _ _ rfl
        obtain ⟨_, _, rfl⟩ := owns_form hrow
        clear ho hgr hvr hsl
        go_wp2
        refine hK1 _ _ rg1_20.tw.s ?_
        clear hK1 K1
        refine tree_one _ rfl (fun K1 hK1 => ?_)
        go_wp2_with (go_at_call 10; refine stop_here ?_)
        unfold Hid
        refine (c_make b0 _ y1 _ _ u0 (sl_of_owns hrow) (Nat.le_refl _) (by omega)).mono ?_
        rw [← hL1.out, ← hE1.out]
        rintro e W1_21 ⟨rfl, hbc⟩
        have rg1_22 := rg1_20.call hbc
        clear hbc hrow
        go_wp2
        refine hK1 _ _ rg1_22.tw.s ?_
        clear hK1 K1
        refine tree_quiet _ ?_ rfl rg1_22.tw.s rfl ?_ ?_
        rotate_left
        · rintro w' ⟨hS1, hS2, hS3, hS4⟩; go_simp; rfl
        simp only [Act.put, List.setIfInBounds_toArray, List.set_cons_zero, List.set_cons_succ]
        refine tree_quiet _ ?_ rfl rg1_22.tw.s rfl ?_ ?_
        rotate_left
        · rintro w' ⟨hS1, hS2, hS3, hS4⟩; go_simp; rfl
        simp only [Act.put, List.setIfInBounds_toArray, List.set_cons_zero, List.set_cons_succ]
        refine tree_quiet _ ?_ rfl rg1_22.tw.s rfl ?_ ?_
        rotate_left
        · rintro w' ⟨hS1, hS2, hS3, hS4⟩; go_simp; rfl
        simp only [Act.put, List.setIfInBounds_toArray, List.set_cons_zero, List.set_cons_succ]
        refine tree_one _ rfl (fun K1 hK1 => ?_)
        obtain ⟨htw, hbw, hput⟩ := rg1_22.put L1
        go_wp2_with (refine wpList_store_all rfl 27 _ _ rfl (W1_4.heap.size) rfl (sec L1) rfl _ rfl _ 27 (rg1_22.var _ rfl).2 (sec_fit hlen1) (bv_oneCell _) (sizeS hlen1) ?_)
        refine hK1 _ _ htw.s ?_
        refine tree_tail ?_
        exact ⟨_, _, _, rfl, htw, hbw, hput⟩
    · skip
      have rg1_23 := rg1_1.makeA
      go_wp2_with (refine wpList_alloc_agg rfl 27 rfl _ Try.zeroS ?_)
      refine hK1 _ _ rg1_23.tw.s ?_
      clear hK1 K1
      generalize W1_2.alloc (.cells (z128.map bv).toArray 27) = W1_24 at *
      refine tree_one _ rfl (fun K1 hK1 => ?_)
      have rg1_25 := rg1_23.makeB
      go_wp2
      refine hK1 _ _ rg1_25.tw.s ?_
      clear hK1 K1
      have hrow := rg1_25.row _ _ rfl
      generalize W1_24.alloc (.cells #[] 5) = W1_26 at *
      refine tree_one _ rfl (fun K1 hK1 => ?_)
      have hsl := q1.keep rg1_25.tw.bel
      go_wp2_with (at_builtin; refine wpList_append_sl _ rfl _ _ 23 rfl W2.heap.size 5 i0 (.int .u8 0) 1 1 Try.underlying23 hi hz0 hz1 hz2 rfl (by decide) _ 0 [] rfl hrow w.heap.size _ y1.length (y1.map bv) rfl hsl (by simp) (bv_oneCell _) (by unfold maxLen; omega) (by omega) rg1_25.bel.size ?_)
      intro v1_27 W1_28 ho hgr hvr
      have rg1_29 := rg1_25.grow (ys := y1) (by simpa using ho) hgr hvr
      have hrow := rg1_29.row _ _ rfl
      obtain ⟨_, _, rfl⟩ := owns_form hrow
      clear ho hgr hvr hsl
      go_wp2
      refine hK1 _ _ rg1_29.tw.s ?_
      clear hK1 K1
      refine tree_one _ rfl (fun K1 hK1 => ?_)
      go_wp2_with (go_at_call 10; refine stop_here ?_)
      unfold Hid
      refine (c_make b0 _ y1 _ _ u0 (sl_of_owns hrow) (Nat.le_refl _) (by omega)).mono ?_
      rw [← hL1.out, ← hE1.out]
      rintro e W1_30 ⟨rfl, hbc⟩
      have rg1_31 := rg1_29.call hbc
      clear hbc hrow
      go_wp2
      refine hK1 _ _ rg1_31.tw.s ?_
      clear hK1 K1
      refine tree_quiet _ ?_ rfl rg1_31.tw.s rfl ?_ ?_
      rotate_left
      · rintro w' ⟨hS1, hS2, hS3, hS4⟩; go_simp; rfl
      simp only [Act.put, List.setIfInBounds_toArray, List.set_cons_zero, List.set_cons_succ]
      refine tree_quiet _ ?_ rfl rg1_31.tw.s rfl ?_ ?_
      rotate_left
      · rintro w' ⟨hS1, hS2, hS3, hS4⟩; go_simp; rfl
      simp only [Act.put, List.setIfInBounds_toArray, List.set_cons_zero, List.set_cons_succ]
      refine tree_quiet _ ?_ rfl rg1_31.tw.s rfl ?_ ?_
      rotate_left
      · rintro w' ⟨hS1, hS2, hS3, hS4⟩; go_simp; rfl
      simp only [Act.put, List.setIfInBounds_toArray, List.set_cons_zero, List.set_cons_succ]
      refine tree_one _ rfl (fun K1 hK1 => ?_)
      obtain ⟨htw, hbw, hput⟩ := rg1_31.put L1
      go_wp2_with (refine wpList_store_all rfl 27 _ _ rfl (W1_2.heap.size) rfl (sec L1) rfl _ rfl _ 27 (rg1_31.var _ rfl).2 (sec_fit hlen1) (bv_oneCell _) (sizeS hlen1) ?_)
      refine hK1 _ _ htw.s ?_
      refine tree_tail ?_
      exact ⟨_, _, _, rfl, htw, hbw, hput⟩
  rintro a' W3 ⟨u4, v4, g1, rfl, hat3, hbel3, hblk1⟩
  simp only [Act.put, List.setIfInBounds_toArray, List.set_cons_zero, List.set_cons_succ, List.drop_succ_cons, List.drop_zero]
  have hblk0 := keep_blk hblk0 hbel3
  clear hat2 hbel3
  have hbE : Hid (Below w.heap.size w W3) := hat3.bel
  have hr0 := range_all hblk0
  have hr1 := range_all hblk1
  have hgd := guardS
  have hzz := eqlS z128 z128 z128_length z128_length
  have hzn := neqS z128 z128 z128_length z128_length
  rw [BEq.rfl] at hzz
  rw [BEq.rfl, Bool.not_true] at hzn
  obtain ⟨cm0, cm1, -, -⟩ := hat3.s
  clear w1 q1
  by_cases ho1 : okS b0 y1
  case neg =>
    have f1 : E1 = 51 := by rw [hE1.out]; unfold mkE; rw [if_neg ho1]
    have f2 : L1 = z128 := by rw [hL1.out]; unfold mkS; rw [if_neg ho1]
    subst f1
    subst f2
    clear hat3 hblk0 hblk1 hL0 hE0 hL1 hE1 ho1 hzn
    go_wp2_with (first
      | (refine wpList_load_as rfl 27 (.tmp 9) rfl g1 0 rfl (sec z128) _ rfl hr1 Try.rowS (sizeS z128_length) ?_)
      | (refine wpList_build_as rfl 27 #[] rfl (sec z128) _ rfl Try.builtS ?_))
    go_ret
    exact ⟨rfl, hbE.out⟩
  have f1 : E1 = 0 := by rw [hE1.out]; unfold mkE; rw [if_pos ho1]
  have g1e : L1 = sealOf b0 y1 := by rw [hL1.out]; unfold mkS; rw [if_pos ho1]
  subst f1
  by_cases ho0 : okS a0 x1
  case neg =>
    have f0 : E0 = 51 := by rw [hE0.out]; unfold mkE; rw [if_neg ho0]
    have f2 : L0 = z128 := by rw [hL0.out]; unfold mkS; rw [if_neg ho0]
    subst f0
    have hwhole : Hid (∀ c : Nat, c ≤ 128 → (openS (lay L0 L1 c)).isSome = true → lay L0 L1 c = L0 ∨ lay L0 L1 c = L1) := fun c hc h => by
      rw [g1e] at h ⊢
      exact torn_whole hc u0 ho1 (.inl f2) h
    have hzq : (L0 == z128) = true := beq_iff_eq.2 f2
    have hzn := neqS L0 z128 hlen0 z128_length
    rw [hzq, Bool.not_true] at hzn
    clear hzq
    clear hat3 hL0 hE0 hL1 hE1 ho0 ho1 f2 g1e hzz
    go_wp2_with (first
      | (refine wpList_load_as rfl 27 (.tmp 7) rfl g0 0 rfl (sec L0) _ rfl hr0 Try.rowS (sizeS hlen0) ?_)
      | (refine wpList_load_as rfl 27 (.tmp 9) rfl g1 0 rfl (sec L1) _ rfl hr1 Try.rowS (sizeS hlen1) ?_)
      | (refine wpList_build_as rfl 27 #[] rfl (sec z128) _ rfl Try.builtS ?_)
      | (go_at_call 14; refine stop_here ?_))
    unfold Hid
    refine (c_torn2 L0 L1 _ _ hlen0 hlen1).mono ?_
    rintro e W4 ⟨c, hc, rfl, hb4⟩
    have hT : Hid ((openS (lay L0 L1 c)).isSome = true → lay L0 L1 c = L0 ∨ lay L0 L1 c = L1) := hwhole.out c hc
    have hlenT := lay_length hlen0 hlen1 hc
    clear hwhole
    generalize lay L0 L1 c = T at *
    have hblk0 := keep_blk hblk0 hb4
    have hblk1 := keep_blk hblk1 hb4
    have hbF := hbE.out.trans (hb4.mono hbE.out.size)
    have hmd := made W4
    have hblkT := putS_blk W4 T
    have hb5 := putS_below W4 T
    have hrT := range_all hblkT
    have hblk0 := keep_blk hblk0 hb5
    have hblk1 := keep_blk hblk1 hb5
    have hbG := hbF.trans (hb5.mono hbF.size)
    have hW5 : Hid ((W4.alloc (.cells (z128.map bv).toArray 27)).setRow W4.heap.size (T.map bv).toArray = putS W4 T) := rfl
    clear hb4 hb5 hbF hr0 hr1 hbE
    generalize putS W4 T = W5 at *
    go_wp2_with (first
      | (refine wpList_alloc_agg rfl 27 rfl _ Try.zeroS ?_)
      | (refine wpList_store_all rfl 27 _ _ rfl W4.heap.size rfl (sec T) rfl _ rfl _ 27 hmd.new (sec_fit hlenT) (bv_oneCell _) (sizeS hlenT) ?_; rw [hW5.out])
      | (refine wpList_load_as rfl 27 (.tmp 11) rfl W4.heap.size 0 rfl (sec T) _ rfl hrT Try.rowS (sizeS hlenT) ?_)
      | (go_at_call 9; refine stop_here ?_))
    unfold Hid
    refine (c_open T _ hlenT).mono ?_
    rintro e W6 ⟨v6, rfl, hs6, hb6⟩
    obtain ⟨ao6, cap6, rfl⟩ := sl_form hs6
    have hr0 := range_all (keep_blk hblk0 hb6)
    have hr1 := range_all (keep_blk hblk1 hb6)
    have hrT := range_all (keep_blk hblkT hb6)
    have hbH : Hid (Below w.heap.size w W6) := hbG.trans (hb6.mono hbG.size)
    have hM := oM_lt T
    have hgd := guardS
    have hq0 := eqlS T L0 hlenT hlen0
    have hq1 := eqlS T L1 hlenT hlen1
    clear hs6 hb6 hblk0 hblk1 hblkT hbG hmd hW5
    generalize oM T = M at *
    cases hO : (openS T).isSome with
    | false =>
      clear hT hO hq0 hq1
      go_wp2
      go_ret
      exact ⟨rfl, hbH.out⟩
    | true =>
      have hT := hT.out hO
      clear hO
      by_cases h0 : T = L0
      · have hb0 : (T == L0) = true := beq_iff_eq.2 h0
        rw [hb0] at hq0
        clear hb0 h0 hT hq1
        go_wp2_with (first
          | (refine wpList_load_as rfl 27 (.tmp 11) rfl W4.heap.size 0 rfl (sec T) _ rfl hrT Try.rowS (sizeS hlenT) ?_)
          | (refine wpList_load_as rfl 27 (.tmp 7) rfl g0 0 rfl (sec L0) _ rfl hr0 Try.rowS (sizeS hlen0) ?_))
        go_ret
        exact ⟨rfl, hbH.out⟩
      · have hb0 : (T == L0) = false := beq_eq_false_iff_ne.2 h0
        have hb1 : (T == L1) = true := beq_iff_eq.2 (hT.resolve_left h0)
        rw [hb0] at hq0
        rw [hb1] at hq1
        clear hb0 hb1 h0 hT
        go_wp2_with (first
          | (refine wpList_load_as rfl 27 (.tmp 11) rfl W4.heap.size 0 rfl (sec T) _ rfl hrT Try.rowS (sizeS hlenT) ?_)
          | (refine wpList_load_as rfl 27 (.tmp 7) rfl g0 0 rfl (sec L0) _ rfl hr0 Try.rowS (sizeS hlen0) ?_)
          | (refine wpList_load_as rfl 27 (.tmp 9) rfl g1 0 rfl (sec L1) _ rfl hr1 Try.rowS (sizeS hlen1) ?_))
        go_ret
        exact ⟨rfl, hbH.out⟩

  have f0 : E0 = 0 := by rw [hE0.out]; unfold mkE; rw [if_pos ho0]
  have g0e : L0 = sealOf a0 x1 := by rw [hL0.out]; unfold mkS; rw [if_pos ho0]
  subst f0
  by_cases hab : a0 = b0
  case pos =>
    subst hab
    clear hat3 hblk0 hblk1 hL0 hE0 hL1 hE1 ho0 ho1 g0e g1e hzz hzn
    go_wp2
    go_ret
    exact ⟨rfl, hbE.out⟩
  have hwhole : Hid (∀ c : Nat, c ≤ 128 → (openS (lay L0 L1 c)).isSome = true → lay L0 L1 c = L0 ∨ lay L0 L1 c = L1) := fun c hc h => by
    rw [g1e] at h ⊢
    exact torn_whole hc u0 ho1 (.inr ⟨a0, x1, w0, ho0, g0e, hab⟩) h
  have hd : ((a0 : Int) == (b0 : Int)) = false := by rw [beq_eq_false_iff_ne]; omega
  clear hat3 hL0 hE0 hL1 hE1 ho0 ho1 g0e g1e hzz hzn hab
  go_wp2_with (first
    | (refine wpList_load_as rfl 27 (.tmp 7) rfl g0 0 rfl (sec L0) _ rfl hr0 Try.rowS (sizeS hlen0) ?_)
    | (refine wpList_load_as rfl 27 (.tmp 9) rfl g1 0 rfl (sec L1) _ rfl hr1 Try.rowS (sizeS hlen1) ?_)
    | (refine wpList_build_as rfl 27 #[] rfl (sec z128) _ rfl Try.builtS ?_)
    | (go_at_call 14; refine stop_here ?_))
  unfold Hid
  refine (c_torn2 L0 L1 _ _ hlen0 hlen1).mono ?_
  rintro e W4 ⟨c, hc, rfl, hb4⟩
  have hT : Hid ((openS (lay L0 L1 c)).isSome = true → lay L0 L1 c = L0 ∨ lay L0 L1 c = L1) := hwhole.out c hc
  have hlenT := lay_length hlen0 hlen1 hc
  clear hwhole
  generalize lay L0 L1 c = T at *
  have hblk0 := keep_blk hblk0 hb4
  have hblk1 := keep_blk hblk1 hb4
  have hbF := hbE.out.trans (hb4.mono hbE.out.size)
  have hmd := made W4
  have hblkT := putS_blk W4 T
  have hb5 := putS_below W4 T
  have hrT := range_all hblkT
  have hblk0 := keep_blk hblk0 hb5
  have hblk1 := keep_blk hblk1 hb5
  have hbG := hbF.trans (hb5.mono hbF.size)
  have hW5 : Hid ((W4.alloc (.cells (z128.map bv).toArray 27)).setRow W4.heap.size (T.map bv).toArray = putS W4 T) := rfl
  clear hb4 hb5 hbF hr0 hr1 hbE
  generalize putS W4 T = W5 at *
  go_wp2_with (first
    | (refine wpList_alloc_agg rfl 27 rfl _ Try.zeroS ?_)
    | (refine wpList_store_all rfl 27 _ _ rfl W4.heap.size rfl (sec T) rfl _ rfl _ 27 hmd.new (sec_fit hlenT) (bv_oneCell _) (sizeS hlenT) ?_; rw [hW5.out])
    | (refine wpList_load_as rfl 27 (.tmp 11) rfl W4.heap.size 0 rfl (sec T) _ rfl hrT Try.rowS (sizeS hlenT) ?_)
    | (go_at_call 9; refine stop_here ?_))
  unfold Hid
  refine (c_open T _ hlenT).mono ?_
  rintro e W6 ⟨v6, rfl, hs6, hb6⟩
  obtain ⟨ao6, cap6, rfl⟩ := sl_form hs6
  have hr0 := range_all (keep_blk hblk0 hb6)
  have hr1 := range_all (keep_blk hblk1 hb6)
  have hrT := range_all (keep_blk hblkT hb6)
  have hbH : Hid (Below w.heap.size w W6) := hbG.trans (hb6.mono hbG.size)
  have hM := oM_lt T
  have hgd := guardS
  have hq0 := eqlS T L0 hlenT hlen0
  have hq1 := eqlS T L1 hlenT hlen1
  clear hs6 hb6 hblk0 hblk1 hblkT hbG hmd hW5
  generalize oM T = M at *
  cases hO : (openS T).isSome with
  | false =>
    clear hT hO hq0 hq1
    go_wp2
    go_ret
    exact ⟨rfl, hbH.out⟩
  | true =>
    have hT := hT.out hO
    clear hO
    by_cases h0 : T = L0
    · have hb0 : (T == L0) = true := beq_iff_eq.2 h0
      rw [hb0] at hq0
      clear hb0 h0 hT hq1
      go_wp2_with (first
        | (refine wpList_load_as rfl 27 (.tmp 11) rfl W4.heap.size 0 rfl (sec T) _ rfl hrT Try.rowS (sizeS hlenT) ?_)
        | (refine wpList_load_as rfl 27 (.tmp 7) rfl g0 0 rfl (sec L0) _ rfl hr0 Try.rowS (sizeS hlen0) ?_))
      go_ret
      exact ⟨rfl, hbH.out⟩
    · have hb0 : (T == L0) = false := beq_eq_false_iff_ne.2 h0
      have hb1 : (T == L1) = true := beq_iff_eq.2 (hT.resolve_left h0)
      rw [hb0] at hq0
      rw [hb1] at hq1
      clear hb0 hb1 h0 hT
      go_wp2_with (first
        | (refine wpList_load_as rfl 27 (.tmp 11) rfl W4.heap.size 0 rfl (sec T) _ rfl hrT Try.rowS (sizeS hlenT) ?_)
        | (refine wpList_load_as rfl 27 (.tmp 7) rfl g0 0 rfl (sec L0) _ rfl hr0 Try.rowS (sizeS hlen0) ?_)
        | (refine wpList_load_as rfl 27 (.tmp 9) rfl g1 0 rfl (sec L1) _ rfl hr1 Try.rowS (sizeS hlen1) ?_))
      go_ret
      exact ⟨rfl, hbH.out⟩

set_option maxRecDepth 100000 in
theorem lifted (os : Os) (started : os.Started) (H : Type) (enc : TypeId × Value → H) :
    ReturnsInHanded {} Try.checked os 7 .any (Rows.sealTearsSpec.pre6 enc Try.prog Try.f7 Rows.sealTearsRow.domain false) (Rows.sealTearsSpec.post enc Try.prog Try.f7 false true false false) := by
  refine returnsInHanded_of_change_sized (C := Try.checked) own started (by kernel_rfl) Try.func7
    (ChangeSpec.witness6 (enc := enc) (C := Try.checked) false ⟨#[], #[.agg #[.int .u64 0, .int .u64 0], .agg #[.slice none 0 0, .slice none 0 0], .int .i64 0], []⟩ 8 (by kernel_rfl) (by kernel_rfl) (by kernel_rfl) (by kernel_rfl)) ?_
  intro W base args ds gs before hval0 hW hcnd hsz0 _
  have hval : ∀ (j : Nat) t v, Try.f7.params[j]? = some t → args[j]? = some v → Value.okWide Try.prog W .any base t v := hval0
  have hsz : (DataW.weightsEach Try.prog (Try.f7.params.toList ++ Rows.sealTearsSpec.plain.varTypes Try.prog) (ds ++ gs)).all (· ≤ reachBytes) = true := hsz0
  have hW' := hW
  obtain ⟨p, q, hA0, hV, rfl, hfz, hnd⟩ := hW
  have hA : DataW.TrodAll enc Try.prog W 0 (fun _ => true) true Try.f7.params.toList args.toList ds p := hA0
  rw [Try.params7] at hA hval hsz
  obtain ⟨v0, vs0, d0, ds0, p0, q0, hargs, rfl, rfl, h0, r0⟩ := trodAll_cons hA
  obtain ⟨v1, vs1, d1, ds1, p1, q1, rfl, rfl, rfl, h1, r1⟩ := trodAll_cons r0
  obtain ⟨v2, vs2, d2, ds2, p2, q2, rfl, rfl, rfl, h2, r2⟩ := trodAll_cons r1
  obtain ⟨rfl, rfl, rfl⟩ := trodAll_nil r2
  obtain rfl : args = #[v0, v1, v2] := by cases args; simp_all
  obtain ⟨rfl, rfl⟩ := trodVars_none hV
  have k0 := h0
  have lt0 : ∀ x ∈ p0, x.block < W.heap.size := by obtain ⟨m, hm⟩ := k0; exact DataW.trod_lt m _ _ _ hm
  obtain ⟨a0, b0, rfl, w0, u0⟩ := open_marks (hval 0 37 v0 rfl rfl) h0
  have k1 := h1
  have lt1 : ∀ x ∈ p1, x.block < W.heap.size := by obtain ⟨m, hm⟩ := k1; exact DataW.trod_lt m _ _ _ hm
  obtain ⟨c1, g1, x1, y1, rfl, w1, q1, l1, m1⟩ := open_bodies (hval 1 38 v1 rfl rfl) h1 (fun n hn => by have := List.all_eq_true.1 hsz n (DataW.weights_mem_each (j := 1) (t := 38) rfl rfl n hn); simpa using this)
  obtain ⟨a2, rfl, rfl, rfl, w2⟩ := open_int Try.underlying3 (hval 2 3 v2 rfl rfl) h2
  clear hA0 hval0
  refine (walk W a0 b0 w0 u0 c1 g1 x1 y1 w1 q1 l1 m1 a2 w2).mono fun e W' ⟨he, bel⟩ => ?_
  subst he
  exact ⟨_, rfl, _, _, _, [], _, [], hW', trodAll_mk1 (shut_bool Try.underlying4 _), (trodAll_cons_mk (Below.trod laidOut (by kernel_rfl) (of_decide_eq_true (by kernel_rfl)) k0 bel lt0) (trodAll_cons_mk (Below.trod laidOut (by kernel_rfl) (of_decide_eq_true (by kernel_rfl)) k1 bel lt1) (trodAll_cons_mk (shut_int Try.underlying3 w2) trodAll_mk0))), rfl, bel.frame _, fun h => by cases h⟩

theorem over : Rows.sealTearsRow.holds Try.pinned (OpenSpec.ofChange Rows.sealTearsSpec) :=
  OpenClaim.holds_of_wide 7 Try.f7 rfl rfl rfl rfl rfl rfl rfl ⟨rfl, rfl, rfl, rfl, rfl⟩ rfl rfl rfl rfl rfl (by kernel_rfl) Try.func7 (by kernel_rfl)
    (of_decide_eq_true (by kernel_rfl)) (by unfold Func.isWrapper; first | (rw [if_pos (by decide +kernel)]; kernel_rfl) | (rw [if_neg (by decide +kernel)]; exact ⟨rfl, rfl⟩))
    (fun os started H enc _ => lifted os started H enc)
end Go.Proofs.Ytpkefojkehahlaa.sealTears
namespace Go.Proofs.Ytpkefojkehahlaa
/-- The given statement. -/
theorem sealTears_holds : Rows.SealTearsSaid := sealTears.over
end Go.Proofs.Ytpkefojkehahlaa
