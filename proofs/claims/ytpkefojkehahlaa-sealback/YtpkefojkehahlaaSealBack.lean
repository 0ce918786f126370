/-
  SealBack returns true for every mark, body and sector: what is sealed is opened as it was, and what can be opened is just its own seal.
  Conditions: none; the statement is the given one, for every input.
-/
import Derived.Test.YtpkefojkehahlaaRows
import Derived.Test.YtpkefojkehahlaaSealA1
import Derived.Test.YtpkefojkehahlaaLibOpen
import Derived.WalkKit
import Derived.ProofKit
import Derived.OpenShut
import Derived.ShutString
import Derived.ChangeOld
import Derived.Below
import Derived.SizedLaws
namespace Go.Proofs.Ytpkefojkehahlaa.sealBack
open Go.ChangeShapes Go.WideShapes Go.ChangeAt Go.RowKit
open Go.ChangeMaps (open_string shut_string)
set_option linter.unusedVariables false
set_option linter.unusedSimpArgs false

theorem own : ownKnob Try.prog.godebug = none := by kernel_rfl
theorem laidOut : laidOutB Try.prog = true := by kernel_rfl

set_option maxRecDepth 20000 in
set_option maxHeartbeats 3200000 in
/-- The law's own walk. -/
theorem walk (w : World) (a0 : Nat) (w0 : a0 < 18446744073709551616) (v1 : Value) (x1 : List UInt8) (w1 : Sl w.heap.size w v1 x1.length (x1.map bv)) (l1 : x1.length ≤ 140737488351232) (s2 : List UInt8) (w2 : s2.length = 128) :
    Calls Try.prog 6 #[.int .u64 (a0 : Int), v1, sec s2] w fun e w' => e = .returned (.bool true) ∧ Below w.heap.size w w' := by
  obtain ⟨i0, hi, hz0, hz1, hz2⟩ := info_parts Try.info5
  obtain ⟨ao1, cap1, rfl⟩ := sl_form w1
  have hst := OpAt.start w s2
  have hs1 := (w1.keep hst.bel)
  generalize hW : w.alloc (.cells (s2.map bv).toArray 27) = W at *
  have hW : Hid (w.alloc (.cells (s2.map bv).toArray 27) = W) := hW
  clear w1
  go_enter Try.func6, Try.ntmps6
  go_wp2_with (first
    | (refine wpList_box_agg rfl 27 _ rfl (sec s2) _ rfl rfl ?_; rw [hW.out])
    | (go_at_call 11; refine stop_here ?_))
  unfold Hid
  refine (c_alive _).mono ?_
  rintro e W1 ⟨rfl, hb1⟩
  have hat1 := hst.keep hb1
  have hs1 := hs1.keep (hb1.mono hst.bel.size)
  have hsz1 := hat1.bel.size
  clear hst hb1 hW
  go_wp2_with (at_builtin; refine wpList_append_sl _ rfl _ _ 23 rfl W1.heap.size 5 i0 (.int .u8 0) 1 1 Try.underlying23 hi hz0 hz1 hz2 rfl (by decide) _ 0 [] rfl (World.ownsRow_lit W1 #[] 0 (Nat.le_refl _) (by decide) rfl) w.heap.size _ x1.length (x1.map bv) rfl ?c0 (by simp) (bv_oneCell _) ?c1 ?c2 ?c3 ?_)
  case c0 => exact hs1.keep ((Below.refl _ _).alloc hsz1 _)
  case c1 => unfold maxLen; omega
  case c2 => omega
  try (case c3 => simp)
  intro v2 W2 ho2 hg2 _
  have hb2 : Below W1.heap.size W1 W2 := ((Below.refl _ _).alloc (Nat.le_refl _) _).grown hg2 (by simp) (by intro k hk; simp [Value.ownBlock] at hk; omega)
  have ho2 : W2.ownsRow W1.heap.size 5 1 v2 x1.length (x1.map bv) := by simpa using ho2
  have hs2 := sl_of_owns ho2
  have hat2 := hat1.keep hb2
  have hq2 := hs1.keep (hb2.mono hsz1)
  obtain ⟨ao2, cap2, rfl⟩ := owns_form ho2
  clear hg2 ho2 hs1 hb2 hat1
  go_wp2_with (go_at_call 10; refine stop_here ?_)
  unfold Hid
  refine (c_make a0 _ x1 _ _ w0 hs2 (Nat.le_refl _) (by omega)).mono ?_
  rintro e W3 ⟨rfl, hb3⟩
  have hq3 := hq2.keep (hb3.mono hat2.bel.size)
  have hat3 := hat2.keep hb3
  have hlen := mkS_length a0 x1
  have hmd := made W3
  have hr3 := range_all (putS_blk W3 (mkS a0 x1))
  have hb4 := putS_below W3 (mkS a0 x1)
  have hat4 := hat3.keep hb4
  have hq4 := hq3.keep (hb4.mono hat3.bel.size)
  have hW4 : Hid ((W3.alloc (.cells (z128.map bv).toArray 27)).setRow W3.heap.size ((mkS a0 x1).map bv).toArray = putS W3 (mkS a0 x1)) := rfl
  clear hs2 hq2 hb3 hq3 hb4 hat2 hat3
  generalize putS W3 (mkS a0 x1) = W4 at *
  obtain ⟨L, hL⟩ : ∃ L, Hid (L = mkS a0 x1) := ⟨_, rfl⟩
  obtain ⟨E, hE⟩ : ∃ E, Hid (E = mkE a0 x1) := ⟨_, rfl⟩
  have hE5 : -9223372036854775808 ≤ E ∧ E ≤ 9223372036854775807 := by rw [hE.out]; unfold mkE; split <;> omega
  rw [← hL.out] at hlen hr3 hW4 ⊢
  rw [← hE.out]
  go_wp2_with (first
    | (refine wpList_alloc_agg rfl 27 rfl _ Try.zeroS ?_)
    | (refine wpList_store_all rfl 27 _ _ rfl W3.heap.size rfl (sec L) rfl _ rfl _ 27 hmd.new (sec_fit hlen) (bv_oneCell _) (sizeS hlen) ?_; rw [hW4.out])
    | (refine wpList_load_as rfl 27 (.tmp 7) rfl W3.heap.size 0 rfl (sec L) _ rfl hr3 Try.rowS (sizeS hlen) ?_)
    | (go_at_call 9; refine stop_here ?_))
  unfold Hid
  refine (c_open L _ hlen).mono ?_
  rintro e W5 ⟨v5, rfl, hs5, hb5⟩
  have hat5 := hat4.keep hb5
  have hq5 := hq4.keep (hb5.mono hat4.bel.size)
  have hblk5 := hat5.blk
  have hr5 := range_all hat5.blk
  have hbE : Hid (Below w.heap.size w W5) := hat5.bel
  have hc2 := run_string_sl 23 5 9 Try.underlying23 Try.underlying5 Try.underlying9 hq5
  clear hat4 hq4 hb5 hW4 hmd hr3 hq5 hat5 hE5
  by_cases hok : okS a0 x1
  · have f1 : L = sealOf a0 x1 := by rw [hL.out]; unfold mkS; rw [if_pos hok]
    have f2 : E = 0 := by rw [hE.out]; unfold mkE; rw [if_pos hok]
    have f3 := openS_seal w0 hok
    rw [← f1] at f3
    have f4 : oM L = a0 := by unfold oM; rw [f3]; rfl
    have f5 : oB L = x1 := by unfold oB; rw [f3]; rfl
    rw [f2, f3, f4]
    rw [f5] at hs5
    have hc1 := run_string_sl 23 5 9 Try.underlying23 Try.underlying5 Try.underlying9 hs5
    have hd0 : ((a0 : Int) == 0) = false := by rw [beq_eq_false_iff_ne]; have := hok.1; omega
    have hd1 : ((a0 : Int) != 0) = true := by rw [bne_iff_ne]; have := hok.1; omega
    have hd2 : decide ((x1.length : Int) ≤ 106) = true := decide_eq_true (by have := hok.2; omega)
    obtain ⟨ao5, cap5, rfl⟩ := sl_form hs5
    clear f1 f2 f3 f4 f5 hs5 hL hE hok
    generalize (⟨x1.toArray⟩ : ByteArray) = S1 at *

    go_wp2_with (first
      | (refine wpList_load_as rfl 27 (.tmp 5) rfl w.heap.size 0 rfl (sec s2) _ rfl hr5 Try.rowS (sizeS w2) ?_)
      | (go_at_call 9; refine stop_here ?_))
    unfold Hid
    refine (c_open s2 _ w2).mono ?_
    rintro e W6 ⟨v6, rfl, hs6, hb6⟩
    have hbF : Below w.heap.size w W6 := hbE.out.trans (hb6.mono hbE.out.size)
    have hblk6 := keep_blk hblk5 hb6
    cases hq : openS s2 with
    | none =>
      have e1 : oM s2 = 0 := by unfold oM; rw [hq]; rfl
      have e2 : oB s2 = [] := by unfold oB; rw [hq]; rfl
      rw [e2] at hs6
      rw [e1]
      obtain ⟨ao6, cap6, rfl⟩ := sl_form hs6
      have hbF : Hid (Below w.heap.size w W6) := hbF
      clear hs6 hblk6 hblk5 hr5 hb6 hbE e1 e2 hq
      go_wp2
      go_ret
      exact ⟨rfl, hbF.out⟩
    | some p =>
      obtain ⟨m2, b2⟩ := p
      have e1 : oM s2 = m2 := by unfold oM; rw [hq]; rfl
      have e2 : oB s2 = b2 := by unfold oB; rw [hq]; rfl
      obtain ⟨hok2, hse2, hm2⟩ := openS_some hq
      have hL2 : mkS m2 b2 = s2 := by unfold mkS; rw [if_pos hok2]; exact hse2
      have hE2 : mkE m2 b2 = 0 := by unfold mkE; rw [if_pos hok2]
      rw [e2] at hs6
      rw [e1]
      obtain ⟨ao6, cap6, rfl⟩ := sl_form hs6
      have hb2l := hok2.2
      clear hblk5 hr5 hb6 hbE e1 e2 hq hse2
      go_wp2_with (go_at_call 10; refine stop_here ?_)
      unfold Hid
      refine (c_make m2 _ b2 _ _ hm2 hs6 (Nat.le_refl _) (by omega)).mono ?_
      rw [hL2, hE2]
      rintro e W7 ⟨rfl, hb7⟩
      have hblk7 := keep_blk hblk6 hb7
      have hbG := hbF.trans (hb7.mono hbF.size)
      have hmd7 := made W7
      have hb8 := putS_below W7 s2
      have hr8 := range_all (putS_blk W7 s2)
      have hr9 := range_all (keep_blk hblk7 hb8)
      have hbH : Hid (Below w.heap.size w (putS W7 s2)) := hbG.trans (hb8.mono hbG.size)
      have hW8 : Hid ((W7.alloc (.cells (z128.map bv).toArray 27)).setRow W7.heap.size (s2.map bv).toArray = putS W7 s2) := rfl
      have hqq := eqlS s2 s2 w2 w2
      rw [BEq.rfl] at hqq
      have hgg := guardS
      clear hs6 hblk6 hblk7 hb7 hbF hbG hb8 hL2 hE2 hok2
      generalize putS W7 s2 = W8 at *
      go_wp2_with (first
        | (refine wpList_alloc_agg rfl 27 rfl _ Try.zeroS ?_)
        | (refine wpList_store_all rfl 27 _ _ rfl W7.heap.size rfl (sec s2) rfl _ rfl _ 27 hmd7.new (sec_fit w2) (bv_oneCell _) (sizeS w2) ?_; rw [hW8.out])
        | (refine wpList_load_as rfl 27 (.tmp 15) rfl W7.heap.size 0 rfl (sec s2) _ rfl hr8 Try.rowS (sizeS w2) ?_)
        | (refine wpList_load_as rfl 27 (.tmp 5) rfl w.heap.size 0 rfl (sec s2) _ rfl hr9 Try.rowS (sizeS w2) ?_))
      go_ret
      exact ⟨rfl, hbH.out⟩

  · have f1 : L = z128 := by rw [hL.out]; unfold mkS; rw [if_neg hok]
    have f2 : E = 51 := by rw [hE.out]; unfold mkE; rw [if_neg hok]
    have f3 : openS L = none := by rw [f1]; exact openS_zero
    have f4 : oM L = 0 := by unfold oM; rw [f3]; rfl
    rw [f2, f3, f4]
    obtain ⟨ao5, cap5, rfl⟩ := sl_form hs5
    by_cases h0 : a0 = 0
    · subst h0
      clear f1 f2 f3 f4 hs5 hL hE hok hc2

      go_wp2_with (first
        | (refine wpList_load_as rfl 27 (.tmp 5) rfl w.heap.size 0 rfl (sec s2) _ rfl hr5 Try.rowS (sizeS w2) ?_)
        | (go_at_call 9; refine stop_here ?_))
      unfold Hid
      refine (c_open s2 _ w2).mono ?_
      rintro e W6 ⟨v6, rfl, hs6, hb6⟩
      have hbF : Below w.heap.size w W6 := hbE.out.trans (hb6.mono hbE.out.size)
      have hblk6 := keep_blk hblk5 hb6
      cases hq : openS s2 with
      | none =>
        have e1 : oM s2 = 0 := by unfold oM; rw [hq]; rfl
        have e2 : oB s2 = [] := by unfold oB; rw [hq]; rfl
        rw [e2] at hs6
        rw [e1]
        obtain ⟨ao6, cap6, rfl⟩ := sl_form hs6
        have hbF : Hid (Below w.heap.size w W6) := hbF
        clear hs6 hblk6 hblk5 hr5 hb6 hbE e1 e2 hq
        go_wp2
        go_ret
        exact ⟨rfl, hbF.out⟩
      | some p =>
        obtain ⟨m2, b2⟩ := p
        have e1 : oM s2 = m2 := by unfold oM; rw [hq]; rfl
        have e2 : oB s2 = b2 := by unfold oB; rw [hq]; rfl
        obtain ⟨hok2, hse2, hm2⟩ := openS_some hq
        have hL2 : mkS m2 b2 = s2 := by unfold mkS; rw [if_pos hok2]; exact hse2
        have hE2 : mkE m2 b2 = 0 := by unfold mkE; rw [if_pos hok2]
        rw [e2] at hs6
        rw [e1]
        obtain ⟨ao6, cap6, rfl⟩ := sl_form hs6
        have hb2l := hok2.2
        clear hblk5 hr5 hb6 hbE e1 e2 hq hse2
        go_wp2_with (go_at_call 10; refine stop_here ?_)
        unfold Hid
        refine (c_make m2 _ b2 _ _ hm2 hs6 (Nat.le_refl _) (by omega)).mono ?_
        rw [hL2, hE2]
        rintro e W7 ⟨rfl, hb7⟩
        have hblk7 := keep_blk hblk6 hb7
        have hbG := hbF.trans (hb7.mono hbF.size)
        have hmd7 := made W7
        have hb8 := putS_below W7 s2
        have hr8 := range_all (putS_blk W7 s2)
        have hr9 := range_all (keep_blk hblk7 hb8)
        have hbH : Hid (Below w.heap.size w (putS W7 s2)) := hbG.trans (hb8.mono hbG.size)
        have hW8 : Hid ((W7.alloc (.cells (z128.map bv).toArray 27)).setRow W7.heap.size (s2.map bv).toArray = putS W7 s2) := rfl
        have hqq := eqlS s2 s2 w2 w2
        rw [BEq.rfl] at hqq
        have hgg := guardS
        clear hs6 hblk6 hblk7 hb7 hbF hbG hb8 hL2 hE2 hok2
        generalize putS W7 s2 = W8 at *
        go_wp2_with (first
          | (refine wpList_alloc_agg rfl 27 rfl _ Try.zeroS ?_)
          | (refine wpList_store_all rfl 27 _ _ rfl W7.heap.size rfl (sec s2) rfl _ rfl _ 27 hmd7.new (sec_fit w2) (bv_oneCell _) (sizeS w2) ?_; rw [hW8.out])
          | (refine wpList_load_as rfl 27 (.tmp 15) rfl W7.heap.size 0 rfl (sec s2) _ rfl hr8 Try.rowS (sizeS w2) ?_)
          | (refine wpList_load_as rfl 27 (.tmp 5) rfl w.heap.size 0 rfl (sec s2) _ rfl hr9 Try.rowS (sizeS w2) ?_))
        go_ret
        exact ⟨rfl, hbH.out⟩

    · have hd0 : ((a0 : Int) == 0) = false := by rw [beq_eq_false_iff_ne]; omega
      have hd1 : ((a0 : Int) != 0) = true := by rw [bne_iff_ne]; omega
      have hd2 : decide ((x1.length : Int) ≤ 106) = false := decide_eq_false (by intro h; exact hok ⟨h0, by omega⟩)
      clear f1 f2 f3 f4 hs5 hL hE hok hc2 h0

      go_wp2_with (first
        | (refine wpList_load_as rfl 27 (.tmp 5) rfl w.heap.size 0 rfl (sec s2) _ rfl hr5 Try.rowS (sizeS w2) ?_)
        | (go_at_call 9; refine stop_here ?_))
      unfold Hid
      refine (c_open s2 _ w2).mono ?_
      rintro e W6 ⟨v6, rfl, hs6, hb6⟩
      have hbF : Below w.heap.size w W6 := hbE.out.trans (hb6.mono hbE.out.size)
      have hblk6 := keep_blk hblk5 hb6
      cases hq : openS s2 with
      | none =>
        have e1 : oM s2 = 0 := by unfold oM; rw [hq]; rfl
        have e2 : oB s2 = [] := by unfold oB; rw [hq]; rfl
        rw [e2] at hs6
        rw [e1]
        obtain ⟨ao6, cap6, rfl⟩ := sl_form hs6
        have hbF : Hid (Below w.heap.size w W6) := hbF
        clear hs6 hblk6 hblk5 hr5 hb6 hbE e1 e2 hq
        go_wp2
        go_ret
        exact ⟨rfl, hbF.out⟩
      | some p =>
        obtain ⟨m2, b2⟩ := p
        have e1 : oM s2 = m2 := by unfold oM; rw [hq]; rfl
        have e2 : oB s2 = b2 := by unfold oB; rw [hq]; rfl
        obtain ⟨hok2, hse2, hm2⟩ := openS_some hq
        have hL2 : mkS m2 b2 = s2 := by unfold mkS; rw [if_pos hok2]; exact hse2
        have hE2 : mkE m2 b2 = 0 := by unfold mkE; rw [if_pos hok2]
        rw [e2] at hs6
        rw [e1]
        obtain ⟨ao6, cap6, rfl⟩ := sl_form hs6
        have hb2l := hok2.2
        clear hblk5 hr5 hb6 hbE e1 e2 hq hse2
        go_wp2_with (go_at_call 10; refine stop_here ?_)
        unfold Hid
        refine (c_make m2 _ b2 _ _ hm2 hs6 (Nat.le_refl _) (by omega)).mono ?_
        rw [hL2, hE2]
        rintro e W7 ⟨rfl, hb7⟩
        have hblk7 := keep_blk hblk6 hb7
        have hbG := hbF.trans (hb7.mono hbF.size)
        have hmd7 := made W7
        have hb8 := putS_below W7 s2
        have hr8 := range_all (putS_blk W7 s2)
        have hr9 := range_all (keep_blk hblk7 hb8)
        have hbH : Hid (Below w.heap.size w (putS W7 s2)) := hbG.trans (hb8.mono hbG.size)
        have hW8 : Hid ((W7.alloc (.cells (z128.map bv).toArray 27)).setRow W7.heap.size (s2.map bv).toArray = putS W7 s2) := rfl
        have hqq := eqlS s2 s2 w2 w2
        rw [BEq.rfl] at hqq
        have hgg := guardS
        clear hs6 hblk6 hblk7 hb7 hbF hbG hb8 hL2 hE2 hok2
        generalize putS W7 s2 = W8 at *
        go_wp2_with (first
          | (refine wpList_alloc_agg rfl 27 rfl _ Try.zeroS ?_)
          | (refine wpList_store_all rfl 27 _ _ rfl W7.heap.size rfl (sec s2) rfl _ rfl _ 27 hmd7.new (sec_fit w2) (bv_oneCell _) (sizeS w2) ?_; rw [hW8.out])
          | (refine wpList_load_as rfl 27 (.tmp 15) rfl W7.heap.size 0 rfl (sec s2) _ rfl hr8 Try.rowS (sizeS w2) ?_)
          | (refine wpList_load_as rfl 27 (.tmp 5) rfl w.heap.size 0 rfl (sec s2) _ rfl hr9 Try.rowS (sizeS w2) ?_))
        go_ret
        exact ⟨rfl, hbH.out⟩

set_option maxRecDepth 100000 in
theorem lifted (os : Os) (started : os.Started) (H : Type) (enc : TypeId × Value → H) :
    ReturnsInHanded {} Try.checked os 6 .any (Rows.sealBackSpec.pre6 enc Try.prog Try.f6 Rows.sealBackRow.domain false) (Rows.sealBackSpec.post enc Try.prog Try.f6 false true false false) := by
  refine returnsInHanded_of_change_sized (C := Try.checked) own started (by kernel_rfl) Try.func6
    (ChangeSpec.witness6 (enc := enc) (C := Try.checked) false ⟨#[], #[.int .u64 0, .slice none 0 0, .agg (Array.replicate 128 (.int .u8 0))], []⟩ 8 (by kernel_rfl) (by kernel_rfl) (by kernel_rfl) (by kernel_rfl)) ?_
  intro W base args ds gs before hval0 hW hcnd hsz0 _
  have hval : ∀ (j : Nat) t v, Try.f6.params[j]? = some t → args[j]? = some v → Value.okWide Try.prog W .any base t v := hval0
  have hsz : (DataW.weightsEach Try.prog (Try.f6.params.toList ++ Rows.sealBackSpec.plain.varTypes Try.prog) (ds ++ gs)).all (· ≤ reachBytes) = true := hsz0
  have hW' := hW
  obtain ⟨p, q, hA0, hV, rfl, hfz, hnd⟩ := hW
  have hA : DataW.TrodAll enc Try.prog W 0 (fun _ => true) true Try.f6.params.toList args.toList ds p := hA0
  rw [Try.params6] at hA hval hsz
  obtain ⟨v0, vs0, d0, ds0, p0, q0, hargs, rfl, rfl, h0, r0⟩ := trodAll_cons hA
  obtain ⟨v1, vs1, d1, ds1, p1, q1, rfl, rfl, rfl, h1, r1⟩ := trodAll_cons r0
  obtain ⟨v2, vs2, d2, ds2, p2, q2, rfl, rfl, rfl, h2, r2⟩ := trodAll_cons r1
  obtain ⟨rfl, rfl, rfl⟩ := trodAll_nil r2
  obtain rfl : args = #[v0, v1, v2] := by cases args; simp_all
  obtain ⟨rfl, rfl⟩ := trodVars_none hV
  have k0 := h0
  have lt0 : ∀ x ∈ p0, x.block < W.heap.size := by obtain ⟨m, hm⟩ := k0; exact DataW.trod_lt m _ _ _ hm
  obtain ⟨z0, e0, -, -, f0⟩ := open_int Try.underlying22 (hval 0 22 v0 rfl rfl) h0
  obtain ⟨a0, rfl, w0⟩ : ∃ a : Nat, v0 = .int .u64 (a : Int) ∧ a < 18446744073709551616 := ⟨z0.toNat, by rw [(u64_of_wf f0).1]; exact e0, (u64_of_wf f0).2⟩
  obtain ⟨a1, len1, cap1, rfl⟩ := okWide_slice Try.underlying23 (hval 1 23 v1 rfl rfl)
  have k1 := h1
  have lt1 : ∀ x ∈ p1, x.block < W.heap.size := by obtain ⟨m, hm⟩ := k1; exact DataW.trod_lt m _ _ _ hm
  obtain ⟨x1, w1, l1, m1⟩ : ∃ xs : List UInt8, Sl W.heap.size W (.slice a1 len1 cap1) xs.length (xs.map bv) ∧ xs.length ≤ 140737488351232 ∧ xs.length + 1 ≤ Rows.uptoBulk d1 := by
    obtain ⟨fuel, hf⟩ := h1
    exact open_bytes (v := .slice a1 len1 cap1) hf (fun n hn => by have := List.all_eq_true.1 hsz n (DataW.weights_mem_each (j := 1) (t := 23) rfl rfl n hn); simpa using this)
  have k2 := h2
  have lt2 : ∀ x ∈ p2, x.block < W.heap.size := by obtain ⟨m, hm⟩ := k2; exact DataW.trod_lt m _ _ _ hm
  obtain ⟨s2, rfl, w2⟩ := open_sector (hval 2 27 v2 rfl rfl) h2
  clear hA0 hval0
  refine (walk W a0 w0 _ x1 w1 l1 s2 w2).mono fun e W' ⟨he, bel⟩ => ?_
  subst he
  exact ⟨_, rfl, _, _, _, [], _, [], hW', trodAll_mk1 (shut_bool Try.underlying4 _), (trodAll_cons_mk (Below.trod laidOut (by kernel_rfl) (of_decide_eq_true (by kernel_rfl)) k0 bel lt0) (trodAll_cons_mk (Below.trod laidOut (by kernel_rfl) (of_decide_eq_true (by kernel_rfl)) k1 bel lt1) (trodAll_cons_mk (Below.trod laidOut (by kernel_rfl) (of_decide_eq_true (by kernel_rfl)) k2 bel lt2) trodAll_mk0))), rfl, bel.frame _, fun h => by cases h⟩

theorem over : Rows.sealBackRow.holds Try.pinned (OpenSpec.ofChange Rows.sealBackSpec) :=
  OpenClaim.holds_of_wide 6 Try.f6 rfl rfl rfl rfl rfl rfl rfl ⟨rfl, rfl, rfl, rfl, rfl⟩ rfl rfl rfl rfl rfl (by kernel_rfl) Try.func6 (by kernel_rfl)
    (of_decide_eq_true (by kernel_rfl)) (by unfold Func.isWrapper; first | (rw [if_pos (by decide +kernel)]; kernel_rfl) | (rw [if_neg (by decide +kernel)]; exact ⟨rfl, rfl⟩))
    (fun os started H enc _ => lifted os started H enc)
end Go.Proofs.Ytpkefojkehahlaa.sealBack
namespace Go.Proofs.Ytpkefojkehahlaa
/-- The given statement. -/
theorem sealBack_holds : Rows.SealBackSaid := sealBack.over
end Go.Proofs.Ytpkefojkehahlaa
