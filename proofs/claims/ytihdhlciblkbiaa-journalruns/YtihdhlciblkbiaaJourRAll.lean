/-
  SealR1, SealR2, CodecR3, JourR1, JourR2, JourR3, JourQ1: in one text.
-/
import Derived.Test.YtihdhlciblkbiaaSealA1
import Derived.Test.YtihdhlciblkbiaaDiskRAll
import Derived.Test.YtihdhlciblkbiaaCodecU4
import Derived.Test.YtihdhlciblkbiaaJourW8
import Derived.Test.YtihdhlciblkbiaaJourA1
import Derived.Test.YtihdhlciblkbiaaLibOpenAll
namespace Go.Proofs.Ytihdhlciblkbiaa
set_option linter.unusedVariables false
set_option linter.unusedSimpArgs false
set_option maxRecDepth 20000
open Go.RowKit

theorem owns_still {w w' : World} {B e size n : Nat} {v : Value} {xs : List Value} (h : w.ownsRow B e size v n xs) (hb : Below w.heap.size w w') : w'.ownsRow B e size v n xs :=
  owns_of_block h (fun k hk => hb.block k (h.lt k hk).2)

/-- What the document's Make keeps: its row of bytes behind its result's variable. -/
structure RkAt (w wr : World) (v : Value) (xs : List UInt8) : Prop where
  own : wr.ownsRow (w.heap.size + 1) 5 1 v xs.length (xs.map bv)
  bel : Below (w.heap.size + 1) (w.alloc (.cells (z128.map bv).toArray 55)) wr

theorem RkAt.size {w wr : World} {v : Value} {xs : List UInt8} (h : RkAt w wr v xs) : w.heap.size + 1 ≤ wr.heap.size := by have := h.bel.size; simpa using this

theorem RkAt.keep {w wr w1 : World} {v : Value} {xs : List UInt8} (h : RkAt w wr v xs) (hb : Below wr.heap.size wr w1) : RkAt w w1 v xs :=
  ⟨owns_still h.own hb, h.bel.trans (hb.mono h.size)⟩

theorem RkAt.alloc {w wr : World} {v : Value} {xs : List UInt8} (h : RkAt w wr v xs) (o : Obj) : RkAt w (wr.alloc o) v xs := h.keep ((Below.refl _ _).alloc (Nat.le_refl _) _)

theorem RkAt.below {w wr : World} {v : Value} {xs : List UInt8} (h : RkAt w wr v xs) : Below w.heap.size w wr :=
  ((Below.refl _ _).alloc (Nat.le_refl _) _).trans (h.bel.mono (by omega))

theorem RkAt.res {w wr : World} {v : Value} {xs : List UInt8} (h : RkAt w wr v xs) : wr.heap[w.heap.size]? = some (.cells (z128.map bv).toArray 55 (0, 0)) :=
  (h.bel.block _ (by omega)).trans (heap_alloc_new w _)

theorem RkAt.grown {w wr w1 : World} {v v1 : Value} {xs ys : List UInt8} {n : Nat} (h : RkAt w wr v xs) (hn : ys.length = n) (ho : w1.ownsRow (w.heap.size + 1) 5 1 v1 (xs.length + n) (xs.map bv ++ ys.map bv)) (hg : wr.grownBy w1 v.ownBlock) : RkAt w w1 v1 (xs ++ ys) :=
  ⟨by subst hn; simpa using ho, h.bel.grown hg h.size (owns_ge h.own)⟩

set_option maxHeartbeats 1600000 in
theorem c_rmake_no (m : Nat) (b : List UInt8) (ao : Option Addr) (cap : Nat) (w : World) (hm : m < 18446744073709551616) (hl : b.length ≤ 140737488355328) (h : ¬ okS m b) :
    Calls Try.prog 35 #[.int .u64 (m : Int), .slice ao b.length cap] w fun e w' => e = .returned (.tuple #[sec z128, .int .i64 51]) ∧ Below w.heap.size w w' := by
  have hmd := made w
  have hfin := hmd.fin z128
  have hrow := hmd.row z128
  generalize hW : w.alloc (.cells (z128.map bv).toArray 55) = W at *
  have hW : Hid (w.alloc (.cells (z128.map bv).toArray 55) = W) := hW
  by_cases h0 : m = 0
  · subst h0
    go_enter Try.func35, Try.ntmps35
    go_wp2_with (first
      | (refine wpList_alloc_agg rfl 55 rfl _ Try.zeroS ?_; rw [hW.out])
      | (refine wpList_build_as rfl 55 #[] rfl (sec z128) _ rfl Try.builtS ?_)
      | (refine wpList_store_all rfl 55 _ _ rfl w.heap.size rfl (sec z128) rfl _ rfl _ 55 hmd.new rfl (bv_oneCell _) (sizeS z128_length) ?_))
    refine bodyPost_ret (results_cell2 rfl _ w.heap.size _ _ rfl rfl hrow Try.rowS (sizeS z128_length)) rfl ?_
    exact ⟨rfl, hfin.below (Nat.le_refl _) (fun _ => False.elim)⟩
  · have hb : 106 < b.length := by unfold okS at h; omega
    have hd0 : ((m : Int) == 0) = false := by rw [beq_eq_false_iff_ne]; omega
    have hd1 : decide (106 < (b.length : Int)) = true := decide_eq_true (by omega)
    go_enter Try.func35, Try.ntmps35
    go_wp2_with (first
      | (refine wpList_alloc_agg rfl 55 rfl _ Try.zeroS ?_; rw [hW.out])
      | (refine wpList_build_as rfl 55 #[] rfl (sec z128) _ rfl Try.builtS ?_)
      | (refine wpList_store_all rfl 55 _ _ rfl w.heap.size rfl (sec z128) rfl _ rfl _ 55 hmd.new rfl (bv_oneCell _) (sizeS z128_length) ?_))
    refine bodyPost_ret (results_cell2 rfl _ w.heap.size _ _ rfl rfl hrow Try.rowS (sizeS z128_length)) rfl ?_
    exact ⟨rfl, hfin.below (Nat.le_refl _) (fun _ => False.elim)⟩

theorem owns_some {w : World} {base e n : Nat} {v : Value} {xs : List Value} (h : w.ownsRow base e 1 v n xs) (hn : 0 < n) : ∃ g cap, v = .slice (some ⟨g, 0, none⟩) n cap ∧ base ≤ g ∧ g < w.heap.size := by
  rcases h.2 with ⟨_, rfl⟩ | ⟨g, cap, cur, rfl, hb, hg, _⟩
  · omega
  · exact ⟨g, cap, rfl, hb, (Array.getElem?_eq_some_iff.1 hg).1⟩

def slen : Value → Nat
  | .slice _ n _ => n
  | _ => 0

/-- The bytes ahead of the zeros. -/
def preS (m : Nat) (b : List UInt8) : List UInt8 := be 8 m ++ be 2 b.length ++ b
theorem preS_length (m : Nat) (b : List UInt8) : (preS m b).length = 10 + b.length := by simp [preS, be_length]; omega
theorem preS_head (m : Nat) (b : List UInt8) (j : Nat) (h : (preS m b ++ List.replicate j 0).length = 116) : preS m b ++ List.replicate j 0 = headS m b := by
  rw [List.length_append, preS_length, List.length_replicate] at h
  unfold preS headS
  rw [show j = 106 - b.length by omega]
  simp

set_option maxRecDepth 20000 in
set_option maxHeartbeats 3200000 in
theorem c_rmake_yes (m K : Nat) (b : List UInt8) (v : Value) (w : World) (hm : m < 18446744073709551616) (hs : Sl K w v b.length (b.map bv)) (hK : K ≤ w.heap.size) (h : okS m b) :
    Calls Try.prog 35 #[.int .u64 (m : Int), v] w fun e w' => e = .returned (.tuple #[sec (sealOf m b), .int .i64 0]) ∧ Below w.heap.size w w' := by
  obtain ⟨i0, hi, hz0, hz1, hz2⟩ := info_parts Try.info5
  obtain ⟨ao, cap, rfl⟩ := sl_form hs
  have hd0 : ((m : Int) == 0) = false := by rw [beq_eq_false_iff_ne]; have := h.1; omega
  have hd1 : decide (106 < (b.length : Int)) = false := decide_eq_false (by have := h.2; omega)
  have hb := h.2
  have hz : (w.alloc (.cells (z128.map bv).toArray 55)).heap.size = w.heap.size + 1 := by simp
  have hbl0 : Hid (Below (w.heap.size + 1) (w.alloc (.cells (z128.map bv).toArray 55)) (w.alloc (.cells (z128.map bv).toArray 55))) := Below.refl _ _
  generalize hW : w.alloc (.cells (z128.map bv).toArray 55) = W at *
  have hW : Hid (w.alloc (.cells (z128.map bv).toArray 55) = W) := hW
  go_enter Try.func35, Try.ntmps35
  go_wp2_with (first
    | (refine wpList_alloc_agg rfl 55 rfl _ Try.zeroS ?_; rw [hW.out])
    | (go_at_call 51; refine stop_here ?_))
  unfold Hid
  refine (c_refNumberO 8 m _ (by omega) hm).mono ?_
  rintro e W1 ⟨v1, rfl, ho1, hb1⟩
  rw [hz] at ho1 hb1
  have hat1 : RkAt w W1 v1 (be 8 m) := ⟨by rw [be_length]; exact ho1, by rw [hW.out]; exact hb1⟩
  obtain ⟨ao1, cap1, rfl⟩ := owns_form ho1
  clear ho1 hb1 hbl0 hz
  go_wp2_with (go_at_call 51; refine stop_here ?_)
  unfold Hid
  refine (c_refNumber 2 b.length _ (by omega) (by omega)).mono ?_
  rw [decide_eq_true (show b.length < 256 ^ 2 by omega)]
  rintro e W2 ⟨v2, rfl, hs2, hb2⟩
  obtain ⟨ao2, cap2, rfl⟩ := sl_form hs2
  have hat2 := hat1.keep hb2
  have ho2 := hat2.own
  rw [be_length] at ho2
  clear hat1 hb2
  go_wp2_with (at_builtin; refine wpList_append_sl _ rfl _ _ 37 rfl (w.heap.size + 1) 5 i0 (.int .u8 0) 1 1 Try.underlying37 hi hz0 hz1 hz2 rfl (by decide) _ _ _ rfl ho2 _ _ 2 _ rfl hs2 (by simp [be_length]) (bv_oneCell _) (by unfold maxLen; omega) (by omega) hat2.size ?_)
  intro v3 W3 ho3 hg3 _
  have hat3 := hat2.grown (be_length 2 b.length) (by rw [be_length]; exact ho3) hg3
  clear ho2 hs2 hat2 ho3 hg3
  obtain ⟨ao3, cap3, rfl⟩ := owns_form hat3.own
  have ho3 := hat3.own
  have hs3 := hs.keep (hat3.below.mono hK)
  have hl3 : (be 8 m ++ be 2 b.length).length = 10 := by simp [be_length]
  have hp3 : Hid (be 8 m ++ be 2 b.length ++ b = preS m b) := rfl
  generalize be 8 m ++ be 2 b.length = X3 at *
  rw [hl3] at ho3 hat3
  have hX3 : Hid (X3.length = 10) := hl3
  rw [hl3]
  clear hl3
  go_wp2_with (at_builtin; refine wpList_append_sl _ rfl _ _ 37 rfl (w.heap.size + 1) 5 i0 (.int .u8 0) 1 1 Try.underlying37 hi hz0 hz1 hz2 rfl (by decide) _ _ _ rfl ho3 _ _ b.length _ rfl hs3 (by simp) (bv_oneCell _) (by unfold maxLen; omega) (by omega) hat3.size ?_)
  intro v4 W4 ho4 hg4 _
  have hat4 := hat3.grown (ys := b) rfl (by rw [hX3.out]; exact ho4) hg4
  rw [hp3.out] at hat4
  clear hs3 hat3 ho3 ho4 hg4 hX3 hp3 hs
  go_wp2
  go_loopw [6] (fun u wr => ∃ (t : Nat) (acc : List UInt8), t ≤ 116 ∧ Hid (acc.length = t) ∧ Hid (∃ j, acc = preS m b ++ List.replicate j 0) ∧ RkAt w wr u acc) (fun u _ => 116 - slen u)
  case atStart => exact ⟨10 + b.length, preS m b, by omega, preS_length m b, ⟨0, by simp⟩, hat4⟩
  case round =>
    obtain ⟨t, acc, ht, hal, hacc, hat⟩ := hrel
    clear hat4
    obtain ⟨ao5, cap5, rfl⟩ := owns_form hat.own
    have ho5 := hat.own
    rw [hal.out] at ho5 hat
    rw [hal.out]
    by_cases hlt : t < 116
    · have hsz := hat.size
      go_wp2_with (at_builtin; refine wpList_append_sl _ rfl _ _ 37 rfl (w.heap.size + 1) 5 i0 (.int .u8 0) 1 1 Try.underlying37 hi hz0 hz1 hz2 rfl (by decide) _ _ _ rfl (ho5.alloc _) _ _ 1 _ rfl (sl_lit wr _ 5 1 (by omega)) rfl ?c1 ?c2 ?c3 ?c4 ?_)
      case c1 => first | rfl | (intro u hu; simp at hu; subst hu; rfl)
      case c2 => unfold maxLen; omega
      case c3 => omega
      case c4 => simp; omega
      intro v6 W6 ho6 hg6 _
      have hat6 := (hat.alloc _).grown (ys := [0]) rfl (by rw [hal.out]; exact ho6) hg6
      have hal6 : Hid ((acc ++ [0]).length = t + 1) := by unfold Hid; rw [List.length_append, hal.out]; rfl
      have hacc6 : Hid (∃ j, acc ++ [0] = preS m b ++ List.replicate j 0) := by
        obtain ⟨j, hj⟩ := hacc.out
        refine ⟨j + 1, ?_⟩
        rw [hj, List.append_assoc, List.replicate_succ']
      generalize acc ++ [0] = acc6 at *
      obtain ⟨ao6, cap6, rfl⟩ := owns_form hat6.own
      have hme : Hid (slen (.slice ao6 acc6.length cap6) = t + 1) := hal6.out
      clear ho6 hg6 ho5 hat
      go_wp2
      go_roundw
      case rel => exact ⟨t + 1, acc6, by omega, hal6, hacc6, hat6⟩
      case measure => rw [hme.out]; show 116 - (t + 1) < 116 - t; omega
    · obtain rfl : t = 116 := by omega
      have hhd : acc = headS m b := by
        obtain ⟨j, hj⟩ := hacc.out
        rw [hj]
        exact preS_head m b j (by rw [← hj]; exact hal.out)
      subst hhd
      clear hlt hacc hal
      have hhl := headS_length (m := m) hb
      have hsl : Sl wr.heap.size wr (.slice ao5 116 cap5) (headS m b).length ((headS m b).map bv) := by rw [hhl]; exact sl_of_owns ho5
      have hsu : Hid (sumS m b = (crcAdd 0#32 (headS m b)).toNat) := rfl
      have hse : Hid (sealOf m b = headS m b ++ be 4 (sumS m b) ++ be 8 m) := by unfold Hid sealOf tailS; rw [List.append_assoc]
      generalize headS m b = H at *
      go_wp2_with (go_at_call 34; refine stop_here ?_)
      unfold Hid
      refine (c_refsum 0#32 _ _ H _ hsl (by omega)).mono ?_
      rintro e w6 ⟨rfl, rfl⟩
      generalize crcAdd 0#32 H = c at *
      have hcw : IntKind.u64.wrap (tn c) = tn c := by rw [IntKind.wrap_u64]; have := tn_lo c; have := tn_hi c; omega
      have hcm : tn c % 18446744073709551616 = tn c := by have := tn_lo c; have := tn_hi c; omega
      have hc3 : c.toNat < 4294967296 := c.isLt
      clear hsl
      go_wp2_with (go_at_call 51; refine stop_here ?_)
      unfold Hid
      refine (c_refNumber 4 c.toNat _ (by omega) (by omega)).mono ?_
      rw [decide_eq_true (show c.toNat < 256 ^ 4 by omega)]
      rintro e W7 ⟨v7, rfl, hs7, hb7⟩
      obtain ⟨ao7, cap7, rfl⟩ := sl_form hs7
      have hat7 := hat.keep hb7
      have ho7 := owns_still ho5 hb7
      clear hat hb7 ho5
      rw [← hsu.out] at hs7
      go_wp2_with (at_builtin; refine wpList_append_sl _ rfl _ _ 37 rfl (w.heap.size + 1) 5 i0 (.int .u8 0) 1 1 Try.underlying37 hi hz0 hz1 hz2 rfl (by decide) _ _ _ rfl ho7 _ _ 4 _ rfl hs7 (by simp [be_length]) (bv_oneCell _) (by unfold maxLen; omega) (by omega) hat7.size ?_)
      intro v8 W8 ho8 hg8 _
      have hat8 := hat7.grown (be_length 4 (sumS m b)) (by rw [hhl]; exact ho8) hg8
      have hl8 : (H ++ be 4 (sumS m b)).length = 120 := by rw [List.length_append, hhl, be_length]
      clear ho7 hs7 hat7 ho8 hg8 hsu hcw hcm hhl
      generalize H ++ be 4 (sumS m b) = X8 at *
      obtain ⟨ao8, cap8, rfl⟩ := owns_form hat8.own
      rw [hl8] at hat8
      have ho8 := hat8.own
      rw [hl8] at ho8
      rw [hl8]
      have HX8 : Hid (X8.length = 120) := hl8
      clear hl8
      go_wp2_with (go_at_call 51; refine stop_here ?_)
      unfold Hid
      refine (c_refNumber 8 m _ (by omega) hm).mono ?_
      rw [decide_eq_true (show m < 256 ^ 8 by omega)]
      rintro e W9 ⟨v9, rfl, hs9, hb9⟩
      obtain ⟨ao9, cap9, rfl⟩ := sl_form hs9
      have hat9 := hat8.keep hb9
      have ho9 := owns_still ho8 hb9
      clear hat8 hb9 ho8
      go_wp2_with (at_builtin; refine wpList_append_sl _ rfl _ _ 37 rfl (w.heap.size + 1) 5 i0 (.int .u8 0) 1 1 Try.underlying37 hi hz0 hz1 hz2 rfl (by decide) _ _ _ rfl ho9 _ _ 8 _ rfl hs9 (by simp [be_length]) (bv_oneCell _) (by unfold maxLen; omega) (by omega) hat9.size ?_)
      intro v10 W10 ho10 hg10 _
      have hat10 := hat9.grown (be_length 8 m) (by rw [HX8.out]; exact ho10) hg10
      rw [← hse.out] at hat10
      clear ho9 hs9 hat9 ho10 hg10 HX8 hse
      have hlen := sealOf_length (m := m) hb
      generalize hL : sealOf m b = L at *
      have HL : Hid (sealOf m b = L) := hL
      clear hL
      obtain ⟨g10, cap10, rfl, -, hg10⟩ := owns_some hat10.own (by omega)
      have ho10 := hat10.own
      rw [hlen] at ho10 hat10
      rw [hlen]
      have hmd := made W10
      have hblk := putS_blk W10 z128
      have hb11 := putS_below W10 z128
      have hW11 : Hid ((W10.alloc (.cells (z128.map bv).toArray 55)).setRow W10.heap.size (z128.map bv).toArray = putS W10 z128) := rfl
      go_wp2_with (first
        | (refine wpList_build_as rfl 55 #[] rfl (sec z128) _ rfl Try.builtS ?_)
        | (refine wpList_alloc_agg rfl 55 rfl _ Try.zeroS ?_)
        | (refine wpList_store_all rfl 55 _ _ rfl W10.heap.size rfl (sec z128) rfl _ rfl _ 55 hmd.new rfl (bv_oneCell _) (sizeS z128_length) ?_; rw [hW11.out]))
      have hal : Try.prog.arrayLen 55 = 128 := by kernel_rfl
      go_loopw [15] (fun i wr => ∃ k : Nat, k ≤ 128 ∧ i = .int .i64 k ∧ wr.heap[W10.heap.size]? = some (.cells ((lay z128 L k).map bv).toArray 55 (0, 0)) ∧ Below W10.heap.size W10 wr) (fun i _ => 128 - (intOf i).toNat)
      case atStart => exact ⟨0, by omega, rfl, by rw [lay_zero]; exact hblk, hb11⟩
      case round =>
        obtain ⟨k, hk, rfl, hblk2, hbk⟩ := hrel
        clear hblk hb11 hW11 hmd
        by_cases hlt : k < 128
        · have hkI : (k : Int) < 128 := by omega
          have hll : (lay z128 L k).length = 128 := lay_length z128_length hlen (by omega)
          have hc1 : wr.cell? ⟨g10, k, none⟩ = some (bv (L[k]'(by omega))) := by
            rw [hbk.cell (p := ⟨g10, k, none⟩) hg10, ho10.cellAt k hlt]
            simp [hlen, hlt]
          have hc0 : wr.cell? ⟨W10.heap.size, k, none⟩ = some (bv ((lay z128 L k)[k]'(by omega))) := cell_blk hblk2 (by simp [hll, hlt])
          have hf0 : wr.frozen? ⟨W10.heap.size, k, none⟩ = false := free_blk hblk2
          have hnx : Hid ((wr.setCell ⟨W10.heap.size, k, none⟩ (bv (L[k]'(by omega)))).heap[W10.heap.size]? = some (.cells ((lay z128 L (k + 1)).map bv).toArray 55 (0, 0)) ∧ Below W10.heap.size W10 (wr.setCell ⟨W10.heap.size, k, none⟩ (bv (L[k]'(by omega))))) := by
            refine ⟨?_, hbk.setCell (Nat.le_refl _) _⟩
            rw [blk_setCell hblk2, ← lay_set z128_length hlen k hlt]; simp
          unfold bv at hc1 hc0 hnx
          generalize L[k]'(by omega) = y at *
          generalize (lay z128 L k)[k]'(by omega) = x at *
          clear hblk2 hbk ho10 hat10
          go_wp2
          go_roundw
          case rel => exact ⟨k + 1, by omega, by go_num, hnx.out.1, hnx.out.2⟩
          case measure => simp [intOf]; omega
        · obtain rfl : k = 128 := by omega
          have e1 : lay z128 L 128 = L := by unfold lay; rw [List.take_of_length_le (by omega), List.drop_eq_nil_of_le (by rw [z128_length]; omega), List.append_nil]
          rw [e1] at hblk2
          have hat11 := hat10.keep hbk
          have hr := range_all hblk2
          have hres := hat11.res
          have hfin : Below w.heap.size w (wr.setRow w.heap.size (L.map bv).toArray) := below_setRow hat11.below (Nat.le_refl _) _
          have hrow := range_all (setRow_heap wr w.heap.size _ (L.map bv).toArray 55 _ hres)
          clear hat10 ho10 hbk hblk2 e1 hat11
          go_wp2_with (first
            | (refine wpList_load_as rfl 55 _ rfl W10.heap.size 0 rfl (sec L) _ rfl hr Try.rowS (sizeS hlen) ?_)
            | (refine wpList_store_all rfl 55 _ _ rfl w.heap.size rfl (sec L) rfl _ rfl _ 55 hres (sec_fit hlen) (bv_oneCell _) (sizeS hlen) ?_))
          refine bodyPost_ret (results_cell2 rfl _ w.heap.size _ _ rfl rfl hrow Try.rowS (sizeS hlen)) rfl ?_
          exact ⟨by rw [HL.out]; rfl, hfin⟩

theorem c_rmake (m K : Nat) (b : List UInt8) (v : Value) (w : World) (hm : m < 18446744073709551616) (hs : Sl K w v b.length (b.map bv)) (hK : K ≤ w.heap.size) (hl : b.length ≤ 140737488355328) :
    Calls Try.prog 35 #[.int .u64 (m : Int), v] w fun e w' => e = .returned (.tuple #[sec (mkS m b), .int .i64 (mkE m b)]) ∧ Below w.heap.size w w' := by
  unfold mkS mkE
  by_cases h : okS m b
  · rw [if_pos h, if_pos h]
    exact c_rmake_yes m K b v w hm hs hK h
  · rw [if_neg h, if_neg h]
    obtain ⟨ao, cap, rfl⟩ := sl_form hs
    exact c_rmake_no m b ao cap w hm hl h
end Go.Proofs.Ytihdhlciblkbiaa

namespace Go.Proofs.Ytihdhlciblkbiaa
set_option linter.unusedVariables false
set_option linter.unusedSimpArgs false
set_option maxRecDepth 20000
open Go.RowKit

theorem opN_eq (s : List UInt8) (hs : s.length = 128) : opN s = (s[8]'(by omega)).toNat * 256 + (s[9]'(by omega)).toNat := by
  unfold opN
  rw [List.drop_eq_getElem_cons (show 8 < s.length by omega), List.drop_eq_getElem_cons (show 8 + 1 < s.length by omega)]
  simp [List.take, val, valFrom]

set_option maxRecDepth 20000 in
set_option maxHeartbeats 3200000 in
theorem c_ropen (s : List UInt8) (w : World) (hs : s.length = 128) :
    Calls Try.prog 39 #[sec s] w fun e w' => ∃ v, e = .returned (.tuple #[.int .u64 (oM s : Int), v, .bool (openS s).isSome]) ∧ Sl w'.heap.size w' v (oB s).length ((oB s).map bv) ∧ Below w.heap.size w w' := by
  obtain ⟨i0, hi, hz0, hz1, hz2⟩ := info_parts Try.info5
  have hal : Try.prog.arrayLen 55 = 128 := by kernel_rfl
  have hst := OpAt.start w s
  generalize hW : w.alloc (.cells (s.map bv).toArray 55) = W at *
  have hW : Hid (w.alloc (.cells (s.map bv).toArray 55) = W) := hW
  go_enter Try.func39, Try.ntmps39
  go_wp2_with (first
    | (refine wpList_box_agg rfl 55 _ rfl (sec s) _ rfl rfl ?_; rw [hW.out]))
  go_loop [5, 6] (fun u i => ∃ k : Nat, k ≤ 8 ∧ i = .int .i64 k ∧ u = .int .u64 (val (s.take k) : Nat)) (fun _ i => 8 - (intOf i).toNat)
  case atStart => exact ⟨0, Nat.zero_le _, rfl, rfl⟩
  case round =>
    obtain ⟨k, hk, rfl, rfl⟩ := hrel
    by_cases hlt : k < 8
    · have hcell : W.cell? ⟨w.heap.size, k, none⟩ = some (.int .u8 ((s[k]'(by omega)).toNat : Int)) := sec_cell hst.blk (List.getElem?_eq_getElem (by omega))
      have H1 : Hid (val (s.take (k + 1)) = val (s.take k) * 256 + (s[k]'(by omega)).toNat) := take_val_snoc s k (by omega)
      have hv : Hid (val (s.take k) < 72057594037927936) := take_val_lt s k (by omega)
      generalize val (s.take k) = m at *
      clear hst
      go_wp2
      go_round
      case rel => exact ⟨k + 1, by omega, by go_num, by rw [H1.out]; exact close_add m _ hv⟩
      case measure => simp [intOf]; omega
    · obtain rfl : k = 8 := by omega
      have c8 : W.cell? ⟨w.heap.size, 8, none⟩ = some (.int .u8 ((s[8]'(by omega)).toNat : Int)) := sec_cell hst.blk (List.getElem?_eq_getElem (by omega))
      have c9 : W.cell? ⟨w.heap.size, 9, none⟩ = some (.int .u8 ((s[9]'(by omega)).toNat : Int)) := sec_cell hst.blk (List.getElem?_eq_getElem (by omega))
      have hM := opM_lt s
      have hN := opN_eq s hs
      have hMe : Hid (val (s.take 8) = opM s) := rfl
      rw [hMe.out]
      clear hMe
      have x8 := (s[8]'(by omega)).toNat_lt
      have x9 := (s[9]'(by omega)).toNat_lt
      generalize (s[8]'(by omega)).toNat = y8 at *
      generalize (s[9]'(by omega)).toNat = y9 at *
      by_cases h106 : opN s ≤ 106
      case neg =>
        have hno : openS s = none := by unfold openS; rw [if_neg (fun h => h106 h.1)]
        have e1 : oM s = 0 := by unfold oM; rw [hno]; rfl
        have e2 : oB s = [] := by unfold oB; rw [hno]; rfl
        have HE : Hid (∃ v : Value, (.tuple #[.int .u64 0, .slice none 0 0, .bool false] : Value) = .tuple #[.int .u64 (oM s : Int), v, .bool (openS s).isSome] ∧ Sl W.heap.size W v (oB s).length ((oB s).map bv)) := by
          rw [hno, e1, e2]; exact ⟨_, rfl, Sl.nil _ _⟩
        have hd : decide (106 < (y8 : Int) * 256 + (y9 : Int)) = true := decide_eq_true (by omega)
        have hbel := hst.bel
        clear hst hno e1 e2 hN h106
        generalize opM s = m at *
        go_wp2
        go_ret3
        obtain ⟨v, h1, h2⟩ := HE.out
        exact ⟨v, congrArg Ending.returned h1, h2, hbel⟩
      have hd : decide (106 < (y8 : Int) * 256 + (y9 : Int)) = false := decide_eq_false (by omega)
      have hBl := opB_length hs h106
      have hOB : Hid (opB s = (s.drop 10).take (opN s)) := rfl
      have hop : Hid (openS s = if okS (opM s) (opB s) ∧ sealOf (opM s) (opB s) = s then some (opM s, opB s) else none) := by
        unfold Hid openS
        by_cases hq : okS (opM s) (opB s) ∧ sealOf (opM s) (opB s) = s
        · rw [if_pos hq, if_pos ⟨h106, hq⟩]
        · rw [if_neg hq, if_neg (fun h => hq h.2)]
      generalize opB s = b at *
      generalize opN s = n at *
      generalize opM s = m at *
      subst hBl
      have hs2 := hst.sl 10 b.length 118 hs (by omega) (by omega) (by omega)
      rw [← hOB.out] at hs2
      have hN' : (y8 : Int) * 256 + (y9 : Int) = (b.length : Int) := by omega
      have kc : ∀ w' : World, (Instr.sliceAt 55 (.pointer (some ⟨w.heap.size, 0, none⟩)) (some (.int .i64 10)) (some (.int .i64 (10 + (b.length : Int)))) none).run Try.prog w' = .ok (.slice (some ⟨w.heap.size, 10, none⟩) b.length 118) w' := fun w' => secCut w.heap.size b.length (by omega) w'
      clear hN
      go_wp2_with (at_builtin; refine wpList_append_sl _ rfl _ _ 37 rfl W.heap.size 5 i0 (.int .u8 0) 1 1 Try.underlying37 hi hz0 hz1 hz2 rfl (by decide) _ 0 [] rfl (World.ownsRow_lit W #[] 0 (Nat.le_refl _) (by decide) rfl) W.heap.size _ b.length (b.map bv) rfl ?c0 (by simp) (bv_oneCell _) ?c1 ?c2 ?c3 ?_)
      case c0 => exact hs2.keep ((Below.refl _ _).alloc (Nat.le_refl _) _)
      case c1 => unfold maxLen; omega
      case c2 => omega
      intro v3 W3 ho3 hg3 _
      have hb3 : Below W.heap.size W W3 := ((Below.refl _ _).alloc (Nat.le_refl _) _).grown hg3 (by simp) (by intro k hk; simp [Value.ownBlock] at hk; omega)
      have ho3 : W3.ownsRow W.heap.size 5 1 v3 b.length (b.map bv) := by simpa using ho3
      have hs3 := sl_of_owns ho3
      obtain ⟨ao3, cap3, rfl⟩ := owns_form ho3
      have hat3 := hst.keep hb3
      clear hb3 ho3 hg3 hst hs2 kc hN' c8 c9
      go_wp2_with (go_at_call 35; refine stop_here ?_)
      unfold Hid
      refine (c_rmake m _ b _ _ hM hs3 (Nat.le_refl _) (by omega)).mono ?_
      rintro e W4 ⟨rfl, hb4⟩
      have hat4 := hat3.keep hb4
      have hs4 := (hs3.keep hb4).mono hb4.size
      have hlen := mkS_length m b
      have hmd := made W4
      have hrow := range_all (putS_blk W4 (mkS m b))
      have hb5 := putS_below W4 (mkS m b)
      have hat5 := hat4.keep hb5
      have hs5 := (hs4.keep hb5).mono hb5.size
      have hr5 := range_all hat5.blk
      have hbel5 := hat5.bel
      have hW5 : Hid ((W4.alloc (.cells (z128.map bv).toArray 55)).setRow W4.heap.size ((mkS m b).map bv).toArray = putS W4 (mkS m b)) := rfl
      clear hat3 hb4 hs3 hb5 hat4 hs4 hat5
      generalize putS W4 (mkS m b) = W5 at *
      have hq := neqS (mkS m b) s hlen hs
      have hg := guardS
      by_cases hok : okS m b
      case neg =>
        have hE : mkE m b = 51 := by unfold mkE; rw [if_neg hok]
        have hno : openS s = none := by rw [hop.out, if_neg (fun h => hok h.1)]
        have HE : Hid (∃ v : Value, (.tuple #[.int .u64 0, .slice none 0 0, .bool false] : Value) = .tuple #[.int .u64 (oM s : Int), v, .bool (openS s).isSome] ∧ Sl W5.heap.size W5 v (oB s).length ((oB s).map bv)) := by
          have e1 : oM s = 0 := by unfold oM; rw [hno]; rfl
          have e2 : oB s = [] := by unfold oB; rw [hno]; rfl
          rw [hno, e1, e2]; exact ⟨_, rfl, Sl.nil _ _⟩
        rw [hE]
        clear hno hE hq
        generalize mkS m b = L at *
        go_wp2_with (first
          | (refine wpList_alloc_agg rfl 55 rfl _ Try.zeroS ?_)
          | (refine wpList_store_all rfl 55 _ _ rfl W4.heap.size rfl (sec L) rfl _ rfl _ 55 hmd.new (sec_fit hlen) (bv_oneCell _) (sizeS hlen) ?_; rw [hW5.out]))
        go_ret3
        obtain ⟨v, h1, h2⟩ := HE.out
        exact ⟨v, congrArg Ending.returned h1, h2, hbel5⟩
      have hE : mkE m b = 0 := by unfold mkE; rw [if_pos hok]
      have hSl : Hid (mkS m b = sealOf m b) := by unfold Hid mkS; rw [if_pos hok]
      rw [hE]
      clear hE
      by_cases he : mkS m b = s
      · have hse : openS s = some (m, b) := by rw [hop.out, if_pos ⟨hok, hSl.out.symm.trans he⟩]
        have HE : Hid (∃ v : Value, (.tuple #[.int .u64 (m : Int), .slice ao3 b.length cap3, .bool true] : Value) = .tuple #[.int .u64 (oM s : Int), v, .bool (openS s).isSome] ∧ Sl W5.heap.size W5 v (oB s).length ((oB s).map bv)) := by
          have e1 : oM s = m := by unfold oM; rw [hse]; rfl
          have e2 : oB s = b := by unfold oB; rw [hse]; rfl
          rw [hse, e1, e2]; exact ⟨_, rfl, hs5⟩
        have hbq : (mkS m b == s) = true := beq_iff_eq.2 he
        rw [hbq, Bool.not_true] at hq
        clear hse hbq hs5 he
        generalize mkS m b = L at *
        go_wp2_with (first
          | (refine wpList_alloc_agg rfl 55 rfl _ Try.zeroS ?_)
          | (refine wpList_store_all rfl 55 _ _ rfl W4.heap.size rfl (sec L) rfl _ rfl _ 55 hmd.new (sec_fit hlen) (bv_oneCell _) (sizeS hlen) ?_; rw [hW5.out])
          | (refine wpList_load_as rfl 55 (.tmp 9) rfl W4.heap.size 0 rfl (sec L) _ rfl hrow Try.rowS (sizeS hlen) ?_)
          | (refine wpList_load_as rfl 55 (.tmp 1) rfl w.heap.size 0 rfl (sec s) _ rfl hr5 Try.rowS (sizeS hs) ?_))
        go_ret3
        obtain ⟨v, h1, h2⟩ := HE.out
        exact ⟨v, congrArg Ending.returned h1, h2, hbel5⟩
      · have hno : openS s = none := by rw [hop.out, if_neg (fun h => he (hSl.out.trans h.2))]
        have HE : Hid (∃ v : Value, (.tuple #[.int .u64 0, .slice none 0 0, .bool false] : Value) = .tuple #[.int .u64 (oM s : Int), v, .bool (openS s).isSome] ∧ Sl W5.heap.size W5 v (oB s).length ((oB s).map bv)) := by
          have e1 : oM s = 0 := by unfold oM; rw [hno]; rfl
          have e2 : oB s = [] := by unfold oB; rw [hno]; rfl
          rw [hno, e1, e2]; exact ⟨_, rfl, Sl.nil _ _⟩
        have hbq : (mkS m b == s) = false := beq_eq_false_iff_ne.2 he
        rw [hbq, Bool.not_false] at hq
        clear hno hbq hs5 he
        generalize mkS m b = L at *
        go_wp2_with (first
          | (refine wpList_alloc_agg rfl 55 rfl _ Try.zeroS ?_)
          | (refine wpList_store_all rfl 55 _ _ rfl W4.heap.size rfl (sec L) rfl _ rfl _ 55 hmd.new (sec_fit hlen) (bv_oneCell _) (sizeS hlen) ?_; rw [hW5.out])
          | (refine wpList_load_as rfl 55 (.tmp 9) rfl W4.heap.size 0 rfl (sec L) _ rfl hrow Try.rowS (sizeS hlen) ?_)
          | (refine wpList_load_as rfl 55 (.tmp 1) rfl w.heap.size 0 rfl (sec s) _ rfl hr5 Try.rowS (sizeS hs) ?_))
        go_ret3
        obtain ⟨v, h1, h2⟩ := HE.out
        exact ⟨v, congrArg Ending.returned h1, h2, hbel5⟩
end Go.Proofs.Ytihdhlciblkbiaa

namespace Go.Proofs.Ytihdhlciblkbiaa
set_option linter.unusedVariables false
set_option linter.unusedSimpArgs false
set_option maxRecDepth 20000
open Go.RowKit

theorem refunpack_refused (sh : ByteArray) (v : Value) (w : World) (hs : sh.size ≤ maxLen) (h : ¬ sh.size ≤ 200) :
    Calls Try.prog 40 #[.string sh, v] w fun e w' => e = .returned (.tuple #[.slice none 0 0, .int .i64 21]) ∧ w = w' := by
  unfold maxLen at hs
  have hd1 : decide ((200 : Int) < (sh.size : Int)) = true := decide_eq_true (by omega)
  go_enter Try.func40, Try.ntmps40
  go_wp2
  go_ret2
  exact ⟨rfl, rfl⟩

theorem c_refnumberN (K n cap : Nat) (ao : Option Addr) (ys : List UInt8) (w : World) (hs : Sl K w (.slice ao n cap) n (ys.map bv)) (hy : ys.length = n) (h8 : n ≤ 8) :
    Calls Try.prog 56 #[.slice ao n cap] w fun e w' => e = .returned (.int .u64 (val ys : Nat)) ∧ w = w' := by
  subst hy
  exact c_refnumber K cap ao ys w hs h8

theorem sl_mid {K : Nat} {w : World} {ao : Option Addr} {cap : Nat} {xs : List UInt8} (h : Sl K w (.slice ao xs.length cap) xs.length (xs.map bv)) (p n : Nat) (hpn : p + n ≤ xs.length) :
    Sl K w (.slice (if cap = p then ao else ao.map (fun x => x.add p)) n (cap - p)) n (((xs.drop p).take n).map bv) := by
  have := h.cut1 p (p + n) (by omega) hpn
  rw [show p + n - p = n by omega] at this
  simpa [cut1, sliced] using this

theorem sl_mid' {K : Nat} {w : World} {ao : Option Addr} {cap : Nat} {xs : List UInt8} (h : Sl K w (.slice ao xs.length cap) xs.length (xs.map bv)) (p n : Nat) (hpn : p + n ≤ xs.length) (hne : ¬ cap = p) :
    Sl K w (.slice (ao.map (fun x => x.add p)) n (cap - p)) n (((xs.drop p).take n).map bv) := by
  have := sl_mid h p n hpn
  rw [if_neg hne] at this
  exact this

/-- A cut under a name of its own. -/
theorem cut_named {K : Nat} {w : World} {ao : Option Addr} {cap : Nat} {xs : List UInt8} (h : Sl K w (.slice ao xs.length cap) xs.length (xs.map bv)) (p n : Nat) (hpn : p + n ≤ xs.length) :
    ∃ sv, sv = cut1 ao p (p + n) cap ∧ Sl K w sv n (((xs.drop p).take n).map bv) := by
  have := h.cut1 p (p + n) (by omega) hpn
  rw [show p + n - p = n by omega] at this
  exact ⟨_, rfl, this⟩

/-- The operation that makes it. -/
theorem run_cut {P : Program} (t e : TypeId) (ht : P.underlying t = some (.slice e)) {z : Value} {by_ : Nat} (hi : (P.info? e).map (fun i => (i.zero, i.size, i.bytes)) = some (some z, 1, by_)) {ao : Option Addr} {len cap p n : Nat} (sv : Value) (hsv : sv = cut1 ao p (p + n) cap) (hpn : p + n ≤ len) (hlc : len ≤ cap) :
    ∀ (kl kh : IntKind) (l r : Int) (w : World), l = (p : Int) → r = ((p + n : Nat) : Int) → (Instr.sliceAt t (.slice ao len cap) (some (.int kl l)) (some (.int kh r)) none).run P w = .ok sv w := by
  intro kl kh l r w hl hr
  subst hl hr
  obtain ⟨i0, hi, _, hi1, _⟩ := info_parts hi
  have he : P.elem t = e := by simp [Program.elem, ht]
  rw [run_sliceAt_slice w t _ _ _ _ (by rw [he]; exact ht), run_slice_lh w t ao len cap (by rw [he]; exact ht) kl kh _ _ (by omega) (by omega) (by omega), he]
  have e2 : ((p : Int) + (n : Int)).toNat = p + n := by omega
  simp [sizeOf, typeInfo, hi, hi1, Result.andThen, hsv, cut1, e2]

theorem unpF_b (xs : List UInt8) (h : 2 ≤ xs.length) (h1 : val (xs.take 2) ≤ 1024) (h3 : val (xs.take 2) ≤ (xs.drop 2).length) : unpF 98 xs = some (⟨0, cntB xs⟩, cntR xs) := by
  simp only [unpF, if_true]; rw [if_pos ⟨h, h1, h3⟩]; rfl

theorem unpF_b_none (xs : List UInt8) (h : ¬ (2 ≤ xs.length ∧ val (xs.take 2) ≤ 1024 ∧ val (xs.take 2) ≤ (xs.drop 2).length)) : unpF 98 xs = none := by
  simp only [unpF, if_true]; rw [if_neg h]

theorem unpack_of_stop {sh : ByteArray} {xs : List UInt8} (h : unpL sh.data.toList xs = none) : unpack sh.data.toList xs = none := by
  unfold unpack
  rw [h]
  simp

set_option maxRecDepth 100000 in
set_option maxHeartbeats 3200000 in
theorem refunpack_run (sh : ByteArray) (K : Nat) (ao : Option Addr) (cap : Nat) (xs : List UInt8) (w : World) (hs : sh.size ≤ 200) (hx : Sl K w (.slice ao xs.length cap) xs.length (xs.map bv)) (hK : K ≤ w.heap.size) (hc : xs.length ≤ cap) (hm : cap ≤ maxLen) :
    Calls Try.prog 40 #[.string sh, .slice ao xs.length cap] w fun e w' => Unpacked sh.data.toList xs w e w' := by
  obtain ⟨i0, hi, hi0, hi1, hi2⟩ := info_parts Try.info5
  obtain ⟨i4, hj, hj0, hj1, hj2⟩ := info_parts Try.info79
  have hd1 : decide ((200 : Int) < (sh.size : Int)) = false := decide_eq_false (by omega)
  unfold maxLen at hm
  go_enter Try.func40, Try.ntmps40
  go_wp2
  go_loopw [6, 7, 8] (fun o p i wr => ∃ (k at_ : Nat) (fs : List Fld) (cs : List Value), k ≤ sh.size ∧ at_ ≤ xs.length ∧ p = .int .i64 at_ ∧ i = .int .i64 k ∧ Hid (unpL (sh.data.toList.take k) xs = some (fs, xs.drop at_)) ∧ CopyAt w wr o fs cs) (fun _ _ i _ => sh.size - (intOf i).toNat)
  case atStart => exact ⟨0, 0, [], [], Nat.zero_le _, Nat.zero_le _, rfl, rfl, rfl, copyAt_start w⟩
  case round =>
    obtain ⟨k, p, fs, cs, hk, hp, rfl, rfl, hacc, hat⟩ := hrel
    have hsz := hat.bel.size
    have hfl : fs.length ≤ 200 := by
      have := unpL_length hacc.out
      rw [this, List.length_take, ba_len]; omega
    by_cases hlt : k < sh.size
    · have hks' : (k : Int) < (sh.size : Int) := by omega
      have hk0 : (0 : Int) ≤ (k : Int) := by omega
      by_cases h98 : sh[k] = 98
      · have hc98 : (((sh[k].toNat : Nat) : Int) = 98 ∧ (0 : Int) = 0) := ⟨by rw [h98]; rfl, rfl⟩
        by_cases h2 : 2 ≤ (xs.drop p).length
        · have hl2 : p + 2 ≤ xs.length := by rw [List.length_drop] at h2; omega
          go_wp2_with (first | (go_at_call 50; refine (c_width_yes _ 0 (by omega) _).mono ?_; rintro e w' ⟨rfl, rfl⟩))
          have hxr := hx.keep (hat.bel.mono hK)
          refine (c_refnumberN K 2 _ _ ((xs.drop p).take 2) _ (sl_mid' hxr p 2 hl2 (by omega)) (by rw [List.length_take]; omega) (by omega)).mono ?_
          rintro e w' ⟨rfl, rfl⟩
          generalize hq : val ((xs.drop p).take 2) = q
          have Hq : Hid (val ((xs.drop p).take 2) = q) := hq
          clear hq
          by_cases hq1 : q ≤ 1024
          · by_cases hq2 : p + 2 + q ≤ xs.length
            · have hb3 : Below wr.heap.size wr (wr.alloc (.cells #[] 5)) := (Below.refl _ _).alloc (Nat.le_refl _) _
              have hlit : (wr.alloc (.cells #[] 5)).ownsRow wr.heap.size 5 1 (.slice (some ⟨wr.heap.size, 0, none⟩) 0 0) 0 [] := World.ownsRow_lit wr #[] 0 (Nat.le_refl _) (by decide) rfl
              obtain ⟨sv, hsv, hsb3⟩ := cut_named (hxr.keep (hb3.mono (by omega))) (p + 2) q hq2
              have hsl := run_cut 37 5 Try.underlying37 Try.info5 sv hsv (by omega) (by omega)
              clear hsv
              have hf : unpF sh[k] (xs.drop p) = some (⟨0, (xs.drop (p + 2)).take q⟩, xs.drop (p + 2 + q)) := by
                rw [h98, unpF_b _ h2 (by rw [Hq.out]; exact hq1) (by rw [Hq.out]; simp only [List.length_drop]; omega)]
                unfold cntB cntR
                rw [Hq.out, List.drop_drop, List.drop_drop]
              have hbl : ((xs.drop (p + 2)).take q).length = q := by rw [List.length_take, List.length_drop]; omega
              have hacc1 : Hid (unpL (sh.data.toList.take (k + 1)) xs = some (fs ++ [⟨0, (xs.drop (p + 2)).take q⟩], xs.drop (p + 2 + q))) := unpL_round hlt hacc.out hf
              clear hf
              go_wp2_with (at_builtin; refine wpList_append_sl _ rfl _ _ 37 rfl wr.heap.size 5 i0 (.int .u8 0) 1 1 Try.underlying37 hi hi0 hi1 hi2 rfl (by decide) _ _ _ rfl hlit K _ q _ rfl hsb3 (by rw [List.length_map, hbl, Nat.mul_one]) (bv_oneCell _) ?c1 ?c2 ?c3 ?_)
              case c1 => unfold maxLen; omega
              case c2 => omega
              case c3 => simp
              intro v6 w6 hown6 hgrow6 hat6
              have hg3 := hgrow6.size
              have hb6 : Below wr.heap.size wr w6 := hb3.grown hgrow6 (by simp) (owns_ge hlit)
              have hown6 : w6.ownsRow wr.heap.size 5 1 v6 ((xs.drop (p + 2)).take q).length (((xs.drop (p + 2)).take q).map bv) := by rw [hbl]; simpa using hown6
              obtain ⟨a6, c6, rfl⟩ : ∃ a6 c6, v6 = .slice a6 ((xs.drop (p + 2)).take q).length c6 := owns_form hown6
              have hs6 := slp_of_owns hown6
              have h6 := hown6.lt
              have hown8 := (owns_keep hat.own hb6).alloc (.cells #[.int .u64 0, .slice a6 ((xs.drop (p + 2)).take q).length c6] 79)
              have hsz6 := hb6.size
              have hlq : ((xs.drop (p + 2)).take q).length ≤ 140737488355328 := by omega
              clear hgrow6 hat6 hlit hsb3 hb3 hsl hown6 hxr
              rw [hbl] at hs6 h6 hown8 ⊢
              go_wp2_with (at_builtin; refine wpList_append_sl _ rfl _ _ 82 rfl w.heap.size 79 i4 _ 2 32 Try.underlying82 hj hj0 hj1 hj2 rfl (by decide) _ _ _ rfl hown8 _ _ 1 _ rfl (sl_lit w6 _ 79 1 (by omega)) rfl ?d1 ?d2 ?d3 ?d4 ?_)
              case d1 => first | (intro u hu; simp at hu; rcases hu with rfl | rfl <;> rfl) | simp [Value.oneCell']
              case d2 => unfold maxLen; omega
              case d3 => first | omega | (simp; omega)
              case d4 => first | omega | (simp; omega)
              intro v9 w9 hown9 hgrow9 hat9
              have hown9 : w9.ownsRow w.heap.size 79 2 v9 (fs ++ [(⟨0, (xs.drop (p + 2)).take q⟩ : Fld)]).length (cs ++ [.int .u64 ((0 : Nat) : Int), .slice a6 q c6]) := by simpa using hown9
              have hnew := copyAt_step (⟨0, (xs.drop (p + 2)).take q⟩ : Fld) hat hb6 (by show Slp _ w6 _ ((xs.drop (p + 2)).take q).length _; rw [hbl]; exact hs6) h6 (by show (0 : Nat) < _; omega) hlq _ hown9 hgrow9 hat9
              clear hat hb6 hs6 h6 hown9 hgrow9 hat9 hown8 hbl hlq
              generalize fs ++ [(⟨0, (xs.drop (p + 2)).take q⟩ : Fld)] = fs1 at *
              generalize cs ++ [.int .u64 ((0 : Nat) : Int), .slice a6 q c6] = cs1 at *
              go_wp2
              go_roundw
              case rel => exact ⟨k + 1, p + 2 + q, _, _, by omega, by omega, by go_num, by go_num, hacc1, hnew⟩
              case measure => simp [intOf]; omega
            · have hnone := unpack_of_stop (unpL_stop hlt hacc.out (by rw [h98]; exact unpF_b_none _ (by rw [Hq.out]; simp only [List.length_drop]; omega)))
              go_wp2
              go_ret2
              exact ⟨hat.bel, .inr ⟨hnone, rfl⟩⟩
          · have hnone := unpack_of_stop (unpL_stop hlt hacc.out (by rw [h98]; exact unpF_b_none _ (by rw [Hq.out]; omega)))
            go_wp2
            go_ret2
            exact ⟨hat.bel, .inr ⟨hnone, rfl⟩⟩
        · have hl2 : xs.length < p + 2 := by rw [List.length_drop] at h2; omega
          have hnone := unpack_of_stop (unpL_stop hlt hacc.out (by rw [h98]; exact unpF_b_none _ (fun h => h2 h.1)))
          go_wp2_with (first | (go_at_call 50; refine (c_width_yes _ 0 (by omega) _).mono ?_; rintro e w' ⟨rfl, rfl⟩))
          go_ret2
          exact ⟨hat.bel, .inr ⟨hnone, rfl⟩⟩
      · cases hw : wdt sh[k] with
        | none =>
          obtain ⟨h1, h2, h3, h4⟩ := wdt_none hw
          have h5 := byte_ne h98 98 rfl
          have hnone := unpack_of_stop (unpL_stop hlt hacc.out (by simp [unpF, h98, hw]))
          clear hw
          go_wp2_with (first | (go_at_call 50; refine (c_width_no _ h1 h2 h3 h4 h5 _).mono ?_; rintro e w' ⟨rfl, rfl⟩))
          go_ret2
          exact ⟨hat.bel, .inr ⟨hnone, rfl⟩⟩
        | some q =>
          have hq := wdt_int hw
          have hq0 : decide ((q : Int) < 0) = false := decide_eq_false (by omega)
          have hq1 : ((q : Int) == 0) = false := beq_eq_false_iff_ne.2 (by omega)
          have hq2 : decide ((0 : Int) < (q : Int)) = true := decide_eq_true (by omega)
          have hq8 : q ≤ 8 := by omega
          have hq9 : 1 ≤ q := by omega
          have hq' : Hid ((((sh[k].toNat : Nat) : Int) = 49 ∧ (q : Int) = 1) ∨ (((sh[k].toNat : Nat) : Int) = 50 ∧ (q : Int) = 2) ∨ (((sh[k].toNat : Nat) : Int) = 52 ∧ (q : Int) = 4) ∨ (((sh[k].toNat : Nat) : Int) = 56 ∧ (q : Int) = 8)) := hq
          clear hq
          have hw' : Hid (wdt sh[k] = some q) := hw
          clear hw
          by_cases hl : p + q ≤ xs.length
          · have hf : unpF sh[k] (xs.drop p) = some (⟨val ((xs.drop p).take q), []⟩, xs.drop (p + q)) := by
              simp only [unpF, if_neg h98, hw'.out]
              rw [if_pos (by rw [List.length_drop]; omega), List.drop_drop]
            have hacc1 : Hid (unpL (sh.data.toList.take (k + 1)) xs = some (fs ++ [⟨val ((xs.drop p).take q), []⟩], xs.drop (p + q))) := unpL_round hlt hacc.out hf
            clear hf
            have hxr := hx.keep (hat.bel.mono hK)
            obtain ⟨sv, hsv, hsb3⟩ := cut_named hxr p q hl
            have hsl := run_cut 37 5 Try.underlying37 Try.info5 sv hsv hl (by omega)
            clear hsv
            have hvl : val ((xs.drop p).take q) < 18446744073709551616 := by
              have h1 := val_lt ((xs.drop p).take q)
              have h2 : ((xs.drop p).take q).length ≤ 8 := by rw [List.length_take]; omega
              have h3 : 256 ^ ((xs.drop p).take q).length ≤ 256 ^ 8 := Nat.pow_le_pow_right (by decide) h2
              omega
            have hyl : ((xs.drop p).take q).length = q := by rw [List.length_take, List.length_drop]; omega
            obtain ⟨sa, sc, rfl⟩ : ∃ sa sc, sv = .slice sa q sc := sl_form hsb3
            go_wp2_with (first
              | (go_at_call 50; refine (c_width_yes _ q (by have := hq'.out; omega) _).mono ?_; rintro e w' ⟨rfl, rfl⟩)
              | (go_at_call 56; refine (c_refnumberN K q _ _ ((xs.drop p).take q) _ hsb3 hyl hq8).mono ?_; rintro e w' ⟨rfl, rfl⟩)
              | (at_builtin; refine wpList_append_sl _ rfl _ _ 82 rfl w.heap.size 79 i4 _ 2 32 Try.underlying82 hj hj0 hj1 hj2 rfl (by decide) _ _ _ rfl (hat.own.alloc _) _ _ 1 _ rfl (sl_lit wr _ 79 1 (by omega)) rfl ?f1 ?f2 ?f3 ?f4 ?_))
            case f1 => first | (intro u hu; simp at hu; rcases hu with rfl | rfl <;> rfl) | simp [Value.oneCell']
            case f2 => unfold maxLen; omega
            case f3 => first | omega | (simp; omega)
            case f4 => first | omega | (simp; omega)
            intro v9 w9 hown9 hgrow9 hat9
            have hown9 : w9.ownsRow w.heap.size 79 2 v9 (fs ++ [(⟨val ((xs.drop p).take q), []⟩ : Fld)]).length (cs ++ [.int .u64 ((val ((xs.drop p).take q) : Nat) : Int), .slice none 0 0]) := by simpa using hown9
            have hnew := copyAt_step (⟨val ((xs.drop p).take q), []⟩ : Fld) hat (Below.refl _ _) (X6 := fun _ => False) ⟨none, 0, rfl, ⟨Nat.le_refl _, Nat.zero_le _⟩, fun _ => rfl, fun i c h => by simp at h⟩ (fun b h => h.elim) hvl (by simp) _ hown9 hgrow9 hat9
            clear hat hown9 hgrow9 hat9 hsb3 hsl hxr hvl hyl
            generalize fs ++ [(⟨val ((xs.drop p).take q), []⟩ : Fld)] = fs1 at *
            generalize cs ++ [.int .u64 ((val ((xs.drop p).take q) : Nat) : Int), .slice none 0 0] = cs1 at *
            go_wp2
            go_roundw
            case rel => exact ⟨k + 1, p + q, _, _, by omega, by omega, by go_num, by go_num, hacc1, hnew⟩
            case measure => simp [intOf]; omega
          · have hl' : ¬ q ≤ (xs.drop p).length := by rw [List.length_drop]; omega
            have hnone := unpack_of_stop (unpL_stop hlt hacc.out (by simp only [unpF, if_neg h98, hw'.out]; rw [if_neg hl']))
            clear hl'
            go_wp2_with (first | (go_at_call 50; refine (c_width_yes _ q (by have := hq'.out; omega) _).mono ?_; rintro e w' ⟨rfl, rfl⟩))
            go_ret2
            exact ⟨hat.bel, .inr ⟨hnone, rfl⟩⟩
    · have htk : unpL sh.data.toList xs = some (fs, xs.drop p) := by
        have e := hacc.out
        rw [List.take_of_length_le (by rw [ba_len]; omega)] at e
        exact e
      by_cases hpe : p = xs.length
      · have hun : unpack sh.data.toList xs = some fs := by
          unfold unpack
          rw [ba_len, if_pos hs, htk, List.drop_of_length_le (by omega)]
        have hd2 : ((p : Int) != (xs.length : Int)) = false := by simp; omega
        have hpe' : Hid (p = xs.length) := hpe
        clear hpe
        go_wp2
        go_ret2
        exact ⟨hat.bel, .inl ⟨fs, _, hun, rfl, fieldsAt_of_own hat.own hat.fld (fun b hb => hb.1)⟩⟩
      · have hun : unpack sh.data.toList xs = none := by
          unfold unpack
          rw [ba_len, if_pos hs, htk]
          cases hd : xs.drop p with
          | nil => rw [List.drop_eq_nil_iff] at hd; omega
          | cons a r => rfl
        have hd2 : ((p : Int) != (xs.length : Int)) = true := by simp; omega
        go_wp2
        go_ret2
        exact ⟨hat.bel, .inr ⟨hun, rfl⟩⟩

theorem c_refunpack (sh : ByteArray) (K : Nat) (v : Value) (xs : List UInt8) (w : World) (hsh : sh.size ≤ maxLen) (hx : Sl K w v xs.length (xs.map bv)) (hK : K ≤ w.heap.size) :
    Calls Try.prog 40 #[.string sh, v] w fun e w' => Unpacked sh.data.toList xs w e w' := by
  by_cases h : sh.size ≤ 200
  · obtain ⟨ao, cap, rfl, hc, h1⟩ := hx
    exact refunpack_run sh K ao cap xs w h ⟨ao, cap, rfl, hc, h1⟩ hK hc.1 hc.2
  · refine (refunpack_refused sh v w hsh h).mono ?_
    rintro e w' ⟨he, rfl⟩
    exact ⟨Below.refl _ _, .inr ⟨by unfold unpack; rw [ba_len, if_neg h], he⟩⟩
end Go.Proofs.Ytihdhlciblkbiaa

namespace Go.Proofs.Ytihdhlciblkbiaa
set_option linter.unusedVariables false
set_option linter.unusedSimpArgs false
set_option maxRecDepth 20000
open Go.RowKit

def rightP (D : Dk) (f : Int) (g : Nat) : Prop := 0 ≤ f ∧ f + 16 ≤ (D.st.length : Int) ∧ f < 2000 ∧ 1 ≤ g ∧ g < 281474976710656
instance (D : Dk) (f : Int) (g : Nat) : Decidable (rightP D f g) := by unfold rightP; infer_instance

set_option maxHeartbeats 800000 in
theorem c_rright {X : Nat → Prop} {vs vp : Value} {D : Dk} (f : Int) (g : Nat) (w : World) (h : RefG X w vs vp D) (hf0 : -9223372036854775808 ≤ f) (hf1 : f ≤ 9223372036854775807) (hg : g < 18446744073709551616) :
    Calls Try.prog 11 #[rval vs vp D, .int .i64 f, .int .u64 (g : Int)] w fun e w' => e = .returned (.bool (decide (rightP D f g))) ∧ Nw w w' := by
  obtain ⟨so, sc, po, pc, rfl, rfl, h1, h2, -, -⟩ := h.form
  have hn := h.ok.n
  have hv := varR w (.slice so D.st.length sc) (.slice po D.pd.length pc) D
  generalize hW : w.alloc (.cells (rcells (.slice so D.st.length sc) (.slice po D.pd.length pc) D).toArray 30) = W at *
  have hW : Hid (w.alloc (.cells (rcells (.slice so D.st.length sc) (.slice po D.pd.length pc) D).toArray 30) = W) := hW
  obtain ⟨c0, -, -, -, -, -⟩ := r_cells hv.blk
  have hfr := hv.fr
  clear hv h
  have fin : ∀ q : Bool, (rightP D f g ↔ q = true) → Hid (decide (rightP D f g) = q) := fun q hq => by
    unfold Hid
    rw [Bool.eq_iff_iff]
    simpa using hq
  by_cases hneg : f < 0
  · have hd : decide (0 ≤ f) = false := decide_eq_false (by omega)
    have HE := fin false (by unfold rightP; simp; omega)
    clear fin
    go_enter Try.func11, Try.ntmps11
    go_wp2_with (refine wpList_box_agg rfl 30 _ rfl (rval (.slice so D.st.length sc) (.slice po D.pd.length pc) D) _ rfl rfl ?_; rw [hW.out])
    go_ret
    exact ⟨by rw [HE.out]; rfl, hfr⟩
  have hd : decide (0 ≤ f) = true := decide_eq_true (by omega)
  by_cases hbig : 2000 ≤ f
  · have hd2 : decide (f < 2000) = false := decide_eq_false (by omega)
    have HE := fin false (by unfold rightP; simp; omega)
    clear fin
    obtain ⟨z, hz⟩ : ∃ z, IntKind.i64.wrap (f + 16) = z := ⟨_, rfl⟩
    have hzr : -9223372036854775808 ≤ z ∧ z ≤ 9223372036854775807 := by rw [← hz, IntKind.wrap_i64]; omega
    generalize D.st.length = n at *
    by_cases hzn : z ≤ (n : Int)
    · have hd3 : decide (z ≤ (n : Int)) = true := decide_eq_true hzn
      go_enter Try.func11, Try.ntmps11
      go_wp2_with (refine wpList_box_agg rfl 30 _ rfl (rval (.slice so n sc) (.slice po D.pd.length pc) D) _ rfl rfl ?_; rw [hW.out])
      all_goals
        go_ret
        exact ⟨by rw [HE.out]; rfl, hfr⟩
    · have hd3 : decide (z ≤ (n : Int)) = false := decide_eq_false hzn
      go_enter Try.func11, Try.ntmps11
      go_wp2_with (refine wpList_box_agg rfl 30 _ rfl (rval (.slice so n sc) (.slice po D.pd.length pc) D) _ rfl rfl ?_; rw [hW.out])
      all_goals
        go_ret
        exact ⟨by rw [HE.out]; rfl, hfr⟩
  have hd2 : decide (f < 2000) = true := decide_eq_true (by omega)
  by_cases hlen : f + 16 ≤ (D.st.length : Int)
  case neg =>
    have hd3 : decide (f + 16 ≤ (D.st.length : Int)) = false := decide_eq_false hlen
    have HE := fin false (by unfold rightP; simp; omega)
    clear fin
    go_enter Try.func11, Try.ntmps11
    go_wp2_with (refine wpList_box_agg rfl 30 _ rfl (rval (.slice so D.st.length sc) (.slice po D.pd.length pc) D) _ rfl rfl ?_; rw [hW.out])
    go_ret
    exact ⟨by rw [HE.out]; rfl, hfr⟩
  have hd3 : decide (f + 16 ≤ (D.st.length : Int)) = true := decide_eq_true hlen
  by_cases hg1 : 1 ≤ g
  case neg =>
    obtain rfl : g = 0 := by omega
    have HE := fin false (by unfold rightP; simp)
    clear fin
    go_enter Try.func11, Try.ntmps11
    go_wp2_with (refine wpList_box_agg rfl 30 _ rfl (rval (.slice so D.st.length sc) (.slice po D.pd.length pc) D) _ rfl rfl ?_; rw [hW.out])
    go_ret
    exact ⟨by rw [HE.out]; rfl, hfr⟩
  have hd4 : decide (1 ≤ (g : Int)) = true := decide_eq_true (by omega)
  by_cases hg2 : g < 281474976710656
  · have hd5 : decide ((g : Int) < 281474976710656) = true := decide_eq_true (by omega)
    have HE := fin true (by unfold rightP; simp; omega)
    clear fin
    go_enter Try.func11, Try.ntmps11
    go_wp2_with (refine wpList_box_agg rfl 30 _ rfl (rval (.slice so D.st.length sc) (.slice po D.pd.length pc) D) _ rfl rfl ?_; rw [hW.out])
    go_ret
    exact ⟨by rw [HE.out]; rfl, hfr⟩
  · have hd5 : decide ((g : Int) < 281474976710656) = false := decide_eq_false (by omega)
    have HE := fin false (by unfold rightP; simp; omega)
    clear fin
    go_enter Try.func11, Try.ntmps11
    go_wp2_with (refine wpList_box_agg rfl 30 _ rfl (rval (.slice so D.st.length sc) (.slice po D.pd.length pc) D) _ rfl rfl ?_; rw [hW.out])
    go_ret
    exact ⟨by rw [HE.out]; rfl, hfr⟩

/-- What a round of the document's Scan keeps. -/
structure RsAt (X : Nat → Prop) (w wr : World) (vs vp : Value) (D : Dk) (v : Value) (l : List (List UInt8)) (cs : List Value) : Prop where
  var : wr.heap[w.heap.size]? = some (.cells (rcells vs vp D).toArray 30 (0, 0))
  ref : RefG X wr vs vp D
  own : wr.ownsRow (w.heap.size + 1) 37 1 v l.length cs
  rcs : RecX (fun q => w.heap.size + 1 ≤ q ∧ v.ownBlock ≠ some q) wr l cs
  nw : Nw w wr

theorem RsAt.keep {X : Nat → Prop} {w wr w' : World} {vs vp : Value} {D : Dk} {v : Value} {l : List (List UInt8)} {cs : List Value} (h : RsAt X w wr vs vp D v l cs) (hn : Nw wr w') : RsAt X w w' vs vp D v l cs :=
  ⟨(hn.block _ (heap_lt h.var) id).trans h.var, h.ref.nw hn, owns_keep h.own (below_of_nw hn), h.rcs.keep (fun q hq hlt => ⟨hq, hn.block q hlt id⟩), h.nw.trans hn⟩

theorem RsAt.step {X : Nat → Prop} {w wr W3 : World} {vs vp : Value} {D : Dk} {v v3 u : Value} {l : List (List UInt8)} {cs : List Value} {x : List UInt8} {o : Obj} (h : RsAt X w wr vs vp D v l cs) (hX : ∀ q, X q → q < w.heap.size)
    (hf : Slp (fun q => w.heap.size + 1 ≤ q ∧ v.ownBlock ≠ some q) wr u x.length (x.map bv)) (hx : x.length ≤ 140737488355328)
    (ho : W3.ownsRow (w.heap.size + 1) 37 1 v3 (l.length + 1) (cs ++ [u])) (hg : (wr.alloc o).grownBy W3 v.ownBlock) (hv : v3.ownBlock = v.ownBlock ∨ v3.ownBlock = some (wr.alloc o).heap.size) :
    RsAt X w W3 vs vp D v3 (l ++ [x]) (cs ++ [u]) := by
  have hal : (wr.alloc o).heap.size = wr.heap.size + 1 := by simp
  have hgb : ∀ q, q < wr.heap.size → v.ownBlock ≠ some q → W3.heap[q]? = wr.heap[q]? := fun q hq hne => by
    rw [hg.block q (by omega) (fun e => hne e.symm)]
    exact Below.heap_alloc _ _ _ hq
  have hlt := heap_lt h.var
  have hvj : ∀ q, q ≤ w.heap.size → v.ownBlock ≠ some q := fun q hq e => by have := (h.own.lt _ e).1; omega
  have hn3 : ∀ q, v.ownBlock ≠ some q → q < wr.heap.size → v3.ownBlock ≠ some q := fun q hq hlq e => by
    rcases hv with h1 | h1
    · exact hq (h1.symm.trans e)
    · rw [h1] at e; simp only [Option.some.injEq] at e; omega
  refine ⟨(hgb _ hlt (hvj _ (Nat.le_refl _))).trans h.var, h.ref.keep (fun q hq hql => ⟨hq, hgb q hql (hvj q (by have := hX q hq; omega))⟩), by rw [List.length_append]; exact ho, ?_, ?_⟩
  · refine RecX.push (h.rcs.keep (fun q hq hql => ⟨⟨hq.1, hn3 q hq.2 hql⟩, hgb q hql hq.2⟩)) ?_ hx
    exact hf.keepL (fun q hq hql => ⟨⟨hq.1, hn3 q hq.2 hql⟩, hgb q hql hq.2⟩)
  · exact Fr.grown (Fr.alloc h.nw o) hg (fun k hk => .inr (by have := (h.own.lt k hk).1; omega))

theorem sec_var (w : World) (L : List UInt8) : ((w.alloc (.cells (z128.map bv).toArray 55)).setRow w.heap.size (L.map bv).toArray).heap[w.heap.size]? = some (.cells (L.map bv).toArray 55 (0, 0)) := setRow_heap _ _ _ _ 55 _ (made w).new
end Go.Proofs.Ytihdhlciblkbiaa

namespace Go.Proofs.Ytihdhlciblkbiaa
set_option linter.unusedVariables false
set_option linter.unusedSimpArgs false
set_option maxRecDepth 20000
open Go.RowKit

set_option maxHeartbeats 6400000 in
theorem c_rscan {X0 : Nat → Prop} {vs vp : Value} {D : Dk} {f gen : Nat} (w : World) (h0 : RefG X0 w vs vp D) (hf : f ≤ 2000) (hg : gen < 281474976710656) (hr : f + 16 ≤ D.st.length) :
    Calls Try.prog 22 #[rval vs vp D, .int .i64 (f : Int), .int .u64 (gen : Int)] w fun e w' => ∃ v, e = .returned v ∧ Parts w'.heap.size w' v (D.scan f gen) ∧ Nw w w' := by
  have h : RefG (fun q => q < w.heap.size) w vs vp D := h0.keep (fun q _ hq => ⟨hq, rfl⟩)
  have hok := h0.ok
  clear h0
  obtain ⟨i5, hi5, hz50, hz51, hz52⟩ := info5
  obtain ⟨ib, hib, hzb0, hzb1, hzb2⟩ := info_bytes
  have hal : Try.prog.arrayLen 55 = 128 := by kernel_rfl
  have hv := varR w vs vp D
  have hat0 : RsAt (fun q => q < w.heap.size) w ((w.alloc (.cells (rcells vs vp D).toArray 30)).alloc (.cells #[] 37)) vs vp D (.slice (some ⟨w.heap.size + 1, 0, none⟩) 0 0) [] [] := by
    have hs1 : (w.alloc (.cells (rcells vs vp D).toArray 30)).heap.size = w.heap.size + 1 := by simp
    have hn : Nw (w.alloc (.cells (rcells vs vp D).toArray 30)) ((w.alloc (.cells (rcells vs vp D).toArray 30)).alloc (.cells #[] 37)) := Fr.alloc (Fr.refl _ _) _
    refine ⟨(hn.block _ (heap_lt hv.blk) id).trans hv.blk, (h.nw hv.fr).nw hn, ?_, RecX.nil _ _, hv.fr.trans hn⟩
    have := World.ownsRow_lit (w.alloc (.cells (rcells vs vp D).toArray 30)) (base := w.heap.size + 1) (e := 37) (size := 1) #[] 0 (by rw [hs1]; exact Nat.le_refl _) (by decide) rfl
    rw [hs1] at this
    exact this
  have hone := hv.size
  generalize hW : w.alloc (.cells (rcells vs vp D).toArray 30) = W at *
  have hW : Hid (w.alloc (.cells (rcells vs vp D).toArray 30) = W) := hW
  clear hv h
  go_enter Try.func22, Try.ntmps22
  go_wp2_with (refine wpList_box_agg rfl 30 _ rfl (rval vs vp D) _ rfl rfl ?_; rw [hW.out])
  go_loopw [7, 8] (fun v i wr => ∃ l cs, i = .int .i64 ((l.length : Nat) : Int) ∧ RsAt (fun q => q < w.heap.size) w wr vs vp D v l cs ∧ l.length ≤ 4 ∧ ∀ (i : Nat) (x : List UInt8), l[i]? = some x → D.recAt f gen i = some x) (fun v _ _ => 4 - slN v)
  case atStart => exact ⟨[], [], rfl, hat0, by simp, fun i x h => by simp at h⟩
  case round =>
    clear hat0 hW hone
    obtain ⟨l, cs, rfl, hat, hcl, hrec⟩ := hrel
    have hrec : Hid (∀ (i : Nat) (x : List UInt8), l[i]? = some x → D.recAt f gen i = some x) := hrec
    obtain ⟨ao, cap, rfl⟩ := owns_form hat.own
    by_cases hlt : l.length < 4
    case neg =>
      have HS : Hid (Parts wr.heap.size wr (.slice ao l.length cap) (D.scan f gen)) := by
        unfold Hid
        rw [scan_stop hcl hrec.out (.inl (by omega))]
        exact parts_of_own hat.own hat.rcs
      have hnw := hat.nw
      have hd : decide ((l.length : Int) < 4) = false := decide_eq_false (by omega)
      clear hat hrec
      generalize l.length = ll at *
      go_wp2
      go_ret
      exact ⟨_, rfl, HS.out, hnw⟩
    have hd : decide ((l.length : Int) < 4) = true := decide_eq_true (by omega)
    obtain ⟨ll, hll⟩ : ∃ ll, Hid (l.length = ll) := ⟨_, rfl⟩
    rw [hll.out] at hd hlt hcl hat ⊢
    have HSN : Hid (∀ W', Nw wr W' → D.recAt f gen ll = none → Parts W'.heap.size W' (.slice ao ll cap) (D.scan f gen) ∧ Nw w W') := fun W' hn hnone => by
      rw [scan_stop (by rw [hll.out]; omega) hrec.out (.inr (by rw [hll.out]; exact hnone))]
      exact ⟨((parts_of_own hat.own hat.rcs).keep (below_of_nw hn)).mono hn.size, hat.nw.trans hn⟩
    have HR : Hid (∀ x, D.recAt f gen ll = some x → ∀ (i : Nat) (y : List UInt8), (l ++ [x])[i]? = some y → D.recAt f gen i = some y) := by
      intro x hx i y hi
      by_cases hil : i < l.length
      · rw [List.getElem?_append_left hil] at hi
        exact hrec.out i y hi
      · rw [List.getElem?_append_right (by omega)] at hi
        have h0 : i - l.length = 0 := by
          have := (List.getElem?_eq_some_iff.1 hi).1
          simp at this
          omega
        rw [h0] at hi
        obtain rfl : x = y := by simpa using hi
        rw [show i = ll by rw [← hll.out]; omega]
        exact hx
    clear hrec
    have hw1 : IntKind.i64.wrap (4 * (ll : Int)) = 4 * (ll : Int) := by rw [IntKind.wrap_i64]; omega
    have hNN : headN f ll + 4 ≤ D.st.length := by unfold headN; omega
    have hN2 : headN f ll ≤ 2016 := by unfold headN; omega
    have hNE : Hid ((f : Int) + 4 * (ll : Int) = ((headN f ll : Nat) : Int)) := by unfold Hid headN; omega
    have hlen := hok.read ((headN f ll : Nat) : Int)
    have hRA : Hid (D.recAt f gen ll = if hdOk gen ll (D.read (headN f ll : Int)) ∧ (crcAdd 0#32 (D.recB f ll (rdN (D.read (headN f ll : Int))))).toNat = rdS (D.read (headN f ll : Int)) then some (D.recB f ll (rdN (D.read (headN f ll : Int)))) else none) := rfl
    have hrl := fun n => recB_length hok f ll n
    have hrt := fun n i => recB_take_succ hok f ll n i
    obtain ⟨hN0, hH⟩ : ∃ hN0, Hid (headN f ll = hN0) := ⟨_, rfl⟩
    rw [hH.out] at hNN hN2 hNE hlen hRA
    obtain ⟨L, hL⟩ : ∃ L, Hid (L = D.read (hN0 : Int)) := ⟨_, rfl⟩
    rw [← hL.out] at hlen hRA
    have hr0 := range_all hat.var
    go_wp2_with (first
      | (refine wpList_load_as rfl 30 (.tmp 3) rfl w.heap.size 0 rfl (rval vs vp D) _ rfl hr0 Try.row30 Try.size30 ?_)
      | (go_at_call 38; refine stop_here ?_))
    unfold Hid
    rw [hNE.out]
    refine (c_rread (hN0 : Int) _ hat.ref).mono ?_
    rw [← hL.out]
    rintro e W1 ⟨rfl, hn1⟩
    generalize D.rerr (hN0 : Int) = er at *
    have hmd := made W1
    have hnS : Nw W1 ((W1.alloc (.cells (z128.map bv).toArray 55)).setRow W1.heap.size (L.map bv).toArray) := hmd.fin L
    have hblk := sec_var W1 L
    have hrow := range_all hblk
    generalize hWS : (W1.alloc (.cells (z128.map bv).toArray 55)).setRow W1.heap.size (L.map bv).toArray = WS at *
    have hWS : Hid ((W1.alloc (.cells (z128.map bv).toArray 55)).setRow W1.heap.size (L.map bv).toArray = WS) := hWS
    have hnS := hn1.trans hnS
    clear hn1 hr0 hblk
    go_wp2_with (first
      | (refine wpList_alloc_agg rfl 55 rfl _ Try.zeroS ?_)
      | (refine wpList_store_all rfl 55 (.tmp 10) _ rfl W1.heap.size rfl (sec L) rfl _ rfl _ 55 hmd.new (sec_fit hlen) (bv_oneCell _) (sizeS hlen) ?_; rw [hWS.out])
      | (refine wpList_load_as rfl 55 (.tmp 10) rfl W1.heap.size 0 rfl (sec L) _ rfl hrow Try.rowS (sizeS hlen) ?_)
      | (go_at_call 39; refine stop_here ?_))
    unfold Hid
    refine (c_ropen L _ hlen).mono ?_
    rintro e W2 ⟨v2, rfl, hs2, hb2⟩
    have hn2 := hnS.trans (nw_of_below hb2)
    have hoM := oM_lt L
    have hoB := oB_length L
    obtain ⟨ao2, cap2, rfl⟩ := sl_form hs2
    clear hrow hb2 hnS hWS hmd
    go_wp2_with (go_at_call 40; refine stop_here ?_)
    unfold Hid
    refine (c_refunpack ⟨#[50, 52]⟩ _ _ (oB L) _ (by decide) hs2 (Nat.le_refl _)).mono ?_
    have hu24 := unpack24 (oB L)
    rintro e W4 ⟨hb4, hcase⟩
    rw [show (⟨#[50, 52]⟩ : ByteArray).data.toList = [50, 52] from rfl, hu24] at hcase
    have hn4 := hn2.trans (nw_of_below hb4)
    clear hb4 hs2 hn2 hu24
    have hw3 : IntKind.u64.wrap ((gen : Int) * 256) = (gen : Int) * 256 := by rw [IntKind.wrap_u64]; omega
    have hmE : Hid ((gen : Int) * 256 + ((ll : Int) + 1) = ((hdMark gen ll : Nat) : Int)) := by unfold Hid hdMark; omega
    have stop : ∀ (hq : ¬ (hdOk gen ll L)), Hid (D.recAt f gen ll = none) := fun hq => by unfold Hid; rw [hRA.out, if_neg (fun h => hq h.1)]
    obtain ⟨er2, fv, hev⟩ : ∃ (er2 : Int) (fv : Value), e = .returned (.tuple #[fv, .int .i64 er2]) ∧ ((oB L).length = 6 → er2 = 0) ∧ ((oB L).length ≠ 6 → er2 = 21 ∧ fv = .slice none 0 0) := by
      rcases hcase with ⟨fs, v, hu, rfl, hf⟩ | ⟨hu, rfl⟩
      · refine ⟨0, v, rfl, fun _ => rfl, fun h6 => ?_⟩
        rw [if_neg h6] at hu
        cases hu
      · refine ⟨21, _, rfl, fun h6 => ?_, fun _ => ⟨rfl, rfl⟩⟩
        rw [if_pos h6] at hu
        cases hu
    obtain ⟨rfl, her6, her⟩ := hev
    have hfF : (oB L).length = 6 → FieldsAt W4.heap.size W4 fv [⟨val ((oB L).take 2), []⟩, ⟨val ((oB L).drop 2), []⟩] := fun h6 => by
      rcases hcase with ⟨fs, v, hu, he, hf⟩ | ⟨hu, -⟩
      · rw [if_pos h6] at hu
        obtain rfl := Option.some.inj hu
        simp only [Ending.returned.injEq, Value.tuple.injEq, Array.mk.injEq, List.cons.injEq, and_true] at he
        obtain ⟨rfl, -⟩ := he
        exact hf
      · rw [if_pos h6] at hu; cases hu
    have hfv : ∃ fo fn fc, fv = .slice fo fn fc := by
      by_cases h6 : (oB L).length = 6
      · obtain ⟨aof, capf, e, -⟩ := hfF h6
        exact ⟨_, _, _, e⟩
      · exact ⟨_, _, _, (her h6).2⟩
    clear hcase
    by_cases ho : (openS L).isSome = true
    case neg =>
      have ho' : (openS L).isSome = false := by simpa using ho
      have HN := stop (fun h => ho h.1)
      obtain ⟨fo, fn, fc, rfl⟩ := hfv
      rw [ho']
      have HE := HSN.out W4 hn4 HN.out
      clear hRA hat ho ho' stop hfF her her6 hrt hrl
      generalize oM L = mv at *
      generalize (oB L).length = bl at *
      go_wp2
      go_ret
      exact ⟨_, rfl, HE⟩
    rw [ho]
    by_cases hm : oM L = hdMark gen ll
    case neg =>
      have HN := stop (fun h => hm h.2.1)
      obtain ⟨fo, fn, fc, rfl⟩ := hfv
      have HE := HSN.out W4 hn4 HN.out
      have hne : ((oM L : Int) != (gen : Int) * 256 + ((ll : Int) + 1)) = true := by rw [hmE.out]; simp; omega
      clear hRA hat ho stop hfF her her6 hm hrt hrl
      generalize oM L = mv at *
      generalize (oB L).length = bl at *
      go_wp2
      go_ret
      exact ⟨_, rfl, HE⟩
    have hne : ((oM L : Int) != (gen : Int) * 256 + ((ll : Int) + 1)) = false := by rw [hmE.out, hm]; simp
    by_cases h6 : (oB L).length = 6
    case neg =>
      have HN := stop (fun h => h6 h.2.2.1)
      obtain ⟨rfl, rfl⟩ := her h6
      have HE := HSN.out W4 hn4 HN.out
      clear hRA hat ho stop hfF her6 hm hfv h6 her hrt hrl
      generalize oM L = mv at *
      generalize (oB L).length = bl at *
      go_wp2
      go_ret
      exact ⟨_, rfl, HE⟩
    obtain rfl := her6 h6
    have hfF := hfF h6
    clear hfv her her6
    obtain ⟨aof, capf, rfl, hcf, -, hcs⟩ := hfF
    obtain ⟨fb, foff, bv0, rfl, hbK, hc0, -, -, hl0, -⟩ := hcs 0 _ rfl
    obtain ⟨b1, off1, bv1, he, -, hc1, -, -, hl1, -⟩ := hcs 1 _ rfl
    simp only [Option.some.injEq, Addr.mk.injEq, and_true] at he
    obtain ⟨rfl, rfl⟩ := he
    have hc0 : W4.cell? ⟨fb, foff, none⟩ = some (.int .u64 (rdN L : Int)) := hc0
    have hc1 : W4.cell? ⟨fb, foff + 2, none⟩ = some (.int .u64 (rdS L : Int)) := hc1
    have hl1 : rdS L < 18446744073709551616 := hl1
    have hNl := rdN_lt L
    clear hcs hbK hl0
    simp only [List.length_cons, List.length_nil, Nat.zero_add, Nat.reduceAdd] at hcf ⊢
    by_cases hN : rdN L ≤ 384
    case neg =>
      have HN := stop (fun h => hN h.2.2.2)
      have HE := HSN.out W4 hn4 HN.out
      have hd3 : decide (384 < (rdN L : Int)) = true := decide_eq_true (by omega)
      clear hRA hat ho stop hm h6 hc1 hN hrt hrl
      generalize oM L = mv at *
      generalize (oB L).length = bl at *
      generalize rdN L = rn at *
      go_wp2
      go_ret
      exact ⟨_, rfl, HE⟩
    have hd3 : decide (384 < (rdN L : Int)) = false := decide_eq_false (by omega)
    have hRA2 : Hid (D.recAt f gen ll = if (crcAdd 0#32 (D.recB f ll (rdN L))).toNat = rdS L then some (D.recB f ll (rdN L)) else none) := by
      unfold Hid
      rw [hRA.out]
      by_cases hq : (crcAdd 0#32 (D.recB f ll (rdN L))).toNat = rdS L
      · rw [if_pos hq, if_pos ⟨⟨ho, hm, h6, hN⟩, hq⟩]
      · rw [if_neg hq, if_neg (fun h => hq h.2)]
    have hiw : IntKind.i64.wrap (rdN L : Int) = (rdN L : Int) := by rw [IntKind.wrap_i64]; omega
    have hx := hrl (rdN L)
    have hrt := hrt (rdN L)
    rw [hH.out] at hrt
    clear hRA ho stop hm h6 hrl
    generalize oM L = mv at *
    generalize (oB L).length = bl at *
    generalize rdN L = rn at *
    generalize rdS L = rs at *
    have hat4 := hat.keep hn4
    obtain ⟨x, hxE⟩ : ∃ x, Hid (x = D.recB f ll rn) := ⟨_, rfl⟩
    rw [← hxE.out] at hx hRA2
    have hrt : Hid (∀ i, i < rn → ∃ y, (D.read ((hN0 + 1 + i / 128 : Nat) : Int))[i % 128]? = some y ∧ x.take (i + 1) = x.take i ++ [y]) := by rw [hxE.out]; exact hrt
    clear hxE hat
    have hown0 : (W4.alloc (.cells #[] 5)).ownsRow W4.heap.size 5 1 (.slice (some ⟨W4.heap.size, 0, none⟩) 0 0) 0 [] := World.ownsRow_lit W4 #[] 0 (Nat.le_refl _) (by decide) rfl
    have hnA : Nw W4 (W4.alloc (.cells #[] 5)) := Fr.alloc (Fr.refl _ _) _
    go_wp2
    go_loopw [17, 18] (fun v i wr2 => ∃ k : Nat, k ≤ rn ∧ i = .int .i64 k ∧ wr2.ownsRow W4.heap.size 5 1 v k ((x.take k).map bv) ∧ Nw W4 wr2) (fun _ i _ => rn - (intOf i).toNat)
    case atStart => exact ⟨0, Nat.zero_le _, rfl, by simpa using hown0, hnA⟩
    case round =>
      clear hown0 hnA
      obtain ⟨k, hk, rfl, hown, hnw⟩ := hrel
      have hc0 := cell_nw hc0 hnw
      obtain ⟨bo, bc, rfl⟩ := owns_form hown
      by_cases hlt2 : k < rn
      case pos =>
        obtain ⟨y, hy, hty⟩ := hrt.out k hlt2
        have hPl := hok.read ((hN0 + 1 + k / 128 : Nat) : Int)
        obtain ⟨P, hP⟩ : ∃ P, Hid (P = D.read ((hN0 + 1 + k / 128 : Nat) : Int)) := ⟨_, rfl⟩
        rw [← hP.out] at hy hPl
        have hty : Hid (x.take (k + 1) = x.take k ++ [y]) := hty
        have hI : Hid ((hN0 : Int) + 1 + (k : Int) / 128 = ((hN0 + 1 + k / 128 : Nat) : Int)) := by unfold Hid; omega
        have hat5 := hat4.keep hnw
        have hr5 := range_all hat5.var
        have hd4 : decide ((k : Int) < (rn : Int)) = true := decide_eq_true (by omega)
        go_wp2_with (first
          | (refine wpList_load_as rfl 30 (.tmp 3) rfl w.heap.size 0 rfl (rval vs vp D) _ rfl hr5 Try.row30 Try.size30 ?_)
          | (go_at_call 38; refine stop_here ?_))
        unfold Hid
        rw [hI.out]
        refine (c_rread ((hN0 + 1 + k / 128 : Nat) : Int) _ hat5.ref).mono ?_
        rw [← hP.out]
        rintro e W6 ⟨rfl, hn6⟩
        generalize D.rerr ((hN0 + 1 + k / 128 : Nat) : Int) = er6 at *
        have hmd := made W6
        have hn7 : Nw wr ((W6.alloc (.cells (z128.map bv).toArray 55)).setRow W6.heap.size (P.map bv).toArray) := hn6.trans (hmd.fin P)
        have hcy : ((W6.alloc (.cells (z128.map bv).toArray 55)).setRow W6.heap.size (P.map bv).toArray).cell? ⟨W6.heap.size, k % 128, none⟩ = some (.int .u8 (y.toNat : Int)) := sec_cell (sec_var W6 P) hy
        have hown7 := owns_keep hown (below_of_nw hn7)
        have hnw7 := hnw.trans hn7
        generalize hW7 : (W6.alloc (.cells (z128.map bv).toArray 55)).setRow W6.heap.size (P.map bv).toArray = W7 at *
        have hW7 : Hid ((W6.alloc (.cells (z128.map bv).toArray 55)).setRow W6.heap.size (P.map bv).toArray = W7) := hW7
        clear hn6 hn7 hown hnw hat5 hr5
        have hown8 := hown7.alloc (.cells #[.int .u8 (y.toNat : Int)] 5)
        have hlit := sl_lit W7 #[.int .u8 (y.toNat : Int)] 5 1 (by omega)
        have hsz8 : W4.heap.size ≤ (W7.alloc (.cells #[.int .u8 (y.toNat : Int)] 5)).heap.size := by have := hnw7.size; simp; omega
        go_wp2_with (first
          | (refine wpList_alloc_agg rfl 55 rfl _ Try.zeroS ?_)
          | (refine wpList_store_all rfl 55 (.tmp 19) _ rfl W6.heap.size rfl (sec P) rfl _ rfl _ 55 hmd.new (sec_fit hPl) (bv_oneCell _) (sizeS hPl) ?_; rw [hW7.out])
          | (at_builtin; refine wpList_append_sl _ rfl _ _ 37 rfl W4.heap.size 5 i5 (.int .u8 0) 1 1 Try.underlying37 hi5 hz50 hz51 hz52 rfl (by decide) _ k _ rfl hown8 _ _ 1 _ rfl hlit (by simp) (by simp [Value.oneCell']) (by unfold maxLen; omega) (by omega) hsz8 ?_; intro v9 W9 ho9 hg9 hv9; refine stop_here ?_))
        unfold Hid
        have ho9' : W9.ownsRow W4.heap.size 5 1 v9 (k + 1) ((x.take (k + 1)).map bv) := by rw [hty.out, List.map_append]; exact ho9
        have hn9 : Nw W4 W9 := Fr.grown (Fr.alloc hnw7 _) hg9 (fun q hq => .inr (hown8.lt q hq).1)
        obtain ⟨bo9, bc9, rfl⟩ := owns_form ho9'
        clear ho9 hg9 hv9 hown8 hown7 hlit hsz8 hnw7 hcy hW7 hmd
        go_wp2
        go_roundw
        case rel => exact ⟨k + 1, by omega, by go_num, ho9', hn9⟩
        case measure => simp [intOf]; omega
      obtain rfl : k = rn := by omega
      have hown : wr.ownsRow W4.heap.size 5 1 (.slice bo k bc) x.length (x.map bv) := by
        rw [show x.take k = x from List.take_of_length_le (by omega)] at hown
        rw [hx]
        exact hown
      have hsb := sl_of_owns hown
      have hc1 := cell_nw hc1 hnw
      have hat5 := (hat4.keep hnw).keep ((Fr.refl (fun _ => False) wr).drew)
      have hW45 : W4.heap.size ≤ wr.heap.size := hnw.size
      have hbo : Slp (fun q => w.heap.size + 1 ≤ q ∧ (Value.slice ao ll cap).ownBlock ≠ some q) wr.drew (.slice bo k bc) x.length (x.map bv) :=
        (slp_of_owns hown).keep (fun q hq => ⟨⟨by have := (hown.lt q hq).1; have := heap_lt hat4.var; omega, fun e => by have := (hown.lt q hq).1; have := (hat4.own.lt q e).2; omega⟩, rfl⟩)
      have hnE : Nw w wr.drew := hat5.nw
      have hnone : D.recAt f gen ll = none → Parts wr.drew.heap.size wr.drew (.slice ao ll cap) (D.scan f gen) ∧ Nw w wr.drew := fun hq => HSN.out _ ((hn4.trans hnw).trans ((Fr.refl (fun _ => False) wr).drew)) hq
      have hnone : Hid (D.recAt f gen ll = none → Parts wr.drew.heap.size wr.drew (.slice ao ll cap) (D.scan f gen) ∧ Nw w wr.drew) := hnone
      clear HSN hrt hat4 hnw hown hn4
      have hd4 : decide ((k : Int) < (k : Int)) = false := decide_eq_false (by omega)
      go_wp2
      have hS0 : (fun w' : World => w'.cell? ⟨fb, foff + 2, none⟩ = some (.int .u64 (rs : Int))) wr.drew := hc1
      have hsb : Sl wr.drew.heap.size wr.drew (.slice bo k bc) x.length (x.map bv) := hsb
      refine wp_region_ord [] 7 [(0, true), (3, true), (4, true), (5, true), (6, true), (1, false), (2, true)] (fun w' : World => w'.cell? ⟨fb, foff + 2, none⟩ = some (.int .u64 (rs : Int))) (by kernel_rfl) (by kernel_rfl) ?_
      refine ord_quietL _ ?_ rfl hS0 rfl ?_ ?_
      rotate_left
      · rintro w' hS1; go_simp; rfl
      simp only [Act.put, List.setIfInBounds_toArray, List.set_cons_zero, List.set_cons_succ]
      refine ord_quietL _ ?_ rfl hS0 rfl ?_ ?_
      rotate_left
      · rintro w' hS1; go_simp; rfl
      simp only [Act.put, List.setIfInBounds_toArray, List.set_cons_zero, List.set_cons_succ]
      refine ord_quietL _ ?_ rfl hS0 rfl ?_ ?_
      rotate_left
      · rintro w' hS1; go_simp; rfl
      simp only [Act.put, List.setIfInBounds_toArray, List.set_cons_zero, List.set_cons_succ]
      refine ord_quietL _ ?_ rfl hS0 rfl ?_ ?_
      rotate_left
      · rintro w' hS1; go_simp; rfl
      simp only [Act.put, List.setIfInBounds_toArray, List.set_cons_zero, List.set_cons_succ]
      refine ord_quietL _ ?_ rfl hS0 rfl ?_ ?_
      rotate_left
      · rintro w' hS1; go_simp; rfl
      simp only [Act.put, List.setIfInBounds_toArray, List.set_cons_zero, List.set_cons_succ]
      generalize wr.drew = Wd at *
      refine ord_actL _ rfl (fun K1 hK1 => ?_)
      go_wp2_with fail
      refine (c_refsum 0#32 _ _ x _ hsb (by omega)).mono ?_
      rintro e w6 ⟨rfl, rfl⟩
      have hcs : Hid (∃ c : BitVec 32, crcAdd 0#32 x = c ∧ c.toNat = (crcAdd 0#32 x).toNat) := ⟨_, rfl, rfl⟩
      obtain ⟨c, hcs1, hcs2⟩ := hcs.out
      rw [hcs1]
      have hcs2 : Hid (c.toNat = (crcAdd 0#32 x).toNat) := hcs2
      have hcw : IntKind.u64.wrap (tn c) = tn c := by rw [IntKind.wrap_u64]; have := tn_lo c; have := tn_hi c; omega
      have hcm : tn c % 18446744073709551616 = tn c := by have := tn_lo c; have := tn_hi c; omega
      have hT : Hid (tn c = ((c.toNat : Nat) : Int)) := rfl
      clear hcs hcs1 hsb
      by_cases hq : c.toNat = rs
      case neg =>
        have HN : D.recAt f gen ll = none := by rw [hRA2.out, if_neg (by rw [← hcs2.out]; exact hq)]
        have HE := hnone.out HN
        have hne2 : (tn c != (rs : Int)) = true := by rw [hT.out]; simp; omega
        clear hRA2 hcs2 hq HN
        go_wp2
        refine hK1 _ _ hS0 ?_
        clear hK1 K1
        refine ord_quietL _ ?_ rfl hS0 rfl ?_ ?_
        rotate_left
        · rintro w' hS1; go_simp; rfl
        simp only [Act.put, List.setIfInBounds_toArray, List.set_cons_zero, List.set_cons_succ]
        refine ord_tail ?_
        simp only [List.drop_succ_cons, List.drop_zero]
        clear hS0 hT hat5 hnone
        go_wp2
        go_ret
        exact ⟨_, rfl, HE⟩
      have HN : D.recAt f gen ll = some x := by rw [hRA2.out, if_pos (by rw [← hcs2.out]; exact hq)]
      have HR2 : Hid (∀ (i : Nat) (y : List UInt8), (l ++ [x])[i]? = some y → D.recAt f gen i = some y) := HR.out x HN
      have hne2 : (tn c != (rs : Int)) = false := by rw [hT.out, hq]; simp
      clear hRA2 hcs2 hq HN hnone HR
      go_wp2
      refine hK1 _ _ hS0 ?_
      clear hK1 K1
      refine ord_quietL _ ?_ rfl hS0 rfl ?_ ?_
      rotate_left
      · rintro w' hS1; go_simp; rfl
      simp only [Act.put, List.setIfInBounds_toArray, List.set_cons_zero, List.set_cons_succ]
      refine ord_tail ?_
      simp only [List.drop_succ_cons, List.drop_zero]
      have hown4 := hat5.own.alloc (.cells #[.slice bo k bc] 37)
      rw [hll.out] at hown4
      have hlit := sl_lit Wd #[.slice bo k bc] 37 1 (by omega)
      have hsz : w.heap.size + 1 ≤ (Wd.alloc (.cells #[.slice bo k bc] 37)).heap.size := by have := heap_lt hat5.var; simp; omega
      clear hS0 hT hc1
      go_wp2_with (at_builtin; refine wpList_append_sl _ rfl _ _ 51 rfl (w.heap.size + 1) 37 ib (.slice none 0 0) 1 24 Try.underlying51 hib hzb0 hzb1 hzb2 rfl (by decide) _ ll _ rfl hown4 _ _ 1 _ rfl hlit (by simp) (by simp [Value.oneCell']) (by unfold maxLen; omega) (by omega) hsz ?_; intro v5 A5 ho5 hg5 hv5; refine stop_here ?_)
      unfold Hid
      have hat6 := hat5.step (fun _ h => h) hbo (by omega) (by rw [hll.out]; exact ho5) hg5 hv5
      obtain ⟨vo5, vc5, rfl⟩ := owns_form ho5
      have hl5 : Hid ((l ++ [x]).length = ll + 1) := by unfold Hid; rw [List.length_append, hll.out]; rfl
      clear ho5 hg5 hv5 hown4 hlit hsz hat5 hbo
      go_wp2
      go_roundw
      case rel => exact ⟨_, _, by rw [hl5.out]; go_num, hat6, by rw [hl5.out]; omega, HR2.out⟩
      case measure => simp [slN]; omega
end Go.Proofs.Ytihdhlciblkbiaa

namespace Go.Proofs.Ytihdhlciblkbiaa
set_option linter.unusedVariables false
set_option linter.unusedSimpArgs false
set_option maxRecDepth 20000
open Go.RowKit

def jcells (f gen cnt : Nat) : List Value := [.int .i64 (f : Int), .int .u64 (gen : Int), .int .i64 (cnt : Int)]
def jval (f gen cnt : Nat) : Value := .agg (jcells f gen cnt).toArray

theorem Try.rowJ : (Try.prog.underlying 36).map TypeDesc.isRow = some true := by kernel_rfl

theorem Try.sizeJ : (Try.prog.info? 36).map (·.size) = some 3 := by kernel_rfl

theorem Try.zeroJ : (Try.prog.info? 36).bind (·.zero) = some (.agg (jcells 0 0 0).toArray) := by kernel_rfl

theorem j_one (f gen cnt : Nat) : ∀ u ∈ jcells f gen cnt, u.oneCell' = true := by
  intro u hu
  simp only [jcells, List.mem_cons, List.not_mem_nil, or_false] at hu
  rcases hu with rfl | rfl | rfl <;> rfl

theorem ref_one {X : Nat → Prop} {w : World} {vs vp : Value} {D : Dk} (h : RefG X w vs vp D) : ∀ u ∈ rcells vs vp D, u.oneCell' = true := by
  obtain ⟨so, sc, po, pc, rfl, rfl, -⟩ := h.form
  exact r_oneCell

theorem results_cell3 {P : Program} {w : World} {fn : Func} {p q u : Tmp} {ty ty2 : TypeId} (h : fn.results = #[.cell p ty, .cell q ty2, .tmp u]) (tmps : Array Value) (g g2 : Nat) (cs cs2 : List Value) (v v2 : Value) (hv : v = .agg cs.toArray) (hv2 : v2 = .agg cs2.toArray)
    (hp : tmps.getD p undef = .pointer (some ⟨g, 0, none⟩)) (hp2 : tmps.getD q undef = .pointer (some ⟨g2, 0, none⟩)) (hc : w.rangeAt g 0 cs) (hc2 : w.rangeAt g2 0 cs2) (hu : (P.underlying ty).map TypeDesc.isRow = some true) (hi : (P.info? ty).map (·.size) = some cs.length)
    (hu2 : (P.underlying ty2).map TypeDesc.isRow = some true) (hi2 : (P.info? ty2).map (·.size) = some cs2.length) :
    (results fn tmps).run P w = .ok (.tuple #[v, v2, tmps.getD u undef]) w := by
  subst hv
  subst hv2
  have hp' : tmps[p]?.getD undef = .pointer (some ⟨g, 0, none⟩) := by simpa using hp
  have hp2' : tmps[q]?.getD undef = .pointer (some ⟨g2, 0, none⟩) := by simpa using hp2
  cases hd : P.underlying ty with
  | none => simp [hd] at hu
  | some d =>
    cases hd2 : P.underlying ty2 with
    | none => simp [hd2] at hu2
    | some d2 => simp [results, h, hp', hp2', asAddr, run_loadVar_mid w g 0 ty cs d hc hd (by simpa [hd] using hu) hi, run_loadVar_mid w g2 0 ty2 cs2 d2 hc2 hd2 (by simpa [hd2] using hu2) hi2]

/-- The variables of the document's Add. -/
structure RaAt (X : Nat → Prop) (w wr : World) (vs vp : Value) (D : Dk) (f gen cnt : Nat) : Prop where
  v3 : wr.heap[w.heap.size]? = some (.cells (rcells vs vp D).toArray 30 (0, 0))
  v4 : wr.heap[w.heap.size + 1]? = some (.cells (jcells f gen cnt).toArray 36 (0, 0))
  v6 : wr.heap[w.heap.size + 2]? = some (.cells #[.slice none 0 0, .slice none 0 0, .int .i64 0, .bool false] 30 (0, 0))
  v7 : wr.heap[w.heap.size + 3]? = some (.cells (jcells 0 0 0).toArray 36 (0, 0))
  ref : RefG (fun b => (X b ∧ b < w.heap.size) ∨ w.heap.size + 4 ≤ b) wr vs vp D
  nw : Nw w wr

section
variable {X : Nat → Prop} {w wr w1 : World} {vs vp vs' vp' : Value} {D D' : Dk} {f gen cnt : Nat}

theorem RaAt.keep (h : RaAt X w wr vs vp D f gen cnt) (hn : Nw wr w1) : RaAt X w w1 vs vp D f gen cnt :=
  ⟨(hn.block _ (heap_lt h.v3) id).trans h.v3, (hn.block _ (heap_lt h.v4) id).trans h.v4, (hn.block _ (heap_lt h.v6) id).trans h.v6, (hn.block _ (heap_lt h.v7) id).trans h.v7, h.ref.nw hn, h.nw.trans hn⟩

theorem RaAt.drew (h : RaAt X w wr vs vp D f gen cnt) : RaAt X w wr.drew vs vp D f gen cnt := h.keep ((Fr.refl _ wr).drew)

/-- Another disk in its variable. -/
theorem RaAt.put (h : RaAt X w wr vs vp D f gen cnt) (hn : Nw wr w1) (hG : RefG (fun b => ((X b ∧ b < w.heap.size) ∨ w.heap.size + 4 ≤ b) ∨ wr.heap.size ≤ b) w1 vs' vp' D') : RaAt X w (w1.setRow w.heap.size (rcells vs' vp' D').toArray) vs' vp' D' f gen cnt := by
  have h1 := h.keep hn
  have hlt := heap_lt h.v7
  have hs : ∀ q, q ≠ w.heap.size → (w1.setRow w.heap.size (rcells vs' vp' D').toArray).heap[q]? = w1.heap[q]? := fun q hq => setRow_other w1 w.heap.size q _ hq
  refine ⟨setRow_heap _ _ _ _ 30 _ h1.v3, (hs _ (by omega)).trans h1.v4, (hs _ (by omega)).trans h1.v6, (hs _ (by omega)).trans h1.v7, hG.keep (fun b hb hlb => ⟨?_, hs b ?_⟩), Fr.setRow h1.nw (.inr (Nat.le_refl _)) _⟩
  · rcases hb with hb | hb
    · exact hb
    · exact .inr (by omega)
  · rcases hb with (⟨-, hb⟩ | hb) | hb <;> omega

/-- What a return leaves. -/
theorem RaAt.fin (h : RaAt X w wr vs vp D f gen cnt) :
    wr.heap[w.heap.size + 2]? = some (.cells #[.slice none 0 0, .slice none 0 0, .int .i64 0, .bool false] 30 (0, 0)) ∧
    ((wr.setRow (w.heap.size + 2) (rcells vs vp D).toArray).rangeAt w.heap.size 0 (rcells vs vp D) ∧ (wr.setRow (w.heap.size + 2) (rcells vs vp D).toArray).rangeAt (w.heap.size + 1) 0 (jcells f gen cnt)) ∧
    (wr.setRow (w.heap.size + 2) (rcells vs vp D).toArray).heap[w.heap.size + 3]? = some (.cells (jcells 0 0 0).toArray 36 (0, 0)) ∧
    ((wr.setRow (w.heap.size + 2) (rcells vs vp D).toArray).setRow (w.heap.size + 3) (jcells f gen cnt).toArray).heap[w.heap.size + 2]? = some (.cells (rcells vs vp D).toArray 30 (0, 0)) ∧
    ((wr.setRow (w.heap.size + 2) (rcells vs vp D).toArray).setRow (w.heap.size + 3) (jcells f gen cnt).toArray).heap[w.heap.size + 3]? = some (.cells (jcells f gen cnt).toArray 36 (0, 0)) ∧
    Nw w ((wr.setRow (w.heap.size + 2) (rcells vs vp D).toArray).setRow (w.heap.size + 3) (jcells f gen cnt).toArray) ∧
    RefG (fun b => X b ∨ w.heap.size ≤ b) ((wr.setRow (w.heap.size + 2) (rcells vs vp D).toArray).setRow (w.heap.size + 3) (jcells f gen cnt).toArray) vs vp D ∧
    (((wr.setRow (w.heap.size + 2) (rcells vs vp D).toArray).setRow (w.heap.size + 3) (jcells f gen cnt).toArray).rangeAt w.heap.size 0 (rcells vs vp D) ∧ ((wr.setRow (w.heap.size + 2) (rcells vs vp D).toArray).setRow (w.heap.size + 3) (jcells f gen cnt).toArray).rangeAt (w.heap.size + 1) 0 (jcells f gen cnt)) := by
  have hs : ∀ q, q ≠ w.heap.size + 2 → (wr.setRow (w.heap.size + 2) (rcells vs vp D).toArray).heap[q]? = wr.heap[q]? := fun q hq => setRow_other wr _ q _ hq
  have h6 : (wr.setRow (w.heap.size + 2) (rcells vs vp D).toArray).heap[w.heap.size + 2]? = some (.cells (rcells vs vp D).toArray 30 (0, 0)) := setRow_heap _ _ _ _ 30 _ h.v6
  have h7 : (wr.setRow (w.heap.size + 2) (rcells vs vp D).toArray).heap[w.heap.size + 3]? = some (.cells (jcells 0 0 0).toArray 36 (0, 0)) := (hs _ (by omega)).trans h.v7
  have hs2 : ∀ q, q ≠ w.heap.size + 3 → ((wr.setRow (w.heap.size + 2) (rcells vs vp D).toArray).setRow (w.heap.size + 3) (jcells f gen cnt).toArray).heap[q]? = (wr.setRow (w.heap.size + 2) (rcells vs vp D).toArray).heap[q]? := fun q hq => setRow_other _ _ q _ hq
  refine ⟨h.v6, ⟨range_all ((hs _ (by omega)).trans h.v3), range_all ((hs _ (by omega)).trans h.v4)⟩, h7, (hs2 _ (by omega)).trans h6, setRow_heap _ _ _ _ 36 _ h7, Fr.setRow (Fr.setRow h.nw (.inr (by omega)) _) (.inr (by omega)) _, h.ref.keep (fun b hb hlb => ⟨hb.imp And.left (fun h => by omega), ?_⟩), range_all ((hs2 _ (by omega)).trans ((hs _ (by omega)).trans h.v3)), range_all ((hs2 _ (by omega)).trans ((hs _ (by omega)).trans h.v4))⟩
  have hb : b < w.heap.size ∨ w.heap.size + 4 ≤ b := hb.imp And.right id
  rw [hs2 b (by omega), hs b (by omega)]

theorem RaAt.next (h : RaAt X w wr vs vp D f gen cnt) : RaAt X w (wr.setCell ⟨w.heap.size + 1, 2, none⟩ (.int .i64 ((cnt : Int) + 1))) vs vp D f gen (cnt + 1) := by
  have hs : ∀ q, q ≠ w.heap.size + 1 → (wr.setCell ⟨w.heap.size + 1, 2, none⟩ (.int .i64 ((cnt : Int) + 1))).heap[q]? = wr.heap[q]? := fun q hq => Below.heap_setCell _ _ _ _ hq
  refine ⟨(hs _ (by omega)).trans h.v3, by rw [blk_setCell h.v4]; simp [jcells], (hs _ (by omega)).trans h.v6, (hs _ (by omega)).trans h.v7, h.ref.keep (fun b hb hlb => ⟨hb, hs b (by have hb : b < w.heap.size ∨ w.heap.size + 4 ≤ b := hb.imp And.right id; omega)⟩), Fr.setCell h.nw (.inr (by simp)) _⟩
end

/-- A sector, i of its record's bytes filled in. -/
def secTo (xs : List UInt8) (k i : Nat) : List UInt8 := (segN xs k).take i ++ List.replicate (128 - i) 0
theorem secTo_zero (xs : List UInt8) (k : Nat) : secTo xs k 0 = z128 := rfl
theorem secTo_length (xs : List UInt8) (k i : Nat) (h : i ≤ (segN xs k).length) : (secTo xs k i).length = 128 := by
  have := segN_le xs k
  unfold secTo
  rw [List.length_append, List.length_take, List.length_replicate]
  omega
theorem secTo_all (xs : List UInt8) (k : Nat) : secTo xs k (segN xs k).length = secAt xs k := by unfold secTo secAt; rw [List.take_of_length_le (Nat.le_refl _)]
theorem secTo_succ (xs : List UInt8) (k i : Nat) (h : i < (segN xs k).length) (y : UInt8) (hy : (segN xs k)[i]? = some y) : (secTo xs k i).set i y = secTo xs k (i + 1) := by
  have h8 := segN_le xs k
  unfold secTo
  rw [List.set_append_right _ _ (by rw [List.length_take]; omega), List.length_take, Nat.min_eq_left (by omega), Nat.sub_self]
  rw [show 128 - i = (128 - (i + 1)) + 1 by omega, List.replicate_succ, List.set_cons_zero, List.take_add_one, hy]
  simp

theorem seg_get (xs : List UInt8) (k i : Nat) (h : i < 128) (h2 : k * 128 + i < xs.length) : (segN xs k)[i]? = some (xs[k * 128 + i]'h2) ∧ i < (segN xs k).length := by
  unfold segN
  rw [List.getElem?_take, if_pos h, List.getElem?_drop, List.getElem?_eq_getElem h2, List.length_take, List.length_drop]
  exact ⟨rfl, by omega⟩

set_option maxHeartbeats 6400000 in
theorem c_radd {X0 : Nat → Prop} {vs vp : Value} {D : Dk} {f gen cnt K : Nat} {xs : List UInt8} {v : Value} (w : World) (h0 : RefG X0 w vs vp D) (hf : f ≤ 2000) (hg : gen < 281474976710656) (hc4 : cnt ≤ 4) (hs : Sl K w v xs.length (xs.map bv)) (hK : K ≤ w.heap.size) (hx : xs.length ≤ 140737488355328) (hpl : D.pd.length ≤ 800000) :
    Calls Try.prog 14 #[rval vs vp D, jval f gen cnt, v] w fun e w' => ∃ vs' vp', e = .returned (.tuple #[rval vs' vp' (D.add f gen cnt xs).1, jval f gen (addN cnt (D.add f gen cnt xs).2), .int .i64 (D.add f gen cnt xs).2]) ∧ RefG (fun b => X0 b ∨ w.heap.size ≤ b) w' vs' vp' (D.add f gen cnt xs).1 ∧ Nw w w' := by
  obtain ⟨ao, cap, rfl⟩ := sl_form hs
  have hal : Try.prog.arrayLen 55 = 128 := by kernel_rfl
  have hz1 : (w.alloc (.cells (rcells vs vp D).toArray 30)).heap.size = w.heap.size + 1 := by simp
  have hz2 : ((w.alloc (.cells (rcells vs vp D).toArray 30)).alloc (.cells (jcells f gen cnt).toArray 36)).heap.size = w.heap.size + 2 := by simp
  have hz3 : (((w.alloc (.cells (rcells vs vp D).toArray 30)).alloc (.cells (jcells f gen cnt).toArray 36)).alloc (.cells #[.slice none 0 0, .slice none 0 0, .int .i64 0, .bool false] 30)).heap.size = w.heap.size + 3 := by simp
  have hA : RaAt X0 w ((((w.alloc (.cells (rcells vs vp D).toArray 30)).alloc (.cells (jcells f gen cnt).toArray 36)).alloc (.cells #[.slice none 0 0, .slice none 0 0, .int .i64 0, .bool false] 30)).alloc (.cells (jcells 0 0 0).toArray 36)) vs vp D f gen cnt := by
    generalize hA1 : w.alloc (.cells (rcells vs vp D).toArray 30) = A1 at *
    have b1 : A1.heap[w.heap.size]? = some (.cells (rcells vs vp D).toArray 30 (0, 0)) := by rw [← hA1]; exact heap_alloc_new w _
    have n1 : Nw w A1 := by rw [← hA1]; exact Fr.alloc (Fr.refl _ w) _
    have b2 : (A1.alloc (.cells (jcells f gen cnt).toArray 36)).heap[A1.heap.size]? = some (.cells (jcells f gen cnt).toArray 36 (0, 0)) := heap_alloc_new A1 _
    have n2 : Nw A1 (A1.alloc (.cells (jcells f gen cnt).toArray 36)) := Fr.alloc (Fr.refl _ A1) _
    generalize A1.alloc (.cells (jcells f gen cnt).toArray 36) = A2 at *
    have b3 : (A2.alloc (.cells #[.slice none 0 0, .slice none 0 0, .int .i64 0, .bool false] 30)).heap[A2.heap.size]? = some (.cells #[.slice none 0 0, .slice none 0 0, .int .i64 0, .bool false] 30 (0, 0)) := heap_alloc_new A2 _
    have n3 : Nw A2 (A2.alloc (.cells #[.slice none 0 0, .slice none 0 0, .int .i64 0, .bool false] 30)) := Fr.alloc (Fr.refl _ A2) _
    generalize A2.alloc (.cells #[.slice none 0 0, .slice none 0 0, .int .i64 0, .bool false] 30) = A3 at *
    have b4 : (A3.alloc (.cells (jcells 0 0 0).toArray 36)).heap[A3.heap.size]? = some (.cells (jcells 0 0 0).toArray 36 (0, 0)) := heap_alloc_new A3 _
    have n4 : Nw A3 (A3.alloc (.cells (jcells 0 0 0).toArray 36)) := Fr.alloc (Fr.refl _ A3) _
    generalize A3.alloc (.cells (jcells 0 0 0).toArray 36) = A4 at *
    rw [hz1] at b2
    rw [hz2] at b3
    rw [hz3] at b4
    have n34 := n3.trans n4
    have n24 := n2.trans n34
    exact ⟨(n24.block _ (heap_lt b1) id).trans b1, (n34.block _ (heap_lt b2) id).trans b2, (n4.block _ (heap_lt b3) id).trans b3, b4, (h0.keep (X' := fun b => (X0 b ∧ b < w.heap.size) ∨ w.heap.size + 4 ≤ b) (fun b hX hb => ⟨.inl ⟨hX, hb⟩, rfl⟩)).nw (n1.trans n24), n1.trans n24⟩
  generalize hW : (((w.alloc (.cells (rcells vs vp D).toArray 30)).alloc (.cells (jcells f gen cnt).toArray 36)).alloc (.cells #[.slice none 0 0, .slice none 0 0, .int .i64 0, .bool false] 30)).alloc (.cells (jcells 0 0 0).toArray 36) = W at *
  have hW : Hid ((((w.alloc (.cells (rcells vs vp D).toArray 30)).alloc (.cells (jcells f gen cnt).toArray 36)).alloc (.cells #[.slice none 0 0, .slice none 0 0, .int .i64 0, .bool false] 30)).alloc (.cells (jcells 0 0 0).toArray 36) = W) := hW
  clear h0
  go_enter Try.func14, Try.ntmps14
  by_cases h384 : 384 < xs.length
  · have e1 : Hid (D.add f gen cnt xs = (D, 63)) := by unfold Hid Dk.add; rw [if_pos h384]
    have hd : decide (384 < (xs.length : Int)) = true := decide_eq_true (by omega)
    clear hs
    generalize xs.length = xl at *
    go_wp2_with (first
      | (refine wpList_box_agg rfl 30 _ rfl (rval vs vp D) _ rfl rfl ?_)
      | (refine wpList_box_agg rfl 36 _ rfl (jval f gen cnt) _ rfl rfl ?_; rw [hz1])
      | (refine wpList_alloc_agg rfl 30 rfl _ Try.zero30 ?_; rw [hz2])
      | (refine wpList_alloc_agg rfl 36 rfl _ Try.zeroJ ?_; rw [hz3, hW.out]))
    have hS0 : (fun w' : World => w'.rangeAt w.heap.size 0 (rcells vs vp D) ∧ w'.rangeAt (w.heap.size + 1) 0 (jcells f gen cnt)) W.drew := ⟨(World.rangeAt_drew ..).2 (range_all hA.v3), (World.rangeAt_drew ..).2 (range_all hA.v4)⟩
    refine wp_region_ord [] 3 [(0, true), (1, true), (2, false)] (fun w' : World => w'.rangeAt w.heap.size 0 (rcells vs vp D) ∧ w'.rangeAt (w.heap.size + 1) 0 (jcells f gen cnt)) (by kernel_rfl) (by kernel_rfl) ?_
    refine ord_quietL _ (rval vs vp D) rfl hS0 rfl ?_ ?_
    · rintro w' ⟨hS1, hS2⟩; exact run_load_quiet 30 _ w' rfl w.heap.size 0 rfl _ hS1 Try.row30 Try.size30
    simp only [Act.put, List.setIfInBounds_toArray, List.set_cons_zero, List.set_cons_succ]
    refine ord_quietL _ (jval f gen cnt) rfl hS0 rfl ?_ ?_
    · rintro w' ⟨hS1, hS2⟩; exact run_load_quiet 36 _ w' rfl (w.heap.size + 1) 0 rfl _ hS2 Try.rowJ Try.sizeJ
    simp only [Act.put, List.setIfInBounds_toArray, List.set_cons_zero, List.set_cons_succ]
    obtain ⟨hv6, hS', hv7, hres6, hres7, hnE, hGE, hS2'⟩ := hA.drew.fin
    have hone := ref_one hA.ref
    clear hA hS0
    generalize W.drew = Wd at *
    refine ord_actL _ rfl (fun K1 hK1 => ?_)
    go_wp2_with (refine wpList_store_all rfl 30 (.tmp 6) _ rfl (w.heap.size + 2) rfl (rval vs vp D) rfl _ rfl _ 30 hv6 res_fit hone Try.size30 ?_)
    refine hK1 _ _ hS' ?_
    clear hK1 K1
    clear hS' hS2'
    refine ord_tail ?_
    simp only [List.drop_succ_cons, List.drop_zero]
    generalize hWe : Wd.setRow (w.heap.size + 2) (rcells vs vp D).toArray = We at *
    go_wp2_with (refine wpList_store_all rfl 36 (.tmp 7) _ rfl (w.heap.size + 3) rfl (jval f gen cnt) rfl _ rfl _ 36 hv7 rfl (j_one f gen cnt) Try.sizeJ ?_)
    refine bodyPost_ret (results_cell3 rfl _ (w.heap.size + 2) (w.heap.size + 3) _ _ (rval vs vp D) (jval f gen cnt) rfl rfl rfl rfl (range_all hres6) (range_all hres7) Try.row30 Try.size30 Try.rowJ Try.sizeJ) rfl ?_
    rw [e1.out]
    exact ⟨vs, vp, rfl, hGE, hnE⟩
  have hd : decide (384 < (xs.length : Int)) = false := decide_eq_false (by omega)
  have j0 : W.cell? ⟨w.heap.size + 1, 0, none⟩ = some (.int .i64 (f : Int)) := cell_blk hA.v4 rfl
  have j2 : W.cell? ⟨w.heap.size + 1, 2, none⟩ = some (.int .i64 (cnt : Int)) := cell_blk hA.v4 rfl
  by_cases h4 : 4 ≤ cnt
  · have e1 : Hid (D.add f gen cnt xs = (D, 62)) := by unfold Hid Dk.add; rw [if_neg h384, if_pos h4]
    have hd4 : decide (4 ≤ (cnt : Int)) = true := decide_eq_true (by omega)
    clear hs
    generalize xs.length = xl at *
    go_wp2_with (first
      | (refine wpList_box_agg rfl 30 _ rfl (rval vs vp D) _ rfl rfl ?_)
      | (refine wpList_box_agg rfl 36 _ rfl (jval f gen cnt) _ rfl rfl ?_; rw [hz1])
      | (refine wpList_alloc_agg rfl 30 rfl _ Try.zero30 ?_; rw [hz2])
      | (refine wpList_alloc_agg rfl 36 rfl _ Try.zeroJ ?_; rw [hz3, hW.out]))
    clear j0 j2
    have hS0 : (fun w' : World => w'.rangeAt w.heap.size 0 (rcells vs vp D) ∧ w'.rangeAt (w.heap.size + 1) 0 (jcells f gen cnt)) W.drew := ⟨(World.rangeAt_drew ..).2 (range_all hA.v3), (World.rangeAt_drew ..).2 (range_all hA.v4)⟩
    refine wp_region_ord [] 3 [(0, true), (1, true), (2, false)] (fun w' : World => w'.rangeAt w.heap.size 0 (rcells vs vp D) ∧ w'.rangeAt (w.heap.size + 1) 0 (jcells f gen cnt)) (by kernel_rfl) (by kernel_rfl) ?_
    refine ord_quietL _ (rval vs vp D) rfl hS0 rfl ?_ ?_
    · rintro w' ⟨hS1, hS2⟩; exact run_load_quiet 30 _ w' rfl w.heap.size 0 rfl _ hS1 Try.row30 Try.size30
    simp only [Act.put, List.setIfInBounds_toArray, List.set_cons_zero, List.set_cons_succ]
    refine ord_quietL _ (jval f gen cnt) rfl hS0 rfl ?_ ?_
    · rintro w' ⟨hS1, hS2⟩; exact run_load_quiet 36 _ w' rfl (w.heap.size + 1) 0 rfl _ hS2 Try.rowJ Try.sizeJ
    simp only [Act.put, List.setIfInBounds_toArray, List.set_cons_zero, List.set_cons_succ]
    obtain ⟨hv6, hS', hv7, hres6, hres7, hnE, hGE, hS2'⟩ := hA.drew.fin
    have hone := ref_one hA.ref
    clear hA hS0
    generalize W.drew = Wd at *
    refine ord_actL _ rfl (fun K1 hK1 => ?_)
    go_wp2_with (refine wpList_store_all rfl 30 (.tmp 6) _ rfl (w.heap.size + 2) rfl (rval vs vp D) rfl _ rfl _ 30 hv6 res_fit hone Try.size30 ?_)
    refine hK1 _ _ hS' ?_
    clear hK1 K1
    clear hS' hS2'
    refine ord_tail ?_
    simp only [List.drop_succ_cons, List.drop_zero]
    generalize hWe : Wd.setRow (w.heap.size + 2) (rcells vs vp D).toArray = We at *
    go_wp2_with (refine wpList_store_all rfl 36 (.tmp 7) _ rfl (w.heap.size + 3) rfl (jval f gen cnt) rfl _ rfl _ 36 hv7 rfl (j_one f gen cnt) Try.sizeJ ?_)
    refine bodyPost_ret (results_cell3 rfl _ (w.heap.size + 2) (w.heap.size + 3) _ _ (rval vs vp D) (jval f gen cnt) rfl rfl rfl rfl (range_all hres6) (range_all hres7) Try.row30 Try.size30 Try.rowJ Try.sizeJ) rfl ?_
    rw [e1.out]
    exact ⟨vs, vp, rfl, hGE, hnE⟩
  have hd4 : decide (4 ≤ (cnt : Int)) = false := decide_eq_false (by omega)
  have e1 : Hid (D.add f gen cnt xs = D.addP f gen cnt xs) := by unfold Hid Dk.add; rw [if_neg h384, if_neg h4]
  have hN2 : headN f cnt ≤ 2016 := by unfold headN; omega
  have hw1 : IntKind.i64.wrap (4 * (cnt : Int)) = 4 * (cnt : Int) := by rw [IntKind.wrap_i64]; omega
  have hNE : Hid ((f : Int) + 4 * (cnt : Int) = ((headN f cnt : Nat) : Int)) := by unfold Hid headN; omega
  have hse : Hid (∀ k, k < secsN xs.length → k * 128 < xs.length) := fun k hk => by unfold secsN at hk; omega
  have hge := secsN_ge xs.length
  have hn3 := secsN_le (n := xs.length) (by omega)
  obtain ⟨R, hR⟩ : ∃ R, Hid (R = D.add f gen cnt xs) := ⟨_, rfl⟩
  have hRR : Hid (R = stepE (stepE (stepE (D.wrs (headN f cnt + 1) xs (secsN xs.length)) Dk.fl) (Dk.wr (headN f cnt : Int) (hdSec gen cnt xs))) Dk.fl) := by unfold Hid; rw [hR.out, e1.out]; rfl
  obtain ⟨n, hnE⟩ : ∃ n, Hid (secsN xs.length = n) := ⟨_, rfl⟩
  obtain ⟨hN0, hH⟩ : ∃ hN0, Hid (headN f cnt = hN0) := ⟨_, rfl⟩
  rw [hnE.out] at hn3 hse hge hRR
  rw [hH.out] at hN2 hNE hRR
  have hlimk := fun k => (lim_wrs D (hN0 + 1) xs k).2
  have hwe := fun k h he => wrs_err D (hN0 + 1) xs k n h he
  have hwe : Hid _ := hwe
  clear e1
  go_wp2_with (first
    | (refine wpList_box_agg rfl 30 _ rfl (rval vs vp D) _ rfl rfl ?_)
    | (refine wpList_box_agg rfl 36 _ rfl (jval f gen cnt) _ rfl rfl ?_; rw [hz1])
    | (refine wpList_alloc_agg rfl 30 rfl _ Try.zero30 ?_; rw [hz2])
    | (refine wpList_alloc_agg rfl 36 rfl _ Try.zeroJ ?_; rw [hz3, hW.out]))
  rw [hNE.out]
  clear j0 j2 hz1 hz2 hz3 hW
  go_loopw [11] (fun i wr => ∃ (k : Nat) (vs' vp' : Value), k ≤ n ∧ i = .int .i64 k ∧ (D.wrs (hN0 + 1) xs k).2 = 0 ∧ RaAt X0 w wr vs' vp' (D.wrs (hN0 + 1) xs k).1 f gen cnt) (fun i _ => n - (intOf i).toNat)
  case atStart => exact ⟨0, vs, vp, Nat.zero_le _, rfl, rfl, hA⟩
  case round =>
    clear hA
    obtain ⟨k, vs, vp, hk, rfl, he0, hA⟩ := hrel
    have hwk : IntKind.i64.wrap (128 * (k : Int)) = 128 * (k : Int) := by rw [IntKind.wrap_i64]; omega
    have hlim := hlimk k
    clear hlimk
    by_cases hlt : k < n
    case pos =>
      have hkx := hse.out k hlt
      have HX : Hid (D.wrs (hN0 + 1) xs (k + 1) = ((D.wrs (hN0 + 1) xs k).1.write ((hN0 + 1 + k : Nat) : Int) (secAt xs k), (D.wrs (hN0 + 1) xs k).1.werr ((hN0 + 1 + k : Nat) : Int))) := by
        unfold Hid
        show stepE (D.wrs (hN0 + 1) xs k) _ = _
        unfold stepE
        rw [if_pos he0]
        rfl
      have HY : Hid ((D.wrs (hN0 + 1) xs (k + 1)).2 ≠ 0 → R = D.wrs (hN0 + 1) xs (k + 1)) := fun hne => by
        have e := hwe.out (k + 1) (by omega) hne
        rw [hRR.out, e, stepE_err hne, stepE_err hne, stepE_err hne]
      generalize (D.wrs (hN0 + 1) xs k).1 = D1 at *
      clear he0 hRR hwe
      have hdk : decide (128 * (k : Int) < (xs.length : Int)) = true := decide_eq_true (by omega)
      have hmd := made wr
      have hblk0 := sec_var wr z128
      have hnS := hmd.fin z128
      obtain ⟨sl, hsl⟩ : ∃ sl, Hid ((segN xs k).length = sl) := ⟨_, rfl⟩
      have hsl8 : sl ≤ 128 := by rw [← hsl.out]; exact segN_le xs k
      have hslE : sl = min (xs.length - k * 128) 128 := by rw [← hsl.out]; exact segN_length xs k
      have hslE : Hid (sl = min (xs.length - k * 128) 128) := hslE
      generalize hWS : (wr.alloc (.cells (z128.map bv).toArray 55)).setRow wr.heap.size (z128.map bv).toArray = WS at *
      have hWS : Hid ((wr.alloc (.cells (z128.map bv).toArray 55)).setRow wr.heap.size (z128.map bv).toArray = WS) := hWS
      go_wp2_with (first
        | (refine wpList_build_as rfl 55 #[] rfl (sec z128) _ rfl Try.builtS ?_)
        | (refine wpList_alloc_agg rfl 55 rfl _ Try.zeroS ?_)
        | (refine wpList_store_all rfl 55 (.tmp 12) _ rfl wr.heap.size rfl (sec z128) rfl _ rfl _ 55 hmd.new rfl (bv_oneCell _) (sizeS z128_length) ?_; rw [hWS.out]))
      clear hWS hmd
      have hnS : Nw wr WS := hnS
      obtain ⟨sv, hsv⟩ : ∃ sv, Hid (wr.heap.size = sv) := ⟨_, rfl⟩
      rw [hsv.out] at hblk0 ⊢
      go_loopw [13] (fun i wr2 => ∃ i2 : Nat, i2 ≤ sl ∧ i = .int .i64 i2 ∧ wr2.heap[sv]? = some (.cells ((secTo xs k i2).map bv).toArray 55 (0, 0)) ∧ Nw wr wr2) (fun i _ => sl - (intOf i).toNat)
      case atStart => exact ⟨0, Nat.zero_le _, rfl, by rw [secTo_zero]; exact hblk0, hnS⟩
      case round =>
        obtain ⟨i2, hi2, rfl, hblk, hnw⟩ := hrel
        have hA2 := hA.keep hnw
        by_cases hlt2 : i2 < sl
        case pos =>
          have h128 : i2 < 128 := by omega
          have hix : k * 128 + i2 < xs.length := by have := hslE.out; omega
          obtain ⟨hsg, hsg2⟩ := seg_get xs k i2 h128 hix
          obtain ⟨xb, xoff, rfl, hxb, hxc⟩ := sl_bytes_get (hs.keep ((below_of_nw hA2.nw).mono hK)) (k * 128 + i2) hix
          obtain ⟨y, hy⟩ : ∃ y, xs[k * 128 + i2]'hix = y := ⟨_, rfl⟩
          rw [hy] at hsg hxc
          obtain ⟨ix, hixE⟩ : ∃ ix, k * 128 + i2 = ix := ⟨_, rfl⟩
          have hwi : IntKind.i64.wrap (128 * (k : Int) + (i2 : Int)) = (ix : Int) := by rw [IntKind.wrap_i64, ← hixE]; omega
          have hwj : 128 * (k : Int) + (i2 : Int) = (ix : Int) := by rw [← hixE]; omega
          have hixl : ix < xs.length := by omega
          have hixk : ix ≤ 384 := by omega
          rw [hixE] at hxc
          have hd1 : decide ((i2 : Int) < 128) = true := decide_eq_true (by omega)
          have hd2 : decide ((ix : Int) < (xs.length : Int)) = true := decide_eq_true (by omega)
          have hsec := secTo_succ xs k i2 hsg2 y hsg
          have hlS := secTo_length xs k i2 (by omega)
          have hcs : wr.cell? ⟨sv, i2, none⟩ = some (bv ((secTo xs k i2)[i2]'(by omega))) := cell_blk hblk (by rw [List.getElem?_toArray, List.getElem?_map, List.getElem?_eq_getElem (by omega)]; rfl)
          have hzs : wr.frozen? ⟨sv, i2, none⟩ = false := free_blk hblk
          have hset : (wr.setCell ⟨sv, i2, none⟩ (.int .u8 (y.toNat : Int))).heap[sv]? = some (.cells ((secTo xs k (i2 + 1)).map bv).toArray 55 (0, 0)) := by
            rw [blk_setCell hblk, ← hsec, List.map_set]
            simp [bv]
          have hnn := Fr.setCell hnw (p := ⟨sv, i2, none⟩) (.inr (by rw [← hsv.out]; exact Nat.le_refl _)) (.int .u8 (y.toNat : Int))
          have hset : Hid ((wr.setCell ⟨sv, i2, none⟩ (.int .u8 (y.toNat : Int))).heap[sv]? = some (.cells ((secTo xs k (i2 + 1)).map bv).toArray 55 (0, 0))) := hset
          generalize bv ((secTo xs k i2)[i2]'(by omega)) = oldv at *
          clear hsec hblk hA2 hsg hsg2 hy hlS hixE hwj
          go_wp2
          go_roundw
          case rel => exact ⟨i2 + 1, by omega, by go_num, hset.out, hnn⟩
          case measure => simp [intOf]; omega
        obtain rfl : i2 = sl := by omega
        rw [show secTo xs k i2 = secAt xs k by rw [← hsl.out]; exact secTo_all xs k] at hblk
        have hlS := secAt_length xs k
        obtain ⟨LS, hLS⟩ : ∃ LS, Hid (LS = secAt xs k) := ⟨_, rfl⟩
        rw [← hLS.out] at hblk hlS
        rw [← hLS.out] at HX
        have hrS := range_all hblk
        have hr3 := range_all hA2.v3
        have hw2 : IntKind.i64.wrap ((hN0 : Int) + 1) = (hN0 : Int) + 1 := by rw [IntKind.wrap_i64]; omega
        have hw3 : IntKind.i64.wrap ((hN0 : Int) + 1 + (k : Int)) = (hN0 : Int) + 1 + (k : Int) := by rw [IntKind.wrap_i64]; omega
        have hI : Hid ((hN0 : Int) + 1 + (k : Int) = ((hN0 + 1 + k : Nat) : Int)) := by unfold Hid; omega
        have hwi : IntKind.i64.wrap (128 * (k : Int) + (i2 : Int)) = 128 * (k : Int) + (i2 : Int) := by rw [IntKind.wrap_i64]; omega
        clear hblk hs
        by_cases h128 : i2 < 128
        · have hd1 : decide ((i2 : Int) < 128) = true := decide_eq_true (by omega)
          have hd2 : decide (128 * (k : Int) + (i2 : Int) < (xs.length : Int)) = false := decide_eq_false (by have := hslE.out; omega)
          go_wp2_with (first
            | (refine wpList_load_as rfl 30 (.tmp 3) rfl w.heap.size 0 rfl (rval vs vp D1) _ rfl hr3 Try.row30 Try.size30 ?_)
            | (refine wpList_load_as rfl 55 (.tmp 12) rfl sv 0 rfl (sec LS) _ rfl hrS Try.rowS (sizeS hlS) ?_)
            | (go_at_call 31; refine stop_here ?_))
          unfold Hid
          rw [hI.out]
          refine (c_rput ((hN0 + 1 + k : Nat) : Int) LS _ hA2.ref hlS (by omega)).mono ?_
          rintro e W4 ⟨vs4, vp4, rfl, hG4, hn4⟩
          have hA5 := hA2.put hn4 hG4
          have hv34 := (hA2.keep hn4).v3
          have hone4 := ref_one hG4
          have HX1 : Hid ((D.wrs (hN0 + 1) xs (k + 1)).2 = D1.werr ((hN0 + 1 + k : Nat) : Int)) := by unfold Hid; rw [HX.out]
          have HX2 : Hid ((D.wrs (hN0 + 1) xs (k + 1)).1 = D1.write ((hN0 + 1 + k : Nat) : Int) LS) := by unfold Hid; rw [HX.out]
          clear HX hG4 hn4 hA2 hr3 hrS hA hnw
          generalize hD5 : D1.write ((hN0 + 1 + k : Nat) : Int) LS = D5 at *
          generalize D1.werr ((hN0 + 1 + k : Nat) : Int) = ev at *
          generalize hW5 : W4.setRow w.heap.size (rcells vs4 vp4 D5).toArray = W5 at *
          have hW5 : Hid (W4.setRow w.heap.size (rcells vs4 vp4 D5).toArray = W5) := hW5
          by_cases h0 : ev = 0
          · subst h0
            go_wp2_with (refine wpList_store_all rfl 30 (.tmp 3) _ rfl w.heap.size rfl (rval vs4 vp4 D5) rfl _ rfl _ 30 hv34 rfl hone4 Try.size30 ?_; rw [hW5.out])
            go_roundw
            case rel => exact ⟨k + 1, vs4, vp4, by omega, by go_num, HX1.out, by rw [HX2.out]; exact hA5⟩
            case measure => simp [intOf]; omega
          · have hne := ne_bne h0
            have HE : Hid (R = (D5, ev)) := by
              unfold Hid
              rw [HY.out (by rw [HX1.out]; exact h0)]
              exact Prod.ext HX2.out HX1.out
            have hA : RaAt X0 w W5 vs4 vp4 D5 f gen cnt := hA5
            clear hA5
            go_wp2_with (refine wpList_store_all rfl 30 (.tmp 3) _ rfl w.heap.size rfl (rval vs4 vp4 D5) rfl _ rfl _ 30 hv34 rfl hone4 Try.size30 ?_; rw [hW5.out])
            have hS0 : (fun w' : World => w'.rangeAt w.heap.size 0 (rcells vs4 vp4 D5) ∧ w'.rangeAt (w.heap.size + 1) 0 (jcells f gen cnt)) W5.drew := ⟨(World.rangeAt_drew ..).2 (range_all hA.v3), (World.rangeAt_drew ..).2 (range_all hA.v4)⟩
            refine wp_region_ord [] 5 [(0, true), (1, true), (2, true), (3, false), (4, false)] (fun w' : World => w'.rangeAt w.heap.size 0 (rcells vs4 vp4 D5) ∧ w'.rangeAt (w.heap.size + 1) 0 (jcells f gen cnt)) (by kernel_rfl) (by kernel_rfl) ?_
            refine ord_quietL _ (rval vs4 vp4 D5) rfl hS0 rfl ?_ ?_
            · rintro w' ⟨hS1, hS2⟩; exact run_load_quiet 30 _ w' rfl w.heap.size 0 rfl _ hS1 Try.row30 Try.size30
            simp only [Act.put, List.setIfInBounds_toArray, List.set_cons_zero, List.set_cons_succ]
            refine ord_quietL _ (jval f gen cnt) rfl hS0 rfl ?_ ?_
            · rintro w' ⟨hS1, hS2⟩; exact run_load_quiet 36 _ w' rfl (w.heap.size + 1) 0 rfl _ hS2 Try.rowJ Try.sizeJ
            simp only [Act.put, List.setIfInBounds_toArray, List.set_cons_zero, List.set_cons_succ]
            refine ord_quietL _ ?_ rfl hS0 rfl ?_ ?_
            rotate_left
            · rintro w' ⟨hS1, hS2⟩; go_simp; rfl
            simp only [Act.put, List.setIfInBounds_toArray, List.set_cons_zero, List.set_cons_succ]
            obtain ⟨hv6, hS', hv7, hres6, hres7, hnE, hGE, hS2'⟩ := hA.drew.fin
            have hone := ref_one hA.ref
            clear hA hS0
            generalize W5.drew = Wd at *
            refine ord_actL _ rfl (fun K1 hK1 => ?_)
            go_wp2_with (refine wpList_store_all rfl 30 (.tmp 6) _ rfl (w.heap.size + 2) rfl (rval vs4 vp4 D5) rfl _ rfl _ 30 hv6 res_fit hone Try.size30 ?_)
            refine hK1 _ _ hS' ?_
            clear hK1 K1
            generalize hWe : Wd.setRow (w.heap.size + 2) (rcells vs4 vp4 D5).toArray = We at *
            refine ord_actL _ rfl (fun K1 hK1 => ?_)
            go_wp2_with (refine wpList_store_all rfl 36 (.tmp 7) _ rfl (w.heap.size + 3) rfl (jval f gen cnt) rfl _ rfl _ 36 hv7 rfl (j_one f gen cnt) Try.sizeJ ?_)
            refine hK1 _ _ hS2' ?_
            clear hK1 K1 hS' hS2'
            refine ord_tail ?_
            simp only [List.drop_succ_cons, List.drop_zero]
            go_wp2
            refine bodyPost_ret (results_cell3 rfl _ (w.heap.size + 2) (w.heap.size + 3) _ _ (rval vs4 vp4 D5) (jval f gen cnt) rfl rfl rfl rfl (range_all hres6) (range_all hres7) Try.row30 Try.size30 Try.rowJ Try.sizeJ) rfl ?_
            rw [← hR.out, HE.out]
            exact ⟨vs4, vp4, by rw [show addN cnt (D5, ev).2 = cnt from if_neg h0]; rfl, hGE, hnE⟩
        · have hd1 : decide ((i2 : Int) < 128) = false := decide_eq_false (by omega)
          go_wp2_with (first
            | (refine wpList_load_as rfl 30 (.tmp 3) rfl w.heap.size 0 rfl (rval vs vp D1) _ rfl hr3 Try.row30 Try.size30 ?_)
            | (refine wpList_load_as rfl 55 (.tmp 12) rfl sv 0 rfl (sec LS) _ rfl hrS Try.rowS (sizeS hlS) ?_)
            | (go_at_call 31; refine stop_here ?_))
          unfold Hid
          rw [hI.out]
          refine (c_rput ((hN0 + 1 + k : Nat) : Int) LS _ hA2.ref hlS (by omega)).mono ?_
          rintro e W4 ⟨vs4, vp4, rfl, hG4, hn4⟩
          have hA5 := hA2.put hn4 hG4
          have hv34 := (hA2.keep hn4).v3
          have hone4 := ref_one hG4
          have HX1 : Hid ((D.wrs (hN0 + 1) xs (k + 1)).2 = D1.werr ((hN0 + 1 + k : Nat) : Int)) := by unfold Hid; rw [HX.out]
          have HX2 : Hid ((D.wrs (hN0 + 1) xs (k + 1)).1 = D1.write ((hN0 + 1 + k : Nat) : Int) LS) := by unfold Hid; rw [HX.out]
          clear HX hG4 hn4 hA2 hr3 hrS hA hnw
          generalize hD5 : D1.write ((hN0 + 1 + k : Nat) : Int) LS = D5 at *
          generalize D1.werr ((hN0 + 1 + k : Nat) : Int) = ev at *
          generalize hW5 : W4.setRow w.heap.size (rcells vs4 vp4 D5).toArray = W5 at *
          have hW5 : Hid (W4.setRow w.heap.size (rcells vs4 vp4 D5).toArray = W5) := hW5
          by_cases h0 : ev = 0
          · subst h0
            go_wp2_with (refine wpList_store_all rfl 30 (.tmp 3) _ rfl w.heap.size rfl (rval vs4 vp4 D5) rfl _ rfl _ 30 hv34 rfl hone4 Try.size30 ?_; rw [hW5.out])
            go_roundw
            case rel => exact ⟨k + 1, vs4, vp4, by omega, by go_num, HX1.out, by rw [HX2.out]; exact hA5⟩
            case measure => simp [intOf]; omega
          · have hne := ne_bne h0
            have HE : Hid (R = (D5, ev)) := by
              unfold Hid
              rw [HY.out (by rw [HX1.out]; exact h0)]
              exact Prod.ext HX2.out HX1.out
            have hA : RaAt X0 w W5 vs4 vp4 D5 f gen cnt := hA5
            clear hA5
            go_wp2_with (refine wpList_store_all rfl 30 (.tmp 3) _ rfl w.heap.size rfl (rval vs4 vp4 D5) rfl _ rfl _ 30 hv34 rfl hone4 Try.size30 ?_; rw [hW5.out])
            have hS0 : (fun w' : World => w'.rangeAt w.heap.size 0 (rcells vs4 vp4 D5) ∧ w'.rangeAt (w.heap.size + 1) 0 (jcells f gen cnt)) W5.drew := ⟨(World.rangeAt_drew ..).2 (range_all hA.v3), (World.rangeAt_drew ..).2 (range_all hA.v4)⟩
            refine wp_region_ord [] 5 [(0, true), (1, true), (2, true), (3, false), (4, false)] (fun w' : World => w'.rangeAt w.heap.size 0 (rcells vs4 vp4 D5) ∧ w'.rangeAt (w.heap.size + 1) 0 (jcells f gen cnt)) (by kernel_rfl) (by kernel_rfl) ?_
            refine ord_quietL _ (rval vs4 vp4 D5) rfl hS0 rfl ?_ ?_
            · rintro w' ⟨hS1, hS2⟩; exact run_load_quiet 30 _ w' rfl w.heap.size 0 rfl _ hS1 Try.row30 Try.size30
            simp only [Act.put, List.setIfInBounds_toArray, List.set_cons_zero, List.set_cons_succ]
            refine ord_quietL _ (jval f gen cnt) rfl hS0 rfl ?_ ?_
            · rintro w' ⟨hS1, hS2⟩; exact run_load_quiet 36 _ w' rfl (w.heap.size + 1) 0 rfl _ hS2 Try.rowJ Try.sizeJ
            simp only [Act.put, List.setIfInBounds_toArray, List.set_cons_zero, List.set_cons_succ]
            refine ord_quietL _ ?_ rfl hS0 rfl ?_ ?_
            rotate_left
            · rintro w' ⟨hS1, hS2⟩; go_simp; rfl
            simp only [Act.put, List.setIfInBounds_toArray, List.set_cons_zero, List.set_cons_succ]
            obtain ⟨hv6, hS', hv7, hres6, hres7, hnE, hGE, hS2'⟩ := hA.drew.fin
            have hone := ref_one hA.ref
            clear hA hS0
            generalize W5.drew = Wd at *
            refine ord_actL _ rfl (fun K1 hK1 => ?_)
            go_wp2_with (refine wpList_store_all rfl 30 (.tmp 6) _ rfl (w.heap.size + 2) rfl (rval vs4 vp4 D5) rfl _ rfl _ 30 hv6 res_fit hone Try.size30 ?_)
            refine hK1 _ _ hS' ?_
            clear hK1 K1
            generalize hWe : Wd.setRow (w.heap.size + 2) (rcells vs4 vp4 D5).toArray = We at *
            refine ord_actL _ rfl (fun K1 hK1 => ?_)
            go_wp2_with (refine wpList_store_all rfl 36 (.tmp 7) _ rfl (w.heap.size + 3) rfl (jval f gen cnt) rfl _ rfl _ 36 hv7 rfl (j_one f gen cnt) Try.sizeJ ?_)
            refine hK1 _ _ hS2' ?_
            clear hK1 K1 hS' hS2'
            refine ord_tail ?_
            simp only [List.drop_succ_cons, List.drop_zero]
            go_wp2
            refine bodyPost_ret (results_cell3 rfl _ (w.heap.size + 2) (w.heap.size + 3) _ _ (rval vs4 vp4 D5) (jval f gen cnt) rfl rfl rfl rfl (range_all hres6) (range_all hres7) Try.row30 Try.size30 Try.rowJ Try.sizeJ) rfl ?_
            rw [← hR.out, HE.out]
            exact ⟨vs4, vp4, by rw [show addN cnt (D5, ev).2 = cnt from if_neg h0]; rfl, hGE, hnE⟩
    obtain rfl : k = n := by omega
    have hdk : decide (128 * (k : Int) < (xs.length : Int)) = false := decide_eq_false (by omega)
    obtain ⟨r1, hr1⟩ : ∃ r1, Hid (r1 = D.wrs (hN0 + 1) xs k) := ⟨_, rfl⟩
    rw [← hr1.out] at he0 hA hlim hRR
    have hRR : Hid (R = stepE (stepE r1.1.fl (Dk.wr (hN0 : Int) (hdSec gen cnt xs))) Dk.fl) := by
      have e := hRR.out
      rw [stepE_ok he0] at e
      exact e
    clear hwe hse hr1
    obtain ⟨D1, ev0⟩ := r1
    simp only at he0 hA hlim hRR
    clear he0

    have hr3 := range_all hA.v3
    go_wp2_with (first
      | (refine wpList_load_as rfl 30 (.tmp 3) rfl w.heap.size 0 rfl (rval vs vp D1) _ rfl hr3 Try.row30 Try.size30 ?_)
      | (go_at_call 32; refine stop_here ?_))
    unfold Hid
    refine (c_rflush _ hA.ref).mono ?_
    rintro e W4 ⟨vs4, vp4, rfl, hG4, hn4⟩
    have hA5 := hA.put hn4 hG4
    have hv34 := (hA.keep hn4).v3
    have hone4 := ref_one hG4
    have hlim4 : D1.flush.pd.length ≤ 800040 := by have := Dk.flush_pd D1; omega
    obtain ⟨r4, hr4⟩ : ∃ r, Hid (r = D1.fl) := ⟨_, rfl⟩
    rw [show D1.ferr = r4.2 by rw [hr4.out]; rfl, show D1.flush = r4.1 by rw [hr4.out]; rfl]
    rw [show D1.flush = r4.1 by rw [hr4.out]; rfl] at hA5 hone4 hlim4
    rw [← hr4.out] at hRR
    clear hr4 hr3 hG4 hn4 hA
    obtain ⟨D4, ev⟩ := r4
    simp only at hA5 hone4 hlim4 hRR ⊢
    generalize hW5 : W4.setRow w.heap.size (rcells vs4 vp4 D4).toArray = W5 at *
    have hW5 : Hid (W4.setRow w.heap.size (rcells vs4 vp4 D4).toArray = W5) := hW5
    have hA : RaAt X0 w W5 vs4 vp4 D4 f gen cnt := hA5
    clear hA5
    by_cases h0 : ev = 0
    case neg =>
      have hne := ne_bne h0
      have HE : Hid (R = (D4, ev)) := by
        unfold Hid
        rw [hRR.out, stepE_err (r := (D4, ev)) h0, stepE_err (r := (D4, ev)) h0]
      go_wp2_with (refine wpList_store_all rfl 30 (.tmp 3) _ rfl w.heap.size rfl (rval vs4 vp4 D4) rfl _ rfl _ 30 hv34 rfl hone4 Try.size30 ?_; rw [hW5.out])
      have hS0 : (fun w' : World => w'.rangeAt w.heap.size 0 (rcells vs4 vp4 D4) ∧ w'.rangeAt (w.heap.size + 1) 0 (jcells f gen cnt)) W5.drew := ⟨(World.rangeAt_drew ..).2 (range_all hA.v3), (World.rangeAt_drew ..).2 (range_all hA.v4)⟩
      refine wp_region_ord [] 5 [(0, true), (1, true), (2, true), (3, false), (4, false)] (fun w' : World => w'.rangeAt w.heap.size 0 (rcells vs4 vp4 D4) ∧ w'.rangeAt (w.heap.size + 1) 0 (jcells f gen cnt)) (by kernel_rfl) (by kernel_rfl) ?_
      refine ord_quietL _ (rval vs4 vp4 D4) rfl hS0 rfl ?_ ?_
      · rintro w' ⟨hS1, hS2⟩; exact run_load_quiet 30 _ w' rfl w.heap.size 0 rfl _ hS1 Try.row30 Try.size30
      simp only [Act.put, List.setIfInBounds_toArray, List.set_cons_zero, List.set_cons_succ]
      refine ord_quietL _ (jval f gen cnt) rfl hS0 rfl ?_ ?_
      · rintro w' ⟨hS1, hS2⟩; exact run_load_quiet 36 _ w' rfl (w.heap.size + 1) 0 rfl _ hS2 Try.rowJ Try.sizeJ
      simp only [Act.put, List.setIfInBounds_toArray, List.set_cons_zero, List.set_cons_succ]
      refine ord_quietL _ ?_ rfl hS0 rfl ?_ ?_
      rotate_left
      · rintro w' ⟨hS1, hS2⟩; go_simp; rfl
      simp only [Act.put, List.setIfInBounds_toArray, List.set_cons_zero, List.set_cons_succ]
      obtain ⟨hv6, hS', hv7, hres6, hres7, hnE, hGE, hS2'⟩ := hA.drew.fin
      have hone := ref_one hA.ref
      clear hA hS0
      generalize W5.drew = Wd at *
      refine ord_actL _ rfl (fun K1 hK1 => ?_)
      go_wp2_with (refine wpList_store_all rfl 30 (.tmp 6) _ rfl (w.heap.size + 2) rfl (rval vs4 vp4 D4) rfl _ rfl _ 30 hv6 res_fit hone Try.size30 ?_)
      refine hK1 _ _ hS' ?_
      clear hK1 K1
      generalize hWe : Wd.setRow (w.heap.size + 2) (rcells vs4 vp4 D4).toArray = We at *
      refine ord_actL _ rfl (fun K1 hK1 => ?_)
      go_wp2_with (refine wpList_store_all rfl 36 (.tmp 7) _ rfl (w.heap.size + 3) rfl (jval f gen cnt) rfl _ rfl _ 36 hv7 rfl (j_one f gen cnt) Try.sizeJ ?_)
      refine hK1 _ _ hS2' ?_
      clear hK1 K1 hS' hS2'
      refine ord_tail ?_
      simp only [List.drop_succ_cons, List.drop_zero]
      go_wp2
      refine bodyPost_ret (results_cell3 rfl _ (w.heap.size + 2) (w.heap.size + 3) _ _ (rval vs4 vp4 D4) (jval f gen cnt) rfl rfl rfl rfl (range_all hres6) (range_all hres7) Try.row30 Try.size30 Try.rowJ Try.sizeJ) rfl ?_
      rw [← hR.out, HE.out]
      exact ⟨vs4, vp4, by rw [show addN cnt (D4, ev).2 = cnt from if_neg h0]; rfl, hGE, hnE⟩
    subst h0
    have hRR : Hid (R = stepE (Dk.wr (hN0 : Int) (hdSec gen cnt xs) D4) Dk.fl) := by
      have e := hRR.out
      rw [stepE_ok (r := (D4, 0)) rfl] at e
      exact e
    have hs5 := (hs.keep ((below_of_nw hA.nw).mono hK)).mono (Nat.le_trans hK hA.nw.size)
    have hiw : (xs.length : Int) % 18446744073709551616 = (xs.length : Int) := by omega
    go_wp2_with (first
      | (refine wpList_store_all rfl 30 (.tmp 3) _ rfl w.heap.size rfl (rval vs4 vp4 D4) rfl _ rfl _ 30 hv34 rfl hone4 Try.size30 ?_; rw [hW5.out])
      | (go_at_call 34; refine stop_here ?_))
    unfold Hid
    clear hv34 hone4 hW5
    refine (c_refsum 0#32 _ _ xs _ hs5 (by omega)).mono ?_
    rintro e w6 ⟨rfl, rfl⟩
    have hcs : Hid (∃ c : BitVec 32, crcAdd 0#32 xs = c ∧ c.toNat = (crcAdd 0#32 xs).toNat) := ⟨_, rfl, rfl⟩
    obtain ⟨c, hcs1, hcs2⟩ := hcs.out
    rw [hcs1]
    have hcs2 : Hid (c.toNat = (crcAdd 0#32 xs).toNat) := hcs2
    have hc3 : c.toNat < 4294967296 := c.isLt
    have hcw : IntKind.u64.wrap (tn c) = tn c := by rw [IntKind.wrap_u64]; have := tn_lo c; have := tn_hi c; omega
    have hcm : tn c % 18446744073709551616 = tn c := by have := tn_lo c; have := tn_hi c; omega
    clear hcs hcs1 hs5
    go_wp2_with (go_at_call 33; refine stop_here ?_)
    unfold Hid
    have hbk3 : (W5.alloc (.cells #[.int .u64 (xs.length : Int), .slice none 0 0, .int .u64 (tn c), .slice none 0 0] 79)).heap[W5.heap.size]? = some (.cells (pcells2 xs.length c.toNat) 79 (0, 0)) := heap_alloc_new W5 _
    have hb3 : Below W5.heap.size W5 (W5.alloc (.cells #[.int .u64 (xs.length : Int), .slice none 0 0, .int .u64 (tn c), .slice none 0 0] 79)) := (Below.refl _ _).alloc (Nat.le_refl _) _
    have hf3 := pk_fields (heap_lt hbk3) (show xs.length < 18446744073709551616 by omega) (show c.toNat < 18446744073709551616 by omega) hbk3
    have hA := hA.keep (nw_of_below hb3)
    clear hbk3 hb3
    generalize W5.alloc (.cells #[.int .u64 (xs.length : Int), .slice none 0 0, .int .u64 (tn c), .slice none 0 0] 79) = W6 at *
    refine (c_refpack ⟨#[50, 52]⟩ _ _ _ _ (by decide) (by unfold maxLen; simp) hf3 (Nat.le_refl _)).mono ?_
    have hpk : pack (⟨#[50, 52]⟩ : ByteArray).data.toList [⟨xs.length, []⟩, ⟨c.toNat, []⟩] = some (hdBody xs) := by
      rw [show (⟨#[50, 52]⟩ : ByteArray).data.toList = [50, 52] from rfl, hdBody, ← hcs2.out]
      exact pack24 _ _ (by omega) hc3
    rintro e W7 ⟨hb7, ⟨zs, v7, hz, rfl, hs7⟩ | ⟨hz, -⟩⟩
    case inr => rw [hpk] at hz; cases hz
    obtain rfl : hdBody xs = zs := Option.some.inj (hpk.symm.trans hz)
    obtain ⟨ao7, cap7, rfl⟩ := sl_form hs7
    have hA := hA.keep (nw_of_below hb7)
    have j1 : W7.cell? ⟨w.heap.size + 1, 1, none⟩ = some (.int .u64 (gen : Int)) := cell_blk hA.v4 rfl
    have j2 : W7.cell? ⟨w.heap.size + 1, 2, none⟩ = some (.int .i64 (cnt : Int)) := cell_blk hA.v4 rfl
    have hmE : Hid ((gen : Int) * 256 + ((cnt : Int) + 1) = ((hdMark gen cnt : Nat) : Int)) := by unfold Hid hdMark; omega
    have hmk := hdMark_lt hg hc4
    have hg3 : IntKind.u64.wrap ((gen : Int) * 256) = (gen : Int) * 256 := by rw [IntKind.wrap_u64]; omega
    clear hz hpk hf3 hb7 hcs2 hc3 hcw hcm hiw
    go_wp2_with (go_at_call 35; refine stop_here ?_)
    unfold Hid
    rw [hmE.out]
    refine (c_rmake (hdMark gen cnt) _ (hdBody xs) _ _ hmk hs7 (Nat.le_refl _) (by rw [hdBody_length]; omega)).mono ?_
    rintro e W8 ⟨rfl, hb8⟩
    have hA := hA.keep (nw_of_below hb8)
    have hlen := mkS_length (hdMark gen cnt) (hdBody xs)
    have hRR : Hid (R = stepE (Dk.wr (hN0 : Int) (mkS (hdMark gen cnt) (hdBody xs)) D4) Dk.fl) := hRR
    clear hs7 hb8 j1 j2 hmk
    generalize mkE (hdMark gen cnt) (hdBody xs) = me at *
    generalize mkS (hdMark gen cnt) (hdBody xs) = L at *
    generalize (hdBody xs).length = bl at *
    have hmd := made W8
    have hblk := sec_var W8 L
    have hrS := range_all hblk
    have hA := hA.keep (hmd.fin L)
    have hr3 := range_all hA.v3
    generalize hW9 : (W8.alloc (.cells (z128.map bv).toArray 55)).setRow W8.heap.size (L.map bv).toArray = W9 at *
    have hW9 : Hid ((W8.alloc (.cells (z128.map bv).toArray 55)).setRow W8.heap.size (L.map bv).toArray = W9) := hW9
    go_wp2_with (first
      | (refine wpList_alloc_agg rfl 55 rfl _ Try.zeroS ?_)
      | (refine wpList_store_all rfl 55 (.tmp 16) _ rfl W8.heap.size rfl (sec L) rfl _ rfl _ 55 hmd.new (sec_fit hlen) (bv_oneCell _) (sizeS hlen) ?_; rw [hW9.out])
      | (refine wpList_load_as rfl 30 (.tmp 3) rfl w.heap.size 0 rfl (rval vs4 vp4 D4) _ rfl hr3 Try.row30 Try.size30 ?_)
      | (refine wpList_load_as rfl 55 (.tmp 16) rfl W8.heap.size 0 rfl (sec L) _ rfl hrS Try.rowS (sizeS hlen) ?_)
      | (go_at_call 31; refine stop_here ?_))
    unfold Hid
    refine (c_rput (hN0 : Int) L _ hA.ref hlen (by omega)).mono ?_
    rintro e W4 ⟨vs5, vp5, rfl, hG4, hn4⟩
    have hA5 := hA.put hn4 hG4
    have hv34 := (hA.keep hn4).v3
    have hone4 := ref_one hG4
    have hlim5 : (D4.write (hN0 : Int) L).pd.length ≤ 800045 := by have := Dk.write_pd D4 (hN0 : Int) L; omega
    obtain ⟨r5, hr5⟩ : ∃ r, Hid (r = Dk.wr (hN0 : Int) L D4) := ⟨_, rfl⟩
    rw [show D4.werr (hN0 : Int) = r5.2 by rw [hr5.out]; rfl, show D4.write (hN0 : Int) L = r5.1 by rw [hr5.out]; rfl]
    rw [show D4.write (hN0 : Int) L = r5.1 by rw [hr5.out]; rfl] at hA5 hone4 hlim5
    rw [← hr5.out] at hRR
    clear hr5 hr3 hG4 hn4 hA hrS hblk hW9 hmd
    obtain ⟨D5, ev⟩ := r5
    simp only at hA5 hone4 hlim5 hRR ⊢
    generalize hW5 : W4.setRow w.heap.size (rcells vs5 vp5 D5).toArray = W5 at *
    have hW5 : Hid (W4.setRow w.heap.size (rcells vs5 vp5 D5).toArray = W5) := hW5
    have hA : RaAt X0 w W5 vs5 vp5 D5 f gen cnt := hA5
    clear hA5
    by_cases h0 : ev = 0
    case neg =>
      have hne := ne_bne h0
      have HE : Hid (R = (D5, ev)) := by
        unfold Hid
        rw [hRR.out, stepE_err (r := (D5, ev)) h0]
      go_wp2_with (refine wpList_store_all rfl 30 (.tmp 3) _ rfl w.heap.size rfl (rval vs5 vp5 D5) rfl _ rfl _ 30 hv34 rfl hone4 Try.size30 ?_; rw [hW5.out])
      have hS0 : (fun w' : World => w'.rangeAt w.heap.size 0 (rcells vs5 vp5 D5) ∧ w'.rangeAt (w.heap.size + 1) 0 (jcells f gen cnt)) W5.drew := ⟨(World.rangeAt_drew ..).2 (range_all hA.v3), (World.rangeAt_drew ..).2 (range_all hA.v4)⟩
      refine wp_region_ord [] 5 [(0, true), (1, true), (2, true), (3, false), (4, false)] (fun w' : World => w'.rangeAt w.heap.size 0 (rcells vs5 vp5 D5) ∧ w'.rangeAt (w.heap.size + 1) 0 (jcells f gen cnt)) (by kernel_rfl) (by kernel_rfl) ?_
      refine ord_quietL _ (rval vs5 vp5 D5) rfl hS0 rfl ?_ ?_
      · rintro w' ⟨hS1, hS2⟩; exact run_load_quiet 30 _ w' rfl w.heap.size 0 rfl _ hS1 Try.row30 Try.size30
      simp only [Act.put, List.setIfInBounds_toArray, List.set_cons_zero, List.set_cons_succ]
      refine ord_quietL _ (jval f gen cnt) rfl hS0 rfl ?_ ?_
      · rintro w' ⟨hS1, hS2⟩; exact run_load_quiet 36 _ w' rfl (w.heap.size + 1) 0 rfl _ hS2 Try.rowJ Try.sizeJ
      simp only [Act.put, List.setIfInBounds_toArray, List.set_cons_zero, List.set_cons_succ]
      refine ord_quietL _ ?_ rfl hS0 rfl ?_ ?_
      rotate_left
      · rintro w' ⟨hS1, hS2⟩; go_simp; rfl
      simp only [Act.put, List.setIfInBounds_toArray, List.set_cons_zero, List.set_cons_succ]
      obtain ⟨hv6, hS', hv7, hres6, hres7, hnE, hGE, hS2'⟩ := hA.drew.fin
      have hone := ref_one hA.ref
      clear hA hS0
      generalize W5.drew = Wd at *
      refine ord_actL _ rfl (fun K1 hK1 => ?_)
      go_wp2_with (refine wpList_store_all rfl 30 (.tmp 6) _ rfl (w.heap.size + 2) rfl (rval vs5 vp5 D5) rfl _ rfl _ 30 hv6 res_fit hone Try.size30 ?_)
      refine hK1 _ _ hS' ?_
      clear hK1 K1
      generalize hWe : Wd.setRow (w.heap.size + 2) (rcells vs5 vp5 D5).toArray = We at *
      refine ord_actL _ rfl (fun K1 hK1 => ?_)
      go_wp2_with (refine wpList_store_all rfl 36 (.tmp 7) _ rfl (w.heap.size + 3) rfl (jval f gen cnt) rfl _ rfl _ 36 hv7 rfl (j_one f gen cnt) Try.sizeJ ?_)
      refine hK1 _ _ hS2' ?_
      clear hK1 K1 hS' hS2'
      refine ord_tail ?_
      simp only [List.drop_succ_cons, List.drop_zero]
      go_wp2
      refine bodyPost_ret (results_cell3 rfl _ (w.heap.size + 2) (w.heap.size + 3) _ _ (rval vs5 vp5 D5) (jval f gen cnt) rfl rfl rfl rfl (range_all hres6) (range_all hres7) Try.row30 Try.size30 Try.rowJ Try.sizeJ) rfl ?_
      rw [← hR.out, HE.out]
      exact ⟨vs5, vp5, by rw [show addN cnt (D5, ev).2 = cnt from if_neg h0]; rfl, hGE, hnE⟩
    subst h0
    have hRR : Hid (R = Dk.fl D5) := by
      have e := hRR.out
      rw [stepE_ok (r := (D5, 0)) rfl] at e
      exact e
    have hr3 := range_all hA.v3
    go_wp2_with (first
      | (refine wpList_store_all rfl 30 (.tmp 3) _ rfl w.heap.size rfl (rval vs5 vp5 D5) rfl _ rfl _ 30 hv34 rfl hone4 Try.size30 ?_; rw [hW5.out])
      | (refine wpList_load_as rfl 30 (.tmp 3) rfl w.heap.size 0 rfl (rval vs5 vp5 D5) _ rfl hr3 Try.row30 Try.size30 ?_)
      | (go_at_call 32; refine stop_here ?_))
    unfold Hid
    clear hv34 hone4 hW5
    refine (c_rflush _ hA.ref).mono ?_
    rintro e W4 ⟨vs6, vp6, rfl, hG4, hn4⟩
    have hA5 := hA.put hn4 hG4
    have hv34 := (hA.keep hn4).v3
    have hone4 := ref_one hG4
    have hlim6 : D5.flush.pd.length ≤ 800050 := by have := Dk.flush_pd D5; omega
    obtain ⟨r6, hr6⟩ : ∃ r, Hid (r = D5.fl) := ⟨_, rfl⟩
    rw [show D5.ferr = r6.2 by rw [hr6.out]; rfl, show D5.flush = r6.1 by rw [hr6.out]; rfl]
    rw [show D5.flush = r6.1 by rw [hr6.out]; rfl] at hA5 hone4 hlim6
    rw [← hr6.out] at hRR
    clear hr6 hr3 hG4 hn4 hA
    obtain ⟨D6, ev⟩ := r6
    simp only at hA5 hone4 hlim6 hRR ⊢
    generalize hW5 : W4.setRow w.heap.size (rcells vs6 vp6 D6).toArray = W5 at *
    have hW5 : Hid (W4.setRow w.heap.size (rcells vs6 vp6 D6).toArray = W5) := hW5
    have hA : RaAt X0 w W5 vs6 vp6 D6 f gen cnt := hA5
    clear hA5
    by_cases h0 : ev = 0
    case neg =>
      have hne := ne_bne h0
      have HE : Hid (R = (D6, ev)) := by
        unfold Hid
        rw [hRR.out]
      go_wp2_with (refine wpList_store_all rfl 30 (.tmp 3) _ rfl w.heap.size rfl (rval vs6 vp6 D6) rfl _ rfl _ 30 hv34 rfl hone4 Try.size30 ?_; rw [hW5.out])
      have hS0 : (fun w' : World => w'.rangeAt w.heap.size 0 (rcells vs6 vp6 D6) ∧ w'.rangeAt (w.heap.size + 1) 0 (jcells f gen cnt)) W5.drew := ⟨(World.rangeAt_drew ..).2 (range_all hA.v3), (World.rangeAt_drew ..).2 (range_all hA.v4)⟩
      refine wp_region_ord [] 5 [(0, true), (1, true), (2, true), (3, false), (4, false)] (fun w' : World => w'.rangeAt w.heap.size 0 (rcells vs6 vp6 D6) ∧ w'.rangeAt (w.heap.size + 1) 0 (jcells f gen cnt)) (by kernel_rfl) (by kernel_rfl) ?_
      refine ord_quietL _ (rval vs6 vp6 D6) rfl hS0 rfl ?_ ?_
      · rintro w' ⟨hS1, hS2⟩; exact run_load_quiet 30 _ w' rfl w.heap.size 0 rfl _ hS1 Try.row30 Try.size30
      simp only [Act.put, List.setIfInBounds_toArray, List.set_cons_zero, List.set_cons_succ]
      refine ord_quietL _ (jval f gen cnt) rfl hS0 rfl ?_ ?_
      · rintro w' ⟨hS1, hS2⟩; exact run_load_quiet 36 _ w' rfl (w.heap.size + 1) 0 rfl _ hS2 Try.rowJ Try.sizeJ
      simp only [Act.put, List.setIfInBounds_toArray, List.set_cons_zero, List.set_cons_succ]
      refine ord_quietL _ ?_ rfl hS0 rfl ?_ ?_
      rotate_left
      · rintro w' ⟨hS1, hS2⟩; go_simp; rfl
      simp only [Act.put, List.setIfInBounds_toArray, List.set_cons_zero, List.set_cons_succ]
      obtain ⟨hv6, hS', hv7, hres6, hres7, hnE, hGE, hS2'⟩ := hA.drew.fin
      have hone := ref_one hA.ref
      clear hA hS0
      generalize W5.drew = Wd at *
      refine ord_actL _ rfl (fun K1 hK1 => ?_)
      go_wp2_with (refine wpList_store_all rfl 30 (.tmp 6) _ rfl (w.heap.size + 2) rfl (rval vs6 vp6 D6) rfl _ rfl _ 30 hv6 res_fit hone Try.size30 ?_)
      refine hK1 _ _ hS' ?_
      clear hK1 K1
      generalize hWe : Wd.setRow (w.heap.size + 2) (rcells vs6 vp6 D6).toArray = We at *
      refine ord_actL _ rfl (fun K1 hK1 => ?_)
      go_wp2_with (refine wpList_store_all rfl 36 (.tmp 7) _ rfl (w.heap.size + 3) rfl (jval f gen cnt) rfl _ rfl _ 36 hv7 rfl (j_one f gen cnt) Try.sizeJ ?_)
      refine hK1 _ _ hS2' ?_
      clear hK1 K1 hS' hS2'
      refine ord_tail ?_
      simp only [List.drop_succ_cons, List.drop_zero]
      go_wp2
      refine bodyPost_ret (results_cell3 rfl _ (w.heap.size + 2) (w.heap.size + 3) _ _ (rval vs6 vp6 D6) (jval f gen cnt) rfl rfl rfl rfl (range_all hres6) (range_all hres7) Try.row30 Try.size30 Try.rowJ Try.sizeJ) rfl ?_
      rw [← hR.out, HE.out]
      exact ⟨vs6, vp6, by rw [show addN cnt (D6, ev).2 = cnt from if_neg h0]; rfl, hGE, hnE⟩
    subst h0
    have hcI : (cnt : Int) < 4 := by omega
    have j2 : W5.cell? ⟨w.heap.size + 1, 2, none⟩ = some (.int .i64 (cnt : Int)) := cell_blk hA.v4 rfl
    have z2 : W5.frozen? ⟨w.heap.size + 1, 2, none⟩ = false := free_blk hA.v4
    have hA := hA.next
    have HE : Hid (R = (D6, 0)) := hRR
    go_wp2_with (refine wpList_store_all rfl 30 (.tmp 3) _ rfl w.heap.size rfl (rval vs6 vp6 D6) rfl _ rfl _ 30 hv34 rfl hone4 Try.size30 ?_; rw [hW5.out])
    generalize W5.setCell ⟨w.heap.size + 1, 2, none⟩ (.int .i64 ((cnt : Int) + 1)) = W10 at *

    have hS0 : (fun w' : World => w'.rangeAt w.heap.size 0 (rcells vs6 vp6 D6) ∧ w'.rangeAt (w.heap.size + 1) 0 (jcells f gen (cnt + 1))) W10.drew := ⟨(World.rangeAt_drew ..).2 (range_all hA.v3), (World.rangeAt_drew ..).2 (range_all hA.v4)⟩
    refine wp_region_ord [] 3 [(0, true), (1, true), (2, false)] (fun w' : World => w'.rangeAt w.heap.size 0 (rcells vs6 vp6 D6) ∧ w'.rangeAt (w.heap.size + 1) 0 (jcells f gen (cnt + 1))) (by kernel_rfl) (by kernel_rfl) ?_
    refine ord_quietL _ (rval vs6 vp6 D6) rfl hS0 rfl ?_ ?_
    · rintro w' ⟨hS1, hS2⟩; exact run_load_quiet 30 _ w' rfl w.heap.size 0 rfl _ hS1 Try.row30 Try.size30
    simp only [Act.put, List.setIfInBounds_toArray, List.set_cons_zero, List.set_cons_succ]
    refine ord_quietL _ (jval f gen (cnt + 1)) rfl hS0 rfl ?_ ?_
    · rintro w' ⟨hS1, hS2⟩; exact run_load_quiet 36 _ w' rfl (w.heap.size + 1) 0 rfl _ hS2 Try.rowJ Try.sizeJ
    simp only [Act.put, List.setIfInBounds_toArray, List.set_cons_zero, List.set_cons_succ]
    obtain ⟨hv6, hS', hv7, hres6, hres7, hnE, hGE, hS2'⟩ := hA.drew.fin
    have hone := ref_one hA.ref
    clear hA hS0
    generalize W10.drew = Wd at *
    refine ord_actL _ rfl (fun K1 hK1 => ?_)
    go_wp2_with (refine wpList_store_all rfl 30 (.tmp 6) _ rfl (w.heap.size + 2) rfl (rval vs6 vp6 D6) rfl _ rfl _ 30 hv6 res_fit hone Try.size30 ?_)
    refine hK1 _ _ hS' ?_
    clear hK1 K1
    clear hS' hS2'
    refine ord_tail ?_
    simp only [List.drop_succ_cons, List.drop_zero]
    generalize hWe : Wd.setRow (w.heap.size + 2) (rcells vs6 vp6 D6).toArray = We at *
    go_wp2_with (refine wpList_store_all rfl 36 (.tmp 7) _ rfl (w.heap.size + 3) rfl (jval f gen (cnt + 1)) rfl _ rfl _ 36 hv7 rfl (j_one f gen (cnt + 1)) Try.sizeJ ?_)
    refine bodyPost_ret (results_cell3 rfl _ (w.heap.size + 2) (w.heap.size + 3) _ _ (rval vs6 vp6 D6) (jval f gen (cnt + 1)) rfl rfl rfl rfl (range_all hres6) (range_all hres7) Try.row30 Try.size30 Try.rowJ Try.sizeJ) rfl ?_
    rw [← hR.out, HE.out]
    exact ⟨vs6, vp6, rfl, hGE, hnE⟩
end Go.Proofs.Ytihdhlciblkbiaa

namespace Go.Proofs.Ytihdhlciblkbiaa
set_option linter.unusedVariables false
set_option linter.unusedSimpArgs false
set_option maxRecDepth 20000
open Go.RowKit

structure Same (D R : Dk) : Prop where
  st : R.st = D.st
  pd : R.pd = D.pd
  dead : R.dead = D.dead
  left : R.left = D.left ∨ (R.left < 0 ∧ D.left < 0)

theorem Same.has {D R : Dk} (h : Same D R) (i : Int) : R.has i = D.has i := by unfold Dk.has; rw [h.st]
theorem Same.get {D R : Dk} (h : Same D R) (i : Int) : R.get i = D.get i := by unfold Dk.get; rw [h.has, h.st]
theorem Same.read {D R : Dk} (h : Same D R) (i : Int) : R.read i = D.read i := by unfold Dk.read Dk.last; rw [h.has, h.st, h.pd]
theorem Same.rerr {D R : Dk} (h : Same D R) (i : Int) : R.rerr i = D.rerr i := by unfold Dk.rerr; rw [h.has]
theorem Same.out {D R : Dk} (h : Same D R) : R.out = D.out := by
  unfold Dk.out
  rw [h.dead]
  congr 1
  rcases h.left with e | ⟨e1, e2⟩
  · rw [e]
  · have h1 : (R.left == 0) = false := by simp; omega
    have h2 : (D.left == 0) = false := by simp; omega
    rw [h1, h2]

theorem Same.spend {D R : Dk} (h : Same D R) : Same D.spend R.spend := by
  refine ⟨by rw [(spend_st R).1, (spend_st D).1]; exact h.st, by rw [(spend_st R).2, (spend_st D).2]; exact h.pd, ?_, ?_⟩
  · by_cases ho : D.out = true
    · rw [Dk.spend_out ho, Dk.spend_out (h.out.trans ho)]
    · have ho : D.out = false := by simpa using ho
      rw [Dk.spend_in ho, Dk.spend_in (h.out.trans ho)]
      exact h.dead
  · by_cases ho : D.out = true
    · rw [Dk.spend_out ho, Dk.spend_out (h.out.trans ho)]
      exact h.left
    · have ho : D.out = false := by simpa using ho
      rw [Dk.spend_in ho, Dk.spend_in (h.out.trans ho)]
      show (if 0 < R.left then R.left - 1 else R.left) = (if 0 < D.left then D.left - 1 else D.left) ∨ ((if 0 < R.left then R.left - 1 else R.left) < 0 ∧ (if 0 < D.left then D.left - 1 else D.left) < 0)
      rcases h.left with e | ⟨e1, e2⟩
      · rw [e]; exact .inl rfl
      · rw [if_neg (by omega), if_neg (by omega)]; exact .inr ⟨e1, e2⟩

theorem Same.werr {D R : Dk} (h : Same D R) (i : Int) : R.werr i = D.werr i := by unfold Dk.werr; rw [h.has, h.out]
theorem Same.ferr {D R : Dk} (h : Same D R) : R.ferr = D.ferr := by unfold Dk.ferr; rw [h.out]

theorem Same.write {D R : Dk} (h : Same D R) (i : Int) (s : List UInt8) : Same (D.write i s) (R.write i s) := by
  unfold Dk.write
  rw [h.has, h.out]
  split
  · split
    · exact h.spend
    · exact ⟨h.spend.st, by show R.pd ++ _ = D.pd ++ _; rw [h.pd], h.spend.dead, h.spend.left⟩
  · exact h

theorem Same.flush {D R : Dk} (h : Same D R) : Same D.flush R.flush := by
  unfold Dk.flush
  rw [h.out]
  split
  · exact h.spend
  · exact ⟨by show applied R.st R.pd = applied D.st D.pd; rw [h.st, h.pd], rfl, h.spend.dead, h.spend.left⟩

theorem Same.crash {D R : Dk} (h : Same D R) (keep : List Bool) (torn cut : Int) : Same (D.crash keep torn cut) (R.crash keep torn cut) :=
  ⟨by show crashN R.st R.pd _ R.pd.length = crashN D.st D.pd _ D.pd.length; rw [h.st, h.pd], rfl, rfl, .inl rfl⟩

theorem Same.brk {D R : Dk} (h : Same D R) (n : Int) : Same (D.brk n) (R.rbrk n) := by
  refine ⟨h.st, h.pd, h.dead, ?_⟩
  show (if n < 0 then (-1 : Int) else n) = n ∨ ((if n < 0 then (-1 : Int) else n) < 0 ∧ n < 0)
  split
  · exact .inr ⟨by omega, by assumption⟩
  · exact .inl rfl

theorem same_new (n : Int) : Same (newDk n) (newDk n) := ⟨rfl, rfl, rfl, .inl rfl⟩


def SameR (r s : Dk × Int) : Prop := Same r.1 s.1 ∧ s.2 = r.2

theorem SameR.step {r s : Dk × Int} (h : SameR r s) {g : Dk → Dk × Int} (hg : ∀ D R, Same D R → SameR (g D) (g R)) : SameR (stepE r g) (stepE s g) := by
  unfold stepE
  rw [h.2]
  split
  · exact hg _ _ h.1
  · exact h

theorem same_wr (i : Int) (t : List UInt8) (D R : Dk) (h : Same D R) : SameR (Dk.wr i t D) (Dk.wr i t R) := ⟨h.write i t, h.werr i⟩
theorem same_fl (D R : Dk) (h : Same D R) : SameR (Dk.fl D) (Dk.fl R) := ⟨h.flush, h.ferr⟩

theorem same_wrs {D R : Dk} (h : Same D R) (a : Nat) (xs : List UInt8) (k : Nat) : SameR (D.wrs a xs k) (R.wrs a xs k) := by
  induction k with
  | zero => exact ⟨h, rfl⟩
  | succ k ih => exact ih.step (same_wr _ _)

theorem same_add {D R : Dk} (h : Same D R) (f gen cnt : Nat) (xs : List UInt8) : SameR (D.add f gen cnt xs) (R.add f gen cnt xs) := by
  unfold Dk.add
  split
  · exact ⟨h, rfl⟩
  · split
    · exact ⟨h, rfl⟩
    · exact (((same_wrs h _ xs _).step same_fl).step (same_wr _ _)).step same_fl

theorem same_bytes {D R : Dk} (h : Same D R) (a k : Nat) : R.bytesAt a k = D.bytesAt a k := by
  induction k with
  | zero => rfl
  | succ k ih =>
    show R.bytesAt a k ++ R.read _ = D.bytesAt a k ++ D.read _
    rw [ih, h.read]

theorem same_rec {D R : Dk} (h : Same D R) (f gen p : Nat) : R.recAt f gen p = D.recAt f gen p := by
  unfold Dk.recAt Dk.recB
  simp only [h.read, same_bytes h]

theorem same_scanF {D R : Dk} (h : Same D R) (f gen : Nat) : ∀ n p, R.scanF f gen n p = D.scanF f gen n p
  | 0, _ => rfl
  | n + 1, p => by
    unfold Dk.scanF
    rw [same_rec h]
    cases D.recAt f gen p with
    | none => rfl
    | some b => simp only [same_scanF h f gen n (p + 1)]

theorem same_scan {D R : Dk} (h : Same D R) (f gen : Nat) : R.scan f gen = D.scan f gen := same_scanF h f gen 4 0

/-- What a round of JournalRuns keeps: the program's disk at b and journal at j; the document's disk in the variable F, its journal in the variable G. -/
structure Rj (base : Nat) (w wr : World) (b F G : Nat) (S : Nat → Prop) (D R : Dk) (vs vp : Value) (j f gen cnt genK cntK : Nat) : Prop where
  dk : DiskAt base wr b S D
  jr : JrAt wr j b f gen cnt
  rb : wr.heap[F]? = some (.cells (rcells vs vp R).toArray 30 (0, 0))
  kb : wr.heap[G]? = some (.cells (jcells f genK cntK).toArray 36 (0, 0))
  rg : RefG (fun k => ¬ S k ∧ k ≠ F ∧ k ≠ G ∧ k ≠ j) wr vs vp R
  nw : Nw w wr
  bs : w.heap.size ≤ base
  nS : ¬ S F ∧ ¬ S G ∧ ¬ S j
  ne : F ≠ G ∧ F ≠ j ∧ G ≠ j
  le : w.heap.size ≤ F ∧ w.heap.size ≤ G ∧ w.heap.size ≤ j

section
variable {base : Nat} {w wr w1 : World} {b F G : Nat} {S S' : Nat → Prop} {D D' R R' : Dk} {vs vp vs' vp' : Value} {j f gen cnt genK cntK : Nat}

theorem Rj.keep (h : Rj base w wr b F G S D R vs vp j f gen cnt genK cntK) (hn : Nw wr w1) : Rj base w w1 b F G S D R vs vp j f gen cnt genK cntK :=
  ⟨h.dk.keep hn (fun _ _ => id), h.jr.nw hn, (hn.block _ (heap_lt h.rb) id).trans h.rb, (hn.block _ (heap_lt h.kb) id).trans h.kb, h.rg.nw hn, h.nw.trans hn, h.bs, h.nS, h.ne, h.le⟩

/-- The program's side moves on. -/
theorem Rj.mv (h : Rj base w wr b F G S D R vs vp j f gen cnt genK cntK) {T : Nat → Prop} {cnt' : Nat} (hf : Fr T wr w1) (hT : ∀ k, T k → S k ∨ k = j) (hd : DiskAt base w1 b S' D') (hS : ∀ k, S' k → S k ∨ wr.heap.size ≤ k) (hj : JrAt w1 j b f gen cnt') :
    Rj base w w1 b F G S' D' R vs vp j f gen cnt' genK cntK := by
  have hF := heap_lt h.rb
  have hG := heap_lt h.kb
  have hJ := heap_lt h.jr.blk
  have nT : ∀ k, ¬ S k → k ≠ j → ¬ T k := fun k h1 h2 h3 => (hT k h3).elim h1 h2
  have nS : ∀ k, k < wr.heap.size → ¬ S k → ¬ S' k := fun k h1 h2 h3 => (hS k h3).elim h2 (fun h => by omega)
  refine ⟨hd, hj, (hf.block F hF (nT F h.nS.1 h.ne.2.1)).trans h.rb, (hf.block G hG (nT G h.nS.2.1 h.ne.2.2)).trans h.kb, h.rg.keep (fun k hk hl => ⟨⟨nS k hl hk.1, hk.2⟩, hf.block k hl (nT k hk.1 hk.2.2.2)⟩), Fr.trans h.nw hf (fun k hk => .inr ?_), h.bs, ⟨nS F hF h.nS.1, nS G hG h.nS.2.1, nS j hJ h.nS.2.2⟩, h.ne, h.le⟩
  rcases hT k hk with h1 | h1
  · exact Nat.le_trans h.bs (h.dk.ge k h1).1
  · have := h.le.2.2; omega

theorem Rj.done (h : Rj base w wr b F G S D R vs vp j f gen cnt genK cntK) (hd : Done base wr b S D' w1) : ∃ S', Rj base w w1 b F G S' D' R vs vp j f gen cnt genK cntK := by
  obtain ⟨S', hD, hf, hS⟩ := hd
  exact ⟨S', h.mv hf (fun k hk => .inl hk) hD hS (h.jr.fr hf h.nS.2.2)⟩

/-- The document's disk moves on. -/
theorem Rj.setF (h : Rj base w wr b F G S D R vs vp j f gen cnt genK cntK) (hn : Nw wr w1) (hX : RefG (fun k => (¬ S k ∧ k ≠ F ∧ k ≠ G ∧ k ≠ j) ∨ wr.heap.size ≤ k) w1 vs' vp' R') : Rj base w (w1.setRow F (rcells vs' vp' R').toArray) b F G S D R' vs' vp' j f gen cnt genK cntK := by
  have h1 := h.keep hn
  have hF := heap_lt h.rb
  have hG := heap_lt h.kb
  have hJ := heap_lt h.jr.blk
  have hT : Fr (fun k => k = F) w1 (w1.setRow F (rcells vs' vp' R').toArray) := (Fr.refl (fun k => k = F) w1).setRow (.inl rfl) _
  have hP : ∀ k, ((¬ S k ∧ k ≠ F ∧ k ≠ G ∧ k ≠ j) ∨ wr.heap.size ≤ k) → (¬ S k ∧ k ≠ F ∧ k ≠ G ∧ k ≠ j) := fun k hk => hk.elim id (fun hk => ⟨fun hs => by have := (h.dk.ge k hs).2; omega, by omega, by omega, by omega⟩)
  exact ⟨h1.dk.keep hT (fun k hk e => h.nS.1 (e ▸ hk)), h1.jr.fr hT (fun e => h.ne.2.1 e.symm), setRow_heap _ _ _ _ 30 _ h1.rb, (hT.block _ (heap_lt h1.kb) (fun e => h.ne.1 e.symm)).trans h1.kb, hX.keep (fun k hk hl => ⟨hP k hk, hT.block k hl (hP k hk).2.1⟩),
    Fr.trans h1.nw hT (fun k e => .inr (by have := h.le.1; omega)), h.bs, h.nS, h.ne, h.le⟩

/-- The document's journal moves on. -/
theorem Rj.setG (h : Rj base w wr b F G S D R vs vp j f gen cnt genK cntK) (gen' cnt' : Nat) : Rj base w (wr.setRow G (jcells f gen' cnt').toArray) b F G S D R vs vp j f gen cnt gen' cnt' := by
  have hT : Fr (fun k => k = G) wr (wr.setRow G (jcells f gen' cnt').toArray) := (Fr.refl (fun k => k = G) wr).setRow (.inl rfl) _
  exact ⟨h.dk.keep hT (fun k hk e => h.nS.2.1 (e ▸ hk)), h.jr.fr hT (fun e => h.ne.2.2 e.symm), (hT.block _ (heap_lt h.rb) h.ne.1).trans h.rb, setRow_heap _ _ _ _ 36 _ h.kb, h.rg.keep (fun k hk hl => ⟨hk, hT.block k hl hk.2.2.1⟩),
    Fr.trans h.nw hT (fun k e => .inr (by have := h.le.2.1; omega)), h.bs, h.nS, h.ne, h.le⟩

/-- Another journal. -/
theorem Rj.newJ (h : Rj base w wr b F G S D R vs vp j f gen cnt genK cntK) {gen' : Nat} (hn : Nw wr w1) (hj : JrAt w1 wr.heap.size b f gen' 0) : Rj base w w1 b F G S D R vs vp wr.heap.size f gen' 0 genK cntK := by
  have h1 := h.keep hn
  have hF := heap_lt h.rb
  have hG := heap_lt h.kb
  exact ⟨h1.dk, hj, h1.rb, h1.kb, h.rg.keep (fun k hk hl => ⟨⟨hk.1, hk.2.1, hk.2.2.1, by omega⟩, hn.block k hl id⟩), h1.nw, h.bs, ⟨h.nS.1, h.nS.2.1, fun hs => by have := (h.dk.ge _ hs).2; omega⟩, ⟨h.ne.1, by omega, by omega⟩, ⟨h.le.1, h.le.2.1, h.nw.size⟩⟩
end

theorem Try.rowA : (Try.prog.underlying 40).map TypeDesc.isRow = some true := by kernel_rfl

theorem Try.sizeA (a : JAct) : (Try.prog.info? 40).map (·.size) = some (jacell a).length := by
  have : (Try.prog.info? 40).map (·.size) = some 5 := by kernel_rfl
  rw [this]
  rfl

def zact : JAct := ⟨0, 0, 0, [], .slice none 0 0, [], .slice none 0 0⟩

theorem Try.zeroA : (Try.prog.info? 40).bind (·.zero) = some (.agg (jacell zact).toArray) := by kernel_rfl

theorem a_one {K : Nat} {w : World} {a : JAct} (h : a.Ok K w) : ∀ u ∈ jacell a, u.oneCell' = true := by
  obtain ⟨to, tc, e1⟩ := sl_form h.t
  obtain ⟨ko, kc, e2⟩ := sl_form h.s
  intro u hu
  simp only [jacell, e1, e2, List.mem_cons, List.not_mem_nil, or_false] at hu
  rcases hu with rfl | rfl | rfl | rfl | rfl <;> rfl

theorem Try.builtJ (f gen : Nat) : Try.prog.built 36 [(0, .int .i64 (f : Int)), (1, .int .u64 (gen : Int))] = some (jcells f gen 0).toArray := by
  have h : ∀ parts, Try.prog.built 36 parts = Instr.fill (fun i => #[(0, 1), (1, 1), (2, 1)][i]?) (jcells 0 0 0).toArray parts := fun parts => by kernel_rfl
  rw [h, fill_cons _ _ 0 _ [.int .i64 (f : Int)] 0 _ rfl rfl (by simp [jcells]), fill_cons _ _ 1 _ [.int .u64 (gen : Int)] 1 _ rfl rfl (by simp [jcells, splice])]
  simp [Instr.fill, splice, jcells]

theorem info_bool : ∃ i, Try.prog.info? 4 = some i ∧ i.zero = some (.bool false) ∧ i.size = 1 ∧ i.bytes = 1 := by
  have h : (Try.prog.info? 4).map (fun i => (i.zero, i.size, i.bytes)) = some (some (.bool false), 1, 1) := by kernel_rfl
  cases hq : Try.prog.info? 4 with
  | none => rw [hq] at h; cases h
  | some i =>
    rw [hq] at h
    simp only [Option.map_some, Option.some.injEq, Prod.mk.injEq] at h
    exact ⟨i, rfl, h.1, h.2.1, h.2.2⟩

theorem copy_slpB {W2 : World} {v : Value} {ks : List Bool} {B : Nat} {S : Nat → Prop} (ho : W2.ownsRow B 4 1 v ks.length (ks.map Value.bool)) (hS : ∀ k, S k → k < B) : Slp (fun k => ¬ S k) W2 v ks.length (ks.map Value.bool) :=
  (slp_of_owns ho).keep (fun b hb => ⟨fun h => by have := hS b h; have := (ho.lt b hb).1; omega, rfl⟩)

theorem bool_oneCell (ks : List Bool) : ∀ u ∈ ks.map Value.bool, u.oneCell' = true := by
  intro u hu
  obtain ⟨x, _, rfl⟩ := List.mem_map.1 hu
  rfl

theorem copy_slp {w W2 : World} {v : Value} {xs : List UInt8} {B : Nat} {S : Nat → Prop} (ho : W2.ownsRow B 5 1 v xs.length (xs.map bv)) (hS : ∀ k, S k → k < B) : Slp (fun k => ¬ S k) W2 v xs.length (xs.map bv) :=
  (slp_of_owns ho).keep (fun b hb => ⟨fun h => by have := hS b h; have := (ho.lt b hb).1; omega, rfl⟩)

theorem scanF_le (D : Dk) (f gen : Nat) : ∀ n p, (D.scanF f gen n p).length ≤ n
  | 0, _ => Nat.le_refl _
  | n + 1, p => by
    unfold Dk.scanF
    cases D.recAt f gen p with
    | none => simp
    | some b => have := scanF_le D f gen n (p + 1); simp; omega

theorem scan_le (D : Dk) (f gen : Nat) : (D.scan f gen).length ≤ 4 := scanF_le D f gen 4 0

theorem Rj.chk {base : Nat} {w wr : World} {b F G : Nat} {S : Nat → Prop} {D R : Dk} {vs vp : Value} {j f gen cnt genK cntK : Nat} (h : Rj base w wr b F G S D R vs vp j f gen cnt genK cntK) :
    wr.rangeAt F 0 (rcells vs vp R) ∧ wr.cell? ⟨G, 1, none⟩ = some (.int .u64 (genK : Int)) ∧ wr.cell? ⟨G, 2, none⟩ = some (.int .i64 (cntK : Int)) := ⟨range_all h.rb, cell_blk h.kb rfl, cell_blk h.kb rfl⟩
end Go.Proofs.Ytihdhlciblkbiaa
