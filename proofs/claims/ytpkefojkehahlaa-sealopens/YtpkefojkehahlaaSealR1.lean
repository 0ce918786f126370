/-
  The document's Make.
-/
import Derived.Test.YtpkefojkehahlaaSealA1
import Derived.Test.YtpkefojkehahlaaDiskTorn
namespace Go.Proofs.Ytpkefojkehahlaa
set_option linter.unusedVariables false
set_option linter.unusedSimpArgs false
open Go.RowKit

theorem owns_still {w w' : World} {B e size n : Nat} {v : Value} {xs : List Value} (h : w.ownsRow B e size v n xs) (hb : Below w.heap.size w w') : w'.ownsRow B e size v n xs :=
  owns_of_block h (fun k hk => hb.block k (h.lt k hk).2)

/-- What the document's Make keeps: its row of bytes behind its result's variable. -/
structure RkAt (w wr : World) (v : Value) (xs : List UInt8) : Prop where
  own : wr.ownsRow (w.heap.size + 1) 5 1 v xs.length (xs.map bv)
  bel : Below (w.heap.size + 1) (w.alloc (.cells (z128.map bv).toArray 27)) wr

theorem RkAt.size {w wr : World} {v : Value} {xs : List UInt8} (h : RkAt w wr v xs) : w.heap.size + 1 ≤ wr.heap.size := by have := h.bel.size; simpa using this

theorem RkAt.keep {w wr w1 : World} {v : Value} {xs : List UInt8} (h : RkAt w wr v xs) (hb : Below wr.heap.size wr w1) : RkAt w w1 v xs :=
  ⟨owns_still h.own hb, h.bel.trans (hb.mono h.size)⟩

theorem RkAt.alloc {w wr : World} {v : Value} {xs : List UInt8} (h : RkAt w wr v xs) (o : Obj) : RkAt w (wr.alloc o) v xs := h.keep ((Below.refl _ _).alloc (Nat.le_refl _) _)

theorem RkAt.below {w wr : World} {v : Value} {xs : List UInt8} (h : RkAt w wr v xs) : Below w.heap.size w wr :=
  ((Below.refl _ _).alloc (Nat.le_refl _) _).trans (h.bel.mono (by omega))

theorem RkAt.res {w wr : World} {v : Value} {xs : List UInt8} (h : RkAt w wr v xs) : wr.heap[w.heap.size]? = some (.cells (z128.map bv).toArray 27 (0, 0)) :=
  (h.bel.block _ (by omega)).trans (heap_alloc_new w _)

theorem RkAt.grown {w wr w1 : World} {v v1 : Value} {xs ys : List UInt8} {n : Nat} (h : RkAt w wr v xs) (hn : ys.length = n) (ho : w1.ownsRow (w.heap.size + 1) 5 1 v1 (xs.length + n) (xs.map bv ++ ys.map bv)) (hg : wr.grownBy w1 v.ownBlock) : RkAt w w1 v1 (xs ++ ys) :=
  ⟨by subst hn; simpa using ho, h.bel.grown hg h.size (owns_ge h.own)⟩

set_option maxHeartbeats 1600000 in
theorem c_rmake_no (m : Nat) (b : List UInt8) (ao : Option Addr) (cap : Nat) (w : World) (hm : m < 18446744073709551616) (hl : b.length ≤ 140737488355328) (h : ¬ okS m b) :
    Calls Try.prog 12 #[.int .u64 (m : Int), .slice ao b.length cap] w fun e w' => e = .returned (.tuple #[sec z128, .int .i64 51]) ∧ Below w.heap.size w w' := by
  have hmd := made w
  have hfin := hmd.fin z128
  have hrow := hmd.row z128
  generalize hW : w.alloc (.cells (z128.map bv).toArray 27) = W at *
  have hW : Hid (w.alloc (.cells (z128.map bv).toArray 27) = W) := hW
  by_cases h0 : m = 0
  · subst h0
    go_enter Try.func12, Try.ntmps12
    go_wp2_with (first
      | (refine wpList_alloc_agg rfl 27 rfl _ Try.zeroS ?_; rw [hW.out])
      | (refine wpList_build_as rfl 27 #[] rfl (sec z128) _ rfl Try.builtS ?_)
      | (refine wpList_store_all rfl 27 _ _ rfl w.heap.size rfl (sec z128) rfl _ rfl _ 27 hmd.new rfl (bv_oneCell _) (sizeS z128_length) ?_))
    refine bodyPost_ret (results_cell2 rfl _ w.heap.size _ _ rfl rfl hrow Try.rowS (sizeS z128_length)) rfl ?_
    exact ⟨rfl, hfin.below (Nat.le_refl _) (fun _ => False.elim)⟩
  · have hb : 106 < b.length := by unfold okS at h; omega
    have hd0 : ((m : Int) == 0) = false := by rw [beq_eq_false_iff_ne]; omega
    have hd1 : decide (106 < (b.length : Int)) = true := decide_eq_true (by omega)
    go_enter Try.func12, Try.ntmps12
    go_wp2_with (first
      | (refine wpList_alloc_agg rfl 27 rfl _ Try.zeroS ?_; rw [hW.out])
      | (refine wpList_build_as rfl 27 #[] rfl (sec z128) _ rfl Try.builtS ?_)
      | (refine wpList_store_all rfl 27 _ _ rfl w.heap.size rfl (sec z128) rfl _ rfl _ 27 hmd.new rfl (bv_oneCell _) (sizeS z128_length) ?_))
    refine bodyPost_ret (results_cell2 rfl _ w.heap.size _ _ rfl rfl hrow Try.rowS (sizeS z128_length)) rfl ?_
    exact ⟨rfl, hfin.below (Nat.le_refl _) (fun _ => False.elim)⟩

theorem owns_some {w : World} {base e n : Nat} {v : Value} {xs : List Value} (h : w.ownsRow base e 1 v n xs) (hn : 0 < n) : ∃ g cap, v = .slice (some ⟨g, 0, none⟩) n cap ∧ base ≤ g ∧ g < w.heap.size := by
  rcases h.2 with ⟨_, rfl⟩ | ⟨g, cap, cur, rfl, hb, hg, _⟩
  · omega
  · exact ⟨g, cap, rfl, hb, (Array.getElem?_eq_some_iff.1 hg).1⟩

def slen : Value → Nat
  | .slice _ n _ => n
  | _ => 0

/-- The bytes ahead of the zeros. -/
def preS (m : Nat) (b : List UInt8) : List UInt8 := be 8 m ++ be 2 b.length ++ b
theorem preS_length (m : Nat) (b : List UInt8) : (preS m b).length = 10 + b.length := by simp [preS, be_length]; omega
theorem preS_head (m : Nat) (b : List UInt8) (j : Nat) (h : (preS m b ++ List.replicate j 0).length = 116) : preS m b ++ List.replicate j 0 = headS m b := by
  rw [List.length_append, preS_length, List.length_replicate] at h
  unfold preS headS
  rw [show j = 106 - b.length by omega]
  simp

set_option maxRecDepth 20000 in
set_option maxHeartbeats 3200000 in
theorem c_rmake_yes (m K : Nat) (b : List UInt8) (v : Value) (w : World) (hm : m < 18446744073709551616) (hs : Sl K w v b.length (b.map bv)) (hK : K ≤ w.heap.size) (h : okS m b) :
    Calls Try.prog 12 #[.int .u64 (m : Int), v] w fun e w' => e = .returned (.tuple #[sec (sealOf m b), .int .i64 0]) ∧ Below w.heap.size w w' := by
  obtain ⟨i0, hi, hz0, hz1, hz2⟩ := info_parts Try.info5
  obtain ⟨ao, cap, rfl⟩ := sl_form hs
  have hd0 : ((m : Int) == 0) = false := by rw [beq_eq_false_iff_ne]; have := h.1; omega
  have hd1 : decide (106 < (b.length : Int)) = false := decide_eq_false (by have := h.2; omega)
  have hb := h.2
  have hz : (w.alloc (.cells (z128.map bv).toArray 27)).heap.size = w.heap.size + 1 := by simp
  have hbl0 : Hid (Below (w.heap.size + 1) (w.alloc (.cells (z128.map bv).toArray 27)) (w.alloc (.cells (z128.map bv).toArray 27))) := Below.refl _ _
  generalize hW : w.alloc (.cells (z128.map bv).toArray 27) = W at *
  have hW : Hid (w.alloc (.cells (z128.map bv).toArray 27) = W) := hW
  go_enter Try.func12, Try.ntmps12
  go_wp2_with (first
    | (refine wpList_alloc_agg rfl 27 rfl _ Try.zeroS ?_; rw [hW.out])
    | (go_at_call 19; refine stop_here ?_))
  unfold Hid
  refine (c_refNumberO 8 m _ (by omega) hm).mono ?_
  rintro e W1 ⟨v1, rfl, ho1, hb1⟩
  rw [hz] at ho1 hb1
  have hat1 : RkAt w W1 v1 (be 8 m) := ⟨by rw [be_length]; exact ho1, by rw [hW.out]; exact hb1⟩
  obtain ⟨ao1, cap1, rfl⟩ := owns_form ho1
  clear ho1 hb1 hbl0 hz
  go_wp2_with (go_at_call 19; refine stop_here ?_)
  unfold Hid
  refine (c_refNumber 2 b.length _ (by omega) (by omega)).mono ?_
  rw [decide_eq_true (show b.length < 256 ^ 2 by omega)]
  rintro e W2 ⟨v2, rfl, hs2, hb2⟩
  obtain ⟨ao2, cap2, rfl⟩ := sl_form hs2
  have hat2 := hat1.keep hb2
  have ho2 := hat2.own
  rw [be_length] at ho2
  clear hat1 hb2
  go_wp2_with (at_builtin; refine wpList_append_sl _ rfl _ _ 23 rfl (w.heap.size + 1) 5 i0 (.int .u8 0) 1 1 Try.underlying23 hi hz0 hz1 hz2 rfl (by decide) _ _ _ rfl ho2 _ _ 2 _ rfl hs2 (by simp [be_length]) (bv_oneCell _) (by unfold maxLen; omega) (by omega) hat2.size ?_)
  intro v3 W3 ho3 hg3 _
  have hat3 := hat2.grown (be_length 2 b.length) (by rw [be_length]; exact ho3) hg3
  clear ho2 hs2 hat2 ho3 hg3
  obtain ⟨ao3, cap3, rfl⟩ := owns_form hat3.own
  have ho3 := hat3.own
  have hs3 := hs.keep (hat3.below.mono hK)
  have hl3 : (be 8 m ++ be 2 b.length).length = 10 := by simp [be_length]
  have hp3 : Hid (be 8 m ++ be 2 b.length ++ b = preS m b) := rfl
  generalize be 8 m ++ be 2 b.length = X3 at *
  rw [hl3] at ho3 hat3
  have hX3 : Hid (X3.length = 10) := hl3
  rw [hl3]
  clear hl3
  go_wp2_with (at_builtin; refine wpList_append_sl _ rfl _ _ 23 rfl (w.heap.size + 1) 5 i0 (.int .u8 0) 1 1 Try.underlying23 hi hz0 hz1 hz2 rfl (by decide) _ _ _ rfl ho3 _ _ b.length _ rfl hs3 (by simp) (bv_oneCell _) (by unfold maxLen; omega) (by omega) hat3.size ?_)
  intro v4 W4 ho4 hg4 _
  have hat4 := hat3.grown (ys := b) rfl (by rw [hX3.out]; exact ho4) hg4
  rw [hp3.out] at hat4
  clear hs3 hat3 ho3 ho4 hg4 hX3 hp3 hs
  go_wp2
  go_loopw [6] (fun u wr => ∃ (t : Nat) (acc : List UInt8), t ≤ 116 ∧ Hid (acc.length = t) ∧ Hid (∃ j, acc = preS m b ++ List.replicate j 0) ∧ RkAt w wr u acc) (fun u _ => 116 - slen u)
  case atStart => exact ⟨10 + b.length, preS m b, by omega, preS_length m b, ⟨0, by simp⟩, hat4⟩
  case round =>
    obtain ⟨t, acc, ht, hal, hacc, hat⟩ := hrel
    clear hat4
    obtain ⟨ao5, cap5, rfl⟩ := owns_form hat.own
    have ho5 := hat.own
    rw [hal.out] at ho5 hat
    rw [hal.out]
    by_cases hlt : t < 116
    · have hsz := hat.size
      go_wp2_with (at_builtin; refine wpList_append_sl _ rfl _ _ 23 rfl (w.heap.size + 1) 5 i0 (.int .u8 0) 1 1 Try.underlying23 hi hz0 hz1 hz2 rfl (by decide) _ _ _ rfl (ho5.alloc _) _ _ 1 _ rfl (sl_lit wr _ 5 1 (by omega)) rfl ?c1 ?c2 ?c3 ?c4 ?_)
      case c1 => first | rfl | (intro u hu; simp at hu; subst hu; rfl)
      case c2 => unfold maxLen; omega
      case c3 => omega
      case c4 => simp; omega
      intro v6 W6 ho6 hg6 _
      have hat6 := (hat.alloc _).grown (ys := [0]) rfl (by rw [hal.out]; exact ho6) hg6
      have hal6 : Hid ((acc ++ [0]).length = t + 1) := by unfold Hid; rw [List.length_append, hal.out]; rfl
      have hacc6 : Hid (∃ j, acc ++ [0] = preS m b ++ List.replicate j 0) := by
        obtain ⟨j, hj⟩ := hacc.out
        refine ⟨j + 1, ?_⟩
        rw [hj, List.append_assoc, List.replicate_succ']
      generalize acc ++ [0] = acc6 at *
      obtain ⟨ao6, cap6, rfl⟩ := owns_form hat6.own
      have hme : Hid (slen (.slice ao6 acc6.length cap6) = t + 1) := hal6.out
      clear ho6 hg6 ho5 hat
      go_wp2
      go_roundw
      case rel => exact ⟨t + 1, acc6, by omega, hal6, hacc6, hat6⟩
      case measure => rw [hme.out]; show 116 - (t + 1) < 116 - t; omega
    · obtain rfl : t = 116 := by omega
      have hhd : acc = headS m b := by
        obtain ⟨j, hj⟩ := hacc.out
        rw [hj]
        exact preS_head m b j (by rw [← hj]; exact hal.out)
      subst hhd
      clear hlt hacc hal
      have hhl := headS_length (m := m) hb
      have hsl : Sl wr.heap.size wr (.slice ao5 116 cap5) (headS m b).length ((headS m b).map bv) := by rw [hhl]; exact sl_of_owns ho5
      have hsu : Hid (sumS m b = (crcAdd 0#32 (headS m b)).toNat) := rfl
      have hse : Hid (sealOf m b = headS m b ++ be 4 (sumS m b) ++ be 8 m) := by unfold Hid sealOf tailS; rw [List.append_assoc]
      generalize headS m b = H at *
      go_wp2_with (go_at_call 20; refine stop_here ?_)
      unfold Hid
      refine (c_refsum 0#32 _ _ H _ hsl (by omega)).mono ?_
      rintro e w6 ⟨rfl, rfl⟩
      generalize crcAdd 0#32 H = c at *
      have hcw : IntKind.u64.wrap (tn c) = tn c := by rw [IntKind.wrap_u64]; have := tn_lo c; have := tn_hi c; omega
      have hcm : tn c % 18446744073709551616 = tn c := by have := tn_lo c; have := tn_hi c; omega
      have hc3 : c.toNat < 4294967296 := c.isLt
      clear hsl
      go_wp2_with (go_at_call 19; refine stop_here ?_)
      unfold Hid
      refine (c_refNumber 4 c.toNat _ (by omega) (by omega)).mono ?_
      rw [decide_eq_true (show c.toNat < 256 ^ 4 by omega)]
      rintro e W7 ⟨v7, rfl, hs7, hb7⟩
      obtain ⟨ao7, cap7, rfl⟩ := sl_form hs7
      have hat7 := hat.keep hb7
      have ho7 := owns_still ho5 hb7
      clear hat hb7 ho5
      rw [← hsu.out] at hs7
      go_wp2_with (at_builtin; refine wpList_append_sl _ rfl _ _ 23 rfl (w.heap.size + 1) 5 i0 (.int .u8 0) 1 1 Try.underlying23 hi hz0 hz1 hz2 rfl (by decide) _ _ _ rfl ho7 _ _ 4 _ rfl hs7 (by simp [be_length]) (bv_oneCell _) (by unfold maxLen; omega) (by omega) hat7.size ?_)
      intro v8 W8 ho8 hg8 _
      have hat8 := hat7.grown (be_length 4 (sumS m b)) (by rw [hhl]; exact ho8) hg8
      have hl8 : (H ++ be 4 (sumS m b)).length = 120 := by rw [List.length_append, hhl, be_length]
      clear ho7 hs7 hat7 ho8 hg8 hsu hcw hcm hhl
      generalize H ++ be 4 (sumS m b) = X8 at *
      obtain ⟨ao8, cap8, rfl⟩ := owns_form hat8.own
      rw [hl8] at hat8
      have ho8 := hat8.own
      rw [hl8] at ho8
      rw [hl8]
      have HX8 : Hid (X8.length = 120) := hl8
      clear hl8
      go_wp2_with (go_at_call 19; refine stop_here ?_)
      unfold Hid
      refine (c_refNumber 8 m _ (by omega) hm).mono ?_
      rw [decide_eq_true (show m < 256 ^ 8 by omega)]
      rintro e W9 ⟨v9, rfl, hs9, hb9⟩
      obtain ⟨ao9, cap9, rfl⟩ := sl_form hs9
      have hat9 := hat8.keep hb9
      have ho9 := owns_still ho8 hb9
      clear hat8 hb9 ho8
      go_wp2_with (at_builtin; refine wpList_append_sl _ rfl _ _ 23 rfl (w.heap.size + 1) 5 i0 (.int .u8 0) 1 1 Try.underlying23 hi hz0 hz1 hz2 rfl (by decide) _ _ _ rfl ho9 _ _ 8 _ rfl hs9 (by simp [be_length]) (bv_oneCell _) (by unfold maxLen; omega) (by omega) hat9.size ?_)
      intro v10 W10 ho10 hg10 _
      have hat10 := hat9.grown (be_length 8 m) (by rw [HX8.out]; exact ho10) hg10
      rw [← hse.out] at hat10
      clear ho9 hs9 hat9 ho10 hg10 HX8 hse
      have hlen := sealOf_length (m := m) hb
      generalize hL : sealOf m b = L at *
      have HL : Hid (sealOf m b = L) := hL
      clear hL
      obtain ⟨g10, cap10, rfl, -, hg10⟩ := owns_some hat10.own (by omega)
      have ho10 := hat10.own
      rw [hlen] at ho10 hat10
      rw [hlen]
      have hmd := made W10
      have hblk := putS_blk W10 z128
      have hb11 := putS_below W10 z128
      have hW11 : Hid ((W10.alloc (.cells (z128.map bv).toArray 27)).setRow W10.heap.size (z128.map bv).toArray = putS W10 z128) := rfl
      go_wp2_with (first
        | (refine wpList_build_as rfl 27 #[] rfl (sec z128) _ rfl Try.builtS ?_)
        | (refine wpList_alloc_agg rfl 27 rfl _ Try.zeroS ?_)
        | (refine wpList_store_all rfl 27 _ _ rfl W10.heap.size rfl (sec z128) rfl _ rfl _ 27 hmd.new rfl (bv_oneCell _) (sizeS z128_length) ?_; rw [hW11.out]))
      have hal : Try.prog.arrayLen 27 = 128 := by kernel_rfl
      go_loopw [15] (fun i wr => ∃ k : Nat, k ≤ 128 ∧ i = .int .i64 k ∧ wr.heap[W10.heap.size]? = some (.cells ((lay z128 L k).map bv).toArray 27 (0, 0)) ∧ Below W10.heap.size W10 wr) (fun i _ => 128 - (intOf i).toNat)
      case atStart => exact ⟨0, by omega, rfl, by rw [lay_zero]; exact hblk, hb11⟩
      case round =>
        obtain ⟨k, hk, rfl, hblk2, hbk⟩ := hrel
        clear hblk hb11 hW11 hmd
        by_cases hlt : k < 128
        · have hkI : (k : Int) < 128 := by omega
          have hll : (lay z128 L k).length = 128 := lay_length z128_length hlen (by omega)
          have hc1 : wr.cell? ⟨g10, k, none⟩ = some (bv (L[k]'(by omega))) := by
            rw [hbk.cell (p := ⟨g10, k, none⟩) hg10, ho10.cellAt k hlt]
            simp [hlen, hlt]
          have hc0 : wr.cell? ⟨W10.heap.size, k, none⟩ = some (bv ((lay z128 L k)[k]'(by omega))) := cell_blk hblk2 (by simp [hll, hlt])
          have hf0 : wr.frozen? ⟨W10.heap.size, k, none⟩ = false := free_blk hblk2
          have hnx : Hid ((wr.setCell ⟨W10.heap.size, k, none⟩ (bv (L[k]'(by omega)))).heap[W10.heap.size]? = some (.cells ((lay z128 L (k + 1)).map bv).toArray 27 (0, 0)) ∧ Below W10.heap.size W10 (wr.setCell ⟨W10.heap.size, k, none⟩ (bv (L[k]'(by omega))))) := by
            refine ⟨?_, hbk.setCell (Nat.le_refl _) _⟩
            rw [blk_setCell hblk2, ← lay_set z128_length hlen k hlt]; simp
          unfold bv at hc1 hc0 hnx
          generalize L[k]'(by omega) = y at *
          generalize (lay z128 L k)[k]'(by omega) = x at *
          clear hblk2 hbk ho10 hat10
          go_wp2
          go_roundw
          case rel => exact ⟨k + 1, by omega, by go_num, hnx.out.1, hnx.out.2⟩
          case measure => simp [intOf]; omega
        · obtain rfl : k = 128 := by omega
          have e1 : lay z128 L 128 = L := by unfold lay; rw [List.take_of_length_le (by omega), List.drop_eq_nil_of_le (by rw [z128_length]; omega), List.append_nil]
          rw [e1] at hblk2
          have hat11 := hat10.keep hbk
          have hr := range_all hblk2
          have hres := hat11.res
          have hfin : Below w.heap.size w (wr.setRow w.heap.size (L.map bv).toArray) := below_setRow hat11.below (Nat.le_refl _) _
          have hrow := range_all (setRow_heap wr w.heap.size _ (L.map bv).toArray 27 _ hres)
          clear hat10 ho10 hbk hblk2 e1 hat11
          go_wp2_with (first
            | (refine wpList_load_as rfl 27 _ rfl W10.heap.size 0 rfl (sec L) _ rfl hr Try.rowS (sizeS hlen) ?_)
            | (refine wpList_store_all rfl 27 _ _ rfl w.heap.size rfl (sec L) rfl _ rfl _ 27 hres (sec_fit hlen) (bv_oneCell _) (sizeS hlen) ?_))
          refine bodyPost_ret (results_cell2 rfl _ w.heap.size _ _ rfl rfl hrow Try.rowS (sizeS hlen)) rfl ?_
          exact ⟨by rw [HL.out]; rfl, hfin⟩

theorem c_rmake (m K : Nat) (b : List UInt8) (v : Value) (w : World) (hm : m < 18446744073709551616) (hs : Sl K w v b.length (b.map bv)) (hK : K ≤ w.heap.size) (hl : b.length ≤ 140737488355328) :
    Calls Try.prog 12 #[.int .u64 (m : Int), v] w fun e w' => e = .returned (.tuple #[sec (mkS m b), .int .i64 (mkE m b)]) ∧ Below w.heap.size w w' := by
  unfold mkS mkE
  by_cases h : okS m b
  · rw [if_pos h, if_pos h]
    exact c_rmake_yes m K b v w hm hs hK h
  · rw [if_neg h, if_neg h]
    obtain ⟨ao, cap, rfl⟩ := sl_form hs
    exact c_rmake_no m b ao cap w hm hl h
end Go.Proofs.Ytpkefojkehahlaa
