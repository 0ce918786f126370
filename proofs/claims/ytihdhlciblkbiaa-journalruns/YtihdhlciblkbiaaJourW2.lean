/-
  Package journal: headOf.
-/
import Derived.Test.YtihdhlciblkbiaaJourW1
import Derived.Test.YtihdhlciblkbiaaSealW4
namespace Go.Proofs.Ytihdhlciblkbiaa
set_option linter.unusedVariables false
set_option linter.unusedSimpArgs false
set_option maxRecDepth 20000
open Go.RowKit

theorem nw_of_below {w w' : World} (h : Below w.heap.size w w') : Nw w w' := fr_of_below h
theorem below_of_nw {w w' : World} (h : Nw w w') : Below w.heap.size w w' := Fr.below h (Nat.le_refl _) (fun _ => False.elim)

set_option maxHeartbeats 1600000 in
theorem c_headOf {j b f gen cnt K : Nat} {xs : List UInt8} {v : Value} (w : World) (h : JrAt w j b f gen cnt) (hs : Sl K w v xs.length (xs.map bv)) (hK : K ≤ w.heap.size) (hl : xs.length ≤ 384) :
    Calls Try.prog 30 #[.pointer (some ⟨j, 0, none⟩), v] w fun e w' => e = .returned (sec (hdSec gen cnt xs)) ∧ Nw w w' := by
  obtain ⟨ao, cap, rfl⟩ := sl_form hs
  have hst := OpAt.start w z128
  generalize hW : w.alloc (.cells (z128.map bv).toArray 55) = W at *
  have hW : Hid (w.alloc (.cells (z128.map bv).toArray 55) = W) := hW
  have hs1 := (hs.keep (hst.bel.mono hK)).mono (Nat.le_trans hK hst.bel.size)
  have hj1 := h.nw (nw_of_below hst.bel)
  have hiw : (xs.length : Int) % 18446744073709551616 = (xs.length : Int) := by omega
  have hpt := parts_one (n := W.heap.size) 37 hs1 (Nat.le_refl _) (by omega) rfl
  have hb2 : Below W.heap.size W (W.alloc (.cells #[.slice ao xs.length cap] 37)) := (Below.refl _ _).alloc (Nat.le_refl _) _
  have hat2 := hst.keep hb2
  have hj2 := hj1.nw (nw_of_below hb2)
  clear hs h hst hj1
  go_enter Try.func30, Try.ntmps30
  go_wp2_with (first
    | (refine wpList_alloc_agg rfl 55 rfl _ Try.zeroS ?_; rw [hW.out])
    | (go_at_call 46; refine stop_here ?_))
  unfold Hid
  refine (c_sum _ _ [xs] _ hpt (by simp)).mono ?_
  rintro e w6 ⟨rfl, rfl⟩
  have hcs : Hid (∃ c : BitVec 32, crcSum [xs] = c ∧ c.toNat = (crcAdd 0#32 xs).toNat) := ⟨_, rfl, rfl⟩
  obtain ⟨c, hc1, hc2⟩ := hcs.out
  rw [hc1]
  have hc2 : Hid (c.toNat = (crcAdd 0#32 xs).toNat) := hc2
  have hc3 : c.toNat < 4294967296 := c.isLt
  have hcw : IntKind.u64.wrap (tn c) = tn c := by rw [IntKind.wrap_u64]; have := tn_lo c; have := tn_hi c; omega
  have hcm : tn c % 18446744073709551616 = tn c := by have := tn_lo c; have := tn_hi c; omega
  clear hcs hc1 hpt hb2
  generalize W.alloc (.cells #[.slice ao xs.length cap] 37) = W2 at *
  go_wp2_with (go_at_call 45; refine stop_here ?_)
  unfold Hid
  have hbk3 : (W2.alloc (.cells #[.int .u64 (xs.length : Int), .slice none 0 0, .int .u64 (tn c), .slice none 0 0] 79)).heap[W2.heap.size]? = some (.cells (pcells2 xs.length c.toNat) 79 (0, 0)) := heap_alloc_new W2 _
  have hb3 : Below W2.heap.size W2 (W2.alloc (.cells #[.int .u64 (xs.length : Int), .slice none 0 0, .int .u64 (tn c), .slice none 0 0] 79)) := (Below.refl _ _).alloc (Nat.le_refl _) _
  have hf3 := pk_fields (heap_lt hbk3) (show xs.length < 18446744073709551616 by omega) (show c.toNat < 18446744073709551616 by omega) hbk3
  have hat3 := hat2.keep hb3
  have hj3 := hj2.nw (nw_of_below hb3)
  clear hbk3 hb3 hat2 hj2
  generalize W2.alloc (.cells #[.int .u64 (xs.length : Int), .slice none 0 0, .int .u64 (tn c), .slice none 0 0] 79) = W3 at *
  refine (c_pack ⟨#[50, 52]⟩ _ _ _ _ (by decide) (by unfold maxLen; simp) hf3 (Nat.le_refl _)).mono ?_
  have hpk : pack (⟨#[50, 52]⟩ : ByteArray).data.toList [⟨xs.length, []⟩, ⟨c.toNat, []⟩] = some (hdBody xs) := by
    rw [show (⟨#[50, 52]⟩ : ByteArray).data.toList = [50, 52] from rfl, hdBody, ← hc2.out]
    exact pack24 _ _ (by omega) hc3
  rintro e W4 ⟨hb4, ⟨zs, v4, hz, rfl, hs4⟩ | ⟨hz, -⟩⟩
  case inr => rw [hpk] at hz; cases hz
  obtain rfl : hdBody xs = zs := Option.some.inj (hpk.symm.trans hz)
  obtain ⟨ao4, cap4, rfl⟩ := sl_form hs4
  have hat4 := hat3.keep hb4
  have hj4 := hj3.nw (nw_of_below hb4)
  clear hz hpk hf3 hat3 hj3 hb4 hc2 hc3 hcw hcm hiw
  go_wp2_with (go_at_call 48; refine stop_here ?_)
  unfold Hid
  refine (c_mark _ hj4).mono ?_
  rintro e W5 ⟨rfl, hn5⟩
  have hb5 := below_of_nw hn5
  have hs5 := (hs4.keep hb5).mono hb5.size
  have hat5 := hat4.keep hb5
  have hmk := hdMark_lt hj4.gl hj4.cl
  clear hs4 hn5 hb5 hat4 hj4
  go_wp2_with (go_at_call 47; refine stop_here ?_)
  unfold Hid
  refine (c_make (hdMark gen cnt) _ (hdBody xs) _ _ hmk hs5 (Nat.le_refl _) (by rw [hdBody_length]; omega)).mono ?_
  rintro e W6 ⟨rfl, hb6⟩
  have hat6 := hat5.keep hb6
  have hlen := mkS_length (hdMark gen cnt) (hdBody xs)
  have hE : mkE (hdMark gen cnt) (hdBody xs) = 0 := by unfold mkE; rw [if_pos (hd_ok gen cnt xs)]
  have hR : Hid (hdSec gen cnt xs = mkS (hdMark gen cnt) (hdBody xs)) := rfl
  rw [hE]
  clear hE hs5 hb6 hat5 hmk
  generalize mkS (hdMark gen cnt) (hdBody xs) = L at *
  have hmd := made W6
  have hb7 : Below W6.heap.size W6 ((W6.alloc (.cells (z128.map bv).toArray 55)).setRow W6.heap.size (L.map bv).toArray) := below_of_nw (hmd.fin L)
  have hrow := hmd.row L
  have hat7 := hat6.keep hb7
  clear hb7 hat6
  generalize hW7 : (W6.alloc (.cells (z128.map bv).toArray 55)).setRow W6.heap.size (L.map bv).toArray = W7 at *
  have hW7 : Hid ((W6.alloc (.cells (z128.map bv).toArray 55)).setRow W6.heap.size (L.map bv).toArray = W7) := hW7
  have hfin : Below w.heap.size w (W7.setRow w.heap.size (L.map bv).toArray) := below_setRow hat7.bel (Nat.le_refl _) _
  have hres := setRow_heap W7 w.heap.size _ (L.map bv).toArray 55 _ hat7.blk
  go_wp2_with (first
    | (refine wpList_alloc_agg rfl 55 rfl _ Try.zeroS ?_)
    | (refine wpList_store_all rfl 55 (.tmp 7) _ rfl W6.heap.size rfl (sec L) rfl _ rfl _ 55 hmd.new (sec_fit hlen) (bv_oneCell _) (sizeS hlen) ?_; rw [hW7.out])
    | (refine wpList_load_as rfl 55 (.tmp 7) rfl W6.heap.size 0 rfl (sec L) _ rfl hrow Try.rowS (sizeS hlen) ?_)
    | (refine wpList_store_all rfl 55 (.tmp 4) _ rfl w.heap.size rfl (sec L) rfl _ rfl _ 55 hat7.blk (sec_fit hlen) (bv_oneCell _) (sizeS hlen) ?_))
  refine bodyPost_ret (results_cell1 rfl _ w.heap.size _ _ rfl rfl (range_all hres) Try.rowS (sizeS hlen)) rfl ?_
  rw [hR.out]
  exact ⟨rfl, nw_of_below hfin⟩
end Go.Proofs.Ytihdhlciblkbiaa
