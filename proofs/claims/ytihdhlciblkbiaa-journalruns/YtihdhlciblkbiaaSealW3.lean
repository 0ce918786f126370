/-
  Package seal: Make, where the mark and the body can be.
-/
import Derived.Test.YtihdhlciblkbiaaSealW2
namespace Go.Proofs.Ytihdhlciblkbiaa
set_option linter.unusedVariables false
set_option linter.unusedSimpArgs false
set_option maxRecDepth 20000
open Go.RowKit

set_option maxRecDepth 20000 in
set_option maxHeartbeats 3200000 in
theorem c_make_yes (m K : Nat) (b : List UInt8) (v : Value) (w : World) (hm : m < 18446744073709551616) (hs : Sl K w v b.length (b.map bv)) (hK : K ≤ w.heap.size) (h : okS m b) :
    Calls Try.prog 47 #[.int .u64 (m : Int), v] w fun e w' => e = .returned (.tuple #[sec (sealOf m b), .int .i64 0]) ∧ Below w.heap.size w w' := by
  obtain ⟨ao, cap, rfl⟩ := sl_form hs
  have hd0 : ((m : Int) == 0) = false := by rw [beq_eq_false_iff_ne]; have := h.1; omega
  have hd1 : decide (106 < (b.length : Int)) = false := decide_eq_false (by have := h.2; omega)
  have hb := h.2
  have hal : Try.prog.arrayLen 55 = 128 := by kernel_rfl
  have hst := MkAt.start w
  have hz1 : (w.alloc (.cells (z128.map bv).toArray 55)).heap.size = w.heap.size + 1 := by simp
  generalize hW : (w.alloc (.cells (z128.map bv).toArray 55)).alloc (.cells (z128.map bv).toArray 55) = W at *
  have hW : Hid ((w.alloc (.cells (z128.map bv).toArray 55)).alloc (.cells (z128.map bv).toArray 55) = W) := hW
  go_enter Try.func47, Try.ntmps47
  go_wp2_with (first
    | (refine wpList_alloc_agg rfl 55 rfl _ Try.zeroS ?_; first | rw [hz1, hW.out] | skip))
  simp only [Act.put, List.setIfInBounds_toArray, List.set_cons_zero, List.set_cons_succ]
  refine wp_region_ord [] 7 [(0, true), (1, true), (2, true), (3, true), (4, true), (5, false), (6, false)] (fun _ => True) (by kernel_rfl) (by kernel_rfl) ?_
  refine ord_quietL _ ?_ rfl trivial rfl ?_ ?_
  rotate_left
  · intro w' _; go_simp; rfl
  simp only [Act.put, List.setIfInBounds_toArray, List.set_cons_zero, List.set_cons_succ]
  refine ord_quietL _ ?_ rfl trivial rfl ?_ ?_
  rotate_left
  · intro w' _; go_simp; rfl
  simp only [Act.put, List.setIfInBounds_toArray, List.set_cons_zero, List.set_cons_succ]
  refine ord_quietL _ ?_ rfl trivial rfl ?_ ?_
  rotate_left
  · intro w' _; go_simp; rfl
  simp only [Act.put, List.setIfInBounds_toArray, List.set_cons_zero, List.set_cons_succ]
  refine ord_quietL _ ?_ rfl trivial rfl ?_ ?_
  rotate_left
  · intro w' _; go_simp; rfl
  simp only [Act.put, List.setIfInBounds_toArray, List.set_cons_zero, List.set_cons_succ]
  refine ord_quietL _ ?_ rfl trivial rfl ?_ ?_
  rotate_left
  · intro w' _; go_simp; rfl
  simp only [Act.put, List.setIfInBounds_toArray, List.set_cons_zero, List.set_cons_succ]
  refine ord_actL _ rfl (fun K1 hK1 => ?_)
  go_wp2
  refine hK1 _ _ trivial ?_
  clear hK1 K1 hW hz1
  have hat2 := (hst.alloc (.cells #[.int .u64 (m : Int), .int .u64 (b.length : Int)] 23)).drew
  have cc0 : (W.alloc (.cells #[.int .u64 (m : Int), .int .u64 (b.length : Int)] 23)).drew.cell? ⟨W.heap.size, 0, none⟩ = some (.int .u64 (m : Int)) := by simp [go_sem]
  have cc1 : (W.alloc (.cells #[.int .u64 (m : Int), .int .u64 (b.length : Int)] 23)).drew.cell? ⟨W.heap.size, 1, none⟩ = some (.int .u64 (b.length : Int)) := by simp [go_sem]
  have hg2 : W.heap.size < (W.alloc (.cells #[.int .u64 (m : Int), .int .u64 (b.length : Int)] 23)).drew.heap.size := by simp
  generalize (W.alloc (.cells #[.int .u64 (m : Int), .int .u64 (b.length : Int)] 23)).drew = W2 at *
  refine ord_actL _ rfl (fun K1 hK1 => ?_)
  go_wp2_with fail
  refine (c_packed ⟨#[56, 50]⟩ m b.length W.heap.size (hdS m b.length) W2 (by decide) hm (by omega) hg2 cc0 cc1 (pack82 m b.length hm (by omega))).mono ?_
  rintro e W3 ⟨v3, rfl, hs3, hb3⟩
  obtain ⟨ao3, cap3, rfl⟩ := sl_form hs3
  have hat3 := hat2.keep hb3
  clear hat2 hb3 cc0 cc1 hg2
  go_wp2
  refine hK1 _ _ trivial ?_
  clear hK1 K1
  refine ord_tail ?_
  simp only [List.drop_succ_cons, List.drop_zero]
  refine wpList_copy_splice rfl _ _ 37 37 rfl 5 Try.underlying37 Try.size5 _ _ _ _ _ _ rfl rfl (w.heap.size + 1) 0 (z128.map bv) 55 hat3.blk ((hdS m b.length).map bv) ?a1 (fun hp => ⟨rfl, sl_src hs3 hp⟩) ?a2 (bv_oneCell _) _ _ hat3.bel (Nat.le_refl _) ?_
  case a1 => rw [List.length_map, hdS_length]; rfl
  case a2 => rw [List.length_map, List.length_map, hdS_length, z128_length]; omega
  intro W4 hb4 hbel4
  have hb4 := hb4.out
  rw [splice_head] at hb4
  have hat4 : MkAt w W4 _ := ⟨hb4, hbel4⟩
  have hs4 := hs.keep (hat4.below.mono hK)
  clear hat3 hs3 hb4 hbel4
  go_wp2_with (refine wpList_copy_splice rfl (.tmp 23) (.tmp 24) 37 37 rfl 5 Try.underlying37 Try.size5 _ _ _ _ _ _ rfl rfl (w.heap.size + 1) 10 _ 55 hat4.blk (b.map bv) ?a1 (fun hp => ⟨rfl, sl_src hs4 hp⟩) ?a2 (bv_oneCell _) _ _ hat4.bel (Nat.le_refl _) ?_)
  case a1 => rw [List.length_map]; exact (Nat.min_eq_left hb).symm
  case a2 => rw [List.length_map, c1S_length]; omega
  intro W5 hb5 hbel5
  have hb5 := hb5.out
  rw [splice_body m b hb] at hb5
  have hat5 : MkAt w W5 _ := ⟨hb5, hbel5⟩
  clear hat4 hs4 hb5 hbel5 hs
  go_wp2
  refine wp_region_ord [] 8 [(0, true), (1, true), (5, true), (2, false), (3, false), (4, true), (6, false), (7, false)] (fun _ => True) (by kernel_rfl) (by kernel_rfl) ?_
  refine ord_quietL _ ?_ rfl trivial rfl ?_ ?_
  rotate_left
  · intro w' _; go_simp; rfl
  simp only [Act.put, List.setIfInBounds_toArray, List.set_cons_zero, List.set_cons_succ]
  refine ord_quietL _ ?_ rfl trivial rfl ?_ ?_
  rotate_left
  · intro w' _; go_simp; rfl
  simp only [Act.put, List.setIfInBounds_toArray, List.set_cons_zero, List.set_cons_succ]
  refine ord_quietL _ ?_ rfl trivial rfl ?_ ?_
  rotate_left
  · intro w' _; go_simp; rfl
  simp only [Act.put, List.setIfInBounds_toArray, List.set_cons_zero, List.set_cons_succ]
  have hsl : Sl W5.heap.size W5 (.slice (some ⟨w.heap.size + 1, 0, none⟩) (headS m b).length 128) (headS m b).length ((headS m b).map bv) := sl_blk hat5.blk 0 _ 128 _ (by rw [headS_length hb]; omega) (by omega) (heap_lt hat5.blk) (fun j x hj => by
    rw [Nat.zero_add, c2S, List.map_append, List.getElem?_append_left (List.getElem?_eq_some_iff.1 hj).1]; exact hj)
  have hpt := (parts_one (n := W5.heap.size) 37 hsl (Nat.le_refl _) (by rw [headS_length hb]; omega) rfl).keep ((Below.refl _ _).drew)
  rw [headS_length hb] at hpt
  have hat6 := (hat5.alloc (.cells #[.slice (some ⟨w.heap.size + 1, 0, none⟩) 116 128] 37)).drew
  clear hsl hat5
  refine ord_actL _ rfl (fun K1 hK1 => ?_)
  go_wp2
  refine hK1 _ _ trivial ?_
  clear hK1 K1
  generalize (W5.alloc (.cells #[.slice (some ⟨w.heap.size + 1, 0, none⟩) 116 128] 37)).drew = W6 at *
  refine ord_actL _ rfl (fun K1 hK1 => ?_)
  go_wp2_with fail
  refine (c_sum _ _ [headS m b] _ hpt (by simp)).mono ?_
  rintro e w6 ⟨rfl, rfl⟩
  have hcs : Hid (∃ c : BitVec 32, crcSum [headS m b] = c ∧ c.toNat = sumS m b) := ⟨_, rfl, rfl⟩
  obtain ⟨c, hc1, hc2⟩ := hcs.out
  rw [hc1]
  have hc2 : Hid (c.toNat = sumS m b) := hc2
  have hc3 : c.toNat < 4294967296 := c.isLt
  have hcw : IntKind.u64.wrap (tn c) = tn c := by rw [IntKind.wrap_u64]; have := tn_lo c; have := tn_hi c; omega
  have hcm : tn c % 18446744073709551616 = tn c := by have := tn_lo c; have := tn_hi c; omega
  clear hcs hc1 hpt
  go_wp2
  refine hK1 _ _ trivial ?_
  clear hK1 K1
  refine ord_quietL _ ?_ rfl trivial rfl ?_ ?_
  rotate_left
  · intro w' _; go_simp; rfl
  simp only [Act.put, List.setIfInBounds_toArray, List.set_cons_zero, List.set_cons_succ]
  refine ord_actL _ rfl (fun K1 hK1 => ?_)
  go_wp2
  refine hK1 _ _ trivial ?_
  clear hK1 K1
  have hat7 := hat6.alloc (.cells #[.int .u64 (tn c), .int .u64 (m : Int)] 23)
  have cc0 : (W6.alloc (.cells #[.int .u64 (tn c), .int .u64 (m : Int)] 23)).cell? ⟨W6.heap.size, 0, none⟩ = some (.int .u64 ((c.toNat : Nat) : Int)) := by simp [go_sem, tn]
  have cc1 : (W6.alloc (.cells #[.int .u64 (tn c), .int .u64 (m : Int)] 23)).cell? ⟨W6.heap.size, 1, none⟩ = some (.int .u64 (m : Int)) := by simp [go_sem]
  have hg7 : W6.heap.size < (W6.alloc (.cells #[.int .u64 (tn c), .int .u64 (m : Int)] 23)).heap.size := by simp
  generalize W6.alloc (.cells #[.int .u64 (tn c), .int .u64 (m : Int)] 23) = W7 at *
  refine ord_actL _ rfl (fun K1 hK1 => ?_)
  go_wp2_with fail
  refine (c_packed ⟨#[52, 56]⟩ c.toNat m W6.heap.size (tailS m b) W7 (by decide) (by omega) hm hg7 cc0 cc1 (by rw [tailS, ← hc2.out]; exact pack48 c.toNat m hc3 hm)).mono ?_
  rintro e W8 ⟨v8, rfl, hs8, hb8⟩
  obtain ⟨ao8, cap8, rfl⟩ := sl_form hs8
  have hat8 := hat7.keep hb8
  clear hat6 hat7 hb8 cc0 cc1 hg7
  go_wp2
  refine hK1 _ _ trivial ?_
  clear hK1 K1
  refine ord_tail ?_
  simp only [List.drop_succ_cons, List.drop_zero]
  refine wpList_copy_splice rfl _ _ 37 37 rfl 5 Try.underlying37 Try.size5 _ _ _ _ _ _ rfl rfl (w.heap.size + 1) 116 _ 55 hat8.blk ((tailS m b).map bv) ?a1 (fun hp => ⟨rfl, sl_src hs8 hp⟩) ?a2 (bv_oneCell _) _ _ hat8.bel (Nat.le_refl _) ?_
  case a1 => rw [List.length_map, tailS_length]; rfl
  case a2 => rw [List.length_map, c2S_length m b hb, tailS_length]; omega
  intro W9 hb9 hbel9
  have hb9 := hb9.out
  rw [splice_tail m b hb] at hb9
  have hat9 : MkAt w W9 _ := ⟨hb9, hbel9⟩
  have hlen := sealOf_length (m := m) hb
  have hr9 := range_all hat9.blk
  have hres := hat9.res
  have hfin : Below w.heap.size w (W9.setRow w.heap.size ((sealOf m b).map bv).toArray) := below_setRow hat9.below (Nat.le_refl _) _
  have hrow := range_all (setRow_heap W9 w.heap.size _ ((sealOf m b).map bv).toArray 55 _ hres)
  clear hat8 hs8 hb9 hbel9 hat9
  generalize hL : sealOf m b = L at *
  have hL : Hid (sealOf m b = L) := hL
  go_wp2_with (first
    | (refine wpList_load_as rfl 55 _ rfl (w.heap.size + 1) 0 rfl (sec L) _ rfl hr9 Try.rowS (sizeS hlen) ?_)
    | (refine wpList_store_all rfl 55 _ _ rfl w.heap.size rfl (sec L) rfl _ rfl _ 55 hres (sec_fit hlen) (bv_oneCell _) (sizeS hlen) ?_))
  refine bodyPost_ret (results_cell2 rfl _ w.heap.size _ _ rfl rfl hrow Try.rowS (sizeS hlen)) rfl ?_
  exact ⟨by rw [hL.out]; rfl, hfin⟩

theorem c_make (m K : Nat) (b : List UInt8) (v : Value) (w : World) (hm : m < 18446744073709551616) (hs : Sl K w v b.length (b.map bv)) (hK : K ≤ w.heap.size) (hl : b.length ≤ 140737488355328) :
    Calls Try.prog 47 #[.int .u64 (m : Int), v] w fun e w' => e = .returned (.tuple #[sec (mkS m b), .int .i64 (mkE m b)]) ∧ Below w.heap.size w w' := by
  unfold mkS mkE
  by_cases h : okS m b
  · rw [if_pos h, if_pos h]
    exact c_make_yes m K b v w hm hs hK h
  · rw [if_neg h, if_neg h]
    obtain ⟨ao, cap, rfl⟩ := sl_form hs
    exact c_make_no m b ao cap w hm hl h
end Go.Proofs.Ytihdhlciblkbiaa
