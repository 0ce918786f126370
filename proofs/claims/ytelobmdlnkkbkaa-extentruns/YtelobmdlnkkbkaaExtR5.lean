/-
  The document's Take, Free, Later, Commit.
-/
import Derived.Test.YtelobmdlnkkbkaaExtR4
namespace Go.Proofs.Ytelobmdlnkkbkaa
set_option linter.unusedVariables false
set_option linter.unusedSimpArgs false
set_option maxRecDepth 20000
open Go.RowKit

def numE (ok : Bool) : Int := if ok then 0 else 72

theorem c_number (ok : Bool) (w : World) : Calls Try.prog 34 #[.bool ok] w fun e w' => e = .returned (.int .i64 (numE ok)) ∧ w = w' := by
  cases ok
  · go_enter Try.func34, Try.ntmps34
    go_wp2
    go_ret
    exact ⟨rfl, rfl⟩
  · go_enter Try.func34, Try.ntmps34
    go_wp2
    go_ret
    exact ⟨rfl, rfl⟩

theorem range_drew {w : World} {b o : Nat} {cs : List Value} (h : w.rangeAt b o cs) : w.drew.rangeAt b o cs := (World.rangeAt_drew ..).2 h

set_option maxHeartbeats 1600000 in
theorem c_rtake {xs : List UInt8} (w : World) (hx : xs.length ≤ 1024) (s l : Int) (hs1 : -9223372036854775808 ≤ s) (hs2 : s ≤ 9223372036854775807) (hl1 : -9223372036854775808 ≤ l) (hl2 : l ≤ 9223372036854775807) :
    Calls Try.prog 18 #[rmv xs, ext s l] w fun e w' => e = .returned (.tuple #[rmv (turnX xs s l 0 1), .int .i64 (turnE xs s l 0)]) ∧ Nw w w' := by
  have hb : RAt (w.alloc (.cells (rmc xs).toArray 31)) w.heap.size xs := heap_alloc_new w _
  have hn : Nw w (w.alloc (.cells (rmc xs).toArray 31)) := (Fr.refl _ w).alloc _
  generalize hW : w.alloc (.cells (rmc xs).toArray 31) = W1 at *
  have hWH : Hid (w.alloc (.cells (rmc xs).toArray 31) = W1) := hW
  clear hW
  have hV := turnV w W1 xs s l hb hn
  generalize hW3 : (W1.alloc (.cells #[.int .i64 s, .int .i64 l] 34)).alloc (.cells (rmc []).toArray 31) = V at *
  have hW3H : Hid ((W1.alloc (.cells #[.int .i64 s, .int .i64 l] 34)).alloc (.cells (rmc []).toArray 31) = V) := hW3
  clear hW3 hb hn
  generalize hN1 : W1.heap.size = N1 at *
  have hN1H : Hid (W1.heap.size = N1) := hN1
  clear hN1
  have e0 : V.cell? ⟨N1, 0, none⟩ = some (.int .i64 s) := cell_blk hV.e rfl
  have e1 : V.cell? ⟨N1, 1, none⟩ = some (.int .i64 l) := cell_blk hV.e rfl
  have hrm := range_all hV.m
  have htu := c_rturn V hx s l 0 1 hs1 hs2 hl1 hl2
  have hyl : (turnX xs s l 0 1).length ≤ 1024 := by rw [turnX_length]; exact hx
  have hte : turnE xs s l 0 = numE (canT xs s l 0) := rfl
  rw [hte]
  clear hte
  generalize turnX xs s l 0 1 = ys at *
  generalize canT xs s l 0 = ok at *
  unfold ext at *
  go_enter Try.func18, Try.ntmps18
  go_wp2_with (refine wpList_box_agg rfl 31 (.tmp 0) rfl (rmv xs) _ rfl rfl ?_; rw [hWH.out]; refine stop_here ?_)
  unfold Hid
  go_wp2_with (refine wpList_alloc_agg rfl 31 rfl _ Try.zeroR ?_; rw [hW3H.out]; refine stop_here ?_)
  unfold Hid
  rw [hN1H.out]
  go_upto_region 1 with fail
  go_wp2_with (first
    | (refine wpList_load_as rfl 31 (.tmp 2) rfl w.heap.size 0 rfl (rmv xs) _ rfl hrm Try.rowR (sizeR hx) ?_)
    | (go_at_call 32; refine htu.mono ?_; rintro e V5 ⟨rfl, hn5⟩; refine stop_here ?_))
  unfold Hid
  have hm5 := hV.m.nw hn5
  have hr5 := hV.r.nw hn5
  have hnw5 := nw_trans hV.nw hn5
  have hlt := hV.lt
  have hr6 : RAt (V5.setRow w.heap.size (rmc ys).toArray) w.heap.size ys := setRow_heap V5 _ _ _ 31 _ hm5
  have hf6 : Fr (fun k => k = w.heap.size) V5 (V5.setRow w.heap.size (rmc ys).toArray) := Fr.setRow (S := fun k => k = w.heap.size) (g := w.heap.size) (Fr.refl _ V5) (.inl rfl) _
  have hres6 : RAt (V5.setRow w.heap.size (rmc ys).toArray) (N1 + 1) [] := (hf6.block _ (heap_lt hr5) (by omega)).trans hr5
  have hnw6 : Nw w (V5.setRow w.heap.size (rmc ys).toArray) := Fr.trans hnw5 hf6 (fun k hk => .inr (by omega))
  generalize hW6 : V5.setRow w.heap.size (rmc ys).toArray = V6 at *
  have hW6H : Hid (V5.setRow w.heap.size (rmc ys).toArray = V6) := hW6
  clear hW6 hWH hW3H hN1H hV e0 e1 hrm htu hn5 hr5 hf6 hnw5
  go_wp2_with (refine wpList_store_all rfl 31 (.tmp 2) _ rfl w.heap.size rfl (rmv ys) rfl _ rfl _ 31 hm5 (fitR hyl hx) (rmc_one _) (sizeR hyl) ?_; rw [hW6H.out])
  have hS : (fun w' : World => w'.rangeAt w.heap.size 0 (rmc ys)) V6.drew := range_drew (range_all hr6)
  have hr7 : RAt (V6.drew.setRow (N1 + 1) (rmc ys).toArray) (N1 + 1) ys := setRow_heap V6.drew _ _ _ 31 _ hres6
  have hnw7 : Nw w (V6.drew.setRow (N1 + 1) (rmc ys).toArray) := Fr.setRow (Fr.drew hnw6) (.inr (by omega)) _
  have hS7 : (fun w' : World => w'.rangeAt w.heap.size 0 (rmc ys)) (V6.drew.setRow (N1 + 1) (rmc ys).toArray) := by
    refine range_all (t := 31) (fr := (0, 0)) ?_
    rw [setRow_other V6.drew (N1 + 1) w.heap.size _ (by omega)]
    exact hr6
  refine wp_region_ord [] 4 [(0, true), (1, true), (2, false), (3, false)] (fun w' : World => w'.rangeAt w.heap.size 0 (rmc ys)) (by kernel_rfl) (by kernel_rfl) ?_
  refine ord_quietL _ (rmv ys) rfl hS rfl ?_ ?_
  · intro w' hS1
    exact run_load_quiet 31 _ w' rfl w.heap.size 0 rfl _ hS1 Try.rowR (sizeR hyl)
  simp only [Act.put, List.setIfInBounds_toArray, List.set_cons_zero, List.set_cons_succ]
  refine ord_quietL _ ?_ rfl hS rfl ?_ ?_
  rotate_left
  · intro w' hS1; go_simp; rfl
  simp only [Act.put, List.setIfInBounds_toArray, List.set_cons_zero, List.set_cons_succ]
  refine ord_actL _ rfl (fun K1 hK1 => ?_)
  go_wp2_with (go_at_call 34; refine (c_number ok _).mono ?_; rintro e w8 ⟨rfl, rfl⟩)
  refine hK1 _ _ hS ?_
  clear hK1 K1
  refine ord_actL _ rfl (fun K1 hK1 => ?_)
  go_wp2_with (refine wpList_store_all rfl 31 (.tmp 4) _ rfl (N1 + 1) rfl (rmv ys) rfl _ rfl _ 31 hres6 (fitR hyl (by simp)) (rmc_one _) (sizeR hyl) ?_)
  refine hK1 _ _ hS7 ?_
  clear hK1 K1
  refine ord_tail ?_
  simp only [List.drop_succ_cons, List.drop_zero]
  go_wp2
  refine bodyPost_ret (results_cell2 rfl _ (N1 + 1) _ _ rfl rfl (range_all hr7) Try.rowR (sizeR hyl)) rfl ?_
  exact ⟨rfl, hnw7⟩

set_option maxHeartbeats 1600000 in
theorem c_rfree {xs : List UInt8} (w : World) (hx : xs.length ≤ 1024) (s l : Int) (hs1 : -9223372036854775808 ≤ s) (hs2 : s ≤ 9223372036854775807) (hl1 : -9223372036854775808 ≤ l) (hl2 : l ≤ 9223372036854775807) :
    Calls Try.prog 20 #[rmv xs, ext s l] w fun e w' => e = .returned (.tuple #[rmv (turnX xs s l 1 0), .int .i64 (turnE xs s l 1)]) ∧ Nw w w' := by
  have hb : RAt (w.alloc (.cells (rmc xs).toArray 31)) w.heap.size xs := heap_alloc_new w _
  have hn : Nw w (w.alloc (.cells (rmc xs).toArray 31)) := (Fr.refl _ w).alloc _
  generalize hW : w.alloc (.cells (rmc xs).toArray 31) = W1 at *
  have hWH : Hid (w.alloc (.cells (rmc xs).toArray 31) = W1) := hW
  clear hW
  have hV := turnV w W1 xs s l hb hn
  generalize hW3 : (W1.alloc (.cells #[.int .i64 s, .int .i64 l] 34)).alloc (.cells (rmc []).toArray 31) = V at *
  have hW3H : Hid ((W1.alloc (.cells #[.int .i64 s, .int .i64 l] 34)).alloc (.cells (rmc []).toArray 31) = V) := hW3
  clear hW3 hb hn
  generalize hN1 : W1.heap.size = N1 at *
  have hN1H : Hid (W1.heap.size = N1) := hN1
  clear hN1
  have e0 : V.cell? ⟨N1, 0, none⟩ = some (.int .i64 s) := cell_blk hV.e rfl
  have e1 : V.cell? ⟨N1, 1, none⟩ = some (.int .i64 l) := cell_blk hV.e rfl
  have hrm := range_all hV.m
  have htu := c_rturn V hx s l 1 0 hs1 hs2 hl1 hl2
  have hyl : (turnX xs s l 1 0).length ≤ 1024 := by rw [turnX_length]; exact hx
  have hte : turnE xs s l 1 = numE (canT xs s l 1) := rfl
  rw [hte]
  clear hte
  generalize turnX xs s l 1 0 = ys at *
  generalize canT xs s l 1 = ok at *
  unfold ext at *
  go_enter Try.func20, Try.ntmps20
  go_wp2_with (refine wpList_box_agg rfl 31 (.tmp 0) rfl (rmv xs) _ rfl rfl ?_; rw [hWH.out]; refine stop_here ?_)
  unfold Hid
  go_wp2_with (refine wpList_alloc_agg rfl 31 rfl _ Try.zeroR ?_; rw [hW3H.out]; refine stop_here ?_)
  unfold Hid
  rw [hN1H.out]
  go_upto_region 1 with fail
  go_wp2_with (first
    | (refine wpList_load_as rfl 31 (.tmp 2) rfl w.heap.size 0 rfl (rmv xs) _ rfl hrm Try.rowR (sizeR hx) ?_)
    | (go_at_call 32; refine htu.mono ?_; rintro e V5 ⟨rfl, hn5⟩; refine stop_here ?_))
  unfold Hid
  have hm5 := hV.m.nw hn5
  have hr5 := hV.r.nw hn5
  have hnw5 := nw_trans hV.nw hn5
  have hlt := hV.lt
  have hr6 : RAt (V5.setRow w.heap.size (rmc ys).toArray) w.heap.size ys := setRow_heap V5 _ _ _ 31 _ hm5
  have hf6 : Fr (fun k => k = w.heap.size) V5 (V5.setRow w.heap.size (rmc ys).toArray) := Fr.setRow (S := fun k => k = w.heap.size) (g := w.heap.size) (Fr.refl _ V5) (.inl rfl) _
  have hres6 : RAt (V5.setRow w.heap.size (rmc ys).toArray) (N1 + 1) [] := (hf6.block _ (heap_lt hr5) (by omega)).trans hr5
  have hnw6 : Nw w (V5.setRow w.heap.size (rmc ys).toArray) := Fr.trans hnw5 hf6 (fun k hk => .inr (by omega))
  generalize hW6 : V5.setRow w.heap.size (rmc ys).toArray = V6 at *
  have hW6H : Hid (V5.setRow w.heap.size (rmc ys).toArray = V6) := hW6
  clear hW6 hWH hW3H hN1H hV e0 e1 hrm htu hn5 hr5 hf6 hnw5
  go_wp2_with (refine wpList_store_all rfl 31 (.tmp 2) _ rfl w.heap.size rfl (rmv ys) rfl _ rfl _ 31 hm5 (fitR hyl hx) (rmc_one _) (sizeR hyl) ?_; rw [hW6H.out])
  have hS : (fun w' : World => w'.rangeAt w.heap.size 0 (rmc ys)) V6.drew := range_drew (range_all hr6)
  have hr7 : RAt (V6.drew.setRow (N1 + 1) (rmc ys).toArray) (N1 + 1) ys := setRow_heap V6.drew _ _ _ 31 _ hres6
  have hnw7 : Nw w (V6.drew.setRow (N1 + 1) (rmc ys).toArray) := Fr.setRow (Fr.drew hnw6) (.inr (by omega)) _
  have hS7 : (fun w' : World => w'.rangeAt w.heap.size 0 (rmc ys)) (V6.drew.setRow (N1 + 1) (rmc ys).toArray) := by
    refine range_all (t := 31) (fr := (0, 0)) ?_
    rw [setRow_other V6.drew (N1 + 1) w.heap.size _ (by omega)]
    exact hr6
  refine wp_region_ord [] 4 [(0, true), (1, true), (2, false), (3, false)] (fun w' : World => w'.rangeAt w.heap.size 0 (rmc ys)) (by kernel_rfl) (by kernel_rfl) ?_
  refine ord_quietL _ (rmv ys) rfl hS rfl ?_ ?_
  · intro w' hS1
    exact run_load_quiet 31 _ w' rfl w.heap.size 0 rfl _ hS1 Try.rowR (sizeR hyl)
  simp only [Act.put, List.setIfInBounds_toArray, List.set_cons_zero, List.set_cons_succ]
  refine ord_quietL _ ?_ rfl hS rfl ?_ ?_
  rotate_left
  · intro w' hS1; go_simp; rfl
  simp only [Act.put, List.setIfInBounds_toArray, List.set_cons_zero, List.set_cons_succ]
  refine ord_actL _ rfl (fun K1 hK1 => ?_)
  go_wp2_with (go_at_call 34; refine (c_number ok _).mono ?_; rintro e w8 ⟨rfl, rfl⟩)
  refine hK1 _ _ hS ?_
  clear hK1 K1
  refine ord_actL _ rfl (fun K1 hK1 => ?_)
  go_wp2_with (refine wpList_store_all rfl 31 (.tmp 4) _ rfl (N1 + 1) rfl (rmv ys) rfl _ rfl _ 31 hres6 (fitR hyl (by simp)) (rmc_one _) (sizeR hyl) ?_)
  refine hK1 _ _ hS7 ?_
  clear hK1 K1
  refine ord_tail ?_
  simp only [List.drop_succ_cons, List.drop_zero]
  go_wp2
  refine bodyPost_ret (results_cell2 rfl _ (N1 + 1) _ _ rfl rfl (range_all hr7) Try.rowR (sizeR hyl)) rfl ?_
  exact ⟨rfl, hnw7⟩

set_option maxHeartbeats 1600000 in
theorem c_rlater {xs : List UInt8} (w : World) (hx : xs.length ≤ 1024) (s l : Int) (hs1 : -9223372036854775808 ≤ s) (hs2 : s ≤ 9223372036854775807) (hl1 : -9223372036854775808 ≤ l) (hl2 : l ≤ 9223372036854775807) :
    Calls Try.prog 22 #[rmv xs, ext s l] w fun e w' => e = .returned (.tuple #[rmv (turnX xs s l 1 2), .int .i64 (turnE xs s l 1)]) ∧ Nw w w' := by
  have hb : RAt (w.alloc (.cells (rmc xs).toArray 31)) w.heap.size xs := heap_alloc_new w _
  have hn : Nw w (w.alloc (.cells (rmc xs).toArray 31)) := (Fr.refl _ w).alloc _
  generalize hW : w.alloc (.cells (rmc xs).toArray 31) = W1 at *
  have hWH : Hid (w.alloc (.cells (rmc xs).toArray 31) = W1) := hW
  clear hW
  have hV := turnV w W1 xs s l hb hn
  generalize hW3 : (W1.alloc (.cells #[.int .i64 s, .int .i64 l] 34)).alloc (.cells (rmc []).toArray 31) = V at *
  have hW3H : Hid ((W1.alloc (.cells #[.int .i64 s, .int .i64 l] 34)).alloc (.cells (rmc []).toArray 31) = V) := hW3
  clear hW3 hb hn
  generalize hN1 : W1.heap.size = N1 at *
  have hN1H : Hid (W1.heap.size = N1) := hN1
  clear hN1
  have e0 : V.cell? ⟨N1, 0, none⟩ = some (.int .i64 s) := cell_blk hV.e rfl
  have e1 : V.cell? ⟨N1, 1, none⟩ = some (.int .i64 l) := cell_blk hV.e rfl
  have hrm := range_all hV.m
  have htu := c_rturn V hx s l 1 2 hs1 hs2 hl1 hl2
  have hyl : (turnX xs s l 1 2).length ≤ 1024 := by rw [turnX_length]; exact hx
  have hte : turnE xs s l 1 = numE (canT xs s l 1) := rfl
  rw [hte]
  clear hte
  generalize turnX xs s l 1 2 = ys at *
  generalize canT xs s l 1 = ok at *
  unfold ext at *
  go_enter Try.func22, Try.ntmps22
  go_wp2_with (refine wpList_box_agg rfl 31 (.tmp 0) rfl (rmv xs) _ rfl rfl ?_; rw [hWH.out]; refine stop_here ?_)
  unfold Hid
  go_wp2_with (refine wpList_alloc_agg rfl 31 rfl _ Try.zeroR ?_; rw [hW3H.out]; refine stop_here ?_)
  unfold Hid
  rw [hN1H.out]
  go_upto_region 1 with fail
  go_wp2_with (first
    | (refine wpList_load_as rfl 31 (.tmp 2) rfl w.heap.size 0 rfl (rmv xs) _ rfl hrm Try.rowR (sizeR hx) ?_)
    | (go_at_call 32; refine htu.mono ?_; rintro e V5 ⟨rfl, hn5⟩; refine stop_here ?_))
  unfold Hid
  have hm5 := hV.m.nw hn5
  have hr5 := hV.r.nw hn5
  have hnw5 := nw_trans hV.nw hn5
  have hlt := hV.lt
  have hr6 : RAt (V5.setRow w.heap.size (rmc ys).toArray) w.heap.size ys := setRow_heap V5 _ _ _ 31 _ hm5
  have hf6 : Fr (fun k => k = w.heap.size) V5 (V5.setRow w.heap.size (rmc ys).toArray) := Fr.setRow (S := fun k => k = w.heap.size) (g := w.heap.size) (Fr.refl _ V5) (.inl rfl) _
  have hres6 : RAt (V5.setRow w.heap.size (rmc ys).toArray) (N1 + 1) [] := (hf6.block _ (heap_lt hr5) (by omega)).trans hr5
  have hnw6 : Nw w (V5.setRow w.heap.size (rmc ys).toArray) := Fr.trans hnw5 hf6 (fun k hk => .inr (by omega))
  generalize hW6 : V5.setRow w.heap.size (rmc ys).toArray = V6 at *
  have hW6H : Hid (V5.setRow w.heap.size (rmc ys).toArray = V6) := hW6
  clear hW6 hWH hW3H hN1H hV e0 e1 hrm htu hn5 hr5 hf6 hnw5
  go_wp2_with (refine wpList_store_all rfl 31 (.tmp 2) _ rfl w.heap.size rfl (rmv ys) rfl _ rfl _ 31 hm5 (fitR hyl hx) (rmc_one _) (sizeR hyl) ?_; rw [hW6H.out])
  have hS : (fun w' : World => w'.rangeAt w.heap.size 0 (rmc ys)) V6.drew := range_drew (range_all hr6)
  have hr7 : RAt (V6.drew.setRow (N1 + 1) (rmc ys).toArray) (N1 + 1) ys := setRow_heap V6.drew _ _ _ 31 _ hres6
  have hnw7 : Nw w (V6.drew.setRow (N1 + 1) (rmc ys).toArray) := Fr.setRow (Fr.drew hnw6) (.inr (by omega)) _
  have hS7 : (fun w' : World => w'.rangeAt w.heap.size 0 (rmc ys)) (V6.drew.setRow (N1 + 1) (rmc ys).toArray) := by
    refine range_all (t := 31) (fr := (0, 0)) ?_
    rw [setRow_other V6.drew (N1 + 1) w.heap.size _ (by omega)]
    exact hr6
  refine wp_region_ord [] 4 [(0, true), (1, true), (2, false), (3, false)] (fun w' : World => w'.rangeAt w.heap.size 0 (rmc ys)) (by kernel_rfl) (by kernel_rfl) ?_
  refine ord_quietL _ (rmv ys) rfl hS rfl ?_ ?_
  · intro w' hS1
    exact run_load_quiet 31 _ w' rfl w.heap.size 0 rfl _ hS1 Try.rowR (sizeR hyl)
  simp only [Act.put, List.setIfInBounds_toArray, List.set_cons_zero, List.set_cons_succ]
  refine ord_quietL _ ?_ rfl hS rfl ?_ ?_
  rotate_left
  · intro w' hS1; go_simp; rfl
  simp only [Act.put, List.setIfInBounds_toArray, List.set_cons_zero, List.set_cons_succ]
  refine ord_actL _ rfl (fun K1 hK1 => ?_)
  go_wp2_with (go_at_call 34; refine (c_number ok _).mono ?_; rintro e w8 ⟨rfl, rfl⟩)
  refine hK1 _ _ hS ?_
  clear hK1 K1
  refine ord_actL _ rfl (fun K1 hK1 => ?_)
  go_wp2_with (refine wpList_store_all rfl 31 (.tmp 4) _ rfl (N1 + 1) rfl (rmv ys) rfl _ rfl _ 31 hres6 (fitR hyl (by simp)) (rmc_one _) (sizeR hyl) ?_)
  refine hK1 _ _ hS7 ?_
  clear hK1 K1
  refine ord_tail ?_
  simp only [List.drop_succ_cons, List.drop_zero]
  go_wp2
  refine bodyPost_ret (results_cell2 rfl _ (N1 + 1) _ _ rfl rfl (range_all hr7) Try.rowR (sizeR hyl)) rfl ?_
  exact ⟨rfl, hnw7⟩

/-! ### Commit -/
def commitTo (xs : List UInt8) (k : Nat) : List UInt8 := (xs.take k).map (fun x => if x = 2 then 0 else x) ++ xs.drop k

theorem commitTo_length (xs : List UInt8) (k : Nat) : (commitTo xs k).length = xs.length := by unfold commitTo; simp; omega

theorem commitTo_get (xs : List UInt8) (k : Nat) (hk : k < xs.length) : (commitTo xs k)[k]? = some xs[k] := by
  unfold commitTo
  rw [List.getElem?_append_right (by simp; omega), List.length_map, List.length_take, Nat.min_eq_left (by omega), Nat.sub_self, List.getElem?_drop]
  simp

theorem commitTo_two (xs : List UInt8) (k : Nat) (hk : k < xs.length) (h : xs[k] = 2) : (commitTo xs k).set k 0 = commitTo xs (k + 1) := by
  unfold commitTo
  rw [List.set_append_right _ _ (by simp; omega), List.length_map, List.length_take, Nat.min_eq_left (by omega), Nat.sub_self, List.take_succ_eq_append_getElem hk, List.map_append, List.drop_eq_getElem_cons hk]
  simp [h]

theorem commitTo_other (xs : List UInt8) (k : Nat) (hk : k < xs.length) (h : xs[k] ≠ 2) : commitTo xs k = commitTo xs (k + 1) := by
  unfold commitTo
  rw [List.take_succ_eq_append_getElem hk, List.map_append, List.drop_eq_getElem_cons hk]
  simp [h]

theorem commitTo_all (xs : List UInt8) : commitTo xs xs.length = commitX xs := by unfold commitTo commitX; simp

set_option maxHeartbeats 1600000 in
theorem c_rcommit {xs : List UInt8} (w : World) (hx : xs.length ≤ 1024) : Calls Try.prog 24 #[rmv xs] w fun e w' => e = .returned (rmv (commitX xs)) ∧ Nw w w' := by
  have hb : RAt (w.alloc (.cells (rmc xs).toArray 31)) w.heap.size xs := heap_alloc_new w _
  have hn : Nw w (w.alloc (.cells (rmc xs).toArray 31)) := (Fr.refl _ w).alloc _
  have hb2 : RAt ((w.alloc (.cells (rmc xs).toArray 31)).alloc (.cells (rmc []).toArray 31)) (w.heap.size + 1) [] := heap_alloc2_new w _ _
  have hb1 : RAt ((w.alloc (.cells (rmc xs).toArray 31)).alloc (.cells (rmc []).toArray 31)) w.heap.size xs := heap_alloc2_old w _ _
  have hn2 : Nw w ((w.alloc (.cells (rmc xs).toArray 31)).alloc (.cells (rmc []).toArray 31)) := Fr.alloc hn _
  clear hb hn
  generalize hW : (w.alloc (.cells (rmc xs).toArray 31)).alloc (.cells (rmc []).toArray 31) = W at *
  have hWH : Hid ((w.alloc (.cells (rmc xs).toArray 31)).alloc (.cells (rmc []).toArray 31) = W) := hW
  clear hW
  go_enter Try.func24, Try.ntmps24
  go_wp2_with (first
    | (refine wpList_box_agg rfl 31 (.tmp 0) rfl (rmv xs) _ rfl rfl ?_)
    | (refine wpList_alloc_agg rfl 31 rfl _ Try.zeroR ?_; rw [hWH.out]; refine stop_here ?_))
  unfold Hid
  go_wp2
  go_loopw [3] (fun i wr => ∃ k : Nat, k ≤ xs.length ∧ i = .int .i64 k ∧ RAt wr w.heap.size (commitTo xs k) ∧ RAt wr (w.heap.size + 1) [] ∧ Nw w wr) (fun i _ => xs.length - (intOf i).toNat)
  case atStart => exact ⟨0, Nat.zero_le _, rfl, hb1, hb2, hn2⟩
  case round =>
    clear hb1 hb2 hn2 hWH
    obtain ⟨k, hk, rfl, hb, hr, hnw⟩ := hrel
    have hcl := commitTo_length xs k
    have c0 := hb.c0
    rw [hcl] at c0
    by_cases hlt : k < xs.length
    · obtain ⟨y, hy, hyH⟩ : ∃ y : UInt8, wr.cell? ⟨w.heap.size, 1 + k, none⟩ = some (.int .u8 (y.toNat : Int)) ∧ Hid (y = xs[k]) := by
        have h1 := hb.cell k (by rw [hcl]; exact hlt)
        have h2 := commitTo_get xs k hlt
        rw [List.getElem?_eq_getElem (by rw [hcl]; exact hlt)] at h2
        simp only [Option.some.injEq] at h2
        rw [h2] at h1
        exact ⟨_, h1, rfl⟩
      by_cases h2 : y = 2
      · have he : (((y.toNat : Int) == 2)) = true := by rw [h2]; rfl
        have hst := hb.set k (by rw [hcl]; exact hlt) 0
        rw [commitTo_two xs k hlt (by rw [← hyH.out]; exact h2)] at hst
        have hf : Fr (fun q => q = w.heap.size) wr (wr.setCell ⟨w.heap.size, 1 + k, none⟩ (.int .u8 0)) := (Fr.refl (fun q => q = w.heap.size) wr).setCell (p := ⟨w.heap.size, 1 + k, none⟩) (.inl rfl) _
        have hr2 : RAt (wr.setCell ⟨w.heap.size, 1 + k, none⟩ (.int .u8 0)) (w.heap.size + 1) [] := (hf.block _ (heap_lt hr) (by omega)).trans hr
        have hnw2 : Nw w (wr.setCell ⟨w.heap.size, 1 + k, none⟩ (.int .u8 0)) := Fr.trans hnw hf (fun q hq => .inr (by omega))
        have hfz := hb.free (1 + k)
        clear h2 hb hf hr hyH hcl
        generalize (y.toNat : Int) = x at *
        go_wp2
        go_roundw
        case rel => exact ⟨k + 1, by omega, by go_num, hst, hr2, hnw2⟩
        case measure => simp [intOf]; omega
      · have he : (((y.toNat : Int) == 2)) = false := by
          have := u8_beq y 2
          simp only [h2, decide_false] at this
          simpa using this
        have hst : RAt wr w.heap.size (commitTo xs (k + 1)) := by rw [← commitTo_other xs k hlt (by rw [← hyH.out]; exact h2)]; exact hb
        clear h2 hb hyH hcl
        generalize (y.toNat : Int) = x at *
        go_wp2
        go_roundw
        case rel => exact ⟨k + 1, by omega, by go_num, hst, hr, hnw⟩
        case measure => simp [intOf]; omega
    · obtain rfl : k = xs.length := by omega
      rw [commitTo_all] at hb
      have hyl : (commitX xs).length ≤ 1024 := by rw [commitX_length]; exact hx
      have hrm := range_all hb
      have hr2 : RAt (wr.setRow (w.heap.size + 1) (rmc (commitX xs)).toArray) (w.heap.size + 1) (commitX xs) := setRow_heap wr _ _ _ 31 _ hr
      have hnw2 : Nw w (wr.setRow (w.heap.size + 1) (rmc (commitX xs)).toArray) := Fr.setRow hnw (.inr (by omega)) _
      clear hb hcl
      generalize hys : commitX xs = ys at *
      have hysH : Hid (commitX xs = ys) := hys
      clear hys
      go_upto_region 6 with fail
      go_wp2_with (first
        | (refine wpList_load_as rfl 31 (.tmp 1) rfl w.heap.size 0 rfl (rmv ys) _ rfl hrm Try.rowR (sizeR hyl) ?_)
        | (refine wpList_store_all rfl 31 (.tmp 2) _ rfl (w.heap.size + 1) rfl (rmv ys) rfl _ rfl _ 31 hr (fitR hyl (by simp)) (rmc_one _) (sizeR hyl) ?_))
      refine bodyPost_ret (results_cell1 rfl _ (w.heap.size + 1) _ _ rfl rfl (range_all hr2) Try.rowR (sizeR hyl)) rfl ?_
      rw [hysH.out]
      exact ⟨rfl, hnw2⟩
end Go.Proofs.Ytelobmdlnkkbkaa
