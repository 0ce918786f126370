/-
  The document's turn, Take, Free, Later.
-/
import Derived.Test.YtelobmdlnkkbkaaExtR3
import Derived.Deep.CutBlock
import Derived.Deep.CutRange
import Derived.Deep.DeepCutAuto
namespace Go.Proofs.Ytelobmdlnkkbkaa
set_option linter.unusedVariables false
set_option linter.unusedSimpArgs false
set_option maxRecDepth 20000
open Go.RowKit

/-- The variables of turn: the map, the extent, the result. -/
structure TurnV (w V : World) (N1 : Nat) (xs : List UInt8) (s l : Int) : Prop where
  m : RAt V w.heap.size xs
  e : V.heap[N1]? = some (.cells #[.int .i64 s, .int .i64 l] 34 (0, 0))
  r : RAt V (N1 + 1) []
  nw : Nw w V
  lt : w.heap.size < N1

theorem TurnV.keep {w V V' : World} {N1 : Nat} {xs : List UInt8} {s l : Int} (h : TurnV w V N1 xs s l) {T : Nat → Prop} (hf : Fr T V V') (hT : ∀ k, T k → N1 + 1 < k) : TurnV w V' N1 xs s l :=
  ⟨(hf.block _ (heap_lt h.m) (fun ht => by have := hT _ ht; have := h.lt; omega)).trans h.m, (hf.block _ (heap_lt h.e) (fun ht => by have := hT _ ht; omega)).trans h.e,
    (hf.block _ (heap_lt h.r) (fun ht => by have := hT _ ht; omega)).trans h.r, Fr.trans h.nw hf (fun k hk => .inr (by have := hT k hk; have := h.lt; omega)), h.lt⟩

theorem turnV (w W1 : World) (xs : List UInt8) (s l : Int) (hb : RAt W1 w.heap.size xs) (hn : Nw w W1) :
    TurnV w ((W1.alloc (.cells #[.int .i64 s, .int .i64 l] 34)).alloc (.cells (rmc []).toArray 31)) W1.heap.size xs s l := by
  have h1 := heap_lt hb
  refine ⟨(Below.heap_alloc _ _ _ (by simp; omega)).trans ((Below.heap_alloc _ _ _ h1).trans hb), heap_alloc2_old W1 _ _, heap_alloc2_new W1 _ _, Fr.alloc (Fr.alloc hn _) _, h1⟩

/-- The result written. -/
theorem TurnV.ret {w V : World} {N1 : Nat} {xs : List UInt8} {s l : Int} (h : TurnV w V N1 xs s l) (ys : List UInt8) : RAt (V.setRow (N1 + 1) (rmc ys).toArray) (N1 + 1) ys ∧ Nw w (V.setRow (N1 + 1) (rmc ys).toArray) :=
  ⟨setRow_heap V _ _ _ 31 _ h.r, h.nw.setRow (.inr (by have := h.lt; omega)) _⟩

set_option maxHeartbeats 3200000 in
theorem c_rturn {xs : List UInt8} (w : World) (hx : xs.length ≤ 1024) (s l : Int) (c d : UInt8) (hs1 : -9223372036854775808 ≤ s) (hs2 : s ≤ 9223372036854775807) (hl1 : -9223372036854775808 ≤ l) (hl2 : l ≤ 9223372036854775807) :
    Calls Try.prog 32 #[rmv xs, ext s l, .int .u8 (c.toNat : Int), .int .u8 (d.toNat : Int)] w fun e w' => e = .returned (.tuple #[rmv (turnX xs s l c d), .bool (canT xs s l c)]) ∧ Nw w w' := by
  obtain ⟨cc, hcc⟩ : ∃ cc : Int, Hid (cc = (c.toNat : Int)) := ⟨_, rfl⟩
  rw [← hcc.out]
  have hb : RAt (w.alloc (.cells (rmc xs).toArray 31)) w.heap.size xs := heap_alloc_new w _
  have hn : Nw w (w.alloc (.cells (rmc xs).toArray 31)) := (Fr.refl _ w).alloc _
  generalize hW : w.alloc (.cells (rmc xs).toArray 31) = W1 at *
  have hWH : Hid (w.alloc (.cells (rmc xs).toArray 31) = W1) := hW
  clear hW
  have hV := turnV w W1 xs s l hb hn
  generalize hW3 : (W1.alloc (.cells #[.int .i64 s, .int .i64 l] 34)).alloc (.cells (rmc []).toArray 31) = V at *
  have hW3H : Hid ((W1.alloc (.cells #[.int .i64 s, .int .i64 l] 34)).alloc (.cells (rmc []).toArray 31) = V) := hW3
  clear hW3 hb hn
  generalize hN1 : W1.heap.size = N1 at *
  have hN1H : Hid (W1.heap.size = N1) := hN1
  clear hN1
  have m0 := hV.m.c0
  have e0 : V.cell? ⟨N1, 0, none⟩ = some (.int .i64 s) := cell_blk hV.e rfl
  have e1 : V.cell? ⟨N1, 1, none⟩ = some (.int .i64 l) := cell_blk hV.e rfl
  have hrm := range_all hV.m
  obtain ⟨hr1, hr2⟩ := hV.ret xs
  have hfr := hV.r
  unfold ext
  cases hh : hasT xs s l with
  | false =>
    have f1 : canT xs s l c = false := canT_has hh
    have f2 : turnX xs s l c d = xs := by unfold turnX; rw [f1]; rfl
    rw [f1, f2]
    have hno := of_decide_eq_false hh
    clear f1 f2 hh
    by_cases g1 : l < 1
    · have dB : decide (l < 1) = true := decide_eq_true g1
      go_enter Try.func32, Try.ntmps32
      go_wp2_with (refine wpList_box_agg rfl 31 (.tmp 0) rfl (rmv xs) _ rfl rfl ?_; rw [hWH.out]; refine stop_here ?_)
      unfold Hid
      go_wp2_with (refine wpList_alloc_agg rfl 31 rfl _ Try.zeroR ?_; rw [hW3H.out]; refine stop_here ?_)
      unfold Hid
      rw [hN1H.out]
      go_upto_region 2 with fail
      go_wp2_with (first
        | (refine wpList_load_as rfl 31 (.tmp 4) rfl w.heap.size 0 rfl (rmv xs) _ rfl hrm Try.rowR (sizeR hx) ?_)
        | (refine wpList_store_all rfl 31 (.tmp 8) _ rfl (N1 + 1) rfl (rmv xs) rfl _ rfl _ 31 hfr (fitR hx (by simp)) (rmc_one _) (sizeR hx) ?_))
      refine bodyPost_ret (results_cell2 rfl _ (N1 + 1) _ _ rfl rfl (range_all hr1) Try.rowR (sizeR hx)) rfl ?_
      exact ⟨rfl, hr2⟩
    have d1 : decide (l < 1) = false := decide_eq_false g1
    by_cases g2 : (xs.length : Int) < l
    · have dB : decide ((xs.length : Int) < l) = true := decide_eq_true g2
      go_enter Try.func32, Try.ntmps32
      go_wp2_with (refine wpList_box_agg rfl 31 (.tmp 0) rfl (rmv xs) _ rfl rfl ?_; rw [hWH.out]; refine stop_here ?_)
      unfold Hid
      go_wp2_with (refine wpList_alloc_agg rfl 31 rfl _ Try.zeroR ?_; rw [hW3H.out]; refine stop_here ?_)
      unfold Hid
      rw [hN1H.out]
      go_upto_region 2 with fail
      go_wp2_with (first
        | (refine wpList_load_as rfl 31 (.tmp 4) rfl w.heap.size 0 rfl (rmv xs) _ rfl hrm Try.rowR (sizeR hx) ?_)
        | (refine wpList_store_all rfl 31 (.tmp 8) _ rfl (N1 + 1) rfl (rmv xs) rfl _ rfl _ 31 hfr (fitR hx (by simp)) (rmc_one _) (sizeR hx) ?_))
      refine bodyPost_ret (results_cell2 rfl _ (N1 + 1) _ _ rfl rfl (range_all hr1) Try.rowR (sizeR hx)) rfl ?_
      exact ⟨rfl, hr2⟩
    have d2 : decide ((xs.length : Int) < l) = false := decide_eq_false g2
    by_cases g3 : s < 0
    · have dB : decide (s < 0) = true := decide_eq_true g3
      go_enter Try.func32, Try.ntmps32
      go_wp2_with (refine wpList_box_agg rfl 31 (.tmp 0) rfl (rmv xs) _ rfl rfl ?_; rw [hWH.out]; refine stop_here ?_)
      unfold Hid
      go_wp2_with (refine wpList_alloc_agg rfl 31 rfl _ Try.zeroR ?_; rw [hW3H.out]; refine stop_here ?_)
      unfold Hid
      rw [hN1H.out]
      go_upto_region 2 with fail
      go_wp2_with (first
        | (refine wpList_load_as rfl 31 (.tmp 4) rfl w.heap.size 0 rfl (rmv xs) _ rfl hrm Try.rowR (sizeR hx) ?_)
        | (refine wpList_store_all rfl 31 (.tmp 8) _ rfl (N1 + 1) rfl (rmv xs) rfl _ rfl _ 31 hfr (fitR hx (by simp)) (rmc_one _) (sizeR hx) ?_))
      refine bodyPost_ret (results_cell2 rfl _ (N1 + 1) _ _ rfl rfl (range_all hr1) Try.rowR (sizeR hx)) rfl ?_
      exact ⟨rfl, hr2⟩
    have d3 : decide (s < 0) = false := decide_eq_false g3
    have g4 : (xs.length : Int) - l < s := by
      refine Int.not_le.1 (fun h => hno ⟨by omega, by omega, by omega⟩)
    have dB : decide ((xs.length : Int) - l < s) = true := decide_eq_true g4
    go_enter Try.func32, Try.ntmps32
    go_wp2_with (refine wpList_box_agg rfl 31 (.tmp 0) rfl (rmv xs) _ rfl rfl ?_; rw [hWH.out]; refine stop_here ?_)
    unfold Hid
    go_wp2_with (refine wpList_alloc_agg rfl 31 rfl _ Try.zeroR ?_; rw [hW3H.out]; refine stop_here ?_)
    unfold Hid
    rw [hN1H.out]
    go_upto_region 2 with fail
    go_wp2_with (first
      | (refine wpList_load_as rfl 31 (.tmp 4) rfl w.heap.size 0 rfl (rmv xs) _ rfl hrm Try.rowR (sizeR hx) ?_)
      | (refine wpList_store_all rfl 31 (.tmp 8) _ rfl (N1 + 1) rfl (rmv xs) rfl _ rfl _ 31 hfr (fitR hx (by simp)) (rmc_one _) (sizeR hx) ?_))
    refine bodyPost_ret (results_cell2 rfl _ (N1 + 1) _ _ rfl rfl (range_all hr1) Try.rowR (sizeR hx)) rfl ?_
    exact ⟨rfl, hr2⟩
  | true =>
    have hq := of_decide_eq_true hh
    obtain ⟨s, rfl⟩ : ∃ s' : Nat, s = (s' : Int) := ⟨s.toNat, by omega⟩
    obtain ⟨l, rfl⟩ : ∃ l' : Nat, l = (l' : Int) := ⟨l.toNat, by omega⟩
    have hll : 1 ≤ l := by omega
    have hsl : s + l ≤ xs.length := by omega
    have hhH : Hid (hasT xs s l = true) := hh
    have d1 : decide ((l : Int) < 1) = false := decide_eq_false (by omega)
    have d2 : decide ((xs.length : Int) < (l : Int)) = false := decide_eq_false (by omega)
    have d3 : decide ((s : Int) < 0) = false := decide_eq_false (by omega)
    have d4 : decide ((xs.length : Int) - (l : Int) < (s : Int)) = false := decide_eq_false (by omega)
    clear hq hh
    have hnx : RAt ((V.alloc (.cells (rmc []).toArray 31)).setRow V.heap.size (rmc xs).toArray) V.heap.size xs := setRow_heap _ _ _ _ 31 _ (heap_alloc_new V _)
    have hfV : Fr (fun k => k = V.heap.size) V ((V.alloc (.cells (rmc []).toArray 31)).setRow V.heap.size (rmc xs).toArray) := Fr.setRow (S := fun k => k = V.heap.size) (g := V.heap.size) (Fr.alloc (Fr.refl _ V) _) (.inl rfl) _
    have hVlt : N1 + 1 < V.heap.size := heap_lt hV.r
    have hV4 := hV.keep hfV (fun k hk => by omega)
    generalize hW4 : (V.alloc (.cells (rmc []).toArray 31)).setRow V.heap.size (rmc xs).toArray = V4 at *
    have hW4H : Hid ((V.alloc (.cells (rmc []).toArray 31)).setRow V.heap.size (rmc xs).toArray = V4) := hW4
    clear hW4 hr1 hr2 hfr hfV
    have w0 : V4.cell? ⟨N1, 0, none⟩ = some (.int .i64 (s : Int)) := cell_blk hV4.e rfl
    have w1 : V4.cell? ⟨N1, 1, none⟩ = some (.int .i64 (l : Int)) := cell_blk hV4.e rfl
    go_enter Try.func32, Try.ntmps32
    go_wp2_with (refine wpList_box_agg rfl 31 (.tmp 0) rfl (rmv xs) _ rfl rfl ?_; rw [hWH.out]; refine stop_here ?_)
    unfold Hid
    go_wp2_with (refine wpList_alloc_agg rfl 31 rfl _ Try.zeroR ?_; rw [hW3H.out]; refine stop_here ?_)
    unfold Hid
    rw [hN1H.out]
    go_upto_region 3 with fail
    go_wp2_with (first
      | (refine wpList_alloc_agg rfl 31 rfl _ Try.zeroR ?_)
      | (refine wpList_load_as rfl 31 (.tmp 4) rfl w.heap.size 0 rfl (rmv xs) _ rfl hrm Try.rowR (sizeR hx) ?_)
      | (refine wpList_store_all rfl 31 (.tmp 10) _ rfl V.heap.size rfl (rmv xs) rfl _ rfl _ 31 (heap_alloc_new V _) (fitR hx (by simp)) (rmc_one _) (sizeR hx) ?_; rw [hW4H.out]))
    generalize hnb : V.heap.size = nb at *
    clear hnb m0 e0 e1 hrm hV hWH hW3H hN1H hW4H
    go_loopw [11] (fun i wr => ∃ k : Nat, k ≤ l ∧ i = .int .i64 ((s + k : Nat) : Int) ∧ (∀ j, j < k → xs[s + j]? = some c) ∧ RAt wr nb (layx xs s k d) ∧ TurnV w wr N1 xs s l) (fun i _ => s + l - (intOf i).toNat)
    case atStart => exact ⟨0, Nat.zero_le _, by go_num, fun j hj => by omega, hnx, hV4⟩
    case round =>
      clear hnx hV4 w0 w1
      obtain ⟨k, hk, rfl, hall, hnx, hV⟩ := hrel
      have hallH : Hid (∀ j, j < k → xs[s + j]? = some c) := hall
      clear hall
      have e0 : wr.cell? ⟨N1, 0, none⟩ = some (.int .i64 (s : Int)) := cell_blk hV.e rfl
      have e1 : wr.cell? ⟨N1, 1, none⟩ = some (.int .i64 (l : Int)) := cell_blk hV.e rfl
      have hly := layx_length xs s k d
      by_cases hlt : k < l
      · have hlx : s + k < xs.length := by omega
        have hc := hV.m.cell (s + k) hlx
        by_cases hxk : xs[s + k] = c
        · have he : (((xs[s + k].toNat : Int) != cc)) = false := by rw [hcc.out, hxk]; simp
          have hall2 : Hid (∀ j, j < k + 1 → xs[s + j]? = some c) := fun j hj => by
            by_cases e : j = k
            · subst e; rw [List.getElem?_eq_getElem hlx, hxk]
            · exact hallH.out j (by omega)
          obtain ⟨old, hcn⟩ : ∃ old : Int, wr.cell? ⟨nb, 1 + (s + k), none⟩ = some (.int .u8 old) := ⟨_, hnx.cell (s + k) (by rw [hly]; exact hlx)⟩
          have hfz := hnx.free (1 + (s + k))
          have hnx2 : RAt (wr.setCell ⟨nb, 1 + (s + k), none⟩ (.int .u8 (d.toNat : Int))) nb (layx xs s (k + 1) d) := hnx.set (s + k) (by rw [hly]; exact hlx) d
          have hV2 := hV.keep (MapAt.setFr (g := nb) (1 + (s + k)) (.int .u8 (d.toNat : Int))) (fun q hq => by omega)
          clear hxk hallH hnx hV hly
          generalize (xs[s + k].toNat : Int) = x at *
          generalize hri : s + k = ri at *
          have hriH : Hid (s + k = ri) := hri
          clear hri
          have hr1 : ri < s + l := by have := hriH.out; omega
          have hr2 : ri < 1024 := by omega
          go_wp2
          go_roundw
          case rel => exact ⟨k + 1, by omega, by rw [← Nat.add_assoc, hriH.out]; go_num, hall2.out, hnx2, hV2⟩
          case measure => simp [intOf]; omega
        · have he : (((xs[s + k].toNat : Int) != cc)) = true := by rw [hcc.out, bne, u8_beq]; simp [hxk]
          have hno : canT xs s l c = false := canT_no hlt (by rw [List.getElem?_eq_getElem hlx]; simpa using hxk)
          have f1 : Hid (canT xs s l c = false) := hno
          have f2 : Hid (turnX xs s l c d = xs) := by unfold Hid turnX; rw [hno]; rfl
          have hrm := range_all hV.m
          have hfr := hV.r
          obtain ⟨hr1, hr2⟩ := hV.ret xs
          clear hno hxk hallH hnx hV hly
          generalize (xs[s + k].toNat : Int) = x at *
          generalize hri : s + k = ri at *
          have hriH : Hid (s + k = ri) := hri
          clear hri
          have hr3 : ri < s + l := by have := hriH.out; omega
          have hr4 : ri < 1024 := by omega
          go_upto_region 8 with fail
          go_wp2_with (first
            | (refine wpList_load_as rfl 31 (.tmp 4) rfl w.heap.size 0 rfl (rmv xs) _ rfl hrm Try.rowR (sizeR hx) ?_)
            | (refine wpList_store_all rfl 31 (.tmp 8) _ rfl (N1 + 1) rfl (rmv xs) rfl _ rfl _ 31 hfr (fitR hx (by simp)) (rmc_one _) (sizeR hx) ?_))
          refine bodyPost_ret (results_cell2 rfl _ (N1 + 1) _ _ rfl rfl (range_all hr1) Try.rowR (sizeR hx)) rfl ?_
          rw [f1.out, f2.out]
          exact ⟨rfl, hr2⟩
      · obtain rfl : k = l := by omega
        have hyes : canT xs s k c = true := canT_yes hhH.out (fun i hi => hallH.out i hi)
        have f1 : Hid (canT xs s k c = true) := hyes
        have f2 : Hid (turnX xs s k c d = layx xs s k d) := by unfold Hid turnX; rw [hyes]; simp
        have hrm := range_all hnx
        have hfr := hV.r
        have hyl : (layx xs s k d).length ≤ 1024 := by omega
        obtain ⟨hr1, hr2⟩ := hV.ret (layx xs s k d)
        clear hyes hallH hnx hV hly hhH
        generalize layx xs s k d = ys at *
        go_upto_region 10 with fail
        go_wp2_with (first
          | (refine wpList_load_as rfl 31 (.tmp 10) rfl nb 0 rfl (rmv ys) _ rfl hrm Try.rowR (sizeR hyl) ?_)
          | (refine wpList_store_all rfl 31 (.tmp 8) _ rfl (N1 + 1) rfl (rmv ys) rfl _ rfl _ 31 hfr (fitR hyl (by simp)) (rmc_one _) (sizeR hyl) ?_))
        refine bodyPost_ret (results_cell2 rfl _ (N1 + 1) _ _ rfl rfl (range_all hr1) Try.rowR (sizeR hyl)) rfl ?_
        rw [f1.out, f2.out]
        exact ⟨rfl, hr2⟩
end Go.Proofs.Ytelobmdlnkkbkaa
