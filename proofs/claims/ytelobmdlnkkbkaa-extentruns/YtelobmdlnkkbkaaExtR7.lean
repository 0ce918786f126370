/-
  The document's Alloc: the walk.
-/
import Derived.Test.YtelobmdlnkkbkaaExtR6
namespace Go.Proofs.Ytelobmdlnkkbkaa
set_option linter.unusedVariables false
set_option linter.unusedSimpArgs false
set_option maxRecDepth 20000
open Go.RowKit

/-- The result's variables, the map written. -/
structure RV (w V : World) (ys : List UInt8) : Prop where
  r : RAt V (w.heap.size + 1) ys
  e : V.heap[w.heap.size + 2]? = some (.cells #[.int .i64 0, .int .i64 0] 34 (0, 0))
  nw : Nw w V

theorem AlV.put {w V : World} {xs : List UInt8} (h : AlV w V xs) (ys : List UInt8) : RV w (V.setRow (w.heap.size + 1) (rmc ys).toArray) ys :=
  ⟨setRow_heap V _ _ _ 31 _ h.r, (setRow_other V _ _ _ (by omega)).trans h.e, Fr.setRow h.nw (.inr (by omega)) _⟩

theorem RV.ret {w V : World} {ys : List UInt8} (h : RV w V ys) (x y : Int) : RAt ((V.setCell ⟨w.heap.size + 2, 0, none⟩ (.int .i64 x)).setCell ⟨w.heap.size + 2, 1, none⟩ (.int .i64 y)) (w.heap.size + 1) ys ∧
    ((V.setCell ⟨w.heap.size + 2, 0, none⟩ (.int .i64 x)).setCell ⟨w.heap.size + 2, 1, none⟩ (.int .i64 y)).heap[w.heap.size + 2]? = some (.cells #[.int .i64 x, .int .i64 y] 34 (0, 0)) ∧
    Nw w ((V.setCell ⟨w.heap.size + 2, 0, none⟩ (.int .i64 x)).setCell ⟨w.heap.size + 2, 1, none⟩ (.int .i64 y)) ∧
    Fr (fun k => k = w.heap.size + 2) V ((V.setCell ⟨w.heap.size + 2, 0, none⟩ (.int .i64 x)).setCell ⟨w.heap.size + 2, 1, none⟩ (.int .i64 y)) := by
  have f1 : Fr (fun k => k = w.heap.size + 2) V ((V.setCell ⟨w.heap.size + 2, 0, none⟩ (.int .i64 x)).setCell ⟨w.heap.size + 2, 1, none⟩ (.int .i64 y)) :=
    ((Fr.refl (fun k => k = w.heap.size + 2) _).setCell (p := ⟨w.heap.size + 2, 0, none⟩) (.inl rfl) _).setCell (p := ⟨w.heap.size + 2, 1, none⟩) (.inl rfl) _
  refine ⟨(f1.block _ (heap_lt h.r) (by omega)).trans h.r, ?_, Fr.trans h.nw f1 (fun k hk => .inr (by omega)), f1⟩
  rw [blk_setCell (blk_setCell h.e)]
  rfl

theorem turn_pick {xs : List UInt8} {n : Nat} (hn : 1 ≤ n) (h : 0 < xs.count 0) : turnX xs (pick xs n).1 (pick xs n).2 0 1 = allocX xs n := by
  obtain ⟨p1, p2, p3, p4⟩ := pick_some hn h
  have hc : canT xs (pick xs n).1 (pick xs n).2 0 = true := by
    refine canT_yes ?_ (fun i hi => p4 _ ?_)
    · unfold hasT; exact decide_eq_true (by omega)
    · unfold Ins; omega
  unfold turnX allocX
  rw [if_pos hc]
  simp

set_option maxRecDepth 100000 in
set_option maxHeartbeats 3200000 in
theorem c_ralloc {xs : List UInt8} (w : World) (hx : xs.length ≤ 1024) (n : Int) (hn2 : n ≤ 9223372036854775807) :
    Calls Try.prog 14 #[rmv xs, .int .i64 n] w fun e w' => e = .returned (.tuple #[rmv (allocM xs n), ext (allocV xs n).1 (allocV xs n).2, .int .i64 (allocE xs n)]) ∧ Nw w w' := by
  have hA := alV w xs
  generalize hV : ((w.alloc (.cells (rmc xs).toArray 31)).alloc (.cells (rmc []).toArray 31)).alloc (.cells #[.int .i64 0, .int .i64 0] 34) = V at *
  have hVH : Hid (((w.alloc (.cells (rmc xs).toArray 31)).alloc (.cells (rmc []).toArray 31)).alloc (.cells #[.int .i64 0, .int .i64 0] 34) = V) := hV
  clear hV
  by_cases hn1 : n < 1
  · have e1 : allocE xs n = 72 := by unfold allocE; rw [if_pos hn1]
    have e2 : allocV xs n = (0, 0) := by unfold allocV; rw [if_pos hn1]
    have e3 : allocM xs n = xs := by unfold allocM; rw [if_pos hn1]
    rw [e1, e2, e3]
    clear e1 e2 e3
    go_enter Try.func14, Try.ntmps14
    go_wp2_with (first
      | (refine wpList_box_agg rfl 31 (.tmp 0) rfl (rmv xs) _ rfl rfl ?_)
      | (refine wpList_alloc_agg rfl 31 rfl _ Try.zeroR ?_; refine stop_here ?_))
    unfold Hid
    go_upto_region 1 with fail
    rw [hVH.out]
    clear hVH

    have hrmE := range_all hA.m
    have hRE := hA.put xs
    have hrE := hA.r
    generalize hX : V.setRow (w.heap.size + 1) (rmc xs).toArray = X at *
    have hXH : Hid (V.setRow (w.heap.size + 1) (rmc xs).toArray = X) := hX
    clear hX
    have x0 : X.cell? ⟨w.heap.size + 2, 0, none⟩ = some (.int .i64 0) := cell_blk hRE.e rfl
    have x1 : X.cell? ⟨w.heap.size + 2, 1, none⟩ = some (.int .i64 0) := cell_blk hRE.e rfl
    have xf : ∀ i, X.frozen? ⟨w.heap.size + 2, i, none⟩ = false := fun i => free_blk hRE.e
    obtain ⟨r1, r2, r3, r4⟩ := hRE.ret 0 0
    clear hRE r4
    go_upto_region 2 with fail
    go_wp2_with (first
      | (refine wpList_load_as rfl 31 (.tmp 2) rfl w.heap.size 0 rfl (rmv xs) _ rfl hrmE Try.rowR (sizeR hx) ?_)
      | (refine wpList_store_all rfl 31 (.tmp 4) _ rfl (w.heap.size + 1) rfl (rmv xs) rfl _ rfl _ 31 hrE (fitR hx (by simp)) (rmc_one _) (sizeR hx) ?_; rw [hXH.out]))
    refine bodyPost_ret (results_cell3 rfl _ (w.heap.size + 1) (w.heap.size + 2) _ _ _ _ rfl rfl rfl rfl (range_all r1) (range_all r2) Try.rowR (sizeR hx) Try.rowE (sizeE 0 0)) rfl ?_
    exact ⟨rfl, r3⟩

  · obtain ⟨n, rfl⟩ : ∃ n' : Nat, n = (n' : Int) := ⟨n.toNat, by omega⟩
    have hn1' : 1 ≤ n := by omega
    have e2 : allocV xs n = pick xs n := by unfold allocV; rw [if_neg hn1]; simp
    have e3 : allocM xs n = allocX xs n := by unfold allocM; rw [if_neg hn1]; simp
    rw [e2, e3]
    clear e2 e3
    have hls := c_rlist 0 V hx
    have hrm := range_all hA.m
    have hsm := runs_small (c := 0) hx
    have hrl := runs_length 0 xs
    by_cases hc0 : xs.count 0 = 0
    · have e1 : allocE xs n = 73 := by unfold allocE; rw [if_neg hn1, if_pos hc0]
      have e2 := pick_none n hc0
      have e3 : allocX xs n = xs := by unfold allocX; rw [e2]; rfl
      rw [e1, e2, e3]
      rw [runs_nil hc0] at hls
      clear e1 e2 e3 hc0
      go_enter Try.func14, Try.ntmps14
      go_wp2_with (first
        | (refine wpList_box_agg rfl 31 (.tmp 0) rfl (rmv xs) _ rfl rfl ?_)
        | (refine wpList_alloc_agg rfl 31 rfl _ Try.zeroR ?_; refine stop_here ?_))
      unfold Hid
      go_upto_region 1 with fail
      rw [hVH.out]
      clear hVH

      go_upto_region 3 with fail
      go_wp2_with (first
        | (refine wpList_load_as rfl 31 (.tmp 2) rfl w.heap.size 0 rfl (rmv xs) _ rfl hrm Try.rowR (sizeR hx) ?_)
        | (go_at_call 27; refine hls.mono ?_; rintro e V5 ⟨v, rfl, hr, hn5⟩; refine stop_here ?_))
      unfold Hid
      obtain ⟨lo, lc, rfl⟩ := owns_form hr
      simp only [List.length_nil]
      have hA5 := hA.nw' hn5
      clear hA hr hn5 hls hrm
      have hrmE := range_all hA5.m
      have hRE := hA5.put xs
      have hrE := hA5.r
      generalize hX : V5.setRow (w.heap.size + 1) (rmc xs).toArray = X at *
      have hXH : Hid (V5.setRow (w.heap.size + 1) (rmc xs).toArray = X) := hX
      clear hX
      have x0 : X.cell? ⟨w.heap.size + 2, 0, none⟩ = some (.int .i64 0) := cell_blk hRE.e rfl
      have x1 : X.cell? ⟨w.heap.size + 2, 1, none⟩ = some (.int .i64 0) := cell_blk hRE.e rfl
      have xf : ∀ i, X.frozen? ⟨w.heap.size + 2, i, none⟩ = false := fun i => free_blk hRE.e
      obtain ⟨r1, r2, r3, r4⟩ := hRE.ret 0 0
      clear hRE r4
      go_upto_region 5 with fail
      go_wp2_with (first
        | (refine wpList_load_as rfl 31 (.tmp 2) rfl w.heap.size 0 rfl (rmv xs) _ rfl hrmE Try.rowR (sizeR hx) ?_)
        | (refine wpList_store_all rfl 31 (.tmp 4) _ rfl (w.heap.size + 1) rfl (rmv xs) rfl _ rfl _ 31 hrE (fitR hx (by simp)) (rmc_one _) (sizeR hx) ?_; rw [hXH.out]))
      refine bodyPost_ret (results_cell3 rfl _ (w.heap.size + 1) (w.heap.size + 2) _ _ _ _ rfl rfl rfl rfl (range_all r1) (range_all r2) Try.rowR (sizeR hx) Try.rowE (sizeE 0 0)) rfl ?_
      exact ⟨rfl, r3⟩

    · have e1 : allocE xs n = 0 := by unfold allocE; rw [if_neg hn1, if_neg hc0]
      rw [e1]
      have hgt := turn_pick hn1' (by omega : 0 < xs.count 0)
      obtain ⟨p1, p2, p3, p4⟩ := pick_some hn1' (by omega : 0 < xs.count 0)
      have hyl : (allocX xs n).length ≤ 1024 := by rw [allocX_length]; exact hx
      obtain ⟨e0, es0, hes⟩ := runs_cons (by omega : 0 < xs.count 0)
      have hR0 : pick xs n = choose n (runs 0 xs) (0, 0) := rfl
      have hR : Hid (pick xs n = choose n (runs 0 xs) e0) := by
        unfold Hid
        rw [hR0, hes, choose_start n e0 es0 (runs_mem 0 xs e0 (by rw [hes]; exact List.mem_cons_self)).1]
      have he0 := hsm e0 (by rw [hes]; exact List.mem_cons_self)
      have hget0 : (runs 0 xs)[0]? = some e0 := by rw [hes]; rfl
      have hlen0 : 0 < (runs 0 xs).length := by rw [hes]; simp
      clear e1 hc0 p4 hR0 hes es0
      generalize hpk : pick xs n = p at *
      generalize hys : allocX xs n = ys at *
      have hpt : Hid (turnX xs (p.1 : Int) (p.2 : Int) 0 1 = ys) := hgt
      clear hgt hpk hys
      go_enter Try.func14, Try.ntmps14
      go_wp2_with (first
        | (refine wpList_box_agg rfl 31 (.tmp 0) rfl (rmv xs) _ rfl rfl ?_)
        | (refine wpList_alloc_agg rfl 31 rfl _ Try.zeroR ?_; refine stop_here ?_))
      unfold Hid
      go_upto_region 1 with fail
      rw [hVH.out]
      clear hVH

      go_upto_region 3 with fail
      go_wp2_with (first
        | (refine wpList_load_as rfl 31 (.tmp 2) rfl w.heap.size 0 rfl (rmv xs) _ rfl hrm Try.rowR (sizeR hx) ?_)
        | (go_at_call 27; refine hls.mono ?_; rintro e V5 ⟨v, rfl, hr, hn5⟩; refine stop_here ?_))
      unfold Hid
      have hA5 := hA.nw' hn5
      have hE5 := hr.esl
      have hVl : w.heap.size + 2 < V.heap.size := heap_lt hA.e
      have hV5l : V.heap.size ≤ V5.heap.size := hn5.size
      generalize hes : runs 0 xs = es at *
      clear hes
      obtain ⟨lo, lc, rfl, hlc1, hlc2⟩ := hE5.form
      have hgx : es[0] = e0 := by rw [List.getElem?_eq_getElem hlen0] at hget0; simpa using hget0
      have hlb : ((es.length : Int) == 0) = false := beq_eq_false_iff_ne.2 (by omega)
      obtain ⟨q1, o1, rfl, _, g0, g1⟩ := hE5.get 0 hlen0
      rw [hgx] at g0 g1
      simp only [Nat.zero_mul, Nat.add_zero] at g0 g1
      have hf5 : Fr (fun q => q = V5.heap.size) V5 (V5.alloc (.cells #[.int .i64 (e0.1 : Int), .int .i64 (e0.2 : Int)] 34)) := (Fr.refl _ V5).alloc _
      have hA5' := hA5.keep hf5 (fun k hk => by omega)
      have hlg5 : (V5.alloc (.cells #[.int .i64 (e0.1 : Int), .int .i64 (e0.2 : Int)] 34)).heap[V5.heap.size]? = some (.cells #[.int .i64 (e0.1 : Int), .int .i64 (e0.2 : Int)] 34 (0, 0)) := heap_alloc_new V5 _
      have hE5' : ESl (fun q => q < V5.heap.size) (V5.alloc (.cells #[.int .i64 (e0.1 : Int), .int .i64 (e0.2 : Int)] 34)) (.slice (some ⟨q1, o1, none⟩) es.length lc) es := (hE5.mono (X' := fun q => q < V5.heap.size) (fun b _ h => h)).keep hf5 (fun q hq e => by omega) (fun q hq _ => hq)
      clear hget0 hgx hA hr hn5 hls hrm hE5 hA5
      go_wp2
      generalize hV5' : V5.alloc (.cells #[.int .i64 (e0.1 : Int), .int .i64 (e0.2 : Int)] 34) = V5' at *
      clear hV5' hf5 g0 g1
      generalize V5.heap.size = lb at *
      go_loopw [27] (fun i wr => ∃ (k : Nat) (lg : Ext), k ≤ es.length ∧ i = .int .i64 k ∧ p = choose n (es.drop k) lg ∧ lg.1 ≤ 1024 ∧ lg.2 ≤ 1024 ∧ wr.heap[lb]? = some (.cells #[.int .i64 (lg.1 : Int), .int .i64 (lg.2 : Int)] 34 (0, 0)) ∧ AlV w wr xs ∧ Fr (fun q => q = lb) V5' wr) (fun i _ => es.length - (intOf i).toNat)
      case atStart => exact ⟨0, e0, Nat.zero_le _, rfl, hR.out, he0.1, he0.2, hlg5, hA5', Fr.refl _ _⟩
      case round =>
        clear hA5' hlg5 hR he0
        obtain ⟨k, lg, hk, rfl, hpk, hg1, hg2, hlg, hA, hf⟩ := hrel
        have hpkH : Hid (p = choose n (es.drop k) lg) := hpk
        clear hpk
        by_cases hlt : k < es.length
        · have hEk : ESl (fun _ => True) wr (.slice (some ⟨q1, o1, none⟩) es.length lc) es := hE5'.keep hf (fun q hq e => by omega) (fun _ _ _ => trivial)
          obtain ⟨q2, o2, heq, _, d0, d1⟩ := hEk.get k hlt
          simp only [Option.some.injEq, Addr.mk.injEq, and_true] at heq
          obtain ⟨rfl, rfl⟩ := heq
          have hee := hsm es[k] (List.getElem_mem hlt)
          have hst := choose_drop (n := n) (lg := lg) hlt
          have hRs : Hid (p = if n ≤ es[k].2 then (es[k].1, n) else choose n (es.drop (k + 1)) (if lg.2 < es[k].2 then es[k] else lg)) := by unfold Hid; rw [hpkH.out, hst]
          clear hst hpkH hEk hsm
          generalize es[k] = ek at *
          have hll := heap_lt hlg
          have l0 : wr.cell? ⟨lb, 0, none⟩ = some (.int .i64 (lg.1 : Int)) := cell_blk hlg rfl
          have l1 : wr.cell? ⟨lb, 1, none⟩ = some (.int .i64 (lg.2 : Int)) := cell_blk hlg rfl
          have lf : ∀ i, wr.frozen? ⟨lb, i, none⟩ = false := fun i => free_blk hlg
          by_cases hge : n ≤ ek.2
          · as_aux_lemma =>
              have hpe : p = (ek.1, n) := by rw [hRs.out, if_pos hge]
              have hQ : w.heap.size + 2 < wr.heap.size := heap_lt hA.e
              have hA6 : AlV w (wr.alloc (.cells #[.int .i64 (p.1 : Int), .int .i64 (p.2 : Int)] 34)) xs := hA.nw' ((Fr.refl _ wr).alloc _)
              have hq6 : (wr.alloc (.cells #[.int .i64 (p.1 : Int), .int .i64 (p.2 : Int)] 34)).heap[wr.heap.size]? = some (.cells #[.int .i64 (p.1 : Int), .int .i64 (p.2 : Int)] 34 (0, 0)) := heap_alloc_new wr _
              clear hRs l0 l1 lf hlg hf hA hE5'
              go_upto_region 12 with fail
              rw [show (wr.alloc (.cells #[.int .i64 (ek.1 : Int), .int .i64 (n : Int)] 34)) = wr.alloc (.cells #[.int .i64 (p.1 : Int), .int .i64 (p.2 : Int)] 34) by rw [hpe]]
              clear hpe
              generalize hV6 : wr.alloc (.cells #[.int .i64 (p.1 : Int), .int .i64 (p.2 : Int)] 34) = V6 at *
              clear hV6
              generalize wr.heap.size = Q at *
              have hrm6 := range_all hA6.m
              have q0 : V6.cell? ⟨Q, 0, none⟩ = some (.int .i64 (p.1 : Int)) := cell_blk hq6 rfl
              have q1 : V6.cell? ⟨Q, 1, none⟩ = some (.int .i64 (p.2 : Int)) := cell_blk hq6 rfl
              have htu := c_rturn V6 hx (p.1 : Int) (p.2 : Int) 0 1 (by omega) (by omega) (by omega) (by omega)
              rw [hpt.out] at htu
              generalize canT xs (p.1 : Int) (p.2 : Int) 0 = ok at htu
              unfold ext at htu
              go_wp2_with (first
                | (refine wpList_load_as rfl 31 (.tmp 2) rfl w.heap.size 0 rfl (rmv xs) _ rfl hrm6 Try.rowR (sizeR hx) ?_)
                | (go_at_call 32; refine htu.mono ?_; rintro e V7 ⟨rfl, hn7⟩; refine stop_here ?_))
              unfold Hid
              have hA7 := hA6.nw' hn7
              have hq7 := (hn7.block _ (heap_lt hq6) id).trans hq6
              have hm7 := hA7.m
              have hf8 : Fr (fun k => k = w.heap.size) V7 (V7.setRow w.heap.size (rmc ys).toArray) := Fr.setRow (S := fun k => k = w.heap.size) (g := w.heap.size) (Fr.refl _ V7) (.inl rfl) _
              have hA8 : AlV w (V7.setRow w.heap.size (rmc ys).toArray) ys := ⟨setRow_heap V7 _ _ _ 31 _ hm7, (hf8.block _ (heap_lt hA7.r) (by omega)).trans hA7.r, (hf8.block _ (heap_lt hA7.e) (by omega)).trans hA7.e, Fr.trans hA7.nw hf8 (fun k hk => .inr (by omega))⟩
              have hq8 := (hf8.block _ (heap_lt hq7) (by omega)).trans hq7
              generalize hW8 : V7.setRow w.heap.size (rmc ys).toArray = V8 at *
              have hW8H : Hid (V7.setRow w.heap.size (rmc ys).toArray = V8) := hW8
              clear hW8 hA6 hq6 hrm6 q0 q1 htu hn7 hA7 hq7 hf8
              go_wp2_with (refine wpList_store_all rfl 31 (.tmp 2) _ rfl w.heap.size rfl (rmv ys) rfl _ rfl _ 31 hm7 (fitR hyl hx) (rmc_one _) (sizeR hyl) ?_; rw [hW8H.out])
              have hA8d : AlV w V8.drew ys := ⟨hA8.m, hA8.r, hA8.e, Fr.drew hA8.nw⟩
              have hq8d : V8.drew.heap[Q]? = some (.cells #[.int .i64 (p.1 : Int), .int .i64 (p.2 : Int)] 34 (0, 0)) := hq8
              have hS9 : (fun w' : World => w'.rangeAt w.heap.size 0 (rmc ys) ∧ w'.rangeAt Q 0 [.int .i64 (p.1 : Int), .int .i64 (p.2 : Int)]) V8.drew := ⟨range_all hA8d.m, range_all hq8d⟩
              have hRV := hA8d.put ys
              have hr9 := hA8d.r
              have hSX : (fun w' : World => w'.rangeAt w.heap.size 0 (rmc ys) ∧ w'.rangeAt Q 0 [.int .i64 (p.1 : Int), .int .i64 (p.2 : Int)]) (V8.drew.setRow (w.heap.size + 1) (rmc ys).toArray) :=
                ⟨range_all (t := 31) (fr := (0, 0)) ((setRow_other V8.drew _ _ _ (by omega)).trans hA8d.m), range_all (t := 34) (fr := (0, 0)) ((setRow_other V8.drew _ _ _ (by omega)).trans hq8d)⟩
              have hmX := (setRow_other V8.drew (w.heap.size + 1) w.heap.size (rmc ys).toArray (by omega)).trans hA8d.m
              have hqX := (setRow_other V8.drew (w.heap.size + 1) (Q) (rmc ys).toArray (by omega)).trans hq8d
              generalize hX : V8.drew.setRow (w.heap.size + 1) (rmc ys).toArray = X at *
              have hXH : Hid (V8.drew.setRow (w.heap.size + 1) (rmc ys).toArray = X) := hX
              clear hX hA8 hq8 hm7 hW8H
              have x0 : X.cell? ⟨w.heap.size + 2, 0, none⟩ = some (.int .i64 0) := cell_blk hRV.e rfl
              have x1 : X.cell? ⟨w.heap.size + 2, 1, none⟩ = some (.int .i64 0) := cell_blk hRV.e rfl
              have xf : ∀ i, X.frozen? ⟨w.heap.size + 2, i, none⟩ = false := fun i => free_blk hRV.e
              obtain ⟨r1, r2, r3, r4⟩ := hRV.ret (p.1 : Int) (p.2 : Int)
              have hSY : (fun w' : World => w'.rangeAt w.heap.size 0 (rmc ys) ∧ w'.rangeAt Q 0 [.int .i64 (p.1 : Int), .int .i64 (p.2 : Int)]) ((X.setCell ⟨w.heap.size + 2, 0, none⟩ (.int .i64 (p.1 : Int))).setCell ⟨w.heap.size + 2, 1, none⟩ (.int .i64 (p.2 : Int))) :=
                ⟨range_all (t := 31) (fr := (0, 0)) ((r4.block _ (heap_lt hmX) (by omega)).trans hmX), range_all (t := 34) (fr := (0, 0)) ((r4.block _ (heap_lt hqX) (by omega)).trans hqX)⟩
              clear hA8d hq8d hRV hmX hqX r4
              refine wp_region_ord [] 4 [(0, true), (1, true), (2, false), (3, false)] (fun w' : World => w'.rangeAt w.heap.size 0 (rmc ys) ∧ w'.rangeAt Q 0 [.int .i64 (p.1 : Int), .int .i64 (p.2 : Int)]) (by kernel_rfl) (by kernel_rfl) ?_
              refine ord_quietL _ (rmv ys) rfl hS9 rfl ?_ ?_
              · rintro w' ⟨hS1, hS2⟩
                exact run_load_quiet 31 _ w' rfl w.heap.size 0 rfl _ hS1 Try.rowR (sizeR hyl)
              simp only [Act.put, List.setIfInBounds_toArray, List.set_cons_zero, List.set_cons_succ]
              refine ord_quietL _ (.agg #[.int .i64 (p.1 : Int), .int .i64 (p.2 : Int)]) rfl hS9 rfl ?_ ?_
              · rintro w' ⟨hS1, hS2⟩
                exact run_load_quiet 34 _ w' rfl (Q) 0 rfl _ hS2 Try.rowE (sizeE _ _)
              simp only [Act.put, List.setIfInBounds_toArray, List.set_cons_zero, List.set_cons_succ]
              refine ord_actL _ rfl (fun K1 hK1 => ?_)
              go_wp2_with (refine wpList_store_all rfl 31 (.tmp 4) _ rfl (w.heap.size + 1) rfl (rmv ys) rfl _ rfl _ 31 hr9 (fitR hyl (by simp)) (rmc_one _) (sizeR hyl) ?_; rw [hXH.out])
              refine hK1 _ _ hSX ?_
              clear hK1 K1
              refine ord_actL _ rfl (fun K1 hK1 => ?_)
              go_wp2
              refine hK1 _ _ hSY ?_
              clear hK1 K1
              refine ord_tail ?_
              simp only [List.drop_succ_cons, List.drop_zero]
              go_wp2
              refine bodyPost_ret (results_cell3 rfl _ (w.heap.size + 1) (w.heap.size + 2) _ _ _ _ rfl rfl rfl rfl (range_all r1) (range_all r2) Try.rowR (sizeR hyl) Try.rowE (sizeE _ _)) rfl ?_
              exact ⟨rfl, r3⟩
          · have hRe : Hid (p = choose n (es.drop (k + 1)) (if lg.2 < ek.2 then ek else lg)) := by unfold Hid; rw [hRs.out, if_neg hge]
            clear hRs
            have hfA := hf.alloc (.cells #[.int .i64 (ek.1 : Int), .int .i64 (ek.2 : Int)] 34)
            have hAA := hA.nw' ((Fr.refl _ wr).alloc (.cells #[.int .i64 (ek.1 : Int), .int .i64 (ek.2 : Int)] 34))
            by_cases hgt : lg.2 < ek.2
            · have hRf : Hid (p = choose n (es.drop (k + 1)) ek) := by unfold Hid; rw [hRe.out, if_pos hgt]
              have f1 : Fr (fun q => q = lb) wr ((wr.setCell ⟨lb, 0, none⟩ (.int .i64 (ek.1 : Int))).setCell ⟨lb, 1, none⟩ (.int .i64 (ek.2 : Int))) :=
                ((Fr.refl (fun q => q = lb) wr).setCell (p := ⟨lb, 0, none⟩) (.inl rfl) _).setCell (p := ⟨lb, 1, none⟩) (.inl rfl) _
              have hlg2 : ((wr.setCell ⟨lb, 0, none⟩ (.int .i64 (ek.1 : Int))).setCell ⟨lb, 1, none⟩ (.int .i64 (ek.2 : Int))).heap[lb]? = some (.cells #[.int .i64 (ek.1 : Int), .int .i64 (ek.2 : Int)] 34 (0, 0)) := by
                rw [blk_setCell (blk_setCell hlg)]; rfl
              have hlg3 := (Below.heap_alloc _ (.cells #[.int .i64 (ek.1 : Int), .int .i64 (ek.2 : Int)] 34) _ (heap_lt hlg2)).trans hlg2
              have hA3 := (hA.keep f1 (fun q hq => by omega)).nw' ((Fr.refl _ _).alloc (.cells #[.int .i64 (ek.1 : Int), .int .i64 (ek.2 : Int)] 34))
              have hf3 := (hf.trans f1 (fun q hq => .inl hq)).alloc (.cells #[.int .i64 (ek.1 : Int), .int .i64 (ek.2 : Int)] 34)
              clear hRe f1 hlg2 hfA hAA hlg hA hf hE5'
              go_wp2
              go_roundw
              case rel => exact ⟨k + 1, ek, by omega, by go_num, hRf.out, hee.1, hee.2, hlg3, hA3, hf3⟩
              case measure => simp [intOf]; omega
            · have hRf : Hid (p = choose n (es.drop (k + 1)) lg) := by unfold Hid; rw [hRe.out, if_neg hgt]
              have hlg3 := (Below.heap_alloc _ (.cells #[.int .i64 (ek.1 : Int), .int .i64 (ek.2 : Int)] 34) _ hll).trans hlg
              clear hRe hlg hA hf hE5'
              go_wp2
              go_roundw
              case rel => exact ⟨k + 1, lg, by omega, by go_num, hRf.out, hg1, hg2, hlg3, hAA, hfA⟩
              case measure => simp [intOf]; omega
        · as_aux_lemma =>
            have hpe : p = lg := by
              rw [hpkH.out, List.drop_eq_nil_of_le (by omega)]
              rfl
            subst hpe
            have hQ : w.heap.size + 2 < lb := by omega
            have hA6 := hA
            have hq6 := hlg
            clear hpkH hlg hf hA hE5' hsm hg1 hg2
            go_upto_region 17 with fail
            have hrm6 := range_all hA6.m
            have q0 : wr.cell? ⟨lb, 0, none⟩ = some (.int .i64 (p.1 : Int)) := cell_blk hq6 rfl
            have q1 : wr.cell? ⟨lb, 1, none⟩ = some (.int .i64 (p.2 : Int)) := cell_blk hq6 rfl
            have htu := c_rturn wr hx (p.1 : Int) (p.2 : Int) 0 1 (by omega) (by omega) (by omega) (by omega)
            rw [hpt.out] at htu
            generalize canT xs (p.1 : Int) (p.2 : Int) 0 = ok at htu
            unfold ext at htu
            go_wp2_with (first
              | (refine wpList_load_as rfl 31 (.tmp 2) rfl w.heap.size 0 rfl (rmv xs) _ rfl hrm6 Try.rowR (sizeR hx) ?_)
              | (go_at_call 32; refine htu.mono ?_; rintro e V7 ⟨rfl, hn7⟩; refine stop_here ?_))
            unfold Hid
            have hA7 := hA6.nw' hn7
            have hq7 := (hn7.block _ (heap_lt hq6) id).trans hq6
            have hm7 := hA7.m
            have hf8 : Fr (fun k => k = w.heap.size) V7 (V7.setRow w.heap.size (rmc ys).toArray) := Fr.setRow (S := fun k => k = w.heap.size) (g := w.heap.size) (Fr.refl _ V7) (.inl rfl) _
            have hA8 : AlV w (V7.setRow w.heap.size (rmc ys).toArray) ys := ⟨setRow_heap V7 _ _ _ 31 _ hm7, (hf8.block _ (heap_lt hA7.r) (by omega)).trans hA7.r, (hf8.block _ (heap_lt hA7.e) (by omega)).trans hA7.e, Fr.trans hA7.nw hf8 (fun k hk => .inr (by omega))⟩
            have hq8 := (hf8.block _ (heap_lt hq7) (by omega)).trans hq7
            generalize hW8 : V7.setRow w.heap.size (rmc ys).toArray = V8 at *
            have hW8H : Hid (V7.setRow w.heap.size (rmc ys).toArray = V8) := hW8
            clear hW8 hA6 hq6 hrm6 q0 q1 htu hn7 hA7 hq7 hf8
            go_wp2_with (refine wpList_store_all rfl 31 (.tmp 2) _ rfl w.heap.size rfl (rmv ys) rfl _ rfl _ 31 hm7 (fitR hyl hx) (rmc_one _) (sizeR hyl) ?_; rw [hW8H.out])
            have hA8d : AlV w V8.drew ys := ⟨hA8.m, hA8.r, hA8.e, Fr.drew hA8.nw⟩
            have hq8d : V8.drew.heap[lb]? = some (.cells #[.int .i64 (p.1 : Int), .int .i64 (p.2 : Int)] 34 (0, 0)) := hq8
            have hS9 : (fun w' : World => w'.rangeAt w.heap.size 0 (rmc ys) ∧ w'.rangeAt lb 0 [.int .i64 (p.1 : Int), .int .i64 (p.2 : Int)]) V8.drew := ⟨range_all hA8d.m, range_all hq8d⟩
            have hRV := hA8d.put ys
            have hr9 := hA8d.r
            have hSX : (fun w' : World => w'.rangeAt w.heap.size 0 (rmc ys) ∧ w'.rangeAt lb 0 [.int .i64 (p.1 : Int), .int .i64 (p.2 : Int)]) (V8.drew.setRow (w.heap.size + 1) (rmc ys).toArray) :=
              ⟨range_all (t := 31) (fr := (0, 0)) ((setRow_other V8.drew _ _ _ (by omega)).trans hA8d.m), range_all (t := 34) (fr := (0, 0)) ((setRow_other V8.drew _ _ _ (by omega)).trans hq8d)⟩
            have hmX := (setRow_other V8.drew (w.heap.size + 1) w.heap.size (rmc ys).toArray (by omega)).trans hA8d.m
            have hqX := (setRow_other V8.drew (w.heap.size + 1) (lb) (rmc ys).toArray (by omega)).trans hq8d
            generalize hX : V8.drew.setRow (w.heap.size + 1) (rmc ys).toArray = X at *
            have hXH : Hid (V8.drew.setRow (w.heap.size + 1) (rmc ys).toArray = X) := hX
            clear hX hA8 hq8 hm7 hW8H
            have x0 : X.cell? ⟨w.heap.size + 2, 0, none⟩ = some (.int .i64 0) := cell_blk hRV.e rfl
            have x1 : X.cell? ⟨w.heap.size + 2, 1, none⟩ = some (.int .i64 0) := cell_blk hRV.e rfl
            have xf : ∀ i, X.frozen? ⟨w.heap.size + 2, i, none⟩ = false := fun i => free_blk hRV.e
            obtain ⟨r1, r2, r3, r4⟩ := hRV.ret (p.1 : Int) (p.2 : Int)
            have hSY : (fun w' : World => w'.rangeAt w.heap.size 0 (rmc ys) ∧ w'.rangeAt lb 0 [.int .i64 (p.1 : Int), .int .i64 (p.2 : Int)]) ((X.setCell ⟨w.heap.size + 2, 0, none⟩ (.int .i64 (p.1 : Int))).setCell ⟨w.heap.size + 2, 1, none⟩ (.int .i64 (p.2 : Int))) :=
              ⟨range_all (t := 31) (fr := (0, 0)) ((r4.block _ (heap_lt hmX) (by omega)).trans hmX), range_all (t := 34) (fr := (0, 0)) ((r4.block _ (heap_lt hqX) (by omega)).trans hqX)⟩
            clear hA8d hq8d hRV hmX hqX r4
            refine wp_region_ord [] 4 [(0, true), (1, true), (2, false), (3, false)] (fun w' : World => w'.rangeAt w.heap.size 0 (rmc ys) ∧ w'.rangeAt lb 0 [.int .i64 (p.1 : Int), .int .i64 (p.2 : Int)]) (by kernel_rfl) (by kernel_rfl) ?_
            refine ord_quietL _ (rmv ys) rfl hS9 rfl ?_ ?_
            · rintro w' ⟨hS1, hS2⟩
              exact run_load_quiet 31 _ w' rfl w.heap.size 0 rfl _ hS1 Try.rowR (sizeR hyl)
            simp only [Act.put, List.setIfInBounds_toArray, List.set_cons_zero, List.set_cons_succ]
            refine ord_quietL _ (.agg #[.int .i64 (p.1 : Int), .int .i64 (p.2 : Int)]) rfl hS9 rfl ?_ ?_
            · rintro w' ⟨hS1, hS2⟩
              exact run_load_quiet 34 _ w' rfl (lb) 0 rfl _ hS2 Try.rowE (sizeE _ _)
            simp only [Act.put, List.setIfInBounds_toArray, List.set_cons_zero, List.set_cons_succ]
            refine ord_actL _ rfl (fun K1 hK1 => ?_)
            go_wp2_with (refine wpList_store_all rfl 31 (.tmp 4) _ rfl (w.heap.size + 1) rfl (rmv ys) rfl _ rfl _ 31 hr9 (fitR hyl (by simp)) (rmc_one _) (sizeR hyl) ?_; rw [hXH.out])
            refine hK1 _ _ hSX ?_
            clear hK1 K1
            refine ord_actL _ rfl (fun K1 hK1 => ?_)
            go_wp2
            refine hK1 _ _ hSY ?_
            clear hK1 K1
            refine ord_tail ?_
            simp only [List.drop_succ_cons, List.drop_zero]
            go_wp2
            refine bodyPost_ret (results_cell3 rfl _ (w.heap.size + 1) (w.heap.size + 2) _ _ _ _ rfl rfl rfl rfl (range_all r1) (range_all r2) Try.rowR (sizeR hyl) Try.rowE (sizeE _ _)) rfl ?_
            exact ⟨rfl, r3⟩
end Go.Proofs.Ytelobmdlnkkbkaa
