/-
  JournalKeeps returns true for all texts, breaks and keeps: in each generation a scan behind the crash finds all that were added, in order, and perhaps the one that was under way, whole.
  Conditions: none; the statement is the given one, for every input.
-/
import Derived.Test.YtihdhlciblkbiaaRows
import Derived.Test.YtihdhlciblkbiaaJourK1
import Derived.WalkKit
import Derived.ProofKit
import Derived.OpenShut
import Derived.ShutString
import Derived.ChangeOld
import Derived.Below
import Derived.SizedLaws
namespace Go.Proofs.Ytihdhlciblkbiaa.journalKeeps
open Go.ChangeShapes Go.WideShapes Go.ChangeAt Go.RowKit
open Go.ChangeMaps (open_string shut_string)
set_option linter.unusedVariables false
set_option linter.unusedSimpArgs false

theorem own : ownKnob Try.prog.godebug = none := by kernel_rfl
theorem laidOut : laidOutB Try.prog = true := by kernel_rfl

theorem heads_brk {D : Dk} {f t : Nat} (h : Heads D f t) (n : Int) : Heads (D.brk n) f t := h
theorem rest_brk {D : Dk} (h : Rest D) {n : Int} (h1 : -9223372036854775808 ≤ n) (h2 : n ≤ 9223372036854775807) : Rest (D.brk n) := ⟨⟨h.ok.sec, h.ok.wr, h.ok.n, h1, h2⟩, h.pd, h.dead⟩

set_option maxRecDepth 20000 in
set_option maxHeartbeats 6400000 in
/-- The law's own walk. -/
theorem walk (w : World) (v0 : Value) (x0 : List (List UInt8)) (w0 : Parts w.heap.size w v0 x0) (l0 : x0.length ≤ 140737488351232) (v1 : Value) (x1 : List (Int × Int)) (w1 : PairsAt w.heap.size w v1 x1) (l1 : x1.length ≤ 140737488351232) (v2 : Value) (x2 : List Bool) (w2 : Sl w.heap.size w v2 x2.length (x2.map Value.bool)) (l2 : x2.length ≤ 140737488351232) :
    Calls Try.prog 5 #[v0, v1, v2] w fun e w' => e = .returned (.bool true) ∧ Below w.heap.size w w' := by
  obtain ⟨i5, hi5, hz50, hz51, hz52⟩ := info5
  obtain ⟨ib, hib, hzb0, hzb1, hzb2⟩ := info_bytes
  obtain ⟨i4, hi4, hz40, hz41, hz42⟩ := info_bool
  have hal2 : Try.prog.arrayLen 60 = 2 := by kernel_rfl
  obtain ⟨ao, cap, rfl, hac, hacs⟩ := w0
  obtain ⟨po, pc, rfl, hpc, hpm, hps⟩ := w1
  obtain ⟨ko, kcp, rfl⟩ := sl_form w2
  have hpm : pc ≤ 9223372036854775807 := hpm
  go_enter Try.func5, Try.ntmps5
  go_wp2_with (go_at_call 8; refine stop_here ?_)
  unfold Hid
  refine (c_jalive _).mono ?_
  rintro e W1 ⟨rfl, hb1⟩
  go_wp2_with (go_at_call 9; refine stop_here ?_)
  unfold Hid
  refine (c_new 18 _).mono ?_
  rintro e W2 ⟨b, S, rfl, hD, hn2⟩
  have hnw2 : Nw w W2 := (nw_of_below hb1).trans hn2
  by_cases h6 : 6 < x0.length
  · have hd : decide (6 < (x0.length : Int)) = true := decide_eq_true (by omega)
    have hbE : Hid (Below w.heap.size w W2) := below_of_nw hnw2
    clear hacs hps w2
    generalize x0.length = nt at *
    generalize x1.length = nb at *
    generalize x2.length = nk at *
    go_wp2
    go_ret
    exact ⟨rfl, hbE.out⟩
  have hd : decide (6 < (x0.length : Int)) = false := decide_eq_false (by omega)
  obtain ⟨nt, hnt⟩ : ∃ n, Hid (x0.length = n) := ⟨_, rfl⟩
  rw [hnt.out] at hd h6 hac l0 ⊢
  by_cases h8 : 8 < x1.length
  · have hd8 : decide (8 < (x1.length : Int)) = true := decide_eq_true (by omega)
    have hbE : Hid (Below w.heap.size w W2) := below_of_nw hnw2
    clear hacs hps w2
    generalize x1.length = nb at *
    generalize x2.length = nk at *
    go_wp2
    go_ret
    exact ⟨rfl, hbE.out⟩
  have hd8 : decide (8 < (x1.length : Int)) = false := decide_eq_false (by omega)
  obtain ⟨nb, hnb⟩ : ∃ n, Hid (x1.length = n) := ⟨_, rfl⟩
  rw [hnb.out] at hd8 h8 hpc l1 ⊢
  have hw1 : w.heap.size ≤ W1.heap.size := hb1.size
  have hH0 : Heads (newDk 18) 1 3 := new_heads (by decide) (by decide) (by decide)
  have hR0 := (new_calm 18).rest
  go_wp2
  go_loopw [38] (fun i wr => ∃ (k : Nat) (S : Nat → Prop) (D : Dk), k ≤ nb ∧ i = .int .i64 k ∧ DiskAt W1.heap.size wr b S D ∧ Rest D ∧ Heads D 1 (3 + 2 * k) ∧ Nw w wr) (fun i _ => nb - (intOf i).toNat)
  case atStart => exact ⟨0, S, _, Nat.zero_le _, rfl, hD, hR0, hH0, hnw2⟩
  case round =>
    clear hD hnw2 hH0 hR0 hn2
    obtain ⟨k, S, D, hk, rfl, hD, hR, hH, hnw⟩ := hrel
    by_cases hlt : k < nb
    case neg =>
      have hbE : Hid (Below w.heap.size w wr) := below_of_nw hnw
      clear hacs hps hD hR hH w2
      obtain rfl : k = nb := by omega
      go_wp2
      go_ret
      exact ⟨rfl, hbE.out⟩
    have hkx : k < x1.length := by rw [hnb.out]; exact hlt
    obtain ⟨pb, poff, rfl, hpb, hrp, hp1, hp2⟩ := hps k x1[k] (List.getElem?_eq_getElem hkx)
    clear hps
    generalize x1[k] = p at *
    clear hkx
    have hrp := range_nw hrp hnw
    have hX : ((wr.alloc (.cells (pairC (0, 0)).toArray 60)).setRow wr.heap.size (pairC p).toArray).heap[wr.heap.size]? = some (.cells (pairC p).toArray 60 (0, 0)) := setRow_heap _ _ _ _ 60 _ (heap_alloc_new wr _)
    have hnX : Nw wr ((wr.alloc (.cells (pairC (0, 0)).toArray 60)).setRow wr.heap.size (pairC p).toArray) := Fr.setRow (Fr.alloc (Fr.refl _ wr) _) (.inr (Nat.le_refl _)) _
    generalize hWX : (wr.alloc (.cells (pairC (0, 0)).toArray 60)).setRow wr.heap.size (pairC p).toArray = WX at *
    have hWX : Hid ((wr.alloc (.cells (pairC (0, 0)).toArray 60)).setRow wr.heap.size (pairC p).toArray = WX) := hWX
    obtain ⟨gen, hgen⟩ : ∃ gen, Hid (3 + 2 * k = gen) := ⟨_, rfl⟩
    have hgl : gen < 256 := by rw [← hgen.out]; omega
    have hG : Hid ((3 : Int) + 2 * (k : Int) = (gen : Int)) := by unfold Hid; rw [← hgen.out]; omega
    have hxS : ¬ S wr.heap.size := fun h => by have := (hD.ge _ h).2; omega
    rw [hgen.out] at hH
    have hDX := hD.keep hnX (fun _ _ => id)
    have hnwX := hnw.trans hnX
    clear hD
    go_wp2_with (first
      | (refine wpList_load_as rfl 60 _ rfl pb (poff + k * 2) rfl (.agg (pairC p).toArray) _ rfl hrp Try.rowP (Try.sizeP p) ?_)
      | (refine wpList_alloc_agg rfl 60 rfl _ Try.zeroP ?_)
      | (refine wpList_store_all rfl 60 _ _ rfl wr.heap.size rfl (.agg (pairC p).toArray) rfl _ rfl _ 60 (heap_alloc_new wr _) rfl (pair_oneCell p) (Try.sizeP p) ?_; rw [hWX.out])
      | (go_at_call 12; refine stop_here ?_))
    unfold Hid
    rw [hG.out]
    refine (c_start (f := 1) (gen := gen) _ (by decide) (by omega)).mono ?_
    rintro e W4 ⟨rfl, hj4, hn4⟩
    have hX4 := (hn4.block _ (heap_lt hX) id).trans hX
    have hc4 : W4.cell? ⟨wr.heap.size, 0, none⟩ = some (.int .i64 p.1) := cell_blk hX4 rfl
    have hD4 := hDX.keep hn4 (fun _ _ => id)
    have hnw4 := hnwX.trans hn4
    have hjS : ¬ S WX.heap.size := fun h => by have := (hDX.ge _ h).2; omega
    have hxj : wr.heap.size < WX.heap.size := heap_lt hX
    have hxw : w.heap.size ≤ wr.heap.size := hnw.size
    clear hnwX hDX hn4 hX hWX hnX hrp hnw
    generalize wr.heap.size = xv at *
    generalize WX.heap.size = j at *
    go_wp2_with (go_at_call 15; refine stop_here ?_)
    unfold Hid
    refine (c_break p.1 _ hD4 hp1.1 hp1.2).mono ?_
    rintro e W5 ⟨rfl, hd5⟩
    obtain ⟨S5, hJK5, hf5, hS5⟩ := JK.start hd5 hj4 hjS (rest_brk hR hp1.1 hp1.2) (heads_brk hH p.1)
    have hX5 := (hf5.block _ (heap_lt hX4) hxS).trans hX4
    have hx5 : ¬ S5 xv := fun h => (hS5 _ h).elim hxS (fun h => by have := heap_lt hX4; omega)
    have hnw5 : Nw w W5 := Fr.trans hnw4 hf5 (fun q hq => .inr (Nat.le_trans hw1 (hD4.ge q hq).1))
    have hWA : WantAt w (W5.alloc (.cells #[] 37)) S5 j (.slice (some ⟨W5.heap.size, 0, none⟩) 0 0) [] [] := by
      refine ⟨World.ownsRow_lit W5 #[] 0 hnw5.size (by decide) rfl, RecX.nil _ _, fun q hq => ?_, Fr.alloc hnw5 _⟩
      simp only [Value.ownBlock, Option.some.injEq] at hq
      subst hq
      exact ⟨fun h => by have := (hJK5.d.ge _ h).2; omega, fun e => by have := heap_lt hJK5.jr.blk; omega⟩
    have hPin : Pin (W5.alloc (.cells #[] 37)) S5 j (.slice (some ⟨W5.heap.size, 0, none⟩) 0 0) xv (.cells (pairC p).toArray 60 (0, 0)) := by
      refine ⟨(Below.heap_alloc _ _ _ (heap_lt hX5)).trans hX5, hx5, by omega, fun e => ?_⟩
      simp only [Value.ownBlock, Option.some.injEq] at e
      have := heap_lt hX5
      omega
    have hn6 : Nw (W5.alloc (.cells #[] 37)) ((W5.alloc (.cells #[] 37)).alloc (.cells #[] 5)) := Fr.alloc (Fr.refl _ _) _
    have hJK := (hJK5.nw (Fr.alloc (Fr.refl _ W5) (.cells #[] 37))).nw hn6
    have hWA := hWA.keep hn6
    have hPin := hPin.keep hn6
    have hjw : w.heap.size ≤ j := by omega
    clear hn6 hnw5 hX5 hx5 hf5 hS5 hJK5 hd5 hD4 hj4 hX4 hc4 hnw4 hxS hjS hR hH
    go_wp2
    go_loopw [12, 13, 14, 58] (fun v un ct i wr => ∃ (k2 : Nat) (l : List (List UInt8)) (cs : List Value) (S : Nat → Prop) (D : Dk) (uo : Option Addr) (um uc : Nat), k2 ≤ nt ∧ i = .int .i64 k2 ∧ ct = .bool false ∧ un = .slice uo um uc ∧ JK W1.heap.size wr b S D j 1 gen l ∧ WantAt w wr S j v l cs ∧ Pin wr S j v xv (.cells (pairC p).toArray 60 (0, 0))) (fun _ _ _ i _ => nt - (intOf i).toNat)
    case atStart => exact ⟨0, [], [], _, _, _, _, _, Nat.zero_le _, rfl, rfl, rfl, hJK, hWA, hPin⟩
    case round =>
      clear hJK hWA hPin
      obtain ⟨k2, l, cs, S, D, uno, unm, unc, hk2, rfl, rfl, rfl, hJK, hWA, hPin⟩ := hrel
      obtain ⟨vo, vc, rfl⟩ := owns_form hWA.own
      have hl4 := hJK.g.le
      obtain ⟨ll, hll⟩ : ∃ ll, Hid (l.length = ll) := ⟨_, rfl⟩
      rw [hll.out] at hWA hPin hl4 ⊢
      by_cases hlt2 : k2 < nt
      case neg =>
        obtain rfl : k2 = nt := by omega
        have hAf := after_calm hJK.r hJK.g hgl
        have hDc := hJK.d
        clear hJK hacs
        have hcx1 : wr.cell? ⟨xv, 1, none⟩ = some (.int .i64 p.2) := cell_blk hPin.blk rfl
        go_wp2
        have hS0 : (fun w' : World => w'.cell? ⟨xv, 1, none⟩ = some (.int .i64 p.2)) wr.drew := hcx1
        refine wp_region_ord [] 9 [(0, true), (2, true), (4, true), (5, true), (6, true), (7, true), (8, true), (1, false), (3, false)] (fun w' : World => w'.cell? ⟨xv, 1, none⟩ = some (.int .i64 p.2)) (by kernel_rfl) (by kernel_rfl) ?_
        refine ord_quietL _ ?_ rfl hS0 rfl ?_ ?_
        rotate_left
        · rintro w' hS1; go_simp; rfl
        simp only [Act.put, List.setIfInBounds_toArray, List.set_cons_zero, List.set_cons_succ]
        refine ord_quietL _ ?_ rfl hS0 rfl ?_ ?_
        rotate_left
        · rintro w' hS1; go_simp; rfl
        simp only [Act.put, List.setIfInBounds_toArray, List.set_cons_zero, List.set_cons_succ]
        refine ord_quietL _ ?_ rfl hS0 rfl ?_ ?_
        rotate_left
        · rintro w' hS1; go_simp; rfl
        simp only [Act.put, List.setIfInBounds_toArray, List.set_cons_zero, List.set_cons_succ]
        refine ord_quietL _ ?_ rfl hS0 rfl ?_ ?_
        rotate_left
        · rintro w' hS1; go_simp; rfl
        simp only [Act.put, List.setIfInBounds_toArray, List.set_cons_zero, List.set_cons_succ]
        refine ord_quietL _ ?_ rfl hS0 rfl ?_ ?_
        rotate_left
        · rintro w' hS1; go_simp; rfl
        simp only [Act.put, List.setIfInBounds_toArray, List.set_cons_zero, List.set_cons_succ]
        refine ord_quietL _ ?_ rfl hS0 rfl ?_ ?_
        rotate_left
        · rintro w' hS1; go_simp; rfl
        simp only [Act.put, List.setIfInBounds_toArray, List.set_cons_zero, List.set_cons_succ]
        refine ord_quietL _ ?_ rfl hS0 rfl ?_ ?_
        rotate_left
        · rintro w' hS1; go_simp; rfl
        simp only [Act.put, List.setIfInBounds_toArray, List.set_cons_zero, List.set_cons_succ]
        have hn7 : Nw wr (wr.alloc (.cells #[] 4)).drew := (Fr.alloc (Fr.refl _ wr) _).drew
        have hc7 := cell_nw hcx1 hn7
        refine ord_actL _ rfl (fun K1 hK1 => ?_)
        go_wp2
        refine hK1 _ _ hc7 ?_
        clear hK1 K1 hS0
        have hown7 : (wr.alloc (.cells #[] 4)).drew.ownsRow wr.heap.size 4 1 (.slice (some ⟨wr.heap.size, 0, none⟩) 0 0) 0 [] := (World.ownsRow_lit wr #[] 0 (Nat.le_refl _) (by decide) rfl).drew
        have hk7 := w2.keep (below_of_nw (hWA.nw.trans hn7))
        have hsz7 : wr.heap.size ≤ (wr.alloc (.cells #[] 4)).drew.heap.size := hn7.size
        generalize (wr.alloc (.cells #[] 4)).drew = W7 at *
        refine ord_actL _ rfl (fun K1 hK1 => ?_)
        go_wp2_with (at_builtin; refine wpList_append_sl _ rfl _ _ 38 rfl wr.heap.size 4 i4 (.bool false) 1 1 Try.underlying38 hi4 hz40 hz41 hz42 rfl (by decide) _ 0 [] rfl hown7 w.heap.size _ x2.length (x2.map Value.bool) rfl hk7 (by simp) (bool_oneCell _) (by unfold maxLen; omega) (by omega) hsz7 ?_)
        intro v8 W8 ho8 hg8 hv8
        have hn8 : Nw wr W8 := Fr.grown hn7 hg8 (fun q hq => .inr (hown7.lt q hq).1)
        have ho8 : W8.ownsRow wr.heap.size 4 1 v8 x2.length (x2.map Value.bool) := by simpa using ho8
        have hs8 := copy_slpB ho8 (S := S) (fun q hq => (hDc.ge q hq).2)
        have hD8 := hDc.keep hn8 (fun _ _ => id)
        have hWA8 := hWA.keep hn8
        have hc8 := cell_nw hcx1 hn8
        have hge8 : ∀ q, S q → w.heap.size ≤ q := fun q hq => Nat.le_trans hw1 (hDc.ge q hq).1
        obtain ⟨ko8, kc8, rfl⟩ := owns_form ho8
        clear ho8 hg8 hv8 hn7 hc7 hown7 hk7 hsz7 hcx1 hDc hWA hPin
        go_wp2
        refine hK1 _ _ hc8 ?_
        clear hK1 K1 hc8
        refine ord_tail ?_
        simp only [List.drop_succ_cons, List.drop_zero]
        generalize IntKind.i64.wrap (3 * p.2) = ct at *
        go_wp2_with (go_at_call 17; refine stop_here ?_)
        unfold Hid
        refine (c_crash _ x2 p.2 ct _ hD8 hs8).mono ?_
        rintro e W9 ⟨rfl, S9, hD9, hf9, hS9⟩
        obtain ⟨hR9, hH9, hsc9⟩ := hAf x2 p.2 ct
        have hWA9 := hWA8.add (hf9.mono (fun _ h => .inl h)) hS9 hge8 hjw
        generalize D.crash x2 p.2 ct = D9 at *
        clear hD8 hs8 hWA8 hf9 hS9 hAf hn8 hge8
        go_wp2_with (go_at_call 21; refine stop_here ?_)
        unfold Hid
        refine (c_scan (f := 1) (gen := gen) _ hD9 (by decide) (by omega) hH9.1).mono ?_
        rintro e Wa ⟨ua, rfl, hpa, hna⟩
        have hDa := hD9.keep hna (fun _ _ => id)
        have hWAa := hWA9.keep hna
        clear hD9 hWA9 hna
        have hsc9 : D9.scan 1 gen = l := by
          rcases hsc9 with h | ⟨y, h, -⟩
          · exact h
          · cases h
        rw [hsc9] at hpa
        obtain ⟨so, sc, rfl, -, -⟩ := id hpa
        rw [hll.out] at hpa ⊢
        clear hsc9
        have hpw := hWAa.parts
        go_wp2_with (go_at_call 20; refine stop_here ?_)
        unfold Hid
        refine (c_same _ _ _ _ _ _ hpa hpw (Nat.le_refl _) (by rw [hll.out]; omega) (by rw [hll.out]; omega)).mono ?_
        rintro e Wb ⟨rfl, hnb⟩
        rw [decide_eq_true rfl]
        have hDb := hDa.keep hnb (fun _ _ => id)
        have hnwb := hWAa.nw.trans hnb
        clear hDa hWAa hpa hpw hnb
        go_wp2
        go_roundw
        case rel => exact ⟨k + 1, _, _, by omega, by go_num, hDb, hR9, hH9.mono (by rw [← hgen.out]; omega), hnwb⟩
        case measure => simp [intOf]; omega
      have hkx : k2 < x0.length := by rw [hnt.out]; exact hlt2
      obtain ⟨ab, aoff, u, rfl, hab, hac0, hus, hul⟩ := hacs k2 x0[k2] (List.getElem?_eq_getElem hkx)
      clear hacs
      generalize x0[k2] = x at *
      clear hkx
      have hac0 := cell_nw hac0 hWA.nw
      obtain ⟨uo, uc, rfl⟩ := sl_form hus
      have hcp : Sl w.heap.size (wr.alloc (.cells #[] 5)) (.slice uo x.length uc) x.length (x.map bv) := hus.keep (below_of_nw (Fr.alloc hWA.nw _))
      go_wp2_with (at_builtin; refine wpList_append_sl _ rfl _ _ 37 rfl wr.heap.size 5 i5 (.int .u8 0) 1 1 Try.underlying37 hi5 hz50 hz51 hz52 rfl (by decide) _ 0 [] rfl (World.ownsRow_lit wr #[] 0 (Nat.le_refl _) (by decide) rfl) w.heap.size _ x.length (x.map bv) rfl hcp (by simp) (bv_oneCell _) (by unfold maxLen; omega) (by omega) (by simp) ?_; intro v2 A2 ho2 hg2 hv2; refine stop_here ?_)
      unfold Hid
      have hn2 : Nw wr A2 := Fr.grown ((Fr.refl _ wr).alloc _) hg2 (fun q hq => .inr (by simp only [Act.eval, Value.ownBlock] at hq; simp at hq; omega))
      have ho2 : A2.ownsRow wr.heap.size 5 1 v2 x.length (x.map bv) := by simpa using ho2
      have hs2 := copy_slp (w := w) ho2 (S := S) (fun q hq => (hJK.d.ge q hq).2)
      have hJK2 := hJK.nw hn2
      have hWA2 := hWA.keep hn2
      have hPin2 := hPin.keep hn2
      obtain ⟨vo2, vc2, rfl⟩ := owns_form ho2
      clear hcp hg2 hv2 ho2 hJK hWA hPin hn2
      go_wp2_with (go_at_call 13; refine stop_here ?_)
      unfold Hid
      refine (c_keep _ hJK2 hgl hs2 hul).mono ?_
      rintro e A3 ⟨S3, D3, z3, rfl, hDc, hf3, hS3, hz3⟩
      have hWA := hWA2.add hf3 hS3 (fun q hq => Nat.le_trans hw1 (hJK2.d.ge q hq).1) hjw
      have hPin := hPin2.add hf3 hS3
      have hus3 := hus.keep (below_of_nw hWA.nw)
      clear hs2 hf3 hS3 hWA2 hPin2 hJK2
      rcases hz3 with ⟨rfl, h384, hJK⟩ | ⟨rfl, h384, h4, hJK⟩ | ⟨rfl, h384, h4, hJK⟩ | ⟨rfl, -, hAf⟩
      · have hd3 : decide ((x.length : Int) ≤ 384) = false := decide_eq_false (by omega)
        clear hus3 hDc
        generalize x.length = xl at *
        go_wp2
        go_roundw
        case rel => exact ⟨k2 + 1, l, cs, _, _, _, _, _, by omega, by go_num, rfl, rfl, hJK, hWA, hPin⟩
        case measure => simp [intOf]; omega
      · obtain rfl : ll = 4 := hll.out.symm.trans h4
        clear hus3 hDc h4
        generalize x.length = xl at *
        go_wp2
        go_roundw
        case rel => exact ⟨k2 + 1, l, cs, _, _, _, _, _, by omega, by go_num, rfl, rfl, hJK, hWA, hPin⟩
        case measure => simp [intOf]; omega
      · have hown4 := hWA.own.alloc (.cells #[.slice uo x.length uc] 37)
        rw [hll.out] at hown4
        have hlit := sl_lit A3 #[.slice uo x.length uc] 37 1 (by omega)
        have hsz : w.heap.size ≤ (A3.alloc (.cells #[.slice uo x.length uc] 37)).heap.size := by have := hWA.nw.size; simp; omega
        go_wp2_with (at_builtin; refine wpList_append_sl _ rfl _ _ 51 rfl w.heap.size 37 ib (.slice none 0 0) 1 24 Try.underlying51 hib hzb0 hzb1 hzb2 rfl (by decide) _ ll _ rfl hown4 _ _ 1 _ rfl hlit (by simp) (by simp [Value.oneCell']) (by unfold maxLen; omega) (by omega) hsz ?_; intro v5 A5 ho5 hg5 hv5; refine stop_here ?_)
        unfold Hid
        obtain ⟨hWA5, hfr5⟩ := hWA.push hus3 hul (by rw [hll.out]; exact ho5) hg5 hv5 (fun q hq => (hJK.d.ge q hq).2) (heap_lt hJK.jr.blk)
        have hJK5 := hJK.fr hfr5 (fun q hq e => (hWA.ns q e).1 hq) (fun e => (hWA.ns _ e).2 rfl)
        have hPin5 := hPin.push (v3 := v5) hfr5 (hv5.imp id (fun h => ⟨_, h, by simp⟩))
        obtain ⟨vo5, vc5, rfl⟩ := owns_form ho5
        clear ho5 hg5 hv5 hfr5 hown4 hlit hsz hWA hJK hus3 hPin hDc
        generalize x.length = xl at *
        go_wp2
        go_roundw
        case rel => exact ⟨k2 + 1, l ++ [x], _, _, _, _, _, _, by omega, by go_num, rfl, rfl, hJK5, hWA5, hPin5⟩
        case measure => simp [intOf]; omega
      · skip
        have hcx1 : A3.cell? ⟨xv, 1, none⟩ = some (.int .i64 p.2) := cell_blk hPin.blk rfl
        go_wp2
        have hS0 : (fun w' : World => w'.cell? ⟨xv, 1, none⟩ = some (.int .i64 p.2)) A3.drew := hcx1
        refine wp_region_ord [] 9 [(0, true), (2, true), (4, true), (5, true), (6, true), (7, true), (8, true), (1, false), (3, false)] (fun w' : World => w'.cell? ⟨xv, 1, none⟩ = some (.int .i64 p.2)) (by kernel_rfl) (by kernel_rfl) ?_
        refine ord_quietL _ ?_ rfl hS0 rfl ?_ ?_
        rotate_left
        · rintro w' hS1; go_simp; rfl
        simp only [Act.put, List.setIfInBounds_toArray, List.set_cons_zero, List.set_cons_succ]
        refine ord_quietL _ ?_ rfl hS0 rfl ?_ ?_
        rotate_left
        · rintro w' hS1; go_simp; rfl
        simp only [Act.put, List.setIfInBounds_toArray, List.set_cons_zero, List.set_cons_succ]
        refine ord_quietL _ ?_ rfl hS0 rfl ?_ ?_
        rotate_left
        · rintro w' hS1; go_simp; rfl
        simp only [Act.put, List.setIfInBounds_toArray, List.set_cons_zero, List.set_cons_succ]
        refine ord_quietL _ ?_ rfl hS0 rfl ?_ ?_
        rotate_left
        · rintro w' hS1; go_simp; rfl
        simp only [Act.put, List.setIfInBounds_toArray, List.set_cons_zero, List.set_cons_succ]
        refine ord_quietL _ ?_ rfl hS0 rfl ?_ ?_
        rotate_left
        · rintro w' hS1; go_simp; rfl
        simp only [Act.put, List.setIfInBounds_toArray, List.set_cons_zero, List.set_cons_succ]
        refine ord_quietL _ ?_ rfl hS0 rfl ?_ ?_
        rotate_left
        · rintro w' hS1; go_simp; rfl
        simp only [Act.put, List.setIfInBounds_toArray, List.set_cons_zero, List.set_cons_succ]
        refine ord_quietL _ ?_ rfl hS0 rfl ?_ ?_
        rotate_left
        · rintro w' hS1; go_simp; rfl
        simp only [Act.put, List.setIfInBounds_toArray, List.set_cons_zero, List.set_cons_succ]
        have hn7 : Nw A3 (A3.alloc (.cells #[] 4)).drew := (Fr.alloc (Fr.refl _ A3) _).drew
        have hc7 := cell_nw hcx1 hn7
        refine ord_actL _ rfl (fun K1 hK1 => ?_)
        go_wp2
        refine hK1 _ _ hc7 ?_
        clear hK1 K1 hS0
        have hown7 : (A3.alloc (.cells #[] 4)).drew.ownsRow A3.heap.size 4 1 (.slice (some ⟨A3.heap.size, 0, none⟩) 0 0) 0 [] := (World.ownsRow_lit A3 #[] 0 (Nat.le_refl _) (by decide) rfl).drew
        have hk7 := w2.keep (below_of_nw (hWA.nw.trans hn7))
        have hsz7 : A3.heap.size ≤ (A3.alloc (.cells #[] 4)).drew.heap.size := hn7.size
        generalize (A3.alloc (.cells #[] 4)).drew = W7 at *
        refine ord_actL _ rfl (fun K1 hK1 => ?_)
        go_wp2_with (at_builtin; refine wpList_append_sl _ rfl _ _ 38 rfl A3.heap.size 4 i4 (.bool false) 1 1 Try.underlying38 hi4 hz40 hz41 hz42 rfl (by decide) _ 0 [] rfl hown7 w.heap.size _ x2.length (x2.map Value.bool) rfl hk7 (by simp) (bool_oneCell _) (by unfold maxLen; omega) (by omega) hsz7 ?_)
        intro v8 W8 ho8 hg8 hv8
        have hn8 : Nw A3 W8 := Fr.grown hn7 hg8 (fun q hq => .inr (hown7.lt q hq).1)
        have ho8 : W8.ownsRow A3.heap.size 4 1 v8 x2.length (x2.map Value.bool) := by simpa using ho8
        have hs8 := copy_slpB ho8 (S := S3) (fun q hq => (hDc.ge q hq).2)
        have hD8 := hDc.keep hn8 (fun _ _ => id)
        have hWA8 := hWA.keep hn8
        have hc8 := cell_nw hcx1 hn8
        have hge8 : ∀ q, S3 q → w.heap.size ≤ q := fun q hq => Nat.le_trans hw1 (hDc.ge q hq).1
        obtain ⟨ko8, kc8, rfl⟩ := owns_form ho8
        clear ho8 hg8 hv8 hn7 hc7 hown7 hk7 hsz7 hcx1 hDc hWA hPin
        go_wp2
        refine hK1 _ _ hc8 ?_
        clear hK1 K1 hc8
        refine ord_tail ?_
        simp only [List.drop_succ_cons, List.drop_zero]
        generalize IntKind.i64.wrap (3 * p.2) = ct at *
        go_wp2_with (go_at_call 17; refine stop_here ?_)
        unfold Hid
        refine (c_crash _ x2 p.2 ct _ hD8 hs8).mono ?_
        rintro e W9 ⟨rfl, S9, hD9, hf9, hS9⟩
        obtain ⟨hR9, hH9, hsc9⟩ := hAf x2 p.2 ct
        have hWA9 := hWA8.add (hf9.mono (fun _ h => .inl h)) hS9 hge8 hjw
        generalize D3.crash x2 p.2 ct = D9 at *
        clear hD8 hs8 hWA8 hf9 hS9 hAf hn8 hge8
        go_wp2_with (go_at_call 21; refine stop_here ?_)
        unfold Hid
        refine (c_scan (f := 1) (gen := gen) _ hD9 (by decide) (by omega) hH9.1).mono ?_
        rintro e Wa ⟨ua, rfl, hpa, hna⟩
        have hDa := hD9.keep hna (fun _ _ => id)
        have hWAa := hWA9.keep hna
        clear hD9 hWA9 hna
        rcases hsc9 with hsc9 | ⟨y, hy, hsc9⟩
        · clear hus3
          generalize x.length = xl at *
          rw [hsc9] at hpa
          obtain ⟨so, sc, rfl, -, -⟩ := id hpa
          rw [hll.out] at hpa ⊢
          clear hsc9
          have hpw := hWAa.parts
          go_wp2_with (go_at_call 20; refine stop_here ?_)
          unfold Hid
          refine (c_same _ _ _ _ _ _ hpa hpw (Nat.le_refl _) (by rw [hll.out]; omega) (by rw [hll.out]; omega)).mono ?_
          rintro e Wb ⟨rfl, hnb⟩
          rw [decide_eq_true rfl]
          have hDb := hDa.keep hnb (fun _ _ => id)
          have hnwb := hWAa.nw.trans hnb
          clear hDa hWAa hpa hpw hnb
          go_wp2
          go_roundw
          case rel => exact ⟨k + 1, _, _, by omega, by go_num, hDb, hR9, hH9.mono (by rw [← hgen.out]; omega), hnwb⟩
          case measure => simp [intOf]; omega
        · obtain rfl := Option.some.inj hy
          rw [hsc9] at hpa
          obtain ⟨so, sc, rfl, -, -⟩ := id hpa
          have hl1 : Hid ((l ++ [x]).length = ll + 1) := by unfold Hid; rw [List.length_append, hll.out]; rfl
          obtain ⟨hsc1, gb, goff, gu, rfl, hgb, hgc, hgs⟩ := hpa.final
          have hpf := hpa.front
          rw [hl1.out]
          rw [hll.out] at hsc1 hgc hpf
          clear hsc9 hpa
          have hus4 := hus.keep (below_of_nw hWAa.nw)
          have hcv1 := run_string_sl (P := Try.prog) 37 5 9 Try.underlying37 Try.underlying5 Try.underlying9 (hgs.keep (Below.refl _ _).drew)
          have hcv2 := run_string_sl (P := Try.prog) 37 5 9 Try.underlying37 Try.underlying5 Try.underlying9 (hus4.keep (Below.refl _ _).drew)
          obtain ⟨gso, gsc, rfl⟩ := sl_form hgs
          have hDa := hDa.keep ((Fr.refl (fun _ => False) Wa).drew) (fun _ _ => id)
          have hWAa := hWAa.keep ((Fr.refl (fun _ => False) Wa).drew)
          have hpa : Parts Wa.drew.heap.size Wa.drew (.slice (some ⟨gb, goff, none⟩) ll sc) l := hpf.keep ((Below.refl _ _).drew)
          have kc : ∀ w' : World, (Instr.sliceAt 51 (.slice (some ⟨gb, goff, none⟩) (ll + 1) sc) none (some (.int .i64 (ll : Int))) none).run Try.prog w' = .ok (.slice (some ⟨gb, goff, none⟩) ll sc) w' := fun w' => run_upto2 _ _ _ _ (by omega) w'
          have hS0 : (fun w' : World => w'.cell? ⟨gb, goff + ll, none⟩ = some (.slice gso x.length gsc) ∧ (convert 37 9 (.slice gso x.length gsc)).run Try.prog w' = .ok (.string ⟨x.toArray⟩) w' ∧ (convert 37 9 (.slice uo x.length uc)).run Try.prog w' = .ok (.string ⟨x.toArray⟩) w') Wa.drew := ⟨hgc, hcv1, hcv2⟩
          generalize (⟨x.toArray⟩ : ByteArray) = X at *
          clear hgc hcv1 hcv2 hgs hus4 hpf hus3
          have hwl : IntKind.i64.wrap ((ll : Int) + 1) = (ll : Int) + 1 := by rw [IntKind.wrap_i64]; omega
          generalize x.length = xl at *
          go_wp2
          refine wp_region_ord [] 20 [(0, true), (1, true), (2, true), (3, true), (4, true), (5, true), (6, true), (7, true), (8, true), (9, true), (10, true), (11, true), (12, true), (13, true), (14, true), (15, true), (16, true), (17, true), (18, true), (19, true)] (fun w' : World => w'.cell? ⟨gb, goff + ll, none⟩ = some (.slice gso xl gsc) ∧ (convert 37 9 (.slice gso xl gsc)).run Try.prog w' = .ok (.string X) w' ∧ (convert 37 9 (.slice uo xl uc)).run Try.prog w' = .ok (.string X) w') (by kernel_rfl) (by kernel_rfl) ?_
          refine ord_quietL _ ?_ rfl hS0 rfl ?_ ?_
          rotate_left
          · rintro w' ⟨hS1, hS2, hS3⟩; go_simp; rfl
          simp only [Act.put, List.setIfInBounds_toArray, List.set_cons_zero, List.set_cons_succ]
          refine ord_quietL _ ?_ rfl hS0 rfl ?_ ?_
          rotate_left
          · rintro w' ⟨hS1, hS2, hS3⟩; go_simp; rfl
          simp only [Act.put, List.setIfInBounds_toArray, List.set_cons_zero, List.set_cons_succ]
          refine ord_quietL _ ?_ rfl hS0 rfl ?_ ?_
          rotate_left
          · rintro w' ⟨hS1, hS2, hS3⟩; go_simp; rfl
          simp only [Act.put, List.setIfInBounds_toArray, List.set_cons_zero, List.set_cons_succ]
          refine ord_quietL _ ?_ rfl hS0 rfl ?_ ?_
          rotate_left
          · rintro w' ⟨hS1, hS2, hS3⟩; go_simp; rfl
          simp only [Act.put, List.setIfInBounds_toArray, List.set_cons_zero, List.set_cons_succ]
          refine ord_quietL _ ?_ rfl hS0 rfl ?_ ?_
          rotate_left
          · rintro w' ⟨hS1, hS2, hS3⟩; go_simp; rfl
          simp only [Act.put, List.setIfInBounds_toArray, List.set_cons_zero, List.set_cons_succ]
          refine ord_quietL _ ?_ rfl hS0 rfl ?_ ?_
          rotate_left
          · rintro w' ⟨hS1, hS2, hS3⟩; go_simp; rfl
          simp only [Act.put, List.setIfInBounds_toArray, List.set_cons_zero, List.set_cons_succ]
          refine ord_quietL _ ?_ rfl hS0 rfl ?_ ?_
          rotate_left
          · rintro w' ⟨hS1, hS2, hS3⟩; go_simp; rfl
          simp only [Act.put, List.setIfInBounds_toArray, List.set_cons_zero, List.set_cons_succ]
          refine ord_quietL _ ?_ rfl hS0 rfl ?_ ?_
          rotate_left
          · rintro w' ⟨hS1, hS2, hS3⟩; go_simp; rfl
          simp only [Act.put, List.setIfInBounds_toArray, List.set_cons_zero, List.set_cons_succ]
          refine ord_quietL _ ?_ rfl hS0 rfl ?_ ?_
          rotate_left
          · rintro w' ⟨hS1, hS2, hS3⟩; go_simp; rfl
          simp only [Act.put, List.setIfInBounds_toArray, List.set_cons_zero, List.set_cons_succ]
          refine ord_quietL _ ?_ rfl hS0 rfl ?_ ?_
          rotate_left
          · rintro w' ⟨hS1, hS2, hS3⟩; go_simp; rfl
          simp only [Act.put, List.setIfInBounds_toArray, List.set_cons_zero, List.set_cons_succ]
          refine ord_quietL _ ?_ rfl hS0 rfl ?_ ?_
          rotate_left
          · rintro w' ⟨hS1, hS2, hS3⟩; go_simp; rfl
          simp only [Act.put, List.setIfInBounds_toArray, List.set_cons_zero, List.set_cons_succ]
          refine ord_quietL _ ?_ rfl hS0 rfl ?_ ?_
          rotate_left
          · rintro w' ⟨hS1, hS2, hS3⟩; go_simp; rfl
          simp only [Act.put, List.setIfInBounds_toArray, List.set_cons_zero, List.set_cons_succ]
          refine ord_quietL _ ?_ rfl hS0 rfl ?_ ?_
          rotate_left
          · rintro w' ⟨hS1, hS2, hS3⟩; go_simp; rfl
          simp only [Act.put, List.setIfInBounds_toArray, List.set_cons_zero, List.set_cons_succ]
          refine ord_quietL _ ?_ rfl hS0 rfl ?_ ?_
          rotate_left
          · rintro w' ⟨hS1, hS2, hS3⟩; go_simp; rfl
          simp only [Act.put, List.setIfInBounds_toArray, List.set_cons_zero, List.set_cons_succ]
          refine ord_quietL _ ?_ rfl hS0 rfl ?_ ?_
          rotate_left
          · rintro w' ⟨hS1, hS2, hS3⟩; go_simp; rfl
          simp only [Act.put, List.setIfInBounds_toArray, List.set_cons_zero, List.set_cons_succ]
          refine ord_quietL _ ?_ rfl hS0 rfl ?_ ?_
          rotate_left
          · rintro w' ⟨hS1, hS2, hS3⟩; go_simp; rfl
          simp only [Act.put, List.setIfInBounds_toArray, List.set_cons_zero, List.set_cons_succ]
          refine ord_quietL _ ?_ rfl hS0 rfl ?_ ?_
          rotate_left
          · rintro w' ⟨hS1, hS2, hS3⟩; go_simp; rfl
          simp only [Act.put, List.setIfInBounds_toArray, List.set_cons_zero, List.set_cons_succ]
          refine ord_quietL _ ?_ rfl hS0 rfl ?_ ?_
          rotate_left
          · rintro w' ⟨hS1, hS2, hS3⟩; go_simp; rfl
          simp only [Act.put, List.setIfInBounds_toArray, List.set_cons_zero, List.set_cons_succ]
          refine ord_quietL _ ?_ rfl hS0 rfl ?_ ?_
          rotate_left
          · rintro w' ⟨hS1, hS2, hS3⟩; go_simp; rfl
          simp only [Act.put, List.setIfInBounds_toArray, List.set_cons_zero, List.set_cons_succ]
          refine ord_quietL _ ?_ rfl hS0 rfl ?_ ?_
          rotate_left
          · rintro w' ⟨hS1, hS2, hS3⟩; go_simp; rfl
          simp only [Act.put, List.setIfInBounds_toArray, List.set_cons_zero, List.set_cons_succ]
          refine ord_tail ?_
          simp only [List.drop_succ_cons, List.drop_zero]
          clear hS0
          generalize Wa.drew = Wd at *
          have hpw := hWAa.parts
          go_wp2_with (go_at_call 20; refine stop_here ?_)
          unfold Hid
          refine (c_same _ _ _ _ _ _ hpa hpw (Nat.le_refl _) (by rw [hll.out]; omega) (by rw [hll.out]; omega)).mono ?_
          rintro e Wb ⟨rfl, hnb⟩
          rw [decide_eq_true rfl]
          have hDb := hDa.keep hnb (fun _ _ => id)
          have hnwb := hWAa.nw.trans hnb
          clear hDa hWAa hpa hpw hnb
          go_wp2
          go_roundw
          case rel => exact ⟨k + 1, _, _, by omega, by go_num, hDb, hR9, hH9.mono (by rw [← hgen.out]; omega), hnwb⟩
          case measure => simp [intOf]; omega

set_option maxRecDepth 100000 in
theorem lifted (os : Os) (started : os.Started) (H : Type) (enc : TypeId × Value → H) :
    ReturnsInHanded {} Try.checked os 5 .any (Rows.journalKeepsSpec.pre6 enc Try.prog Try.f5 Rows.journalKeepsRow.domain false) (Rows.journalKeepsSpec.post enc Try.prog Try.f5 false true false false) := by
  refine returnsInHanded_of_change_sized (C := Try.checked) own started (by kernel_rfl) Try.func5
    (ChangeSpec.witness6 (enc := enc) (C := Try.checked) false ⟨#[], #[.slice none 0 0, .slice none 0 0, .slice none 0 0], []⟩ 8 (by kernel_rfl) (by kernel_rfl) (by kernel_rfl) (by kernel_rfl)) ?_
  intro W base args ds gs before hval0 hW hcnd hsz0 _
  have hval : ∀ (j : Nat) t v, Try.f5.params[j]? = some t → args[j]? = some v → Value.okWide Try.prog W .any base t v := hval0
  have hsz : (DataW.weightsEach Try.prog (Try.f5.params.toList ++ Rows.journalKeepsSpec.plain.varTypes Try.prog) (ds ++ gs)).all (· ≤ reachBytes) = true := hsz0
  have hW' := hW
  obtain ⟨p, q, hA0, hV, rfl, hfz, hnd⟩ := hW
  have hA : DataW.TrodAll enc Try.prog W 0 (fun _ => true) true Try.f5.params.toList args.toList ds p := hA0
  rw [Try.params5] at hA hval hsz
  obtain ⟨v0, vs0, d0, ds0, p0, q0, hargs, rfl, rfl, h0, r0⟩ := trodAll_cons hA
  obtain ⟨v1, vs1, d1, ds1, p1, q1, rfl, rfl, rfl, h1, r1⟩ := trodAll_cons r0
  obtain ⟨v2, vs2, d2, ds2, p2, q2, rfl, rfl, rfl, h2, r2⟩ := trodAll_cons r1
  obtain ⟨rfl, rfl, rfl⟩ := trodAll_nil r2
  obtain rfl : args = #[v0, v1, v2] := by cases args; simp_all
  obtain ⟨rfl, rfl⟩ := trodVars_none hV
  obtain ⟨a0, len0, cap0, rfl⟩ := okWide_slice Try.underlying51 (hval 0 51 v0 rfl rfl)
  have k0 := h0
  have lt0 : ∀ x ∈ p0, x.block < W.heap.size := by obtain ⟨m, hm⟩ := k0; exact DataW.trod_lt m _ _ _ hm
  obtain ⟨x0, w0, l0, m0⟩ : ∃ xs : List (List UInt8), Parts W.heap.size W (.slice a0 len0 cap0) xs ∧ xs.length ≤ 140737488351232 ∧ xs.flatten.length ≤ Rows.uptoBulk d0 := by
    obtain ⟨fuel, hf⟩ := h0
    exact open_parts (v := .slice a0 len0 cap0) hf (fun n hn => by have := List.all_eq_true.1 hsz n (DataW.weights_mem_each (j := 0) (t := 51) rfl rfl n hn); simpa using this)
  obtain ⟨a1, len1, cap1, rfl⟩ := okWide_slice Try.underlying59 (hval 1 59 v1 rfl rfl)
  have k1 := h1
  have lt1 : ∀ x ∈ p1, x.block < W.heap.size := by obtain ⟨m, hm⟩ := k1; exact DataW.trod_lt m _ _ _ hm
  obtain ⟨x1, w1, l1⟩ : ∃ xs : List (Int × Int), PairsAt W.heap.size W (.slice a1 len1 cap1) xs ∧ xs.length ≤ 140737488351232 := by
    obtain ⟨fuel, hf⟩ := h1
    exact open_pairs (v := .slice a1 len1 cap1) hf (fun n hn => by have := List.all_eq_true.1 hsz n (DataW.weights_mem_each (j := 1) (t := 59) rfl rfl n hn); simpa using this)
  obtain ⟨a2, len2, cap2, rfl⟩ := okWide_slice Try.underlying38 (hval 2 38 v2 rfl rfl)
  have k2 := h2
  have lt2 : ∀ x ∈ p2, x.block < W.heap.size := by obtain ⟨m, hm⟩ := k2; exact DataW.trod_lt m _ _ _ hm
  obtain ⟨x2, w2, l2⟩ : ∃ xs : List Bool, Sl W.heap.size W (.slice a2 len2 cap2) xs.length (xs.map Value.bool) ∧ xs.length ≤ 140737488351232 := by
    obtain ⟨fuel, hf⟩ := h2
    exact open_bools (v := .slice a2 len2 cap2) hf (fun n hn => by have := List.all_eq_true.1 hsz n (DataW.weights_mem_each (j := 2) (t := 38) rfl rfl n hn); simpa using this)
  clear hA0 hval0
  refine (walk W _ x0 w0 l0 _ x1 w1 l1 _ x2 w2 l2).mono fun e W' ⟨he, bel⟩ => ?_
  subst he
  exact ⟨_, rfl, _, _, _, [], _, [], hW', trodAll_mk1 (shut_bool Try.underlying4 _), (trodAll_cons_mk (Below.trod laidOut (by kernel_rfl) (of_decide_eq_true (by kernel_rfl)) k0 bel lt0) (trodAll_cons_mk (Below.trod laidOut (by kernel_rfl) (of_decide_eq_true (by kernel_rfl)) k1 bel lt1) (trodAll_cons_mk (Below.trod laidOut (by kernel_rfl) (of_decide_eq_true (by kernel_rfl)) k2 bel lt2) trodAll_mk0))), rfl, bel.frame _, fun h => by cases h⟩

theorem over : Rows.journalKeepsRow.holds Try.pinned (OpenSpec.ofChange Rows.journalKeepsSpec) :=
  OpenClaim.holds_of_wide 5 Try.f5 rfl rfl rfl rfl rfl rfl rfl ⟨rfl, rfl, rfl, rfl, rfl⟩ rfl rfl rfl rfl rfl (by kernel_rfl) Try.func5 (by kernel_rfl)
    (of_decide_eq_true (by kernel_rfl)) (by unfold Func.isWrapper; first | (rw [if_pos (by decide +kernel)]; kernel_rfl) | (rw [if_neg (by decide +kernel)]; exact ⟨rfl, rfl⟩))
    (fun os started H enc _ => lifted os started H enc)
end Go.Proofs.Ytihdhlciblkbiaa.journalKeeps
namespace Go.Proofs.Ytihdhlciblkbiaa
/-- The given statement. -/
theorem journalKeeps_holds : Rows.JournalKeepsSaid := journalKeeps.over
end Go.Proofs.Ytihdhlciblkbiaa
