/-
  TreeTurns returns true for every list of acts and every two acts: two unlike keys may be put in either order, pairs rise, and a key that is put and deleted leaves the others.
  Conditions: none; the statement is the given one, for every input.
-/
import Derived.Test.YtkfcinlflkihjaaRows
import Derived.Test.YtkfcinlflkihjaaTreeOpen2
import Derived.WalkKit
import Derived.ProofKit
import Derived.OpenShut
import Derived.ShutString
import Derived.ChangeOld
import Derived.Below
import Derived.SizedLaws
namespace Go.Proofs.Ytkfcinlflkihjaa.treeTurns
open Go.ChangeShapes Go.WideShapes Go.ChangeAt Go.RowKit
open Go.ChangeMaps (open_string shut_string)
set_option linter.unusedVariables false
set_option linter.unusedSimpArgs false

theorem own : ownKnob Try.prog.godebug = none := by kernel_rfl
theorem laidOut : laidOutB Try.prog = true := by kernel_rfl

set_option maxRecDepth 20000 in
set_option maxHeartbeats 6400000 in
/-- The law's own walk. -/
theorem walk (w : World) (v0 : Value) (x0 : List TAct) (w0 : TActsAt w.heap.size w v0 x0) (l0 : x0.length ≤ 140737488351232) (a1 : TAct) (w1 : a1.Ok) (a2 : TAct) (w2 : a2.Ok) :
    Calls Try.prog 8 #[v0, tactV a1, tactV a2] w fun e w' => e = .returned (.bool true) ∧ Below w.heap.size w w' := by
  have hka1 := w1.n
  have hka2 := w2.n
  obtain ⟨ao, cap, rfl, hac, hac2⟩ := w0.form
  replace w0 : Hid (TActsAt w.heap.size w (.slice ao x0.length cap) x0) := w0
  have hA : ((w.alloc (.cells #[.int .i64 a1.kind, .int .u64 a1.key, .int .i64 a1.s, .int .i64 a1.l] 44)).alloc (.cells #[.int .i64 a2.kind, .int .u64 a2.key, .int .i64 a2.s, .int .i64 a2.l] 44)).heap[w.heap.size]? = some (.cells #[.int .i64 a1.kind, .int .u64 a1.key, .int .i64 a1.s, .int .i64 a1.l] 44 (0, 0)) := heap_alloc2_old w _ _
  have hB : ((w.alloc (.cells #[.int .i64 a1.kind, .int .u64 a1.key, .int .i64 a1.s, .int .i64 a1.l] 44)).alloc (.cells #[.int .i64 a2.kind, .int .u64 a2.key, .int .i64 a2.s, .int .i64 a2.l] 44)).heap[w.heap.size + 1]? = some (.cells #[.int .i64 a2.kind, .int .u64 a2.key, .int .i64 a2.s, .int .i64 a2.l] 44 (0, 0)) := heap_alloc2_new w _ _
  have n0 : Nw w ((w.alloc (.cells #[.int .i64 a1.kind, .int .u64 a1.key, .int .i64 a1.s, .int .i64 a1.l] 44)).alloc (.cells #[.int .i64 a2.kind, .int .u64 a2.key, .int .i64 a2.s, .int .i64 a2.l] 44)) := nw_alloc (nw_alloc (nw_refl w) _) _
  unfold tactV
  go_enter Try.func8, Try.ntmps8
  go_upto_region 1 with fail
  generalize ((w.alloc (.cells #[.int .i64 a1.kind, .int .u64 a1.key, .int .i64 a1.s, .int .i64 a1.l] 44)).alloc (.cells #[.int .i64 a2.kind, .int .u64 a2.key, .int .i64 a2.s, .int .i64 a2.l] 44)) = W0 at *
  generalize w.heap.size + 1 = gb at *
  obtain ⟨ga, hga⟩ : ∃ ga, Hid (ga = w.heap.size) := ⟨_, rfl⟩
  rw [← hga.out] at hA ⊢
  go_wp2_with (go_at_call 11; refine (c_alive _).mono ?_; rintro e W1 ⟨rfl, n1⟩; refine stop_here ?_)
  unfold Hid
  have hA1 := n1.blk hA
  have hB1 := n1.blk hB
  have f1 : W1.cell? ⟨ga, 1, none⟩ = some (.int .u64 a1.key) := cell_blk hA1 rfl
  have g1 : W1.cell? ⟨gb, 1, none⟩ = some (.int .u64 a2.key) := cell_blk hB1 rfl
  have n01 := nw_trans n0 n1
  by_cases h200 : 200 < x0.length
  · have hfin := below_of_nw n01
    have hd : decide ((200 : Int) < (x0.length : Int)) = true := decide_eq_true (by omega)
    go_wp2
    go_ret
    exact ⟨rfl, hfin⟩
  have hd : decide ((200 : Int) < (x0.length : Int)) = false := decide_eq_false (by omega)
  by_cases hkk : a1.key = a2.key
  · have hfin := below_of_nw n01
    have hd2 : (a1.key == a2.key) = true := by simpa using hkk
    clear hkk
    go_wp2
    go_ret
    exact ⟨rfl, hfin⟩
  have hd2 : (a1.key == a2.key) = false := by simpa using hkk
  replace hkk : Hid (a1.key ≠ a2.key) := hkk
  have hg := c_grown W1 (w0.out.nw n01 (Nat.le_refl _)) n01.size (by omega)
  obtain ⟨L, hL⟩ : ∃ L, Hid (L = actsL x0) := ⟨_, rfl⟩
  rw [← hL.out] at hg
  go_wp2_with (go_at_call 12; refine hg.mono ?_; rintro e W2 ⟨b, u, rfl, hT, hP, hlen, n2⟩; refine stop_here ?_)
  unfold Hid
  clear hg f1 g1 hA hB n0 n1
  have n02 := nw_trans n01 n2
  have hl200 : L.length ≤ 200 := by omega
  obtain ⟨ua, uc, rfl, hu1, hu2⟩ := hP.form
  replace hA1 : Hid _ := n2.blk hA1
  replace hB1 : Hid _ := n2.blk hB1
  replace hT : Hid (TP W2 b L) := hT
  clear hP hu1 hu2 n01 n2
  have hlenH : Hid ((actsL x0).length ≤ x0.length) := by unfold Hid; rw [← hL.out]; exact hlen
  clear hlen hl200
  generalize L.length = nL at *
  go_wp2
  have hSof : Hid (∀ w', Nw W2 w' → (fun w' : World => Nw W2 w' ∧ w'.cell? ⟨ga, 1, none⟩ = some (.int .u64 a1.key) ∧ w'.cell? ⟨ga, 2, none⟩ = some (.int .i64 a1.s) ∧ w'.cell? ⟨ga, 3, none⟩ = some (.int .i64 a1.l) ∧ w'.cell? ⟨gb, 1, none⟩ = some (.int .u64 a2.key) ∧ w'.cell? ⟨gb, 2, none⟩ = some (.int .i64 a2.s) ∧ w'.cell? ⟨gb, 3, none⟩ = some (.int .i64 a2.l)) w') := fun w' hw => ⟨hw, hw.cell (cell_blk hA1.out rfl), hw.cell (cell_blk hA1.out rfl), hw.cell (cell_blk hA1.out rfl), hw.cell (cell_blk hB1.out rfl), hw.cell (cell_blk hB1.out rfl), hw.cell (cell_blk hB1.out rfl)⟩
  have hS := hSof.out _ (nw_drew (nw_refl W2))
  refine wp_region_ord [] 22 [(0, true), (1, true), (2, true), (3, true), (4, true), (6, true), (7, true), (8, true), (9, true), (11, true), (12, true), (13, true), (14, true), (15, true), (17, true), (18, true), (19, true), (20, true), (5, false), (10, false), (16, false), (21, false)] (fun w' : World => Nw W2 w' ∧ w'.cell? ⟨ga, 1, none⟩ = some (.int .u64 a1.key) ∧ w'.cell? ⟨ga, 2, none⟩ = some (.int .i64 a1.s) ∧ w'.cell? ⟨ga, 3, none⟩ = some (.int .i64 a1.l) ∧ w'.cell? ⟨gb, 1, none⟩ = some (.int .u64 a2.key) ∧ w'.cell? ⟨gb, 2, none⟩ = some (.int .i64 a2.s) ∧ w'.cell? ⟨gb, 3, none⟩ = some (.int .i64 a2.l)) (by kernel_rfl) (by kernel_rfl) ?_
  refine ord_quietL _ ?_ rfl hS rfl ?_ ?_
  rotate_left
  · rintro w' ⟨hS0, hS1, hS2, hS3, hS4, hS5, hS6⟩; go_simp; rfl
  simp only [Act.put, List.setIfInBounds_toArray, List.set_cons_zero, List.set_cons_succ]
  refine ord_quietL _ ?_ rfl hS rfl ?_ ?_
  rotate_left
  · rintro w' ⟨hS0, hS1, hS2, hS3, hS4, hS5, hS6⟩; go_simp; rfl
  simp only [Act.put, List.setIfInBounds_toArray, List.set_cons_zero, List.set_cons_succ]
  refine ord_quietL _ ?_ rfl hS rfl ?_ ?_
  rotate_left
  · rintro w' ⟨hS0, hS1, hS2, hS3, hS4, hS5, hS6⟩; go_simp; rfl
  simp only [Act.put, List.setIfInBounds_toArray, List.set_cons_zero, List.set_cons_succ]
  refine ord_quietL _ ?_ rfl hS rfl ?_ ?_
  rotate_left
  · rintro w' ⟨hS0, hS1, hS2, hS3, hS4, hS5, hS6⟩; go_simp; rfl
  simp only [Act.put, List.setIfInBounds_toArray, List.set_cons_zero, List.set_cons_succ]
  refine ord_quietL _ ?_ rfl hS rfl ?_ ?_
  rotate_left
  · rintro w' ⟨hS0, hS1, hS2, hS3, hS4, hS5, hS6⟩; go_simp; rfl
  simp only [Act.put, List.setIfInBounds_toArray, List.set_cons_zero, List.set_cons_succ]
  refine ord_quietL _ ?_ rfl hS rfl ?_ ?_
  rotate_left
  · rintro w' ⟨hS0, hS1, hS2, hS3, hS4, hS5, hS6⟩; go_simp; rfl
  simp only [Act.put, List.setIfInBounds_toArray, List.set_cons_zero, List.set_cons_succ]
  refine ord_quietL _ ?_ rfl hS rfl ?_ ?_
  rotate_left
  · rintro w' ⟨hS0, hS1, hS2, hS3, hS4, hS5, hS6⟩; go_simp; rfl
  simp only [Act.put, List.setIfInBounds_toArray, List.set_cons_zero, List.set_cons_succ]
  refine ord_quietL _ ?_ rfl hS rfl ?_ ?_
  rotate_left
  · rintro w' ⟨hS0, hS1, hS2, hS3, hS4, hS5, hS6⟩; go_simp; rfl
  simp only [Act.put, List.setIfInBounds_toArray, List.set_cons_zero, List.set_cons_succ]
  refine ord_quietL _ ?_ rfl hS rfl ?_ ?_
  rotate_left
  · rintro w' ⟨hS0, hS1, hS2, hS3, hS4, hS5, hS6⟩; go_simp; rfl
  simp only [Act.put, List.setIfInBounds_toArray, List.set_cons_zero, List.set_cons_succ]
  refine ord_quietL _ ?_ rfl hS rfl ?_ ?_
  rotate_left
  · rintro w' ⟨hS0, hS1, hS2, hS3, hS4, hS5, hS6⟩; go_simp; rfl
  simp only [Act.put, List.setIfInBounds_toArray, List.set_cons_zero, List.set_cons_succ]
  refine ord_quietL _ ?_ rfl hS rfl ?_ ?_
  rotate_left
  · rintro w' ⟨hS0, hS1, hS2, hS3, hS4, hS5, hS6⟩; go_simp; rfl
  simp only [Act.put, List.setIfInBounds_toArray, List.set_cons_zero, List.set_cons_succ]
  refine ord_quietL _ ?_ rfl hS rfl ?_ ?_
  rotate_left
  · rintro w' ⟨hS0, hS1, hS2, hS3, hS4, hS5, hS6⟩; go_simp; rfl
  simp only [Act.put, List.setIfInBounds_toArray, List.set_cons_zero, List.set_cons_succ]
  refine ord_quietL _ ?_ rfl hS rfl ?_ ?_
  rotate_left
  · rintro w' ⟨hS0, hS1, hS2, hS3, hS4, hS5, hS6⟩; go_simp; rfl
  simp only [Act.put, List.setIfInBounds_toArray, List.set_cons_zero, List.set_cons_succ]
  refine ord_quietL _ ?_ rfl hS rfl ?_ ?_
  rotate_left
  · rintro w' ⟨hS0, hS1, hS2, hS3, hS4, hS5, hS6⟩; go_simp; rfl
  simp only [Act.put, List.setIfInBounds_toArray, List.set_cons_zero, List.set_cons_succ]
  refine ord_quietL _ ?_ rfl hS rfl ?_ ?_
  rotate_left
  · rintro w' ⟨hS0, hS1, hS2, hS3, hS4, hS5, hS6⟩; go_simp; rfl
  simp only [Act.put, List.setIfInBounds_toArray, List.set_cons_zero, List.set_cons_succ]
  refine ord_quietL _ ?_ rfl hS rfl ?_ ?_
  rotate_left
  · rintro w' ⟨hS0, hS1, hS2, hS3, hS4, hS5, hS6⟩; go_simp; rfl
  simp only [Act.put, List.setIfInBounds_toArray, List.set_cons_zero, List.set_cons_succ]
  refine ord_quietL _ ?_ rfl hS rfl ?_ ?_
  rotate_left
  · rintro w' ⟨hS0, hS1, hS2, hS3, hS4, hS5, hS6⟩; go_simp; rfl
  simp only [Act.put, List.setIfInBounds_toArray, List.set_cons_zero, List.set_cons_succ]
  refine ord_quietL _ ?_ rfl hS rfl ?_ ?_
  rotate_left
  · rintro w' ⟨hS0, hS1, hS2, hS3, hS4, hS5, hS6⟩; go_simp; rfl
  simp only [Act.put, List.setIfInBounds_toArray, List.set_cons_zero, List.set_cons_succ]
  have nd := hS.1
  refine ord_actL _ rfl (fun K1 hK1 => ?_)
  have zY1 := t_Put (k := a1.key) (e := (a1.s, a1.l)) W2.drew (hT.out.nw nd) hka1.1 hka1.2
  unfold ext at zY1
  go_wp2_with (go_at_call 22; refine zY1.mono ?_; rintro e Y1 ⟨bY1, rfl, hY1, mY1⟩; refine stop_here ?_)
  unfold Hid
  clear zY1
  have nY1 := nw_trans nd mY1
  go_wp2
  refine hK1 _ _ (hSof.out _ nY1) ?_
  clear hK1 K1
  refine ord_actL _ rfl (fun K1 hK1 => ?_)
  have zY2 := t_Put (k := a2.key) (e := (a2.s, a2.l)) Y1 hY1 hka2.1 hka2.2
  unfold ext at zY2
  go_wp2_with (go_at_call 22; refine zY2.mono ?_; rintro e Y2 ⟨bY2, rfl, hY2, mY2⟩; refine stop_here ?_)
  unfold Hid
  clear zY2
  have nY2 := nw_trans nY1 mY2
  go_wp2
  refine hK1 _ _ (hSof.out _ nY2) ?_
  clear hK1 K1
  refine ord_actL _ rfl (fun K1 hK1 => ?_)
  have zY3 := t_Put (k := a2.key) (e := (a2.s, a2.l)) Y2 (hT.out.nw nY2) hka2.1 hka2.2
  unfold ext at zY3
  go_wp2_with (go_at_call 22; refine zY3.mono ?_; rintro e Y3 ⟨bY3, rfl, hY3, mY3⟩; refine stop_here ?_)
  unfold Hid
  clear zY3
  have nY3 := nw_trans nY2 mY3
  go_wp2
  refine hK1 _ _ (hSof.out _ nY3) ?_
  clear hK1 K1
  refine ord_actL _ rfl (fun K1 hK1 => ?_)
  have zY4 := t_Put (k := a1.key) (e := (a1.s, a1.l)) Y3 hY3 hka1.1 hka1.2
  unfold ext at zY4
  go_wp2_with (go_at_call 22; refine zY4.mono ?_; rintro e Y4 ⟨bY4, rfl, hY4, mY4⟩; refine stop_here ?_)
  unfold Hid
  clear zY4
  have nY4 := nw_trans nY3 mY4
  go_wp2
  refine hK1 _ _ (hSof.out _ nY4) ?_
  clear hK1 K1
  refine ord_tail ?_
  simp only [List.drop_succ_cons, List.drop_zero]
  have hX := hY2.nw (nw_trans mY3 mY4)
  have htn : putL a2.key (a2.s, a2.l) (putL a1.key (a1.s, a1.l) L) = putL a1.key (a1.s, a1.l) (putL a2.key (a2.s, a2.l) L) := putL_turn hkk.out hX.rise hY4.rise
  rw [← htn] at hY4
  have hr : Hid _ := hX.rise
  have hl1 := putL_len a1.key (a1.s, a1.l) L
  have hl2 := putL_len a2.key (a2.s, a2.l) (putL a1.key (a1.s, a1.l) L)
  have hLL : L.length ≤ 200 := by rw [hL.out]; exact Nat.le_trans hlenH.out (by omega)
  obtain ⟨M, hM⟩ : ∃ M, Hid (M = putL a2.key (a2.s, a2.l) (putL a1.key (a1.s, a1.l) L)) := ⟨_, rfl⟩
  rw [← hM.out] at hX hY4 hr hl2
  have hMl : M.length ≤ 300 := by omega
  clear htn hl1 hl2 hY1 hY2 hY3 mY1 mY2 mY3 mY4 nY1 nY2 nY3 nd
  have r1 := t_All Y4 hX (by omega)
  go_wp2_with (go_at_call 15; refine r1.mono ?_; rintro e Z1 ⟨u1, rfl, k1, j1⟩; refine stop_here ?_)
  unfold Hid
  have r2 := t_All Z1 (hY4.nw j1) (by omega)
  clear r1
  go_wp2_with (go_at_call 15; refine r2.mono ?_; rintro e Z2 ⟨u2, rfl, k2, j2⟩; refine stop_here ?_)
  unfold Hid
  have r3 := c_same Z2 (k1.nw j2) k2 (by omega) (by omega)
  rw [decide_eq_true rfl] at r3
  clear r2 hY4
  go_wp2_with (go_at_call 14; refine r3.mono ?_; rintro e Z3 ⟨rfl, j3⟩; refine stop_here ?_)
  unfold Hid
  have j13 := nw_trans j1 (nw_trans j2 j3)
  have r4 := t_All Z3 (hX.nw j13) (by omega)
  clear r3 k1 k2 j1 j2 j3 hX
  go_wp2_with (go_at_call 15; refine r4.mono ?_; rintro e Z4 ⟨u4, rfl, k4, j4⟩; refine stop_here ?_)
  unfold Hid
  have nZ4 : Nw W2 Z4 := nw_trans nY4 (nw_trans j13 j4)
  obtain ⟨va, vc, rfl, hv1, hv2⟩ := k4.form
  replace k4 : Hid (Prs Z4 (.slice va M.length vc) M) := k4
  replace hr : Hid (Rise (M.map (·.1))) := hr.out
  clear r4 j13 j4 nY4
  go_wp2
  go_loopw [12] (fun i wr => ∃ j : Nat, 1 ≤ j ∧ j ≤ M.length + 1 ∧ i = .int .i64 j ∧ Nw Z4 wr) (fun i _ => M.length + 1 - (intOf i).toNat)
  case atStart => exact ⟨1, Nat.le_refl _, by omega, rfl, nw_refl _⟩
  case round =>
    obtain ⟨j, hj1, hj2, rfl, hw⟩ := hrel
    by_cases hlt : j < M.length
    · obtain ⟨i, rfl⟩ : ∃ i, j = i + 1 := ⟨j - 1, by omega⟩
      obtain ⟨q, off, rfl, d0, _, _⟩ := (k4.out.nw hw).get (i := i) (by omega)
      obtain ⟨q', off', hqq, d1, _, _⟩ := (k4.out.nw hw).get (i := i + 1) hlt
      simp only [Option.some.injEq, Addr.mk.injEq, and_true] at hqq
      obtain ⟨rfl, rfl⟩ := hqq
      have hlt2 : M[i].1 < M[i + 1].1 := by
        have := List.pairwise_iff_getElem.1 hr.out i (i + 1) (by simp; omega) (by simpa using hlt) (by omega)
        simpa using this
      have hdd : decide (M[i + 1].1 ≤ M[i].1) = false := decide_eq_false (by omega)
      generalize M[i].1 = y0 at *
      generalize M[i + 1].1 = y1 at *
      have hii : ((i + 1 : Nat) : Int) - 1 = (i : Int) := by omega
      clear hlt2
      go_wp2
      go_quiet (fail)
      have hn9 := nw_trans hw (nw_drewN nq wr)
      go_wp2
      go_roundw
      case rel => exact ⟨i + 1 + 1, by omega, by omega, by go_num, hn9⟩
      case measure => simp [intOf]; omega
    · have nwr := nw_trans nZ4 hw
      clear k4
      go_wp2
      have hS := hSof.out _ (nw_trans nwr (nw_drew (nw_refl wr)))
      refine wp_region_ord [] 16 [(0, true), (1, true), (2, true), (3, true), (4, true), (6, true), (7, true), (10, true), (11, true), (12, true), (5, false), (8, false), (9, false), (13, false), (14, false), (15, false)] (fun w' : World => Nw W2 w' ∧ w'.cell? ⟨ga, 1, none⟩ = some (.int .u64 a1.key) ∧ w'.cell? ⟨ga, 2, none⟩ = some (.int .i64 a1.s) ∧ w'.cell? ⟨ga, 3, none⟩ = some (.int .i64 a1.l) ∧ w'.cell? ⟨gb, 1, none⟩ = some (.int .u64 a2.key) ∧ w'.cell? ⟨gb, 2, none⟩ = some (.int .i64 a2.s) ∧ w'.cell? ⟨gb, 3, none⟩ = some (.int .i64 a2.l)) (by kernel_rfl) (by kernel_rfl) ?_
      refine ord_quietL _ ?_ rfl hS rfl ?_ ?_
      rotate_left
      · rintro w' ⟨hS0, hS1, hS2, hS3, hS4, hS5, hS6⟩; go_simp; rfl
      simp only [Act.put, List.setIfInBounds_toArray, List.set_cons_zero, List.set_cons_succ]
      refine ord_quietL _ ?_ rfl hS rfl ?_ ?_
      rotate_left
      · rintro w' ⟨hS0, hS1, hS2, hS3, hS4, hS5, hS6⟩; go_simp; rfl
      simp only [Act.put, List.setIfInBounds_toArray, List.set_cons_zero, List.set_cons_succ]
      refine ord_quietL _ ?_ rfl hS rfl ?_ ?_
      rotate_left
      · rintro w' ⟨hS0, hS1, hS2, hS3, hS4, hS5, hS6⟩; go_simp; rfl
      simp only [Act.put, List.setIfInBounds_toArray, List.set_cons_zero, List.set_cons_succ]
      refine ord_quietL _ ?_ rfl hS rfl ?_ ?_
      rotate_left
      · rintro w' ⟨hS0, hS1, hS2, hS3, hS4, hS5, hS6⟩; go_simp; rfl
      simp only [Act.put, List.setIfInBounds_toArray, List.set_cons_zero, List.set_cons_succ]
      refine ord_quietL _ ?_ rfl hS rfl ?_ ?_
      rotate_left
      · rintro w' ⟨hS0, hS1, hS2, hS3, hS4, hS5, hS6⟩; go_simp; rfl
      simp only [Act.put, List.setIfInBounds_toArray, List.set_cons_zero, List.set_cons_succ]
      refine ord_quietL _ ?_ rfl hS rfl ?_ ?_
      rotate_left
      · rintro w' ⟨hS0, hS1, hS2, hS3, hS4, hS5, hS6⟩; go_simp; rfl
      simp only [Act.put, List.setIfInBounds_toArray, List.set_cons_zero, List.set_cons_succ]
      refine ord_quietL _ ?_ rfl hS rfl ?_ ?_
      rotate_left
      · rintro w' ⟨hS0, hS1, hS2, hS3, hS4, hS5, hS6⟩; go_simp; rfl
      simp only [Act.put, List.setIfInBounds_toArray, List.set_cons_zero, List.set_cons_succ]
      refine ord_quietL _ ?_ rfl hS rfl ?_ ?_
      rotate_left
      · rintro w' ⟨hS0, hS1, hS2, hS3, hS4, hS5, hS6⟩; go_simp; rfl
      simp only [Act.put, List.setIfInBounds_toArray, List.set_cons_zero, List.set_cons_succ]
      refine ord_quietL _ ?_ rfl hS rfl ?_ ?_
      rotate_left
      · rintro w' ⟨hS0, hS1, hS2, hS3, hS4, hS5, hS6⟩; go_simp; rfl
      simp only [Act.put, List.setIfInBounds_toArray, List.set_cons_zero, List.set_cons_succ]
      refine ord_quietL _ ?_ rfl hS rfl ?_ ?_
      rotate_left
      · rintro w' ⟨hS0, hS1, hS2, hS3, hS4, hS5, hS6⟩; go_simp; rfl
      simp only [Act.put, List.setIfInBounds_toArray, List.set_cons_zero, List.set_cons_succ]
      have nd := hS.1
      refine ord_actL _ rfl (fun K1 hK1 => ?_)
      have zX1 := t_Put (k := a1.key) (e := (a1.s, a1.l)) wr.drew (hT.out.nw nd) hka1.1 hka1.2
      unfold ext at zX1
      go_wp2_with (go_at_call 22; refine zX1.mono ?_; rintro e X1 ⟨bX1, rfl, hX1, mX1⟩; refine stop_here ?_)
      unfold Hid
      clear zX1
      have nX1 := nw_trans nd mX1
      go_wp2
      refine hK1 _ _ (hSof.out _ nX1) ?_
      clear hK1 K1
      refine ord_actL _ rfl (fun K1 hK1 => ?_)
      have zX2 := t_Del (k := a1.key) X1 hX1 hka1.1 hka1.2
      go_wp2_with (go_at_call 23; refine zX2.mono ?_; rintro e X2 ⟨bX2, rfl, hX2, mX2⟩; refine stop_here ?_)
      unfold Hid
      clear zX2
      have nX2 := nw_trans nX1 mX2
      go_wp2
      refine hK1 _ _ (hSof.out _ nX2) ?_
      clear hK1 K1
      have hdl1 := delL_len a1.key (putL a1.key (a1.s, a1.l) L)
      have hdl2 := putL_len a1.key (a1.s, a1.l) L
      have hdl3 := delL_len a1.key L
      refine ord_actL _ rfl (fun K1 hK1 => ?_)
      have zX3 := t_All X2 hX2 (by omega)
      go_wp2_with (go_at_call 15; refine zX3.mono ?_; rintro e X3 ⟨uX3, rfl, hX3, mX3⟩; refine stop_here ?_)
      unfold Hid
      clear zX3
      have nX3 := nw_trans nX2 mX3
      obtain ⟨xa, xc, rfl, _, _⟩ := hX3.form
      replace hX3 : Hid (Prs X3 (.slice xa (delL a1.key (putL a1.key (a1.s, a1.l) L)).length xc) (delL a1.key (putL a1.key (a1.s, a1.l) L))) := hX3
      have hrX := hX2.rise
      obtain ⟨l3, hl3⟩ : ∃ l3, Hid ((delL a1.key (putL a1.key (a1.s, a1.l) L)).length = l3) := ⟨_, rfl⟩
      rw [hl3.out] at hX3 hdl1 ⊢
      replace hrX : Hid (Rise ((delL a1.key (putL a1.key (a1.s, a1.l) L)).map (·.1))) := hrX
      go_wp2
      refine hK1 _ _ (hSof.out _ nX3) ?_
      clear hK1 K1
      refine ord_actL _ rfl (fun K1 hK1 => ?_)
      have zX4 := t_Del (k := a1.key) X3 (hT.out.nw nX3) hka1.1 hka1.2
      go_wp2_with (go_at_call 23; refine zX4.mono ?_; rintro e X4 ⟨bX4, rfl, hX4, mX4⟩; refine stop_here ?_)
      unfold Hid
      clear zX4
      have nX4 := nw_trans nX3 mX4
      go_wp2
      refine hK1 _ _ (hSof.out _ nX4) ?_
      clear hK1 K1
      refine ord_actL _ rfl (fun K1 hK1 => ?_)
      have zX5 := t_All X4 hX4 (by omega)
      go_wp2_with (go_at_call 15; refine zX5.mono ?_; rintro e X5 ⟨uX5, rfl, hX5, mX5⟩; refine stop_here ?_)
      unfold Hid
      clear zX5
      have nX5 := nw_trans nX4 mX5
      obtain ⟨ya, yc, rfl, _, _⟩ := hX5.form
      go_wp2
      refine hK1 _ _ (hSof.out _ nX5) ?_
      clear hK1 K1
      have hdp : delL a1.key (putL a1.key (a1.s, a1.l) L) = delL a1.key L := del_put hrX.out hX4.rise
      have hX35 := (hX3.out.nw mX4).nw mX5
      rw [hdp] at hX35
      refine ord_actL _ rfl (fun K1 hK1 => ?_)
      have zX6 := c_same X5 hX35 hX5 (by omega) (by omega)
      rw [decide_eq_true rfl] at zX6
      go_wp2_with (go_at_call 14; refine zX6.mono ?_; rintro e X6 ⟨rfl, mX6⟩; refine stop_here ?_)
      unfold Hid
      clear zX6
      have nX6 := nw_trans nX5 mX6
      go_wp2
      refine hK1 _ _ (hSof.out _ nX6) ?_
      clear hK1 K1
      refine ord_tail ?_
      simp only [List.drop_succ_cons, List.drop_zero]
      have hfin := below_of_nw (nw_trans n02 nX6)
      go_wp2
      go_ret
      exact ⟨rfl, hfin⟩

set_option maxRecDepth 100000 in
theorem lifted (os : Os) (started : os.Started) (H : Type) (enc : TypeId × Value → H) :
    ReturnsInHanded {} Try.checked os 8 .any (Rows.treeTurnsSpec.pre6 enc Try.prog Try.f8 Rows.treeTurnsRow.domain false) (Rows.treeTurnsSpec.post enc Try.prog Try.f8 false true false false) := by
  refine returnsInHanded_of_change_sized (C := Try.checked) own started (by kernel_rfl) Try.func8
    (ChangeSpec.witness6 (enc := enc) (C := Try.checked) false ⟨#[], #[.slice none 0 0, .agg #[.int .i64 0, .int .u64 0, .int .i64 0, .int .i64 0], .agg #[.int .i64 0, .int .u64 0, .int .i64 0, .int .i64 0]], []⟩ 8 (by kernel_rfl) (by kernel_rfl) (by kernel_rfl) (by kernel_rfl)) ?_
  intro W base args ds gs before hval0 hW hcnd hsz0 _
  have hval : ∀ (j : Nat) t v, Try.f8.params[j]? = some t → args[j]? = some v → Value.okWide Try.prog W .any base t v := hval0
  have hsz : (DataW.weightsEach Try.prog (Try.f8.params.toList ++ Rows.treeTurnsSpec.plain.varTypes Try.prog) (ds ++ gs)).all (· ≤ reachBytes) = true := hsz0
  have hW' := hW
  obtain ⟨p, q, hA0, hV, rfl, hfz, hnd⟩ := hW
  have hA : DataW.TrodAll enc Try.prog W 0 (fun _ => true) true Try.f8.params.toList args.toList ds p := hA0
  rw [Try.params8] at hA hval hsz
  obtain ⟨v0, vs0, d0, ds0, p0, q0, hargs, rfl, rfl, h0, r0⟩ := trodAll_cons hA
  obtain ⟨v1, vs1, d1, ds1, p1, q1, rfl, rfl, rfl, h1, r1⟩ := trodAll_cons r0
  obtain ⟨v2, vs2, d2, ds2, p2, q2, rfl, rfl, rfl, h2, r2⟩ := trodAll_cons r1
  obtain ⟨rfl, rfl, rfl⟩ := trodAll_nil r2
  obtain rfl : args = #[v0, v1, v2] := by cases args; simp_all
  obtain ⟨rfl, rfl⟩ := trodVars_none hV
  obtain ⟨a0, len0, cap0, rfl⟩ := okWide_slice Try.underlying32 (hval 0 32 v0 rfl rfl)
  have k0 := h0
  have lt0 : ∀ x ∈ p0, x.block < W.heap.size := by obtain ⟨m, hm⟩ := k0; exact DataW.trod_lt m _ _ _ hm
  obtain ⟨x0, w0, l0⟩ : ∃ xs : List TAct, TActsAt W.heap.size W (.slice a0 len0 cap0) xs ∧ xs.length ≤ 140737488351232 := by
    obtain ⟨fuel, hf⟩ := h0
    exact open_tacts (v := .slice a0 len0 cap0) hf (fun n hn => by have := List.all_eq_true.1 hsz n (DataW.weights_mem_each (j := 0) (t := 32) rfl rfl n hn); simpa using this)
  have k1 := h1
  have lt1 : ∀ x ∈ p1, x.block < W.heap.size := by obtain ⟨m, hm⟩ := k1; exact DataW.trod_lt m _ _ _ hm
  obtain ⟨a1, rfl, w1⟩ := open_tact (hval 1 44 v1 rfl rfl) h1
  have k2 := h2
  have lt2 : ∀ x ∈ p2, x.block < W.heap.size := by obtain ⟨m, hm⟩ := k2; exact DataW.trod_lt m _ _ _ hm
  obtain ⟨a2, rfl, w2⟩ := open_tact (hval 2 44 v2 rfl rfl) h2
  clear hA0 hval0
  refine (walk W _ x0 w0 l0 a1 w1 a2 w2).mono fun e W' ⟨he, bel⟩ => ?_
  subst he
  exact ⟨_, rfl, _, _, _, [], _, [], hW', trodAll_mk1 (shut_bool Try.underlying4 _), (trodAll_cons_mk (Below.trod laidOut (by kernel_rfl) (of_decide_eq_true (by kernel_rfl)) k0 bel lt0) (trodAll_cons_mk (Below.trod laidOut (by kernel_rfl) (of_decide_eq_true (by kernel_rfl)) k1 bel lt1) (trodAll_cons_mk (Below.trod laidOut (by kernel_rfl) (of_decide_eq_true (by kernel_rfl)) k2 bel lt2) trodAll_mk0))), rfl, bel.frame _, fun h => by cases h⟩

theorem over : Rows.treeTurnsRow.holds Try.pinned (OpenSpec.ofChange Rows.treeTurnsSpec) :=
  OpenClaim.holds_of_wide 8 Try.f8 rfl rfl rfl rfl rfl rfl rfl ⟨rfl, rfl, rfl, rfl, rfl⟩ rfl rfl rfl rfl rfl (by kernel_rfl) Try.func8 (by kernel_rfl)
    (of_decide_eq_true (by kernel_rfl)) (by unfold Func.isWrapper; first | (rw [if_pos (by decide +kernel)]; kernel_rfl) | (rw [if_neg (by decide +kernel)]; exact ⟨rfl, rfl⟩))
    (fun os started H enc _ => lifted os started H enc)
end Go.Proofs.Ytkfcinlflkihjaa.treeTurns
namespace Go.Proofs.Ytkfcinlflkihjaa
/-- The given statement. -/
theorem treeTurns_holds : Rows.TreeTurnsSaid := treeTurns.over
end Go.Proofs.Ytkfcinlflkihjaa
