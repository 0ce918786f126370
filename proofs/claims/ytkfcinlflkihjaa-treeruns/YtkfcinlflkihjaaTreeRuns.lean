/-
  TreeRuns returns true for every list of acts and every from and to: whatever is put and deleted, the tree has what the document says, as many, and any range has what it should.
  Conditions: none; the statement is the given one, for every input.
-/
import Derived.Test.YtkfcinlflkihjaaRows
import Derived.Test.YtkfcinlflkihjaaTreeF2
import Derived.WalkKit
import Derived.ProofKit
import Derived.OpenShut
import Derived.ShutString
import Derived.ChangeOld
import Derived.Below
import Derived.SizedLaws
namespace Go.Proofs.Ytkfcinlflkihjaa.treeRuns
open Go.ChangeShapes Go.WideShapes Go.ChangeAt Go.RowKit
open Go.ChangeMaps (open_string shut_string)
set_option linter.unusedVariables false
set_option linter.unusedSimpArgs false

theorem own : ownKnob Try.prog.godebug = none := by kernel_rfl
theorem laidOut : laidOutB Try.prog = true := by kernel_rfl

set_option maxRecDepth 20000 in
set_option maxHeartbeats 6400000 in
/-- The law's own walk. -/
theorem walk (w : World) (v0 : Value) (x0 : List TAct) (w0 : TActsAt w.heap.size w v0 x0) (l0 : x0.length ≤ 140737488351232) (a1 : Int) (w1 : (Lit.int .u64 a1).wf = true) (a2 : Int) (w2 : (Lit.int .u64 a2).wf = true) :
    Calls Try.prog 4 #[v0, .int .u64 a1, .int .u64 a2] w fun e w' => e = .returned (.bool true) ∧ Below w.heap.size w w' := by
  have hk1 := u64_of_wf w1
  have hk2 := u64_of_wf w2
  obtain ⟨ao, cap, rfl, hac, hac2⟩ := w0.form
  replace w0 : Hid (TActsAt w.heap.size w (.slice ao x0.length cap) x0) := w0
  go_enter Try.func4, Try.ntmps4
  go_wp2_with (go_at_call 11; refine (c_alive _).mono ?_; rintro e W1 ⟨rfl, n1⟩; refine stop_here ?_)
  unfold Hid
  by_cases h300 : 300 < x0.length
  · have hfin := below_of_nw n1
    have hd : (300 : Int) < (x0.length : Int) := by omega
    go_wp2
    go_ret
    exact ⟨rfl, hfin⟩
  have hd : ¬ (300 : Int) < (x0.length : Int) := by omega
  have hg := c_grown W1 (w0.out.nw n1 (Nat.le_refl _)) n1.size (by omega)
  obtain ⟨L, hL⟩ : ∃ L, Hid (L = actsL x0) := ⟨_, rfl⟩
  rw [← hL.out] at hg
  go_wp2_with (go_at_call 12; refine hg.mono ?_; rintro e W2 ⟨b, u, rfl, hT, hP, hlen, n2⟩; refine stop_here ?_)
  unfold Hid
  clear hg
  have n12 := nw_trans n1 n2
  have hl300 : L.length ≤ 300 := by omega
  obtain ⟨ua, uc, rfl, hu1, hu2⟩ := hP.form
  have q1 := t_Len W2 hT (by omega)
  have q2 : Hid (Calls Try.prog 15 #[.pointer (some ⟨b, 0, none⟩), .int .u64 a1, .int .u64 a2] W2 fun e' w' => ∃ v, e' = .returned v ∧ Prs w' v (rangeL a1 a2 L) ∧ Nw W2 w') := t_Range W2 hT hk1.2 (by omega)
  replace hT : Hid (TP W2 b L) := hT
  replace hP : Hid (Prs W2 (.slice ua L.length uc) L) := hP
  have hrl : Hid ((rangeL a1 a2 L).length ≤ 300) := Nat.le_trans (List.length_filter_le _ _) hl300
  have hlq : Hid (x0.length ≤ 300) := by unfold Hid; omega
  go_wp2_with (go_at_call 13; refine q1.mono ?_; rintro e w' ⟨rfl, rfl⟩; refine stop_here ?_)
  unfold Hid
  clear q1
  go_wp2_with (go_at_call 15; refine q2.out.mono ?_; rintro e W3 ⟨v3, rfl, h3, n3⟩; refine stop_here ?_)
  unfold Hid
  have q3 : Hid (Calls Try.prog 16 #[.slice ua L.length uc, .int .u64 a1, .int .u64 a2] W3 fun e' w' => ∃ v, e' = .returned v ∧ Prs w' v (rangeL a1 a2 L) ∧ Nw W3 w') := c_rrange (a := a1) (b := a2) W3 (hP.out.nw n3) (by omega)
  obtain ⟨va, vc, rfl, _, _⟩ := h3.form
  clear q2
  go_wp2_with (go_at_call 16; refine q3.out.mono ?_; rintro e W4 ⟨v4, rfl, h4, n4⟩; refine stop_here ?_)
  unfold Hid
  have q4 := c_same W4 (h3.nw n4) h4 (by have := hrl.out; omega) (by have := hrl.out; omega)
  rw [decide_eq_true rfl] at q4
  clear q3 h3
  go_wp2_with (go_at_call 14; refine q4.mono ?_; rintro e W5 ⟨rfl, n5⟩; refine stop_here ?_)
  unfold Hid
  clear q4 h4
  have n35 := nw_trans n3 (nw_trans n4 n5)
  have q5 := t_All W5 (hT.out.nw n35) (by omega)
  go_wp2_with (go_at_call 15; refine q5.mono ?_; rintro e W6 ⟨v6, rfl, h6, n6⟩; refine stop_here ?_)
  unfold Hid
  have n36 := nw_trans n35 n6
  have q6 := c_same W6 h6 (hP.out.nw n36) (by omega) (by omega)
  rw [decide_eq_true rfl] at q6
  clear q5 n35
  go_wp2_with (go_at_call 14; refine q6.mono ?_; rintro e W7 ⟨rfl, n7⟩; refine stop_here ?_)
  unfold Hid
  have n37 := nw_trans n36 n7
  clear q6 h6 n3 n4 n5 n6 n36 n7
  have hT7 : Hid (TP W7 b L) := hT.out.nw n37
  have hP7 : Hid (Prs W7 (.slice ua L.length uc) L) := hP.out.nw n37
  have n17 := nw_trans n12 n37
  clear hT hP n37 n12 n1 n2 hu1
  obtain ⟨nL, hnL⟩ : ∃ nL, Hid (L.length = nL) := ⟨_, rfl⟩
  rw [hnL.out] at hP7 hl300 ⊢
  go_wp2
  go_loopw [59] (fun i wr => ∃ j : Nat, j ≤ x0.length ∧ i = .int .i64 j ∧ Nw W7 wr) (fun i _ => x0.length - (intOf i).toNat)
  case atStart => exact ⟨0, Nat.zero_le _, rfl, nw_refl _⟩
  case round =>
    obtain ⟨j, hj, rfl, hw⟩ := hrel
    by_cases hlt : j < x0.length
    · obtain ⟨q, off, rfl, hq, hcell, hok⟩ := TActsAt.get w0.out j hlt
      obtain ⟨d0, d1, d2, d3⟩ := hcell wr (nw_below (nw_trans n17 hw) (Nat.le_refl _))
      have hk := hok.n
      have hblk : (wr.alloc (.cells #[.int .i64 x0[j].kind, .int .u64 x0[j].key, .int .i64 x0[j].s, .int .i64 x0[j].l] 44)).heap[wr.heap.size]? = some (.cells #[.int .i64 x0[j].kind, .int .u64 x0[j].key, .int .i64 x0[j].s, .int .i64 x0[j].l] 44 (0, 0)) := heap_alloc_new wr _
      have hW : Nw W7 (wr.alloc (.cells #[.int .i64 x0[j].kind, .int .u64 x0[j].key, .int .i64 x0[j].s, .int .i64 x0[j].l] 44)) := nw_alloc hw _
      have hj1 : (j : Int) + 1 ≤ 1000 := by have := hlq.out; omega
      generalize x0[j] = a at *
      clear hcell hok
      go_upto_region 11 with fail
      generalize wr.alloc (.cells #[.int .i64 a.kind, .int .u64 a.key, .int .i64 a.s, .int .i64 a.l] 44) = V1 at *
      generalize wr.heap.size = gb at *
      have f1 : V1.cell? ⟨gb, 1, none⟩ = some (.int .u64 a.key) := cell_blk hblk rfl
      clear d0 d1 d2 d3 hblk hw
      have p1 := t_Get (k := a.key) V1 (hT7.out.nw hW) hk.1 hk.2
      obtain ⟨ev, okb, hgv⟩ := getV_form (getL a.key L)
      rw [hgv] at p1
      replace hgv : Hid _ := hgv
      go_wp2_with (go_at_call 17; refine p1.mono ?_; rintro e V2 ⟨rfl, m2⟩; refine stop_here ?_)
      unfold Hid
      have f1 := m2.cell f1
      have hW2 := nw_trans hW m2
      clear p1
      go_upto_region 12 with fail
      have hb3 : (V2.alloc (.cells #[.int .i64 ev.1, .int .i64 ev.2] 42)).heap[V2.heap.size]? = some (.cells #[.int .i64 ev.1, .int .i64 ev.2] 42 (0, 0)) := heap_alloc_new V2 _
      have m3 : Nw V2 (V2.alloc (.cells #[.int .i64 ev.1, .int .i64 ev.2] 42)) := nw_alloc (nw_refl V2) _
      have f1 := m3.cell f1
      have hW3 := nw_trans hW2 m3
      generalize V2.alloc (.cells #[.int .i64 ev.1, .int .i64 ev.2] 42) = V3 at *
      generalize V2.heap.size = g3 at *
      have p2 := c_rget (k := a.key) V3 (hP7.out.nw hW3) (by have := hnL.out; omega)
      rw [hgv.out] at p2
      go_wp2_with (go_at_call 18; refine p2.mono ?_; rintro e V4 ⟨rfl, m4⟩; refine stop_here ?_)
      unfold Hid
      have hb4 := m4.blk hb3
      have hW4 := nw_trans hW3 m4
      clear p2 hb3
      go_upto_region 13 with fail
      have hb5 : (V4.alloc (.cells #[.int .i64 ev.1, .int .i64 ev.2] 42)).heap[V4.heap.size]? = some (.cells #[.int .i64 ev.1, .int .i64 ev.2] 42 (0, 0)) := heap_alloc_new V4 _
      have m5 : Nw V4 (V4.alloc (.cells #[.int .i64 ev.1, .int .i64 ev.2] 42)) := nw_alloc (nw_refl V4) _
      have hb6 := m5.blk hb4
      have hW5 := nw_trans hW4 m5
      generalize V4.alloc (.cells #[.int .i64 ev.1, .int .i64 ev.2] 42) = V5 at *
      generalize V4.heap.size = g5 at *
      have r0 : V5.cell? ⟨g3, 0, none⟩ = some (.int .i64 ev.1) := cell_blk hb6 rfl
      have r1 : V5.cell? ⟨g3, 1, none⟩ = some (.int .i64 ev.2) := cell_blk hb6 rfl
      have r2 : V5.cell? ⟨g5, 0, none⟩ = some (.int .i64 ev.1) := cell_blk hb5 rfl
      have r3 : V5.cell? ⟨g5, 1, none⟩ = some (.int .i64 ev.2) := cell_blk hb5 rfl
      have hne := fun w => neqE_same ev.1 ev.2 w
      have hbb : (okb != okb) = false := by simp
      clear f1 hb4 hb5 hb6 m2 m3 m4 m5 hW hW2 hW3 hW4
      go_wp2
      go_roundw
      case rel => exact ⟨j + 1, by omega, by go_num, hW5⟩
      case measure => simp [intOf]; omega
    · have p1 := t_Get (k := a1) wr (hT7.out.nw hw) hk1.1 hk1.2
      obtain ⟨ev, okb, hgv⟩ := getV_form (getL a1 L)
      rw [hgv] at p1
      replace hgv : Hid _ := hgv
      have hP8 : Hid (Prs wr (.slice ua nL uc) L) := hP7.out.nw hw
      have n9 := nw_trans n17 hw
      go_wp2_with (go_at_call 17; refine p1.mono ?_; rintro e V2 ⟨rfl, m2⟩; refine stop_here ?_)
      unfold Hid
      clear p1
      go_upto_region 17 with fail
      have m3 : Nw V2 (V2.alloc (.cells #[.int .i64 ev.1, .int .i64 ev.2] 42)) := nw_alloc (nw_refl V2) _
      have hW3 := nw_trans m2 m3
      generalize V2.alloc (.cells #[.int .i64 ev.1, .int .i64 ev.2] 42) = V3 at *
      have p2 := c_rget (k := a1) V3 (hP8.out.nw hW3) (by have := hnL.out; omega)
      rw [hgv.out] at p2
      go_wp2_with (go_at_call 18; refine p2.mono ?_; rintro e V4 ⟨rfl, m4⟩; refine stop_here ?_)
      unfold Hid
      have hfin := below_of_nw (nw_trans n9 (nw_trans hW3 (nw_trans m4 (nw_alloc (nw_refl V4) (.cells #[.int .i64 ev.1, .int .i64 ev.2] 42)))))
      have hbb : (okb == okb) = true := by simp
      clear p2
      go_wp2
      go_ret
      exact ⟨rfl, hfin⟩

set_option maxRecDepth 100000 in
theorem lifted (os : Os) (started : os.Started) (H : Type) (enc : TypeId × Value → H) :
    ReturnsInHanded {} Try.checked os 4 .any (Rows.treeRunsSpec.pre6 enc Try.prog Try.f4 Rows.treeRunsRow.domain false) (Rows.treeRunsSpec.post enc Try.prog Try.f4 false true false false) := by
  refine returnsInHanded_of_change_sized (C := Try.checked) own started (by kernel_rfl) Try.func4
    (ChangeSpec.witness6 (enc := enc) (C := Try.checked) false ⟨#[], #[.slice none 0 0, .int .u64 0, .int .u64 0], []⟩ 8 (by kernel_rfl) (by kernel_rfl) (by kernel_rfl) (by kernel_rfl)) ?_
  intro W base args ds gs before hval0 hW hcnd hsz0 _
  have hval : ∀ (j : Nat) t v, Try.f4.params[j]? = some t → args[j]? = some v → Value.okWide Try.prog W .any base t v := hval0
  have hsz : (DataW.weightsEach Try.prog (Try.f4.params.toList ++ Rows.treeRunsSpec.plain.varTypes Try.prog) (ds ++ gs)).all (· ≤ reachBytes) = true := hsz0
  have hW' := hW
  obtain ⟨p, q, hA0, hV, rfl, hfz, hnd⟩ := hW
  have hA : DataW.TrodAll enc Try.prog W 0 (fun _ => true) true Try.f4.params.toList args.toList ds p := hA0
  rw [Try.params4] at hA hval hsz
  obtain ⟨v0, vs0, d0, ds0, p0, q0, hargs, rfl, rfl, h0, r0⟩ := trodAll_cons hA
  obtain ⟨v1, vs1, d1, ds1, p1, q1, rfl, rfl, rfl, h1, r1⟩ := trodAll_cons r0
  obtain ⟨v2, vs2, d2, ds2, p2, q2, rfl, rfl, rfl, h2, r2⟩ := trodAll_cons r1
  obtain ⟨rfl, rfl, rfl⟩ := trodAll_nil r2
  obtain rfl : args = #[v0, v1, v2] := by cases args; simp_all
  obtain ⟨rfl, rfl⟩ := trodVars_none hV
  obtain ⟨a0, len0, cap0, rfl⟩ := okWide_slice Try.underlying32 (hval 0 32 v0 rfl rfl)
  have k0 := h0
  have lt0 : ∀ x ∈ p0, x.block < W.heap.size := by obtain ⟨m, hm⟩ := k0; exact DataW.trod_lt m _ _ _ hm
  obtain ⟨x0, w0, l0⟩ : ∃ xs : List TAct, TActsAt W.heap.size W (.slice a0 len0 cap0) xs ∧ xs.length ≤ 140737488351232 := by
    obtain ⟨fuel, hf⟩ := h0
    exact open_tacts (v := .slice a0 len0 cap0) hf (fun n hn => by have := List.all_eq_true.1 hsz n (DataW.weights_mem_each (j := 0) (t := 32) rfl rfl n hn); simpa using this)
  obtain ⟨a1, rfl, rfl, rfl, w1⟩ := open_int Try.underlying33 (hval 1 33 v1 rfl rfl) h1
  obtain ⟨a2, rfl, rfl, rfl, w2⟩ := open_int Try.underlying33 (hval 2 33 v2 rfl rfl) h2
  clear hA0 hval0
  refine (walk W _ x0 w0 l0 a1 w1 a2 w2).mono fun e W' ⟨he, bel⟩ => ?_
  subst he
  exact ⟨_, rfl, _, _, _, [], _, [], hW', trodAll_mk1 (shut_bool Try.underlying4 _), (trodAll_cons_mk (Below.trod laidOut (by kernel_rfl) (of_decide_eq_true (by kernel_rfl)) k0 bel lt0) (trodAll_cons_mk (shut_int Try.underlying33 w1) (trodAll_cons_mk (shut_int Try.underlying33 w2) trodAll_mk0))), rfl, bel.frame _, fun h => by cases h⟩

theorem over : Rows.treeRunsRow.holds Try.pinned (OpenSpec.ofChange Rows.treeRunsSpec) :=
  OpenClaim.holds_of_wide 4 Try.f4 rfl rfl rfl rfl rfl rfl rfl ⟨rfl, rfl, rfl, rfl, rfl⟩ rfl rfl rfl rfl rfl (by kernel_rfl) Try.func4 (by kernel_rfl)
    (of_decide_eq_true (by kernel_rfl)) (by unfold Func.isWrapper; first | (rw [if_pos (by decide +kernel)]; kernel_rfl) | (rw [if_neg (by decide +kernel)]; exact ⟨rfl, rfl⟩))
    (fun os started H enc _ => lifted os started H enc)
end Go.Proofs.Ytkfcinlflkihjaa.treeRuns
namespace Go.Proofs.Ytkfcinlflkihjaa
/-- The given statement. -/
theorem treeRuns_holds : Rows.TreeRunsSaid := treeRuns.over
end Go.Proofs.Ytkfcinlflkihjaa
