/-
  TreeStays returns true for every two lists of acts: whatever is made of a tree, it has its pairs and as many nodes; what is put is found, what is deleted is not.
  Conditions: none; the statement is the given one, for every input.
-/
import Derived.Test.YtkfcinlflkihjaaRows
import Derived.Test.YtkfcinlflkihjaaTreeF2
import Derived.WalkKit
import Derived.ProofKit
import Derived.OpenShut
import Derived.ShutString
import Derived.ChangeOld
import Derived.Below
import Derived.SizedLaws
namespace Go.Proofs.Ytkfcinlflkihjaa.treeStays
open Go.ChangeShapes Go.WideShapes Go.ChangeAt Go.RowKit
open Go.ChangeMaps (open_string shut_string)
set_option linter.unusedVariables false
set_option linter.unusedSimpArgs false

theorem own : ownKnob Try.prog.godebug = none := by kernel_rfl
theorem laidOut : laidOutB Try.prog = true := by kernel_rfl

set_option maxRecDepth 20000 in
set_option maxHeartbeats 6400000 in
/-- The law's own walk. -/
theorem walk (w : World) (v0 : Value) (x0 : List TAct) (w0 : TActsAt w.heap.size w v0 x0) (l0 : x0.length ≤ 140737488351232) (v1 : Value) (x1 : List TAct) (w1 : TActsAt w.heap.size w v1 x1) (l1 : x1.length ≤ 140737488351232) :
    Calls Try.prog 7 #[v0, v1] w fun e w' => e = .returned (.bool true) ∧ Below w.heap.size w w' := by
  obtain ⟨ao, cap, rfl, hac, hac2⟩ := w0.form
  obtain ⟨ao1, cap1, rfl, hbc, hbc2⟩ := w1.form
  replace w0 : Hid (TActsAt w.heap.size w (.slice ao x0.length cap) x0) := w0
  replace w1 : Hid (TActsAt w.heap.size w (.slice ao1 x1.length cap1) x1) := w1
  go_enter Try.func7, Try.ntmps7
  go_wp2_with (go_at_call 11; refine (c_alive _).mono ?_; rintro e W1 ⟨rfl, n1⟩; refine stop_here ?_)
  unfold Hid
  by_cases h200 : 200 < x0.length
  · have hfin := below_of_nw n1
    have hd : decide ((200 : Int) < (x0.length : Int)) = true := decide_eq_true (by omega)
    go_wp2
    go_ret
    exact ⟨rfl, hfin⟩
  have hd : decide ((200 : Int) < (x0.length : Int)) = false := decide_eq_false (by omega)
  by_cases h100 : 100 < x1.length
  · have hfin := below_of_nw n1
    have hd2 : decide ((100 : Int) < (x1.length : Int)) = true := decide_eq_true (by omega)
    go_wp2
    go_ret
    exact ⟨rfl, hfin⟩
  have hd2 : decide ((100 : Int) < (x1.length : Int)) = false := decide_eq_false (by omega)
  have hg := c_grown W1 (w0.out.nw n1 (Nat.le_refl _)) n1.size (by omega)
  obtain ⟨L, hL⟩ : ∃ L, Hid (L = actsL x0) := ⟨_, rfl⟩
  rw [← hL.out] at hg
  go_wp2_with (go_at_call 12; refine hg.mono ?_; rintro e W2 ⟨b, u, rfl, hT, hP, hlen, n2⟩; refine stop_here ?_)
  unfold Hid
  clear hg
  have n12 := nw_trans n1 n2
  have hl300 : L.length ≤ 300 := by omega
  have hlq : Hid (x1.length ≤ 100) := by unfold Hid; omega
  obtain ⟨ua, uc, rfl, hu1, hu2⟩ := hP.form
  obtain ⟨n, t, hTA, hTop, hfl⟩ := hT.ex
  replace hfl : Hid (flat n t = L) := hfl
  have q1 := c_Nodes W2 hTA hTop (by rw [hfl.out]; omega)
  replace hTA : Hid (TAt W2 b n t) := hTA
  replace hTop : Hid (Top n t) := hTop
  have hrise : Hid (Rise (L.map (·.1))) := hT.rise
  replace hT : Hid (TP W2 b L) := hT
  replace hP : Hid (Prs W2 (.slice ua L.length uc) L) := hP
  obtain ⟨N, hN⟩ : ∃ N, Hid ((nodesT n t 0).length = N) := ⟨_, rfl⟩
  obtain ⟨nL, hnL⟩ : ∃ nL, Hid (L.length = nL) := ⟨_, rfl⟩
  clear hu1 hlen h200 h100 hd hd2
  rw [hnL.out] at hP hl300 ⊢
  go_wp2_with (go_at_call 10; refine q1.mono ?_; rintro e W3 ⟨v3, rfl, h3, n3⟩; refine stop_here ?_)
  unfold Hid
  obtain ⟨va, vc, rfl, _, _⟩ := h3.form
  rw [hN.out]
  have n13 := nw_trans n12 n3
  replace hT : Hid (TP W3 b L) := hT.out.nw n3
  replace hTA : Hid (TAt W3 b n t) := hTA.out.nw n3
  replace hP : Hid (Prs W3 (.slice ua nL uc) L) := hP.out.nw n3
  clear q1 h3 n1 n2 n3 n12
  go_wp2
  go_loopw [38] (fun i wr => ∃ j : Nat, j ≤ x1.length ∧ i = .int .i64 j ∧ Nw W3 wr) (fun i _ => x1.length - (intOf i).toNat)
  case atStart => exact ⟨0, Nat.zero_le _, rfl, nw_refl _⟩
  case round =>
    obtain ⟨j, hj, rfl, hw⟩ := hrel
    by_cases hlt : j < x1.length
    · obtain ⟨q, off, rfl, hq, hcell, hok⟩ := TActsAt.get w1.out j hlt
      obtain ⟨d0, d1, d2, d3⟩ := hcell wr (nw_below (nw_trans n13 hw) (Nat.le_refl _))
      have hk := hok.n
      have hblk : (wr.alloc (.cells #[.int .i64 x1[j].kind, .int .u64 x1[j].key, .int .i64 x1[j].s, .int .i64 x1[j].l] 44)).heap[wr.heap.size]? = some (.cells #[.int .i64 x1[j].kind, .int .u64 x1[j].key, .int .i64 x1[j].s, .int .i64 x1[j].l] 44 (0, 0)) := heap_alloc_new wr _
      have hW : Nw W3 (wr.alloc (.cells #[.int .i64 x1[j].kind, .int .u64 x1[j].key, .int .i64 x1[j].s, .int .i64 x1[j].l] 44)) := nw_alloc hw _
      have hj1 : (j : Int) + 1 ≤ 1000 := by have := hlq.out; omega
      generalize x1[j] = a at *
      clear hcell hok
      go_upto_region 12 with fail
      generalize wr.alloc (.cells #[.int .i64 a.kind, .int .u64 a.key, .int .i64 a.s, .int .i64 a.l] 44) = V1 at *
      generalize wr.heap.size = gb at *
      have f0 : V1.cell? ⟨gb, 0, none⟩ = some (.int .i64 a.kind) := cell_blk hblk rfl
      have f1 : V1.cell? ⟨gb, 1, none⟩ = some (.int .u64 a.key) := cell_blk hblk rfl
      have f2 : V1.cell? ⟨gb, 2, none⟩ = some (.int .i64 a.s) := cell_blk hblk rfl
      have f3 : V1.cell? ⟨gb, 3, none⟩ = some (.int .i64 a.l) := cell_blk hblk rfl
      clear d0 d1 d2 d3 hblk hw
      by_cases hkind : a.kind = 0
      · have hb : (a.kind == 0) = true := by simp [hkind]
        have p1 := t_Put (k := a.key) (e := (a.s, a.l)) V1 (hT.out.nw hW) hk.1 hk.2
        have hge := putL_ge a.key (a.s, a.l) hrise.out
        have hle := putL_len a.key (a.s, a.l) L
        have hnl := hnL.out
        have hgt := getL_put a.key (a.s, a.l) L
        unfold ext at p1
        clear hkind
        go_wp2_with (go_at_call 22; refine p1.mono ?_; rintro e V2 ⟨b2, rfl, h2, m2⟩; refine stop_here ?_)
        unfold Hid
        have f1 := m2.cell f1
        have f2 := m2.cell f2
        have f3 := m2.cell f3
        have p2 := t_Get (k := a.key) V2 h2 hk.1 hk.2
        rw [hgt] at p2
        replace p2 : Calls Try.prog 17 #[.pointer (some ⟨b2, 0, none⟩), .int .u64 a.key] V2 fun e' w' => e' = .returned (.tuple #[.agg #[.int .i64 a.s, .int .i64 a.l], .bool true]) ∧ Nw V2 w' := p2
        clear p1 hgt
        go_wp2_with (go_at_call 17; refine p2.mono ?_; rintro e V3 ⟨rfl, m3⟩; refine stop_here ?_)
        unfold Hid
        have f2 := m3.cell f2
        have f3 := m3.cell f3
        clear p2
        go_upto_region 15 with fail
        have hb4 : (V3.alloc (.cells #[.int .i64 a.s, .int .i64 a.l] 42)).heap[V3.heap.size]? = some (.cells #[.int .i64 a.s, .int .i64 a.l] 42 (0, 0)) := heap_alloc_new V3 _
        have m4 : Nw V3 (V3.alloc (.cells #[.int .i64 a.s, .int .i64 a.l] 42)) := nw_alloc (nw_refl V3) _
        have f2 := m4.cell f2
        have f3 := m4.cell f3
        have HV := nw_trans hW (nw_trans m2 (nw_trans m3 m4))
        have h4 := (h2.nw m3).nw m4
        generalize V3.alloc (.cells #[.int .i64 a.s, .int .i64 a.l] 42) = V4 at *
        generalize V3.heap.size = g4 at *
        have r0 : V4.cell? ⟨g4, 0, none⟩ = some (.int .i64 a.s) := cell_blk hb4 rfl
        have r1 : V4.cell? ⟨g4, 1, none⟩ = some (.int .i64 a.l) := cell_blk hb4 rfl
        have hne := fun w => neqE_same a.s a.l w
        have p3 := t_Len V4 h4 (by omega)
        obtain ⟨mL, hmL⟩ : ∃ mL, Hid ((putL a.key (a.s, a.l) L).length = mL) := ⟨_, rfl⟩
        rw [hmL.out] at p3 hge hle
        clear hb4 h2 h4 f1 m2 m3 m4 hW
        go_wp2_with (go_at_call 13; refine p3.mono ?_; rintro e w' ⟨rfl, rfl⟩; refine stop_here ?_)
        unfold Hid
        clear p3
        have p4 := t_Len V4 (hT.out.nw HV) (by omega)
        rw [hnl] at p4 hge hle
        have hnlt : ¬ (mL : Int) < (nL : Int) := by omega
        go_wp2_with (go_at_call 13; refine p4.mono ?_; rintro e w' ⟨rfl, rfl⟩; refine stop_here ?_)
        unfold Hid
        clear p4 r0 r1 f2 f3 hnl hge hle
        have hl2 : L.length ≤ 300 := by have := hnL.out; omega
        have s1 := t_Len V4 (hT.out.nw HV) (by omega)
        rw [hnL.out] at s1
        go_wp2_with (go_at_call 13; refine s1.mono ?_; rintro e w' ⟨rfl, rfl⟩; refine stop_here ?_)
        unfold Hid
        clear s1
        have s2 := c_Nodes V4 (hTA.out.nw HV) hTop.out (by rw [hfl.out]; omega)
        go_wp2_with (go_at_call 10; refine s2.mono ?_; rintro e X1 ⟨y1, rfl, h1, k1⟩; refine stop_here ?_)
        unfold Hid
        obtain ⟨ya, yc, rfl, _, _⟩ := h1.form
        rw [hN.out]
        clear s2 h1
        have HX1 := nw_trans HV k1
        have s3 := t_All X1 (hT.out.nw HX1) (by omega)
        go_wp2_with (go_at_call 15; refine s3.mono ?_; rintro e X2 ⟨y2, rfl, h2, k2⟩; refine stop_here ?_)
        unfold Hid
        have HX2 := nw_trans HX1 k2
        have s4 := c_same X2 h2 (hP.out.nw HX2) (by have := hnL.out; omega) (by have := hnL.out; omega)
        rw [decide_eq_true rfl] at s4
        clear s3
        go_wp2_with (go_at_call 14; refine s4.mono ?_; rintro e X3 ⟨rfl, k3⟩; refine stop_here ?_)
        unfold Hid
        have HX3 := nw_trans HX2 k3
        clear s4 h2 k1 k2 k3 HX1 HX2
        go_wp2
        go_roundw
        case rel => exact ⟨j + 1, by omega, by go_num, HX3⟩
        case measure => simp [intOf]; omega
      · have hb : (a.kind == 0) = false := by simp [hkind]
        have p1 := t_Del (k := a.key) V1 (hT.out.nw hW) hk.1 hk.2
        have hle := delL_len a.key L
        have hnl := hnL.out
        have hgt := getL_del a.key L
        clear hkind
        go_wp2_with (go_at_call 23; refine p1.mono ?_; rintro e V2 ⟨b2, rfl, h2, m2⟩; refine stop_here ?_)
        unfold Hid
        have f1 := m2.cell f1
        have p2 := t_Get (k := a.key) V2 h2 hk.1 hk.2
        rw [hgt] at p2
        replace p2 : Calls Try.prog 17 #[.pointer (some ⟨b2, 0, none⟩), .int .u64 a.key] V2 fun e' w' => e' = .returned (.tuple #[.agg #[.int .i64 0, .int .i64 0], .bool false]) ∧ Nw V2 w' := p2
        clear p1 hgt
        go_wp2_with (go_at_call 17; refine p2.mono ?_; rintro e V3 ⟨rfl, m3⟩; refine stop_here ?_)
        unfold Hid
        clear p2
        go_upto_region 19 with fail
        have m4 : Nw V3 (V3.alloc (.cells #[.int .i64 0, .int .i64 0] 42)) := nw_alloc (nw_refl V3) _
        have HV := nw_trans hW (nw_trans m2 (nw_trans m3 m4))
        have h4 := (h2.nw m3).nw m4
        generalize V3.alloc (.cells #[.int .i64 0, .int .i64 0] 42) = V4 at *
        have p3 := t_Len V4 h4 (by omega)
        obtain ⟨mL, hmL⟩ : ∃ mL, Hid ((delL a.key L).length = mL) := ⟨_, rfl⟩
        rw [hmL.out] at p3 hle
        clear h2 h4 f1 m2 m3 m4 hW
        go_wp2_with (go_at_call 13; refine p3.mono ?_; rintro e w' ⟨rfl, rfl⟩; refine stop_here ?_)
        unfold Hid
        clear p3
        have p4 := t_Len V4 (hT.out.nw HV) (by omega)
        rw [hnl] at p4 hle
        have hnlt : ¬ (nL : Int) < (mL : Int) := by omega
        go_wp2_with (go_at_call 13; refine p4.mono ?_; rintro e w' ⟨rfl, rfl⟩; refine stop_here ?_)
        unfold Hid
        clear p4 f0 f2 f3 hnl hle
        have hl2 : L.length ≤ 300 := by have := hnL.out; omega
        have s1 := t_Len V4 (hT.out.nw HV) (by omega)
        rw [hnL.out] at s1
        go_wp2_with (go_at_call 13; refine s1.mono ?_; rintro e w' ⟨rfl, rfl⟩; refine stop_here ?_)
        unfold Hid
        clear s1
        have s2 := c_Nodes V4 (hTA.out.nw HV) hTop.out (by rw [hfl.out]; omega)
        go_wp2_with (go_at_call 10; refine s2.mono ?_; rintro e X1 ⟨y1, rfl, h1, k1⟩; refine stop_here ?_)
        unfold Hid
        obtain ⟨ya, yc, rfl, _, _⟩ := h1.form
        rw [hN.out]
        clear s2 h1
        have HX1 := nw_trans HV k1
        have s3 := t_All X1 (hT.out.nw HX1) (by omega)
        go_wp2_with (go_at_call 15; refine s3.mono ?_; rintro e X2 ⟨y2, rfl, h2, k2⟩; refine stop_here ?_)
        unfold Hid
        have HX2 := nw_trans HX1 k2
        have s4 := c_same X2 h2 (hP.out.nw HX2) (by have := hnL.out; omega) (by have := hnL.out; omega)
        rw [decide_eq_true rfl] at s4
        clear s3
        go_wp2_with (go_at_call 14; refine s4.mono ?_; rintro e X3 ⟨rfl, k3⟩; refine stop_here ?_)
        unfold Hid
        have HX3 := nw_trans HX2 k3
        clear s4 h2 k1 k2 k3 HX1 HX2
        go_wp2
        go_roundw
        case rel => exact ⟨j + 1, by omega, by go_num, HX3⟩
        case measure => simp [intOf]; omega
    · have hfin := below_of_nw (nw_trans n13 hw)
      go_wp2
      go_ret
      exact ⟨rfl, hfin⟩

set_option maxRecDepth 100000 in
theorem lifted (os : Os) (started : os.Started) (H : Type) (enc : TypeId × Value → H) :
    ReturnsInHanded {} Try.checked os 7 .any (Rows.treeStaysSpec.pre6 enc Try.prog Try.f7 Rows.treeStaysRow.domain false) (Rows.treeStaysSpec.post enc Try.prog Try.f7 false true false false) := by
  refine returnsInHanded_of_change_sized (C := Try.checked) own started (by kernel_rfl) Try.func7
    (ChangeSpec.witness6 (enc := enc) (C := Try.checked) false ⟨#[], #[.slice none 0 0, .slice none 0 0], []⟩ 8 (by kernel_rfl) (by kernel_rfl) (by kernel_rfl) (by kernel_rfl)) ?_
  intro W base args ds gs before hval0 hW hcnd hsz0 _
  have hval : ∀ (j : Nat) t v, Try.f7.params[j]? = some t → args[j]? = some v → Value.okWide Try.prog W .any base t v := hval0
  have hsz : (DataW.weightsEach Try.prog (Try.f7.params.toList ++ Rows.treeStaysSpec.plain.varTypes Try.prog) (ds ++ gs)).all (· ≤ reachBytes) = true := hsz0
  have hW' := hW
  obtain ⟨p, q, hA0, hV, rfl, hfz, hnd⟩ := hW
  have hA : DataW.TrodAll enc Try.prog W 0 (fun _ => true) true Try.f7.params.toList args.toList ds p := hA0
  rw [Try.params7] at hA hval hsz
  obtain ⟨v0, vs0, d0, ds0, p0, q0, hargs, rfl, rfl, h0, r0⟩ := trodAll_cons hA
  obtain ⟨v1, vs1, d1, ds1, p1, q1, rfl, rfl, rfl, h1, r1⟩ := trodAll_cons r0
  obtain ⟨rfl, rfl, rfl⟩ := trodAll_nil r1
  obtain rfl : args = #[v0, v1] := by cases args; simp_all
  obtain ⟨rfl, rfl⟩ := trodVars_none hV
  obtain ⟨a0, len0, cap0, rfl⟩ := okWide_slice Try.underlying32 (hval 0 32 v0 rfl rfl)
  have k0 := h0
  have lt0 : ∀ x ∈ p0, x.block < W.heap.size := by obtain ⟨m, hm⟩ := k0; exact DataW.trod_lt m _ _ _ hm
  obtain ⟨x0, w0, l0⟩ : ∃ xs : List TAct, TActsAt W.heap.size W (.slice a0 len0 cap0) xs ∧ xs.length ≤ 140737488351232 := by
    obtain ⟨fuel, hf⟩ := h0
    exact open_tacts (v := .slice a0 len0 cap0) hf (fun n hn => by have := List.all_eq_true.1 hsz n (DataW.weights_mem_each (j := 0) (t := 32) rfl rfl n hn); simpa using this)
  obtain ⟨a1, len1, cap1, rfl⟩ := okWide_slice Try.underlying32 (hval 1 32 v1 rfl rfl)
  have k1 := h1
  have lt1 : ∀ x ∈ p1, x.block < W.heap.size := by obtain ⟨m, hm⟩ := k1; exact DataW.trod_lt m _ _ _ hm
  obtain ⟨x1, w1, l1⟩ : ∃ xs : List TAct, TActsAt W.heap.size W (.slice a1 len1 cap1) xs ∧ xs.length ≤ 140737488351232 := by
    obtain ⟨fuel, hf⟩ := h1
    exact open_tacts (v := .slice a1 len1 cap1) hf (fun n hn => by have := List.all_eq_true.1 hsz n (DataW.weights_mem_each (j := 1) (t := 32) rfl rfl n hn); simpa using this)
  clear hA0 hval0
  refine (walk W _ x0 w0 l0 _ x1 w1 l1).mono fun e W' ⟨he, bel⟩ => ?_
  subst he
  exact ⟨_, rfl, _, _, _, [], _, [], hW', trodAll_mk1 (shut_bool Try.underlying4 _), (trodAll_cons_mk (Below.trod laidOut (by kernel_rfl) (of_decide_eq_true (by kernel_rfl)) k0 bel lt0) (trodAll_cons_mk (Below.trod laidOut (by kernel_rfl) (of_decide_eq_true (by kernel_rfl)) k1 bel lt1) trodAll_mk0)), rfl, bel.frame _, fun h => by cases h⟩

theorem over : Rows.treeStaysRow.holds Try.pinned (OpenSpec.ofChange Rows.treeStaysSpec) :=
  OpenClaim.holds_of_wide 7 Try.f7 rfl rfl rfl rfl rfl rfl rfl ⟨rfl, rfl, rfl, rfl, rfl⟩ rfl rfl rfl rfl rfl (by kernel_rfl) Try.func7 (by kernel_rfl)
    (of_decide_eq_true (by kernel_rfl)) (by unfold Func.isWrapper; first | (rw [if_pos (by decide +kernel)]; kernel_rfl) | (rw [if_neg (by decide +kernel)]; exact ⟨rfl, rfl⟩))
    (fun os started H enc _ => lifted os started H enc)
end Go.Proofs.Ytkfcinlflkihjaa.treeStays
namespace Go.Proofs.Ytkfcinlflkihjaa
/-- The given statement. -/
theorem treeStays_holds : Rows.TreeStaysSaid := treeStays.over
end Go.Proofs.Ytkfcinlflkihjaa
