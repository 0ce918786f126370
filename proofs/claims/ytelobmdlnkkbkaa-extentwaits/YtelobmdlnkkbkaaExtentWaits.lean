/-
  ExtentWaits returns true for every total and every n: sectors that are freed for later are given to nobody before the commit, and are free behind it, as one with their neighbours.
  Conditions: none; the statement is the given one, for every input.
-/
import Derived.Test.YtelobmdlnkkbkaaRows
import Derived.Test.YtelobmdlnkkbkaaExtF2
import Derived.Test.YtelobmdlnkkbkaaExtR1
import Derived.Test.YtelobmdlnkkbkaaExtOpen
import Derived.WalkKit
import Derived.ProofKit
import Derived.OpenShut
import Derived.ShutString
import Derived.ChangeOld
import Derived.Below
import Derived.SizedLaws
namespace Go.Proofs.Ytelobmdlnkkbkaa.extentWaits
open Go.ChangeShapes Go.WideShapes Go.ChangeAt Go.RowKit
open Go.ChangeMaps (open_string shut_string)
set_option linter.unusedVariables false
set_option linter.unusedSimpArgs false

theorem own : ownKnob Try.prog.godebug = none := by kernel_rfl
theorem laidOut : laidOutB Try.prog = true := by kernel_rfl

set_option maxRecDepth 20000 in
set_option maxHeartbeats 3200000 in
/-- The law's own walk. -/
theorem walk (w : World) (a0 : Int) (w0 : (Lit.int .i64 a0).wf = true) (a1 : Int) (w1 : (Lit.int .i64 a1).wf = true) :
    Calls Try.prog 6 #[.int .i64 a0, .int .i64 a1] w fun e w' => e = .returned (.bool true) ∧ Below w.heap.size w w' := by
  have hA0 := i64_of_wf w0
  have hA1 := i64_of_wf w1
  go_enter Try.func6, Try.ntmps6
  go_wp2_with (go_at_call 8; refine (c_alive _).mono ?_; rintro e W1 ⟨rfl, hn1⟩; refine stop_here ?_)
  unfold Hid
  go_wp2_with (go_at_call 9; refine (c_new a0 _).mono ?_; rintro e W2 ⟨b, g, rfl, h2, hn2, hb, hg⟩; refine stop_here ?_)
  unfold Hid
  have hnw2 := nw_trans hn1 hn2
  have hsz1 := hn1.size
  have hT : ∀ k, k = g → w.heap.size ≤ k := fun k e => by omega
  have hfin := below_of_nw hnw2
  clear hn1 hn2
  by_cases g1 : a0 < 1
  · have hd : decide (a0 < 1) = true := decide_eq_true g1
    go_wp2
    go_ret
    exact ⟨rfl, hfin⟩
  have hd1 : decide (a0 < 1) = false := decide_eq_false g1
  by_cases g2 : 1024 < a0
  · have hd : decide (1024 < a0) = true := decide_eq_true g2
    go_wp2
    go_ret
    exact ⟨rfl, hfin⟩
  have hd2 : decide (1024 < a0) = false := decide_eq_false g2
  by_cases g3 : a1 < 1
  · have hd : decide (a1 < 1) = true := decide_eq_true g3
    go_wp2
    go_ret
    exact ⟨rfl, hfin⟩
  have hd3 : decide (a1 < 1) = false := decide_eq_false g3
  by_cases g4 : a0 < a1
  · have hd : decide (a0 < a1) = true := decide_eq_true g4
    go_wp2
    go_ret
    exact ⟨rfl, hfin⟩
  have hd4 : decide (a0 < a1) = false := decide_eq_false g4
  clear hfin
  obtain ⟨n, rfl⟩ : ∃ n : Nat, a1 = (n : Int) := ⟨a1.toNat, by omega⟩
  obtain ⟨t, rfl⟩ : ∃ t : Nat, a0 = (t : Int) := ⟨a0.toNat, by omega⟩
  obtain ⟨m, htm⟩ : ∃ m : Nat, Hid (t = n + m) := ⟨t - n, show t = n + (t - n) by omega⟩
  have hn : 1 ≤ n := by omega
  have ht : t ≤ 1024 := by omega
  have hnt : n ≤ t := by omega
  have hsub : (t : Int) - (n : Int) = (m : Int) := by have := htm.out; omega
  have hm1024 : m ≤ 1024 := by omega
  have hal := c_alloc _ h2 (n : Int) (by omega)
  obtain ⟨e1, e2, e3⟩ := wt_alloc n m hn (by rw [← htm.out]; exact ht)
  rw [← htm.out] at e1 e2 e3
  rw [e1, e2, e3] at hal
  clear e1 e2 e3 g1 g2 g3 g4 h2
  have hal : Calls Try.prog 13 #[.pointer (some ⟨b, 0, none⟩), .int .i64 (n : Int)] W2 fun e w' => e = .returned (.tuple #[.agg #[.int .i64 0, .int .i64 (n : Int)], .int .i64 0]) ∧ MapAt w' b g (rep2 n 1 m 0) ∧ Fr (fun k => k = g) W2 w' := hal
  go_wp2_with (go_at_call 13; refine hal.mono ?_; rintro e W3 ⟨rfl, hm3, hf3⟩; refine stop_here ?_)
  unfold Hid
  have hgl3 := hm3.lt
  have hnw3 := Fr.new hnw2 hf3 hT
  have hm4 := hm3.nw ((Fr.refl _ W3).alloc (.cells #[.int .i64 0, .int .i64 (n : Int)] 34))
  have hnw4 := Fr.alloc hnw3 (.cells #[.int .i64 0, .int .i64 (n : Int)] 34)
  have hb4 : (W3.alloc (.cells #[.int .i64 0, .int .i64 (n : Int)] 34)).heap[W3.heap.size]? = some (.cells #[.int .i64 0, .int .i64 (n : Int)] 34 (0, 0)) := heap_alloc_new W3 _
  have hl4 := c_later _ hm4 0 (n : Int) (by decide)
  rw [turnE_rep n m 1 0 1 hn, turnX_rep n m 1 0 1 2 hn, if_pos rfl, if_pos rfl] at hl4
  unfold ext at hl4
  clear hal hf3 hm3 hnw2 hnw3 hm4
  go_wp2_with (go_at_call 21; refine hl4.mono ?_; rintro e W5 ⟨rfl, hm5, hf5⟩; refine stop_here ?_)
  unfold Hid
  have hb5 := (hf5.block W3.heap.size (by simp) (by omega)).trans hb4
  have hnw5 := Fr.new hnw4 hf5 hT
  have d0 : W5.cell? ⟨W3.heap.size, 0, none⟩ = some (.int .i64 0) := cell_blk hb5 rfl
  have d1 : W5.cell? ⟨W3.heap.size, 1, none⟩ = some (.int .i64 (n : Int)) := cell_blk hb5 rfl
  have hl5 := c_later _ hm5 0 (n : Int) (by decide)
  rw [turnE_rep n m 2 0 1 hn, turnX_rep n m 2 0 1 2 hn, if_neg (by decide), if_neg (by decide)] at hl5
  unfold ext at hl5
  clear hl4 hf5 hb4 hnw4
  go_wp2_with (go_at_call 21; refine hl5.mono ?_; rintro e W6 ⟨rfl, hm6, hf6⟩; refine stop_here ?_)
  unfold Hid
  have hb6 := (hf6.block W3.heap.size (heap_lt hb5) (by omega)).trans hb5
  have hnw6 := Fr.new hnw5 hf6 hT
  have d0 : W6.cell? ⟨W3.heap.size, 0, none⟩ = some (.int .i64 0) := cell_blk hb6 rfl
  have d1 : W6.cell? ⟨W3.heap.size, 1, none⟩ = some (.int .i64 (n : Int)) := cell_blk hb6 rfl
  have hl6 := c_free _ hm6 0 (n : Int) (by decide)
  rw [turnE_rep n m 2 0 1 hn, turnX_rep n m 2 0 1 0 hn, if_neg (by decide), if_neg (by decide)] at hl6
  unfold ext at hl6
  clear hl5 hf6 hb5 hnw5 hm5
  go_wp2_with (go_at_call 19; refine hl6.mono ?_; rintro e W7 ⟨rfl, hm7, hf7⟩; refine stop_here ?_)
  unfold Hid
  have hb7 := (hf7.block W3.heap.size (heap_lt hb6) (by omega)).trans hb6
  have hnw7 := Fr.new hnw6 hf7 hT
  have d0 : W7.cell? ⟨W3.heap.size, 0, none⟩ = some (.int .i64 0) := cell_blk hb7 rfl
  have d1 : W7.cell? ⟨W3.heap.size, 1, none⟩ = some (.int .i64 (n : Int)) := cell_blk hb7 rfl
  have hl7 := c_take _ hm7 0 (n : Int) (by decide)
  rw [turnE_rep n m 2 0 0 hn, turnX_rep n m 2 0 0 1 hn, if_neg (by decide), if_neg (by decide)] at hl7
  unfold ext at hl7
  clear hl6 hf7 hb6 hnw6 hm6
  go_wp2_with (go_at_call 17; refine hl7.mono ?_; rintro e W8 ⟨rfl, hm8, hf8⟩; refine stop_here ?_)
  unfold Hid
  have hnw8 := Fr.new hnw7 hf8 hT
  have hc8 := c_count _ hm8
  rw [(rep2_count n m 2 0 (by decide)).1] at hc8
  have ha8 := c_all _ hm8 ((m : Int) + 1) (by omega)
  rw [(wt_all_no n m).1, (wt_all_no n m).2] at ha8
  clear hl7 hf8 hb7 hnw7 hm7
  go_wp2_with (first
    | (go_at_call 10; refine hc8.mono ?_; rintro e W9 ⟨rfl, rfl⟩)
    | (go_at_call 15; refine ha8.mono ?_; rintro e W9 ⟨v9, rfl, _, hm9, hf9⟩; refine stop_here ?_))
  unfold Hid
  have hnw9 := Fr.new hnw8 hf9 hT
  have ha9 := c_all _ hm9 (m : Int) (by omega)
  obtain ⟨e1, e2, e3⟩ := wt_all n m
  rw [e1, e2, e3] at ha9
  clear hc8 ha8 hm8 hf9 hnw8 e1 e2 e3
  go_wp2_with (go_at_call 15; refine ha9.mono ?_; rintro e WA ⟨vA, rfl, hrA, hmA, hfA⟩; refine stop_here ?_)
  unfold Hid
  have hnwA := Fr.new hnw9 hfA hT
  have hcA := c_count _ hmA
  rw [rep2_none n m 2 1 0 (by decide) (by decide)] at hcA
  have hEA := hrA.esl
  have hgeA : W9.heap.size ≤ WA.heap.size := hfA.size
  have hgl9 := hm9.lt
  obtain ⟨es, hes⟩ : ∃ es : List Ext, Hid (es = if m = 0 then [] else [(n, m)]) := ⟨_, rfl⟩
  rw [← hes.out] at hEA
  have hel : es.length ≤ 1 := by rw [hes.out]; split <;> simp
  obtain ⟨vo, vc, rfl, hvc1, hvc2⟩ := hEA.form
  clear ha9 hm9 hrA hfA hnw9
  go_wp2_with (go_at_call 10; refine hcA.mono ?_; rintro e WB ⟨rfl, rfl⟩)
  go_loopw [113] (fun i wr => ∃ k : Nat, k ≤ es.length ∧ i = .int .i64 k ∧ MapAt wr b g (if k = 0 then rep2 n 2 m 1 else rep2 n 2 m 0) ∧ Fr (fun q => q = g) WA wr) (fun i _ => es.length - (intOf i).toNat)
  case atStart => exact ⟨0, Nat.zero_le _, rfl, by rw [if_pos rfl]; exact hmA, Fr.refl _ _⟩
  case round =>
    obtain ⟨k, hk, rfl, hmk, hfk⟩ := hrel
    by_cases hlt : k < es.length
    · have hk0 : k = 0 := by omega
      subst hk0
      have hm1 : 1 ≤ m := by
        have := hes.out
        by_cases e : m = 0
        · rw [if_pos e] at this; rw [this] at hlt; simp at hlt
        · omega
      have hesv : es = [(n, m)] := by rw [hes.out, if_neg (by omega)]
      have hEk := hEA.keep (X' := fun _ => True) hfk (fun q hq e => by omega) (fun _ _ _ => trivial)
      obtain ⟨q2, off2, rfl, _, d0, d1⟩ := hEk.get 0 hlt
      have he0 : es[0]'hlt = (n, m) := by subst hesv; rfl
      have hel1 : es.length = 1 := by rw [hesv]; rfl
      rw [he0] at d0 d1
      have hel1H : Hid (es.length = 1) := hel1
      clear hesv he0 hel1
      simp only [Nat.zero_mul, Nat.add_zero] at d0 d1
      rw [if_pos rfl] at hmk
      have hmk2 := hmk.nw ((Fr.refl _ wr).alloc (.cells #[.int .i64 (n : Int), .int .i64 (m : Int)] 34))
      have hfr := c_free _ hmk2 (n : Int) (m : Int) (by omega)
      rw [(wt_free n m hm1).1, (wt_free n m hm1).2] at hfr
      unfold ext at hfr
      have hfk2 := hfk.alloc (.cells #[.int .i64 (n : Int), .int .i64 (m : Int)] 34)
      clear hEk hEA hes hmk hmk2 hcA
      go_wp2_with (go_at_call 19; refine hfr.mono ?_; rintro e WC ⟨rfl, hmC, hfC⟩)
      have hfC2 := hfk2.trans hfC (fun i hi => .inl hi)
      go_roundw
      case rel => exact ⟨1, by rw [hel1H.out]; exact Nat.le_refl 1, rfl, by rw [if_neg (by decide)]; exact hmC, hfC2⟩
      case measure => have := hel1H.out; simp [intOf]; omega
    · have hst : (if k = 0 then rep2 n 2 m 1 else rep2 n 2 m 0) = rep2 n 2 m 0 := by
        by_cases e : m = 0
        · subst e; split <;> rfl
        · rw [if_neg]
          rw [hes.out, if_neg e] at hlt
          simp at hlt
          omega
      rw [hst] at hmk
      have hcm := c_commit _ hmk
      rw [wt_commit, ← htm.out] at hcm
      have hnwk := Fr.new hnwA hfk hT
      obtain ⟨f1, f2⟩ := wt_list t (by omega)
      clear hst hes hEA hcA
      go_wp2_with (go_at_call 23; refine hcm.mono ?_; rintro e WC ⟨rfl, hmC, hfC⟩; refine stop_here ?_)
      unfold Hid
      have hnwC := Fr.new hnwk hfC hT
      have hlC := c_list _ hmC
      rw [f1] at hlC
      clear hcm hfC hmk hfk
      go_wp2_with (go_at_call 11; refine hlC.mono ?_; rintro e WD ⟨vD, rfl, hrD, hnD⟩; refine stop_here ?_)
      unfold Hid
      have hrD1 := hrD.esl
      obtain ⟨lo, lc, rfl, hlo1, hlo2⟩ := hrD1.form
      have hED := hrD1.keep (X' := fun _ => True) ((Fr.refl (fun _ => False) WD).alloc (.cells #[.int .i64 0, .int .i64 (t : Int)] 34)) (fun _ _ => id) (fun _ _ _ => trivial)
      have hlit : ESl (fun _ => True) (WD.alloc (.cells #[.int .i64 0, .int .i64 (t : Int)] 34)) (.slice (some ⟨WD.heap.size, 0, none⟩) 1 1) [(0, t)] := by
        obtain ⟨ao', cap', e1, e2, e3, e4⟩ := sl_lit WD #[.int .i64 0, .int .i64 (t : Int)] 34 1 (by omega)
        exact ⟨ao', cap', e1, e2, e3, fun i c hi => by obtain ⟨b', off', g1, _, g3⟩ := e4 i c hi; exact ⟨b', off', g1, trivial, g3⟩⟩
      have hsm := c_same _ hED hlit (by simp) (by simp)
      simp only [decide_true] at hsm
      have hnwD := Fr.alloc (nw_trans hnwC hnD) (.cells #[.int .i64 0, .int .i64 (t : Int)] 34)
      have hmD := (hmC.nw hnD).nw ((Fr.refl _ WD).alloc (.cells #[.int .i64 0, .int .i64 (t : Int)] 34))
      clear hlC hrD hrD1 hED hlit hnD hmC hnwC
      go_wp2_with (go_at_call 25; refine hsm.mono ?_; rintro e WE ⟨rfl, hnE⟩; refine stop_here ?_)
      unfold Hid
      have hmE := hmD.nw hnE
      have hwE := c_waiting _ hmE
      rw [f2] at hwE
      have hnwE := nw_trans hnwD hnE
      clear hsm hmD hnE hnwD
      go_wp2_with (go_at_call 28; refine hwE.mono ?_; rintro e WF ⟨vF, rfl, hrF, hnF⟩; refine stop_here ?_)
      unfold Hid
      obtain ⟨fo, fc, rfl⟩ := owns_form hrF
      simp only [List.length_nil]
      have hfin := below_of_nw (nw_trans hnwE hnF)
      clear hrF hwE hmE
      go_wp2
      go_ret
      exact ⟨rfl, hfin⟩

set_option maxRecDepth 100000 in
theorem lifted (os : Os) (started : os.Started) (H : Type) (enc : TypeId × Value → H) :
    ReturnsInHanded {} Try.checked os 6 .any (Rows.extentWaitsSpec.pre6 enc Try.prog Try.f6 Rows.extentWaitsRow.domain false) (Rows.extentWaitsSpec.post enc Try.prog Try.f6 false true false false) := by
  refine returnsInHanded_of_change_sized (C := Try.checked) own started (by kernel_rfl) Try.func6
    (ChangeSpec.witness6 (enc := enc) (C := Try.checked) false ⟨#[], #[.int .i64 0, .int .i64 0], []⟩ 8 (by kernel_rfl) (by kernel_rfl) (by kernel_rfl) (by kernel_rfl)) ?_
  intro W base args ds gs before hval0 hW hcnd hsz0 _
  have hval : ∀ (j : Nat) t v, Try.f6.params[j]? = some t → args[j]? = some v → Value.okWide Try.prog W .any base t v := hval0
  have hsz : (DataW.weightsEach Try.prog (Try.f6.params.toList ++ Rows.extentWaitsSpec.plain.varTypes Try.prog) (ds ++ gs)).all (· ≤ reachBytes) = true := hsz0
  have hW' := hW
  obtain ⟨p, q, hA0, hV, rfl, hfz, hnd⟩ := hW
  have hA : DataW.TrodAll enc Try.prog W 0 (fun _ => true) true Try.f6.params.toList args.toList ds p := hA0
  rw [Try.params6] at hA hval hsz
  obtain ⟨v0, vs0, d0, ds0, p0, q0, hargs, rfl, rfl, h0, r0⟩ := trodAll_cons hA
  obtain ⟨v1, vs1, d1, ds1, p1, q1, rfl, rfl, rfl, h1, r1⟩ := trodAll_cons r0
  obtain ⟨rfl, rfl, rfl⟩ := trodAll_nil r1
  obtain rfl : args = #[v0, v1] := by cases args; simp_all
  obtain ⟨rfl, rfl⟩ := trodVars_none hV
  obtain ⟨a0, rfl, rfl, rfl, w0⟩ := open_int Try.underlying3 (hval 0 3 v0 rfl rfl) h0
  obtain ⟨a1, rfl, rfl, rfl, w1⟩ := open_int Try.underlying3 (hval 1 3 v1 rfl rfl) h1
  clear hA0 hval0
  refine (walk W a0 w0 a1 w1).mono fun e W' ⟨he, bel⟩ => ?_
  subst he
  exact ⟨_, rfl, _, _, _, [], _, [], hW', trodAll_mk1 (shut_bool Try.underlying4 _), (trodAll_cons_mk (shut_int Try.underlying3 w0) (trodAll_cons_mk (shut_int Try.underlying3 w1) trodAll_mk0)), rfl, bel.frame _, fun h => by cases h⟩

theorem over : Rows.extentWaitsRow.holds Try.pinned (OpenSpec.ofChange Rows.extentWaitsSpec) :=
  OpenClaim.holds_of_wide 6 Try.f6 rfl rfl rfl rfl rfl rfl rfl ⟨rfl, rfl, rfl, rfl, rfl⟩ rfl rfl rfl rfl rfl (by kernel_rfl) Try.func6 (by kernel_rfl)
    (of_decide_eq_true (by kernel_rfl)) (by unfold Func.isWrapper; first | (rw [if_pos (by decide +kernel)]; kernel_rfl) | (rw [if_neg (by decide +kernel)]; exact ⟨rfl, rfl⟩))
    (fun os started H enc _ => lifted os started H enc)
end Go.Proofs.Ytelobmdlnkkbkaa.extentWaits
namespace Go.Proofs.Ytelobmdlnkkbkaa
/-- The given statement. -/
theorem extentWaits_holds : Rows.ExtentWaitsSaid := extentWaits.over
end Go.Proofs.Ytelobmdlnkkbkaa
