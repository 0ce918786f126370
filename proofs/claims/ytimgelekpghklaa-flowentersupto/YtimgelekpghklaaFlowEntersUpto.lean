/-
  FlowEnters returns true for any thread, gate and what is to become of it: Enters answers as the document's does.
  Conditions: what comes in holds together at most 1048576 values and letters (the given second form); nothing else.
-/
import Derived.Test.YtimgelekpghklaaRows
import Derived.Test.YtimgelekpghklaaFlowOpen
import Derived.Test.YtimgelekpghklaaFlowF7
import Derived.WalkKit
import Derived.ProofKit
import Derived.OpenShut
import Derived.ShutString
import Derived.ChangeOld
import Derived.Below
import Derived.SizedLaws
import Derived.JoinedCond
import Derived.Deep.CondSized
namespace Go.Proofs.Ytimgelekpghklaa.flowEnters
open Go.ChangeShapes Go.WideShapes Go.ChangeAt Go.RowKit
open Go.ChangeMaps (open_string shut_string)
set_option linter.unusedVariables false
set_option linter.unusedSimpArgs false

theorem own : ownKnob Try.prog.godebug = none := by kernel_rfl
theorem laidOut : laidOutB Try.prog = true := by kernel_rfl

/-- The law's own walk. -/
theorem walk (w : World) (z0 t0 : Int) (u0 s0 : Value) (x0 y0 : List Cat) (w0 : CSl (fun b => b < w.heap.size) w u0 x0) (q0 : CSl (fun b => b < w.heap.size) w s0 y0) (l0 : x0.length ≤ 8796093021952) (k0 : y0.length ≤ 8796093021952) (m0 : x0.length ≤ 1048576) (n0 : y0.length ≤ 1048576) (z1 t1 : Int) (u1 s1 : Value) (x1 y1 : List Cat) (w1 : CSl (fun b => b < w.heap.size) w u1 x1) (q1 : CSl (fun b => b < w.heap.size) w s1 y1) (l1 : x1.length ≤ 8796093021952) (k1 : y1.length ≤ 8796093021952) (m1 : x1.length ≤ 1048576) (n1 : y1.length ≤ 1048576) (z2 t2 : Int) (u2 s2 : Value) (x2 y2 : List Cat) (w2 : CSl (fun b => b < w.heap.size) w u2 x2) (q2 : CSl (fun b => b < w.heap.size) w s2 y2) (l2 : x2.length ≤ 8796093021952) (k2 : y2.length ≤ 8796093021952) (m2 : x2.length ≤ 1048576) (n2 : y2.length ≤ 1048576) :
    Calls Try.prog 3 #[whoV z0 u0 t0 s0, whoV z1 u1 t1 s1, whoV z2 u2 t2 s2] w fun e w' => e = .returned (.bool true) ∧ Below w.heap.size w w' := by
  refine Calls.mono (c_lenters z0 t0 z1 t1 z2 t2 w w0 q0 w1 q1 w2 q2 (by omega) (by omega) (by omega) (by omega) (by omega) (by omega) (by omega) (by omega)) ?_
  rintro e w' ⟨rfl, nn⟩
  exact ⟨rfl, Fr.below nn (Nat.le_refl _) (fun _ => False.elim)⟩

set_option maxRecDepth 100000 in
theorem lifted (os : Os) (started : os.Started) (H : Type) (enc : TypeId × Value → H) (F : Stop.Interp) :
    ReturnsInHanded {} Try.checked os 3 .any ((Rows.OpenSpec.upto Rows.flowEntersSpec).pre6 enc Try.prog Try.f3 Rows.flowEntersUptoRow.domain false) (((Rows.OpenSpec.upto Rows.flowEntersSpec).at F).post enc Try.prog Try.f3 false true false false) := by
  refine returnsInHanded_of_cond_sized (C := Try.checked) (s := Rows.OpenSpec.upto Rows.flowEntersSpec) (k := Rows.uptoSmall) rfl own started (by kernel_rfl) Try.func3
    (OpenSpec.witness (enc := enc) (C := Try.checked) (s := Rows.OpenSpec.upto Rows.flowEntersSpec) (k := Rows.uptoSmall) rfl false ⟨#[], #[.agg #[.int .i64 0, .slice none 0 0, .int .i64 0, .slice none 0 0], .agg #[.int .i64 0, .slice none 0 0, .int .i64 0, .slice none 0 0], .agg #[.int .i64 0, .slice none 0 0, .int .i64 0, .slice none 0 0]], []⟩ 8 (by kernel_rfl) (by kernel_rfl) (by kernel_rfl)
      (x := ([.agg [.agg [.lit (.int .i64 0), .nil], .agg [.lit (.int .i64 0), .nil]], .agg [.agg [.lit (.int .i64 0), .nil], .agg [.lit (.int .i64 0), .nil]], .agg [.agg [.lit (.int .i64 0), .nil], .agg [.lit (.int .i64 0), .nil]]], [], [])) (by kernel_rfl) rfl (by kernel_rfl)) ?_
  intro W base args ds gs before hval0 hW hcnd hk0 hsz0 _
  have hval : ∀ (j : Nat) t v, Try.f3.params[j]? = some t → args[j]? = some v → Value.okWide Try.prog W .any base t v := hval0
  have hsz : (DataW.weightsEach Try.prog (Try.f3.params.toList ++ Rows.flowEntersSpec.plain.varTypes Try.prog) (ds ++ gs)).all (· ≤ reachBytes) = true := hsz0
  have hW' := hW
  obtain ⟨p, q, hA0, hV, rfl, hfz, hnd⟩ := hW
  have hA : DataW.TrodAll enc Try.prog W 0 (fun _ => true) true Try.f3.params.toList args.toList ds p := hA0
  rw [Try.params3] at hA hval hsz
  obtain ⟨v0, vs0, d0, ds0, p0, q0, hargs, rfl, rfl, h0, r0⟩ := trodAll_cons hA
  obtain ⟨v1, vs1, d1, ds1, p1, q1, rfl, rfl, rfl, h1, r1⟩ := trodAll_cons r0
  obtain ⟨v2, vs2, d2, ds2, p2, q2, rfl, rfl, rfl, h2, r2⟩ := trodAll_cons r1
  obtain ⟨rfl, rfl, rfl⟩ := trodAll_nil r2
  obtain rfl : args = #[v0, v1, v2] := by cases args; simp_all
  obtain ⟨rfl, rfl⟩ := trodVars_none hV
  have hbk : Rows.uptoBulkAll (d0 :: d1 :: d2 :: []) ≤ 1048576 := by have := of_decide_eq_true hk0; simpa using this
  simp only [Rows.uptoBulkAll] at hbk
  have k0 := h0
  have lt0 : ∀ x ∈ p0, x.block < W.heap.size := by obtain ⟨m, hm⟩ := k0; exact DataW.trod_lt m _ _ _ hm
  obtain ⟨z0, t0, u0, s0, x0, y0, rfl, w0, qq0, l0, k'0, m0⟩ := open_who (hval 0 26 v0 rfl rfl) h0 (fun n hn => by have := List.all_eq_true.1 hsz n (DataW.weights_mem_each (j := 0) (t := 26) rfl rfl n hn); simpa using this)
  have k1 := h1
  have lt1 : ∀ x ∈ p1, x.block < W.heap.size := by obtain ⟨m, hm⟩ := k1; exact DataW.trod_lt m _ _ _ hm
  obtain ⟨z1, t1, u1, s1, x1, y1, rfl, w1, qq1, l1, k'1, m1⟩ := open_who (hval 1 26 v1 rfl rfl) h1 (fun n hn => by have := List.all_eq_true.1 hsz n (DataW.weights_mem_each (j := 1) (t := 26) rfl rfl n hn); simpa using this)
  have k2 := h2
  have lt2 : ∀ x ∈ p2, x.block < W.heap.size := by obtain ⟨m, hm⟩ := k2; exact DataW.trod_lt m _ _ _ hm
  obtain ⟨z2, t2, u2, s2, x2, y2, rfl, w2, qq2, l2, k'2, m2⟩ := open_who (hval 2 26 v2 rfl rfl) h2 (fun n hn => by have := List.all_eq_true.1 hsz n (DataW.weights_mem_each (j := 2) (t := 26) rfl rfl n hn); simpa using this)
  clear hA0 hval0
  refine (walk W z0 t0 u0 s0 x0 y0 w0 qq0 l0 k'0 (by omega) (by omega) z1 t1 u1 s1 x1 y1 w1 qq1 l1 k'1 (by omega) (by omega) z2 t2 u2 s2 x2 y2 w2 qq2 l2 k'2 (by omega) (by omega)).mono fun e W' ⟨he, bel⟩ => ?_
  subst he
  exact ⟨_, rfl, _, _, _, [], _, [], hW', trodAll_mk1 (shut_bool Try.underlying4 _), (trodAll_cons_mk (Below.trod laidOut (by kernel_rfl) (of_decide_eq_true (by kernel_rfl)) k0 bel lt0) (trodAll_cons_mk (Below.trod laidOut (by kernel_rfl) (of_decide_eq_true (by kernel_rfl)) k1 bel lt1) (trodAll_cons_mk (Below.trod laidOut (by kernel_rfl) (of_decide_eq_true (by kernel_rfl)) k2 bel lt2) trodAll_mk0))), rfl, bel.frame _, fun h => by cases h⟩

theorem over : Rows.FlowEntersUptoSaid :=
  OpenClaim.holds_of_cond 3 Try.f3 rfl rfl rfl rfl rfl rfl rfl ⟨rfl, rfl, rfl, rfl, rfl⟩ rfl rfl rfl rfl rfl (by kernel_rfl) Try.func3 (by kernel_rfl)
    (of_decide_eq_true (by kernel_rfl)) (by unfold Func.isWrapper; first | (rw [if_pos (by decide +kernel)]; kernel_rfl) | (rw [if_neg (by decide +kernel)]; exact ⟨rfl, rfl⟩))
    (fun os started H enc _ F => lifted os started H enc F)
end Go.Proofs.Ytimgelekpghklaa.flowEnters
namespace Go.Proofs.Ytimgelekpghklaa
/-- The given statement. -/
theorem flowEntersUpto_holds : Rows.FlowEntersUptoSaid := flowEnters.over
end Go.Proofs.Ytimgelekpghklaa
