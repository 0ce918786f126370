/-
  SealOpens returns true for every sector: Open answers what the document's Open answers.
  Conditions: none; the statement is the given one, for every input.
-/
import Derived.Test.YtpkefojkehahlaaRows
import Derived.Test.YtpkefojkehahlaaSealR2
import Derived.Test.YtpkefojkehahlaaLibOpen
import Derived.WalkKit
import Derived.ProofKit
import Derived.OpenShut
import Derived.ShutString
import Derived.ChangeOld
import Derived.Below
import Derived.SizedLaws
namespace Go.Proofs.Ytpkefojkehahlaa.sealOpens
open Go.ChangeShapes Go.WideShapes Go.ChangeAt Go.RowKit
open Go.ChangeMaps (open_string shut_string)
set_option linter.unusedVariables false
set_option linter.unusedSimpArgs false

theorem own : ownKnob Try.prog.godebug = none := by kernel_rfl
theorem laidOut : laidOutB Try.prog = true := by kernel_rfl

/-- The law's own walk. -/
theorem walk (w : World) (s0 : List UInt8) (w0 : s0.length = 128) :
    Calls Try.prog 5 #[sec s0] w fun e w' => e = .returned (.bool true) ∧ Below w.heap.size w w' := by
  have hst := OpAt.start w s0
  generalize hW : w.alloc (.cells (s0.map bv).toArray 27) = W at *
  have hW : Hid (w.alloc (.cells (s0.map bv).toArray 27) = W) := hW
  have hr0 := range_all hst.blk
  go_enter Try.func5, Try.ntmps5
  go_wp2_with (first
    | (refine wpList_box_agg rfl 27 _ rfl (sec s0) _ rfl rfl ?_; rw [hW.out])
    | (refine wpList_load_as rfl 27 (.tmp 1) rfl w.heap.size 0 rfl (sec s0) _ rfl hr0 Try.rowS (sizeS w0) ?_)
    | (go_at_call 9; refine stop_here ?_))
  unfold Hid
  refine (c_open s0 _ w0).mono ?_
  rintro e W2 ⟨v2, rfl, hs2, hb2⟩
  have hat2 := hst.keep hb2
  have hr2 := range_all hat2.blk
  have hM := oM_lt s0
  obtain ⟨M, hMe⟩ : ∃ M, Hid (M = oM s0) := ⟨_, rfl⟩
  obtain ⟨O, hO⟩ : ∃ O, Hid (O = (openS s0).isSome) := ⟨_, rfl⟩
  obtain ⟨B, hB⟩ : ∃ B, Hid (B = oB s0) := ⟨_, rfl⟩
  rw [← hMe.out] at hM ⊢
  rw [← hO.out]
  rw [← hB.out] at hs2
  obtain ⟨ao2, cap2, rfl⟩ := sl_form hs2
  clear hst hb2 hr0 hW
  go_wp2_with (first
    | (refine wpList_load_as rfl 27 (.tmp 1) rfl w.heap.size 0 rfl (sec s0) _ rfl hr2 Try.rowS (sizeS w0) ?_)
    | (go_at_call 13; refine stop_here ?_))
  unfold Hid
  refine (c_ropen s0 _ w0).mono ?_
  rw [← hMe.out, ← hO.out, ← hB.out]
  rintro e W3 ⟨v3, rfl, hs3, hb3⟩
  have hs4 := (hs2.keep hb3).mono hb3.size
  have hbA := hat2.bel.trans (hb3.mono hat2.bel.size)
  obtain ⟨ao3, cap3, rfl⟩ := sl_form hs3
  clear hs2 hb3 hat2 hr2 hMe hO hB
  go_wp2_with (go_at_call 11; refine stop_here ?_)
  unfold Hid
  refine (c_alive _).mono ?_
  rintro e W5 ⟨rfl, hb5⟩
  have hc1 := run_string_sl 23 5 9 Try.underlying23 Try.underlying5 Try.underlying9 (hs4.keep hb5)
  have hc2 := run_string_sl 23 5 9 Try.underlying23 Try.underlying5 Try.underlying9 (hs3.keep hb5)
  have hbE : Hid (Below w.heap.size w W5) := hbA.trans (hb5.mono hbA.size)
  clear hs3 hs4 hb5 hbA
  generalize (⟨B.toArray⟩ : ByteArray) = S1 at *
  go_wp2
  go_ret
  exact ⟨rfl, hbE.out⟩

set_option maxRecDepth 100000 in
theorem lifted (os : Os) (started : os.Started) (H : Type) (enc : TypeId × Value → H) :
    ReturnsInHanded {} Try.checked os 5 .any (Rows.sealOpensSpec.pre6 enc Try.prog Try.f5 Rows.sealOpensRow.domain false) (Rows.sealOpensSpec.post enc Try.prog Try.f5 false true false false) := by
  refine returnsInHanded_of_change_sized (C := Try.checked) own started (by kernel_rfl) Try.func5
    (ChangeSpec.witness6 (enc := enc) (C := Try.checked) false ⟨#[], #[.agg (Array.replicate 128 (.int .u8 0))], []⟩ 8 (by kernel_rfl) (by kernel_rfl) (by kernel_rfl) (by kernel_rfl)) ?_
  intro W base args ds gs before hval0 hW hcnd hsz0 _
  have hval : ∀ (j : Nat) t v, Try.f5.params[j]? = some t → args[j]? = some v → Value.okWide Try.prog W .any base t v := hval0
  have hsz : (DataW.weightsEach Try.prog (Try.f5.params.toList ++ Rows.sealOpensSpec.plain.varTypes Try.prog) (ds ++ gs)).all (· ≤ reachBytes) = true := hsz0
  have hW' := hW
  obtain ⟨p, q, hA0, hV, rfl, hfz, hnd⟩ := hW
  have hA : DataW.TrodAll enc Try.prog W 0 (fun _ => true) true Try.f5.params.toList args.toList ds p := hA0
  rw [Try.params5] at hA hval hsz
  obtain ⟨v0, vs0, d0, ds0, p0, q0, hargs, rfl, rfl, h0, r0⟩ := trodAll_cons hA
  obtain ⟨rfl, rfl, rfl⟩ := trodAll_nil r0
  obtain rfl : args = #[v0] := by cases args; simp_all
  obtain ⟨rfl, rfl⟩ := trodVars_none hV
  have k0 := h0
  have lt0 : ∀ x ∈ p0, x.block < W.heap.size := by obtain ⟨m, hm⟩ := k0; exact DataW.trod_lt m _ _ _ hm
  obtain ⟨s0, rfl, w0⟩ := open_sector (hval 0 27 v0 rfl rfl) h0
  clear hA0 hval0
  refine (walk W s0 w0).mono fun e W' ⟨he, bel⟩ => ?_
  subst he
  exact ⟨_, rfl, _, _, _, [], _, [], hW', trodAll_mk1 (shut_bool Try.underlying4 _), (trodAll_cons_mk (Below.trod laidOut (by kernel_rfl) (of_decide_eq_true (by kernel_rfl)) k0 bel lt0) trodAll_mk0), rfl, bel.frame _, fun h => by cases h⟩

theorem over : Rows.sealOpensRow.holds Try.pinned (OpenSpec.ofChange Rows.sealOpensSpec) :=
  OpenClaim.holds_of_wide 5 Try.f5 rfl rfl rfl rfl rfl rfl rfl ⟨rfl, rfl, rfl, rfl, rfl⟩ rfl rfl rfl rfl rfl (by kernel_rfl) Try.func5 (by kernel_rfl)
    (of_decide_eq_true (by kernel_rfl)) (by unfold Func.isWrapper; first | (rw [if_pos (by decide +kernel)]; kernel_rfl) | (rw [if_neg (by decide +kernel)]; exact ⟨rfl, rfl⟩))
    (fun os started H enc _ => lifted os started H enc)
end Go.Proofs.Ytpkefojkehahlaa.sealOpens
namespace Go.Proofs.Ytpkefojkehahlaa
/-- The given statement. -/
theorem sealOpens_holds : Rows.SealOpensSaid := sealOpens.over
end Go.Proofs.Ytpkefojkehahlaa
