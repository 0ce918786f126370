/-
  CodecPacks returns true for every shape and every list of fields: Pack answers the document's bytes and error, and what was handed in stays.
  Conditions: none; the statement is the given one, for every input.
-/
import Derived.Test.YtfnokdgfbhlccaaRows
import Derived.Test.YtfnokdgfbhlccaaL0
import Derived.WalkKit
import Derived.ProofKit
import Derived.OpenShut
import Derived.ShutString
import Derived.ChangeOld
import Derived.Below
import Derived.SizedLaws
namespace Go.Proofs.Ytfnokdgfbhlccaa.codecPacks
open Go.ChangeShapes Go.WideShapes Go.ChangeAt Go.RowKit
open Go.ChangeMaps (open_string shut_string)
set_option linter.unusedVariables false
set_option linter.unusedSimpArgs false

theorem own : ownKnob Try.prog.godebug = none := by kernel_rfl
theorem laidOut : laidOutB Try.prog = true := by kernel_rfl

set_option maxHeartbeats 1600000 in
/-- The law's own walk. -/
theorem walk (w : World) (a0 : ByteArray) (w0 : a0.size ≤ maxLen) (v1 : Value) (x1 : List Fld) (w1 : FieldsAt w.heap.size w v1 x1) (l1 : x1.length * 32 ≤ 140737488351232) :
    Calls Try.prog 4 #[.string a0, v1] w fun e w' => e = .returned (.bool true) ∧ Below w.heap.size w w' := by
  have hl1 : x1.length ≤ maxLen := by unfold maxLen; omega
  go_enter Try.func4, Try.ntmps4
  go_wp2_with fail
  refine (c_copy _ v1 x1 _ w1 (Nat.le_refl _) (by omega)).mono ?_
  rintro e u1 ⟨c1, rfl, hf1, hb1⟩
  go_wp2_with fail
  refine (c_packN a0 _ c1 x1 _ w0 hl1 hf1 (Nat.le_refl _)).mono ?_
  rintro e u2 ⟨v2, rfl, hs2, hb2⟩
  have hB2 := below_cut hb1 hb2
  go_wp2_with fail
  refine (c_refpackN a0 _ v1 x1 _ w0 hl1 (w1.keep hB2) hB2.size).mono ?_
  rintro e u3 ⟨v3, rfl, hs3, hb3⟩
  have hB3 := below_cut hB2 hb3
  go_wp2_with fail
  refine (c_alive _).mono ?_
  rintro e u4 ⟨rfl, hb4⟩
  have hB4 := below_cut hB3 hb4
  have hcv2 := run_string_sl 22 5 9 Try.underlying22 Try.underlying5 Try.underlying9 (hs2.keep (below_cut hb3 hb4))
  have hcv3 := run_string_sl 22 5 9 Try.underlying22 Try.underlying5 Try.underlying9 (hs3.keep hb4)
  have hfc := hf1.keep (below_cut hb2 (below_cut hb3 hb4))
  have hfl := w1.keep hB4
  have hz1 : u1.heap.size ≤ u4.heap.size := (below_cut hb2 (below_cut hb3 hb4)).size
  have HB : Hid (Below w.heap.size w u4) := hB4
  have HS : Hid (w.heap.size ≤ u4.heap.size) := hB4.size
  clear hb1 hb2 hb3 hb4 hB2 hB3 hB4 hs2 hs3 w1 hf1
  generalize errN (pack a0.data.toList x1) = er at *
  generalize (pack a0.data.toList x1).getD [] = zs at *
  go_wp2_with (go_at_call 14; refine (c_same _ _ c1 v1 x1 _ hfc hfl hz1 HS.out (by omega)).mono ?_; rintro e u5 ⟨rfl, hb5⟩)
  go_ret
  exact ⟨rfl, below_cut HB.out hb5⟩

set_option maxRecDepth 100000 in
theorem lifted (os : Os) (started : os.Started) (H : Type) (enc : TypeId × Value → H) :
    ReturnsInHanded {} Try.checked os 4 .any (Rows.codecPacksSpec.pre6 enc Try.prog Try.f4 Rows.codecPacksRow.domain false) (Rows.codecPacksSpec.post enc Try.prog Try.f4 false true false false) := by
  refine returnsInHanded_of_change_sized (C := Try.checked) own started (by kernel_rfl) Try.func4
    (ChangeSpec.witness6 (enc := enc) (C := Try.checked) false ⟨#[], #[.string ByteArray.empty, .slice none 0 0], []⟩ 8 (by kernel_rfl) (by kernel_rfl) (by kernel_rfl) (by kernel_rfl)) ?_
  intro W base args ds gs before hval0 hW hcnd hsz0 _
  have hval : ∀ (j : Nat) t v, Try.f4.params[j]? = some t → args[j]? = some v → Value.okWide Try.prog W .any base t v := hval0
  have hsz : (DataW.weightsEach Try.prog (Try.f4.params.toList ++ Rows.codecPacksSpec.plain.varTypes Try.prog) (ds ++ gs)).all (· ≤ reachBytes) = true := hsz0
  have hW' := hW
  obtain ⟨p, q, hA0, hV, rfl, hfz, hnd⟩ := hW
  have hA : DataW.TrodAll enc Try.prog W 0 (fun _ => true) true Try.f4.params.toList args.toList ds p := hA0
  rw [Try.params4] at hA hval hsz
  obtain ⟨v0, vs0, d0, ds0, p0, q0, hargs, rfl, rfl, h0, r0⟩ := trodAll_cons hA
  obtain ⟨v1, vs1, d1, ds1, p1, q1, rfl, rfl, rfl, h1, r1⟩ := trodAll_cons r0
  obtain ⟨rfl, rfl, rfl⟩ := trodAll_nil r1
  obtain rfl : args = #[v0, v1] := by cases args; simp_all
  obtain ⟨rfl, rfl⟩ := trodVars_none hV
  obtain ⟨a0, rfl, rfl, rfl, w0⟩ := open_string Try.underlying9 (hval 0 9 v0 rfl rfl) h0
  obtain ⟨a1, len1, cap1, rfl⟩ := okWide_slice Try.underlying26 (hval 1 26 v1 rfl rfl)
  have k1 := h1
  have lt1 : ∀ x ∈ p1, x.block < W.heap.size := by obtain ⟨m, hm⟩ := k1; exact DataW.trod_lt m _ _ _ hm
  obtain ⟨x1, w1, l1⟩ : ∃ xs : List Fld, FieldsAt W.heap.size W (.slice a1 len1 cap1) xs ∧ xs.length * 32 ≤ 140737488351232 := by
    obtain ⟨fuel, hf⟩ := h1
    exact open_fields (v := .slice a1 len1 cap1) hf (fun n hn => by have := List.all_eq_true.1 hsz n (DataW.weights_mem_each (j := 1) (t := 26) rfl rfl n hn); simpa using this)
  clear hA0 hval0
  refine (walk W a0 w0 _ x1 w1 l1).mono fun e W' ⟨he, bel⟩ => ?_
  subst he
  exact ⟨_, rfl, _, _, _, [], _, [], hW', trodAll_mk1 (shut_bool Try.underlying4 _), (trodAll_cons_mk (shut_string Try.underlying9 w0) (trodAll_cons_mk (Below.trod laidOut (by kernel_rfl) (of_decide_eq_true (by kernel_rfl)) k1 bel lt1) trodAll_mk0)), rfl, bel.frame _, fun h => by cases h⟩

theorem over : Rows.codecPacksRow.holds Try.pinned (OpenSpec.ofChange Rows.codecPacksSpec) :=
  OpenClaim.holds_of_wide 4 Try.f4 rfl rfl rfl rfl rfl rfl rfl ⟨rfl, rfl, rfl, rfl, rfl⟩ rfl rfl rfl rfl rfl (by kernel_rfl) Try.func4 (by kernel_rfl)
    (of_decide_eq_true (by kernel_rfl)) (by unfold Func.isWrapper; first | (rw [if_pos (by decide +kernel)]; kernel_rfl) | (rw [if_neg (by decide +kernel)]; exact ⟨rfl, rfl⟩))
    (fun os started H enc _ => lifted os started H enc)
end Go.Proofs.Ytfnokdgfbhlccaa.codecPacks
namespace Go.Proofs.Ytfnokdgfbhlccaa
/-- The given statement. -/
theorem codecPacks_holds : Rows.CodecPacksSaid := codecPacks.over
end Go.Proofs.Ytfnokdgfbhlccaa
