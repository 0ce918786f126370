/-
  CrcAdds returns true for every sum and all bytes: Add answers the document's sum behind them, and they stay.
  Conditions: none; the statement is the given one, for every input.
-/
import Derived.Test.YtflmeaekgkckjaaRows
import Derived.Test.YtflmeaekgkckjaaOpen
import Derived.WalkKit
import Derived.ProofKit
import Derived.OpenShut
import Derived.ShutString
import Derived.ChangeOld
import Derived.Below
import Derived.SizedLaws
namespace Go.Proofs.Ytflmeaekgkckjaa.crcAdds
open Go.ChangeShapes Go.WideShapes Go.ChangeAt Go.RowKit
open Go.ChangeMaps (open_string shut_string)
set_option linter.unusedVariables false
set_option linter.unusedSimpArgs false

theorem own : ownKnob Try.prog.godebug = none := by kernel_rfl
theorem laidOut : laidOutB Try.prog = true := by kernel_rfl

set_option maxHeartbeats 1600000 in
/-- The law's own walk. -/
theorem walk (w : World) (a0 : Int) (w0 : (Lit.int .u32 a0).wf = true) (v1 : Value) (x1 : List UInt8) (w1 : Sl w.heap.size w v1 x1.length (x1.map bv)) (l1 : x1.length ≤ 140737488351232) :
    Calls Try.prog 4 #[.int .u32 a0, v1] w fun e w' => e = .returned (.bool true) ∧ Below w.heap.size w w' := by
  obtain ⟨i0, hi, hz0, hz1, hz2⟩ := info_parts Try.info5
  have ha := u32_of_wf w0
  generalize BitVec.ofInt 32 a0 = s at ha
  subst ha
  clear w0
  go_enter Try.func4, Try.ntmps4
  go_wp2_with (at_builtin; refine wpList_append_sl _ rfl _ _ 24 rfl w.heap.size 5 i0 (.int .u8 0) 1 1 Try.underlying24 hi hz0 hz1 hz2 rfl (by decide) _ 0 [] rfl (World.ownsRow_lit w #[] 0 (Nat.le_refl _) (by decide) rfl) w.heap.size _ x1.length (x1.map bv) rfl ?c0 (by simp) (bv_oneCell _) ?c1 ?c2 ?c3 ?_)
  case c0 => exact w1.keep ((Below.refl _ _).alloc (Nat.le_refl _) _)
  case c1 => unfold maxLen; omega
  case c2 => omega
  case c3 => simp
  intro c1 u1 hown1 hgrow1 _
  have hb1 : Below w.heap.size w u1 := ((Below.refl _ _).alloc (Nat.le_refl _) _).grown hgrow1 (by simp) (by intro k hk; simp [Value.ownBlock] at hk; omega)
  have hs1 : Sl u1.heap.size u1 c1 x1.length (x1.map bv) := sl_of_owns (by simpa using hown1)
  clear hown1 hgrow1
  go_wp2_with fail
  refine (c_names _).mono ?_
  rintro e u2 ⟨rfl, hb2⟩
  have hB2 := below_cut hb1 hb2
  have hs2 := hs1.keep hb2
  have hs3 := w1.keep hB2
  obtain ⟨co, cc, rfl⟩ := sl_form hs2
  obtain ⟨vo, vc, rfl⟩ := sl_form hs3
  have hcv2 := run_string_sl 24 5 9 Try.underlying24 Try.underlying5 Try.underlying9 hs2
  have hcv3 := run_string_sl 24 5 9 Try.underlying24 Try.underlying5 Try.underlying9 hs3
  have HB : Hid (Below w.heap.size w u2) := hB2
  clear hs1 hb1 hb2 hB2 w1
  go_wp2_with fail
  refine (c_add s _ _ x1 _ hs2 (by omega)).mono ?_
  rintro e u3 ⟨rfl, rfl⟩
  go_wp2_with fail
  refine (c_refsum s _ _ x1 _ hs3 (by omega)).mono ?_
  rintro e u3 ⟨rfl, rfl⟩
  clear hs2 hs3
  go_wp2
  go_ret
  exact ⟨rfl, HB.out⟩

set_option maxRecDepth 100000 in
theorem lifted (os : Os) (started : os.Started) (H : Type) (enc : TypeId × Value → H) :
    ReturnsInHanded {} Try.checked os 4 .any (Rows.crcAddsSpec.pre6 enc Try.prog Try.f4 Rows.crcAddsRow.domain false) (Rows.crcAddsSpec.post enc Try.prog Try.f4 false true false false) := by
  refine returnsInHanded_of_change_sized (C := Try.checked) own started (by kernel_rfl) Try.func4
    (ChangeSpec.witness6 (enc := enc) (C := Try.checked) false ⟨#[], #[.int .u32 0, .slice none 0 0], []⟩ 8 (by kernel_rfl) (by kernel_rfl) (by kernel_rfl) (by kernel_rfl)) ?_
  intro W base args ds gs before hval0 hW hcnd hsz0 _
  have hval : ∀ (j : Nat) t v, Try.f4.params[j]? = some t → args[j]? = some v → Value.okWide Try.prog W .any base t v := hval0
  have hsz : (DataW.weightsEach Try.prog (Try.f4.params.toList ++ Rows.crcAddsSpec.plain.varTypes Try.prog) (ds ++ gs)).all (· ≤ reachBytes) = true := hsz0
  have hW' := hW
  obtain ⟨p, q, hA0, hV, rfl, hfz, hnd⟩ := hW
  have hA : DataW.TrodAll enc Try.prog W 0 (fun _ => true) true Try.f4.params.toList args.toList ds p := hA0
  rw [Try.params4] at hA hval hsz
  obtain ⟨v0, vs0, d0, ds0, p0, q0, hargs, rfl, rfl, h0, r0⟩ := trodAll_cons hA
  obtain ⟨v1, vs1, d1, ds1, p1, q1, rfl, rfl, rfl, h1, r1⟩ := trodAll_cons r0
  obtain ⟨rfl, rfl, rfl⟩ := trodAll_nil r1
  obtain rfl : args = #[v0, v1] := by cases args; simp_all
  obtain ⟨rfl, rfl⟩ := trodVars_none hV
  obtain ⟨a0, rfl, rfl, rfl, w0⟩ := open_int Try.underlying22 (hval 0 22 v0 rfl rfl) h0
  obtain ⟨a1, len1, cap1, rfl⟩ := okWide_slice Try.underlying24 (hval 1 24 v1 rfl rfl)
  have k1 := h1
  have lt1 : ∀ x ∈ p1, x.block < W.heap.size := by obtain ⟨m, hm⟩ := k1; exact DataW.trod_lt m _ _ _ hm
  obtain ⟨x1, w1, l1, m1⟩ : ∃ xs : List UInt8, Sl W.heap.size W (.slice a1 len1 cap1) xs.length (xs.map bv) ∧ xs.length ≤ 140737488351232 ∧ xs.length + 1 ≤ Rows.uptoBulk d1 := by
    obtain ⟨fuel, hf⟩ := h1
    exact open_bytes (v := .slice a1 len1 cap1) hf (fun n hn => by have := List.all_eq_true.1 hsz n (DataW.weights_mem_each (j := 1) (t := 24) rfl rfl n hn); simpa using this)
  clear hA0 hval0
  refine (walk W a0 w0 _ x1 w1 l1).mono fun e W' ⟨he, bel⟩ => ?_
  subst he
  exact ⟨_, rfl, _, _, _, [], _, [], hW', trodAll_mk1 (shut_bool Try.underlying4 _), (trodAll_cons_mk (shut_int Try.underlying22 w0) (trodAll_cons_mk (Below.trod laidOut (by kernel_rfl) (of_decide_eq_true (by kernel_rfl)) k1 bel lt1) trodAll_mk0)), rfl, bel.frame _, fun h => by cases h⟩

theorem over : Rows.crcAddsRow.holds Try.pinned (OpenSpec.ofChange Rows.crcAddsSpec) :=
  OpenClaim.holds_of_wide 4 Try.f4 rfl rfl rfl rfl rfl rfl rfl ⟨rfl, rfl, rfl, rfl, rfl⟩ rfl rfl rfl rfl rfl (by kernel_rfl) Try.func4 (by kernel_rfl)
    (of_decide_eq_true (by kernel_rfl)) (by unfold Func.isWrapper; first | (rw [if_pos (by decide +kernel)]; kernel_rfl) | (rw [if_neg (by decide +kernel)]; exact ⟨rfl, rfl⟩))
    (fun os started H enc _ => lifted os started H enc)
end Go.Proofs.Ytflmeaekgkckjaa.crcAdds
namespace Go.Proofs.Ytflmeaekgkckjaa
/-- The given statement. -/
theorem crcAdds_holds : Rows.CrcAddsSaid := crcAdds.over
end Go.Proofs.Ytflmeaekgkckjaa
