/-
  CrcParts returns true for all parts: however bytes are cut, Sum is the same, and is Add of all of them to 0.
  Conditions: what comes in holds together at most 1048576 values and letters (the given second form); nothing else.
-/
import Derived.Test.YtflmeaekgkckjaaRows
import Derived.Test.YtflmeaekgkckjaaL1
import Derived.WalkKit
import Derived.ProofKit
import Derived.OpenShut
import Derived.ShutString
import Derived.ChangeOld
import Derived.Below
import Derived.SizedLaws
import Derived.JoinedCond
import Derived.Deep.CondSized
namespace Go.Proofs.Ytflmeaekgkckjaa.crcParts
open Go.ChangeShapes Go.WideShapes Go.ChangeAt Go.RowKit
open Go.ChangeMaps (open_string shut_string)
set_option linter.unusedVariables false
set_option linter.unusedSimpArgs false

theorem own : ownKnob Try.prog.godebug = none := by kernel_rfl
theorem laidOut : laidOutB Try.prog = true := by kernel_rfl

set_option maxHeartbeats 3200000 in
/-- The law's own walk. -/
theorem walk (w : World) (v0 : Value) (x0 : List (List UInt8)) (w0 : Parts w.heap.size w v0 x0) (l0 : x0.length ≤ 140737488351232) (m0 : x0.flatten.length ≤ 1048576) :
    Calls Try.prog 5 #[v0] w fun e w' => e = .returned (.bool true) ∧ Below w.heap.size w w' := by
  obtain ⟨i0, hi, hz0, hz1, hz2⟩ := info_parts Try.info5
  obtain ⟨vo, vc, rfl, hvc, hcs⟩ := w0
  have W0 : Hid (Parts w.heap.size w (.slice vo x0.length vc) x0) := ⟨vo, vc, rfl, hvc, hcs⟩
  clear hcs
  go_enter Try.func5, Try.ntmps5
  go_wp2
  go_loopw [3, 9] (fun o i wr => ∃ k : Nat, k ≤ x0.length ∧ i = .int .i64 k ∧ wr.ownsRow w.heap.size 5 1 o (x0.take k).flatten.length ((x0.take k).flatten.map bv) ∧ Below w.heap.size w wr) (fun _ i _ => x0.length - (intOf i).toNat)
  case atStart => exact ⟨0, Nat.zero_le _, rfl, World.ownsRow_lit w #[] 0 (Nat.le_refl _) (by decide) rfl, (Below.refl _ _).alloc (Nat.le_refl _) _⟩
  case round =>
    obtain ⟨k, hk, rfl, hown, hbel⟩ := hrel
    by_cases hlt : k < x0.length
    · obtain ⟨ao, cap, hv, _, hcs⟩ := W0.out.keep hbel
      simp only [Value.slice.injEq, true_and] at hv
      obtain ⟨rfl, rfl⟩ := hv
      obtain ⟨b, off, u, rfl, hbK, hcell, hsl, hxl⟩ := hcs k x0[k] (List.getElem?_eq_getElem hlt)
      obtain ⟨uo, uc, rfl⟩ := sl_form hsl
      have HF : Hid ((x0.take (k + 1)).flatten = (x0.take k).flatten ++ x0[k]) := flat_snoc x0 k hlt
      have hfl : (x0.take k).flatten.length + x0[k].length ≤ 1048576 := by
        have h1 := flat_le x0 (k + 1)
        rw [HF.out, List.length_append] at h1
        omega
      have hsz := hbel.size
      clear hcs
      generalize (x0.take k).flatten = F at *
      go_wp2_with (at_builtin; refine wpList_append_sl _ rfl _ _ 24 rfl w.heap.size 5 i0 (.int .u8 0) 1 1 Try.underlying24 hi hz0 hz1 hz2 rfl (by decide) _ _ _ rfl hown w.heap.size _ x0[k].length (x0[k].map bv) rfl hsl (by simp) (bv_oneCell _) ?c1 ?c2 ?c3 ?_)
      case c1 => unfold maxLen; omega
      case c2 => omega
      case c3 => exact hsz
      intro v' w2 hown2 hgrow2 _
      have hb2 : Below w.heap.size w w2 := hbel.grown hgrow2 hsz (owns_ge hown)
      have hown3 : w2.ownsRow w.heap.size 5 1 v' (x0.take (k + 1)).flatten.length ((x0.take (k + 1)).flatten.map bv) := by
        rw [HF.out]; simpa using hown2
      clear hown2 hgrow2 hown hbel hsl hcell
      go_wp2
      go_roundw
      case rel => exact ⟨k + 1, by omega, by go_num, hown3, hb2⟩
      case measure => simp [intOf]; omega
    · have hkx : k = x0.length := by omega
      subst hkx
      rw [List.take_length] at hown
      have HX : Hid (crcSum x0 = crcAdd 0#32 x0.flatten) := crcSum_flat x0
      generalize x0.flatten = AL at hown m0 HX
      have hsA := sl_of_owns hown
      obtain ⟨ao, ac, rfl⟩ := sl_form hsA
      clear hown
      go_wp2_with fail
      refine (c_names _).mono ?_
      rintro e u1 ⟨rfl, hb1⟩
      have HS1 : Hid (Sl wr.heap.size u1 (.slice ao AL.length ac) AL.length (AL.map bv)) := hsA.keep hb1
      have HZ1 : Hid (wr.heap.size ≤ u1.heap.size) := hb1.size
      have HB1 : Hid (Below w.heap.size w u1) := below_cut hbel hb1
      have HP : Hid (Parts w.heap.size u1 (.slice vo x0.length vc) x0) := W0.out.keep HB1.out
      clear hb1 hbel hsA
      go_wp2_with fail
      refine (c_sum _ _ x0 _ HP.out (by omega)).mono ?_
      rintro e u2 ⟨rfl, rfl⟩
      rw [HX.out]
      go_wp2_with fail
      refine (c_sum _ _ [AL] _ (parts_one 24 HS1.out HZ1.out (by omega) rfl) (by simp)).mono ?_
      rintro e u2 ⟨rfl, rfl⟩
      rw [crcSum_one]
      have HB2 : Hid (Below w.heap.size w (u1.alloc (.cells #[.slice ao AL.length ac] 24))) := HB1.out.alloc HB1.out.size _
      have HS2 : Hid (Sl wr.heap.size (u1.alloc (.cells #[.slice ao AL.length ac] 24)) (.slice ao AL.length ac) AL.length (AL.map bv)) := HS1.out.keep ((Below.refl _ _).alloc HZ1.out _)
      have HZ2 : Hid (wr.heap.size ≤ (u1.alloc (.cells #[.slice ao AL.length ac] 24)).heap.size) := by have := HZ1.out; unfold Hid; simp; omega
      generalize u1.alloc (.cells #[.slice ao AL.length ac] 24) = u2 at HB2 HS2 HZ2 ⊢
      go_wp2_with fail
      refine (c_sum _ _ [AL] _ (parts_one 24 HS2.out HZ2.out (by omega) rfl) (by simp)).mono ?_
      rintro e u3 ⟨rfl, rfl⟩
      rw [crcSum_one]
      have HB3 : Hid (Below w.heap.size w (u2.alloc (.cells #[.slice ao AL.length ac] 24))) := HB2.out.alloc HB2.out.size _
      have HS3 : Hid (Sl wr.heap.size (u2.alloc (.cells #[.slice ao AL.length ac] 24)) (.slice ao AL.length ac) AL.length (AL.map bv)) := HS2.out.keep ((Below.refl _ _).alloc HZ2.out _)
      generalize u2.alloc (.cells #[.slice ao AL.length ac] 24) = u3 at HB3 HS3 ⊢
      go_wp2_with fail
      refine (c_add 0#32 _ _ AL _ HS3.out (by omega)).mono ?_
      rintro e u4 ⟨rfl, rfl⟩
      generalize crcAdd 0#32 AL = D at *
      go_wp2
      go_ret
      exact ⟨rfl, HB3.out⟩

set_option maxRecDepth 100000 in
theorem lifted (os : Os) (started : os.Started) (H : Type) (enc : TypeId × Value → H) (F : Stop.Interp) :
    ReturnsInHanded {} Try.checked os 5 .any ((Rows.OpenSpec.upto Rows.crcPartsSpec).pre6 enc Try.prog Try.f5 Rows.crcPartsUptoRow.domain false) (((Rows.OpenSpec.upto Rows.crcPartsSpec).at F).post enc Try.prog Try.f5 false true false false) := by
  refine returnsInHanded_of_cond_sized (C := Try.checked) (s := Rows.OpenSpec.upto Rows.crcPartsSpec) (k := Rows.uptoSmall) rfl own started (by kernel_rfl) Try.func5
    (OpenSpec.witness (enc := enc) (C := Try.checked) (s := Rows.OpenSpec.upto Rows.crcPartsSpec) (k := Rows.uptoSmall) rfl false ⟨#[], #[.slice none 0 0], []⟩ 8 (by kernel_rfl) (by kernel_rfl) (by kernel_rfl)
      (x := ([.nil], [], [])) (by kernel_rfl) rfl (by kernel_rfl)) ?_
  intro W base args ds gs before hval0 hW hcnd hk0 hsz0 _
  have hval : ∀ (j : Nat) t v, Try.f5.params[j]? = some t → args[j]? = some v → Value.okWide Try.prog W .any base t v := hval0
  have hsz : (DataW.weightsEach Try.prog (Try.f5.params.toList ++ Rows.crcPartsSpec.plain.varTypes Try.prog) (ds ++ gs)).all (· ≤ reachBytes) = true := hsz0
  have hW' := hW
  obtain ⟨p, q, hA0, hV, rfl, hfz, hnd⟩ := hW
  have hA : DataW.TrodAll enc Try.prog W 0 (fun _ => true) true Try.f5.params.toList args.toList ds p := hA0
  rw [Try.params5] at hA hval hsz
  obtain ⟨v0, vs0, d0, ds0, p0, q0, hargs, rfl, rfl, h0, r0⟩ := trodAll_cons hA
  obtain ⟨rfl, rfl, rfl⟩ := trodAll_nil r0
  obtain rfl : args = #[v0] := by cases args; simp_all
  obtain ⟨rfl, rfl⟩ := trodVars_none hV
  have hbk : Rows.uptoBulkAll (d0 :: []) ≤ 1048576 := by have := of_decide_eq_true hk0; simpa using this
  simp only [Rows.uptoBulkAll] at hbk
  obtain ⟨a0, len0, cap0, rfl⟩ := okWide_slice Try.underlying28 (hval 0 28 v0 rfl rfl)
  have k0 := h0
  have lt0 : ∀ x ∈ p0, x.block < W.heap.size := by obtain ⟨m, hm⟩ := k0; exact DataW.trod_lt m _ _ _ hm
  obtain ⟨x0, w0, l0, m0⟩ : ∃ xs : List (List UInt8), Parts W.heap.size W (.slice a0 len0 cap0) xs ∧ xs.length ≤ 140737488351232 ∧ xs.flatten.length ≤ Rows.uptoBulk d0 := by
    obtain ⟨fuel, hf⟩ := h0
    exact open_parts (v := .slice a0 len0 cap0) hf (fun n hn => by have := List.all_eq_true.1 hsz n (DataW.weights_mem_each (j := 0) (t := 28) rfl rfl n hn); simpa using this)
  clear hA0 hval0
  refine (walk W _ x0 w0 l0 (by omega)).mono fun e W' ⟨he, bel⟩ => ?_
  subst he
  exact ⟨_, rfl, _, _, _, [], _, [], hW', trodAll_mk1 (shut_bool Try.underlying4 _), (trodAll_cons_mk (Below.trod laidOut (by kernel_rfl) (of_decide_eq_true (by kernel_rfl)) k0 bel lt0) trodAll_mk0), rfl, bel.frame _, fun h => by cases h⟩

theorem over : Rows.CrcPartsUptoSaid :=
  OpenClaim.holds_of_cond 5 Try.f5 rfl rfl rfl rfl rfl rfl rfl ⟨rfl, rfl, rfl, rfl, rfl⟩ rfl rfl rfl rfl rfl (by kernel_rfl) Try.func5 (by kernel_rfl)
    (of_decide_eq_true (by kernel_rfl)) (by unfold Func.isWrapper; first | (rw [if_pos (by decide +kernel)]; kernel_rfl) | (rw [if_neg (by decide +kernel)]; exact ⟨rfl, rfl⟩))
    (fun os started H enc _ F => lifted os started H enc F)
end Go.Proofs.Ytflmeaekgkckjaa.crcParts
namespace Go.Proofs.Ytflmeaekgkckjaa
/-- The given statement. -/
theorem crcPartsUpto_holds : Rows.CrcPartsUptoSaid := crcParts.over
end Go.Proofs.Ytflmeaekgkckjaa
