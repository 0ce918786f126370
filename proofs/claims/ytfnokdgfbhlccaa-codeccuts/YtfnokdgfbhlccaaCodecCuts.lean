/-
  CodecCuts returns true for every shape, list of fields and cut: what was packed is refused when it is cut off anywhere or has more behind.
  Conditions: none; the statement is the given one, for every input.
-/
import Derived.Test.YtfnokdgfbhlccaaRows
import Derived.Test.YtfnokdgfbhlccaaL0
import Derived.WalkKit
import Derived.ProofKit
import Derived.OpenShut
import Derived.ShutString
import Derived.ChangeOld
import Derived.Below
import Derived.SizedLaws
namespace Go.Proofs.Ytfnokdgfbhlccaa.codecCuts
open Go.ChangeShapes Go.WideShapes Go.ChangeAt Go.RowKit
open Go.ChangeMaps (open_string shut_string)
set_option linter.unusedVariables false
set_option linter.unusedSimpArgs false

theorem own : ownKnob Try.prog.godebug = none := by kernel_rfl
theorem laidOut : laidOutB Try.prog = true := by kernel_rfl

/-- The end: what was packed, with more behind, and cut off. -/
theorem less_end {s : List UInt8} {fs : List Fld} {y : List UInt8} (h : pack s fs = some y) : errN (unpack s (y ++ [0])) = 21 ∧ ∀ k, k < y.length → errN (unpack s (y.take k)) = 21 := by
  refine ⟨by rw [unpack_more h]; rfl, fun k hk => by rw [unpack_less h k hk]; rfl⟩

set_option maxHeartbeats 3200000 in
/-- The law's own walk. -/
theorem walk (w : World) (a0 : ByteArray) (w0 : a0.size ≤ maxLen) (v1 : Value) (x1 : List Fld) (w1 : FieldsAt w.heap.size w v1 x1) (l1 : x1.length * 32 ≤ 140737488351232) (a2 : Int) (w2 : (Lit.int .i64 a2).wf = true) :
    Calls Try.prog 7 #[.string a0, v1, .int .i64 a2] w fun e w' => e = .returned (.bool true) ∧ Below w.heap.size w w' := by
  have hl1 : x1.length ≤ maxLen := by unfold maxLen; omega
  obtain ⟨i0, hi, hz0, hz1, hz2⟩ := info_parts Try.info5
  have hib := i64_of_wf w2
  go_enter Try.func7, Try.ntmps7
  go_wp2_with fail
  refine (c_alive _).mono ?_
  rintro e u1 ⟨rfl, hb1⟩
  go_wp2_with fail
  refine (c_copy _ v1 x1 _ (w1.keep hb1) hb1.size (by omega)).mono ?_
  rintro e u2 ⟨c1, rfl, hf2, hb2⟩
  go_wp2_with fail
  refine (c_pack a0 _ c1 x1 _ w0 hl1 hf2 (Nat.le_refl _)).mono ?_
  rintro e u3 ⟨hb3, h3⟩
  have hB3 := below_cut (below_cut hb1 hb2) hb3
  clear hb1 hb2 hb3 hf2
  rcases h3 with ⟨ys, v3, hy, rfl, hs3⟩ | ⟨hy, rfl⟩
  case inr =>
    clear hy
    go_wp2
    go_ret
    exact ⟨rfl, hB3⟩
  obtain ⟨hend1, hend2⟩ := less_end hy
  have hyl := pack_length hy
  clear hy
  have hend1 : Hid (errN (unpack a0.data.toList (ys ++ [0])) = 21) := hend1
  have hend2 : Hid (∀ k, k < ys.length → errN (unpack a0.data.toList (ys.take k)) = 21) := hend2
  by_cases hneg : a2 < 0
  · have hd : decide (a2 < 0) = true := decide_eq_true hneg
    go_wp2
    go_ret
    exact ⟨rfl, hB3⟩
  have hd : decide (a2 < 0) = false := decide_eq_false hneg
  obtain ⟨k, rfl⟩ : ∃ k : Nat, a2 = k := ⟨a2.toNat, by omega⟩
  have HB : Hid (Below w.heap.size w u3) := hB3
  clear hB3
  obtain ⟨ao, cap, rfl⟩ := sl_form hs3
  have hlit := World.ownsRow_lit (base := u3.heap.size) (e := 5) (size := 1) u3 #[] 0 (Nat.le_refl _) (by decide) rfl
  have hs3a := hs3.keep ((Below.refl u3.heap.size u3).alloc (Nat.le_refl _) (.cells #[] 5))
  go_wp2_with (at_builtin; refine wpList_append_sl _ rfl (.tmp 30) (.tmp 31) 22 rfl u3.heap.size 5 i0 (.int .u8 0) 1 1 Try.underlying22 hi hz0 hz1 hz2 rfl (by decide) _ 0 [] rfl hlit u3.heap.size _ ys.length (ys.map bv) rfl hs3a (by simp) (bv_oneCell _) ?c1 ?c2 ?c3 ?_)
  case c1 => unfold maxLen; omega
  case c2 => omega
  case c3 => simp
  intro c4 u4 hown4 hgrow4 _
  have hb4 : Below u3.heap.size u3 u4 := ((Below.refl _ _).alloc (Nat.le_refl _) _).grown hgrow4 (by simp) (by intro k hk; simp [Value.ownBlock] at hk; omega)
  have hown4 : u4.ownsRow u3.heap.size 5 1 c4 ys.length (ys.map bv) := by simpa using hown4
  have hz4 := hb4.size
  clear hgrow4 hlit hs3a
  go_wp2_with (at_builtin; refine wpList_append_sl _ rfl (.tmp 32) (.tmp 33) 22 rfl u3.heap.size 5 i0 (.int .u8 0) 1 1 Try.underlying22 hi hz0 hz1 hz2 rfl (by decide) _ _ _ rfl (hown4.alloc _) _ _ 1 _ rfl (sl_lit u4 _ 5 1 (by omega)) rfl ?d0 ?d1 ?d2 ?d3 ?_)
  case d0 => first | rfl | (intro u hu; simp at hu; subst hu; rfl)
  case d1 => unfold maxLen; omega
  case d2 => omega
  case d3 => first | omega | (simp; omega)
  intro c5 u5 hown5 hgrow5 _
  have hb5 : Below u3.heap.size u3 u5 := (hb4.alloc (by omega) _).grown hgrow5 (by simp; omega) (owns_ge hown4)
  have hs5 : Sl u5.heap.size u5 c5 (ys ++ [0]).length ((ys ++ [0]).map bv) := sl_of_owns (show u5.ownsRow u3.heap.size 5 1 c5 (ys ++ [0]).length ((ys ++ [0]).map bv) from by simpa [bv] using hown5)
  clear hown5 hgrow5 hown4 hb4
  go_wp2_with fail
  refine (c_unpackN a0 _ c5 (ys ++ [0]) _ w0 hs5 (Nat.le_refl _)).mono ?_
  rintro e u6 ⟨v6, rfl, _, hb6⟩
  rw [hend1.out]
  have hB6 := below_cut hb5 hb6
  by_cases hge : ys.length ≤ k
  · have hd2 : decide ((ys.length : Int) ≤ (k : Int)) = true := decide_eq_true (by omega)
    clear hs5 hb5 hb6 hs3
    go_wp2
    go_ret
    exact ⟨rfl, below_cut HB.out hB6⟩
  have hd2 : decide ((ys.length : Int) ≤ (k : Int)) = false := decide_eq_false (by omega)
  have hkc : k ≤ cap := by
    obtain ⟨_, _, hv, hc, _⟩ := hs3
    simp only [Value.slice.injEq, true_and] at hv
    obtain ⟨_, rfl⟩ := hv
    omega
  have hs6 := (sl_take hs3 k (by omega)).keep hB6
  have hlit := World.ownsRow_lit (base := u6.heap.size) (e := 5) (size := 1) u6 #[] 0 (Nat.le_refl _) (by decide) rfl
  have hs6a := hs6.keep ((Below.refl u3.heap.size u6).alloc hB6.size (.cells #[] 5))
  have hB6' : Hid (Below u3.heap.size u3 u6) := hB6
  have hkl : (ys.take k).length = k := by rw [List.length_take]; omega
  clear hs5 hb5 hb6 hs3 hs6 hB6
  go_wp2_with (at_builtin; refine wpList_append_sl _ rfl (.tmp 46) (.tmp 49) 22 rfl u6.heap.size 5 i0 (.int .u8 0) 1 1 Try.underlying22 hi hz0 hz1 hz2 rfl (by decide) _ 0 [] rfl hlit u3.heap.size _ k ((ys.take k).map bv) rfl hs6a (by rw [List.length_map, hkl, Nat.mul_one]) (bv_oneCell _) ?f1 ?f2 ?f3 ?_)
  case f1 => unfold maxLen; omega
  case f2 => omega
  case f3 => simp
  intro c7 u7 hown7 hgrow7 _
  have hb7 : Below u6.heap.size u6 u7 := ((Below.refl _ _).alloc (Nat.le_refl _) _).grown hgrow7 (by simp) (by intro k hk; simp [Value.ownBlock] at hk; omega)
  have hs7 : Sl u7.heap.size u7 c7 (ys.take k).length ((ys.take k).map bv) := sl_of_owns (show u7.ownsRow u6.heap.size 5 1 c7 (ys.take k).length ((ys.take k).map bv) from by rw [hkl]; simpa using hown7)
  clear hown7 hgrow7 hlit hs6a
  go_wp2_with fail
  refine (c_unpackN a0 _ c7 (ys.take k) _ w0 hs7 (Nat.le_refl _)).mono ?_
  rintro e u8 ⟨v8, rfl, _, hb8⟩
  rw [hend2.out k (by omega)]
  have hB8 := below_cut (below_cut (below_cut HB.out hB6'.out) hb7) hb8
  clear hs7 hb7 hb8
  go_wp2
  go_ret
  exact ⟨rfl, hB8⟩

set_option maxRecDepth 100000 in
theorem lifted (os : Os) (started : os.Started) (H : Type) (enc : TypeId × Value → H) :
    ReturnsInHanded {} Try.checked os 7 .any (Rows.codecCutsSpec.pre6 enc Try.prog Try.f7 Rows.codecCutsRow.domain false) (Rows.codecCutsSpec.post enc Try.prog Try.f7 false true false false) := by
  refine returnsInHanded_of_change_sized (C := Try.checked) own started (by kernel_rfl) Try.func7
    (ChangeSpec.witness6 (enc := enc) (C := Try.checked) false ⟨#[], #[.string ByteArray.empty, .slice none 0 0, .int .i64 0], []⟩ 8 (by kernel_rfl) (by kernel_rfl) (by kernel_rfl) (by kernel_rfl)) ?_
  intro W base args ds gs before hval0 hW hcnd hsz0 _
  have hval : ∀ (j : Nat) t v, Try.f7.params[j]? = some t → args[j]? = some v → Value.okWide Try.prog W .any base t v := hval0
  have hsz : (DataW.weightsEach Try.prog (Try.f7.params.toList ++ Rows.codecCutsSpec.plain.varTypes Try.prog) (ds ++ gs)).all (· ≤ reachBytes) = true := hsz0
  have hW' := hW
  obtain ⟨p, q, hA0, hV, rfl, hfz, hnd⟩ := hW
  have hA : DataW.TrodAll enc Try.prog W 0 (fun _ => true) true Try.f7.params.toList args.toList ds p := hA0
  rw [Try.params7] at hA hval hsz
  obtain ⟨v0, vs0, d0, ds0, p0, q0, hargs, rfl, rfl, h0, r0⟩ := trodAll_cons hA
  obtain ⟨v1, vs1, d1, ds1, p1, q1, rfl, rfl, rfl, h1, r1⟩ := trodAll_cons r0
  obtain ⟨v2, vs2, d2, ds2, p2, q2, rfl, rfl, rfl, h2, r2⟩ := trodAll_cons r1
  obtain ⟨rfl, rfl, rfl⟩ := trodAll_nil r2
  obtain rfl : args = #[v0, v1, v2] := by cases args; simp_all
  obtain ⟨rfl, rfl⟩ := trodVars_none hV
  obtain ⟨a0, rfl, rfl, rfl, w0⟩ := open_string Try.underlying9 (hval 0 9 v0 rfl rfl) h0
  obtain ⟨a1, len1, cap1, rfl⟩ := okWide_slice Try.underlying26 (hval 1 26 v1 rfl rfl)
  have k1 := h1
  have lt1 : ∀ x ∈ p1, x.block < W.heap.size := by obtain ⟨m, hm⟩ := k1; exact DataW.trod_lt m _ _ _ hm
  obtain ⟨x1, w1, l1⟩ : ∃ xs : List Fld, FieldsAt W.heap.size W (.slice a1 len1 cap1) xs ∧ xs.length * 32 ≤ 140737488351232 := by
    obtain ⟨fuel, hf⟩ := h1
    exact open_fields (v := .slice a1 len1 cap1) hf (fun n hn => by have := List.all_eq_true.1 hsz n (DataW.weights_mem_each (j := 1) (t := 26) rfl rfl n hn); simpa using this)
  obtain ⟨a2, rfl, rfl, rfl, w2⟩ := open_int Try.underlying3 (hval 2 3 v2 rfl rfl) h2
  clear hA0 hval0
  refine (walk W a0 w0 _ x1 w1 l1 a2 w2).mono fun e W' ⟨he, bel⟩ => ?_
  subst he
  exact ⟨_, rfl, _, _, _, [], _, [], hW', trodAll_mk1 (shut_bool Try.underlying4 _), (trodAll_cons_mk (shut_string Try.underlying9 w0) (trodAll_cons_mk (Below.trod laidOut (by kernel_rfl) (of_decide_eq_true (by kernel_rfl)) k1 bel lt1) (trodAll_cons_mk (shut_int Try.underlying3 w2) trodAll_mk0))), rfl, bel.frame _, fun h => by cases h⟩

theorem over : Rows.codecCutsRow.holds Try.pinned (OpenSpec.ofChange Rows.codecCutsSpec) :=
  OpenClaim.holds_of_wide 7 Try.f7 rfl rfl rfl rfl rfl rfl rfl ⟨rfl, rfl, rfl, rfl, rfl⟩ rfl rfl rfl rfl rfl (by kernel_rfl) Try.func7 (by kernel_rfl)
    (of_decide_eq_true (by kernel_rfl)) (by unfold Func.isWrapper; first | (rw [if_pos (by decide +kernel)]; kernel_rfl) | (rw [if_neg (by decide +kernel)]; exact ⟨rfl, rfl⟩))
    (fun os started H enc _ => lifted os started H enc)
end Go.Proofs.Ytfnokdgfbhlccaa.codecCuts
namespace Go.Proofs.Ytfnokdgfbhlccaa
/-- The given statement. -/
theorem codecCuts_holds : Rows.CodecCutsSaid := codecCuts.over
end Go.Proofs.Ytfnokdgfbhlccaa
