/-
  CodecJoins returns true for every shape, list of fields and place: fields packed in two parts are those packed together, where both parts can be.
  Conditions: none; the statement is the given one, for every input.
-/
import Derived.Test.YtfnokdgfbhlccaaRows
import Derived.Test.YtfnokdgfbhlccaaL0
import Derived.Test.YtfnokdgfbhlccaaL1
import Derived.WalkKit
import Derived.ProofKit
import Derived.OpenShut
import Derived.ShutString
import Derived.ChangeOld
import Derived.Below
import Derived.SizedLaws
namespace Go.Proofs.Ytfnokdgfbhlccaa.codecJoins
open Go.ChangeShapes Go.WideShapes Go.ChangeAt Go.RowKit
open Go.ChangeMaps (open_string shut_string)
set_option linter.unusedVariables false
set_option linter.unusedSimpArgs false

theorem own : ownKnob Try.prog.godebug = none := by kernel_rfl
theorem laidOut : laidOutB Try.prog = true := by kernel_rfl

theorem errN_none {α : Type} : errN (none : Option α) = 21 := rfl
theorem errN_some {α : Type} (x : α) : errN (some x) = 0 := rfl

/-- In two parts, as the law asks. -/
theorem join_end (s : List UInt8) (fs : List Fld) (k : Nat) (hl : fs.length = s.length) (hk : k ≤ s.length) :
    ((pack (s.take k) (fs.take k) = none ∨ pack (s.drop k) (fs.drop k) = none ∨ 200 < fs.length) → pack s fs = none) ∧ (∀ x y, pack (s.take k) (fs.take k) = some x → pack (s.drop k) (fs.drop k) = some y → fs.length ≤ 200 → pack s fs = some (x ++ y)) := by
  by_cases h200 : s.length ≤ 200
  · have hj := pack_join s fs k hl hk h200
    refine ⟨?_, fun x y hx hy _ => by rw [hj, hx, hy]⟩
    rintro (h | h | h)
    · rw [hj, h]
    · rw [hj, h]
      cases pack (s.take k) (fs.take k) <;> rfl
    · omega
  · have h0 : pack s fs = none := by unfold pack; rw [if_neg (fun h => h200 h.1)]
    exact ⟨fun _ => h0, fun _ _ _ _ h => by omega⟩

set_option maxHeartbeats 3200000 in
set_option maxRecDepth 100000 in
/-- The law's own walk. -/
theorem walk (w : World) (a0 : ByteArray) (w0 : a0.size ≤ maxLen) (v1 : Value) (x1 : List Fld) (w1 : FieldsAt w.heap.size w v1 x1) (l1 : x1.length * 32 ≤ 140737488351232) (a2 : Int) (w2 : (Lit.int .i64 a2).wf = true) :
    Calls Try.prog 8 #[.string a0, v1, .int .i64 a2] w fun e w' => e = .returned (.bool true) ∧ Below w.heap.size w w' := by
  have hl1 : x1.length ≤ maxLen := by unfold maxLen; omega
  have hib := i64_of_wf w2
  obtain ⟨ao, cap, rfl, h1⟩ := w1
  have w1 : FieldsAt w.heap.size w (.slice ao x1.length cap) x1 := ⟨ao, cap, rfl, h1⟩
  clear h1
  go_enter Try.func8, Try.ntmps8
  go_wp2_with fail
  refine (c_alive _).mono ?_
  rintro e u1 ⟨rfl, hb1⟩
  by_cases hlen : a0.size = x1.length
  case neg =>
    have hd : ((a0.size : Int) != (x1.length : Int)) = true := by simp; omega
    go_wp2
    go_ret
    exact ⟨rfl, hb1⟩
  have hd : ((a0.size : Int) != (x1.length : Int)) = false := by simp; omega
  have hlen : Hid (a0.size = x1.length) := hlen
  by_cases hneg : a2 < 0
  · have hd0 : decide (a2 < 0) = true := decide_eq_true hneg
    go_wp2
    go_ret
    exact ⟨rfl, hb1⟩
  have hd0 : decide (a2 < 0) = false := decide_eq_false hneg
  obtain ⟨k, rfl⟩ : ∃ k : Nat, a2 = k := ⟨a2.toNat, by omega⟩
  by_cases hgt : x1.length < k
  · have hd1 : decide ((x1.length : Int) < (k : Int)) = true := decide_eq_true (by omega)
    go_wp2
    go_ret
    exact ⟨rfl, hb1⟩
  have hd1 : decide ((x1.length : Int) < (k : Int)) = false := decide_eq_false (by omega)
  have hj := join_end a0.data.toList x1 k (by rw [ba_len]; exact hlen.out.symm) (by rw [ba_len, hlen.out]; omega)
  have hj : Hid _ := hj
  obtain ⟨b1, hb1d, hb1m, hcut1⟩ := str_pre a0 k (by rw [hlen.out]; omega) w0
  obtain ⟨b2, hb2d, hb2m, hcut2⟩ := str_suf a0 k (by rw [hlen.out]; omega) w0
  obtain ⟨s1, hs1, hcut3⟩ := fld_pre w1 k (by omega)
  obtain ⟨s2, hs2, hcut4⟩ := fld_suf w1 k (by omega)
  have hb1d : Hid _ := hb1d
  have hb2d : Hid _ := hb2d
  have ht1 : (x1.take k).length ≤ x1.length := by rw [List.length_take]; omega
  have ht2 : (x1.drop k).length ≤ x1.length := by rw [List.length_drop]; omega
  go_wp2
  refine wp_region_ord [] 12 [(0, true), (1, true), (2, true), (3, true), (4, true), (5, true), (6, false), (7, false), (8, true), (9, true), (10, true), (11, true)] (fun _ => True) (by kernel_rfl) (by kernel_rfl) ?_
  refine ord_quietK _ ?_ rfl trivial ?_ ?_ (fun Kq hKq => ?_)
  rotate_left
  · rfl
  · intro w' _; go_simp; rfl
  simp only [Act.put, List.getElem_toArray, List.getElem_cons_succ, List.getElem_cons_zero, List.setIfInBounds_toArray, List.set_cons_succ, List.set_cons_zero]
  refine hKq _ _ ?_
  clear hKq Kq
  refine ord_quietK _ ?_ rfl trivial ?_ ?_ (fun Kq hKq => ?_)
  rotate_left
  · rfl
  · intro w' _; go_simp; rfl
  simp only [Act.put, List.getElem_toArray, List.getElem_cons_succ, List.getElem_cons_zero, List.setIfInBounds_toArray, List.set_cons_succ, List.set_cons_zero]
  refine hKq _ _ ?_
  clear hKq Kq
  refine ord_quietK _ ?_ rfl trivial ?_ ?_ (fun Kq hKq => ?_)
  rotate_left
  · rfl
  · intro w' _; go_simp; rfl
  simp only [Act.put, List.getElem_toArray, List.getElem_cons_succ, List.getElem_cons_zero, List.setIfInBounds_toArray, List.set_cons_succ, List.set_cons_zero]
  refine hKq _ _ ?_
  clear hKq Kq
  refine ord_quietK _ ?_ rfl trivial ?_ ?_ (fun Kq hKq => ?_)
  rotate_left
  · rfl
  · intro w' _; go_simp; rfl
  simp only [Act.put, List.getElem_toArray, List.getElem_cons_succ, List.getElem_cons_zero, List.setIfInBounds_toArray, List.set_cons_succ, List.set_cons_zero]
  refine hKq _ _ ?_
  clear hKq Kq
  refine ord_quietK _ ?_ rfl trivial ?_ ?_ (fun Kq hKq => ?_)
  rotate_left
  · rfl
  · intro w' _; go_simp; rfl
  simp only [Act.put, List.getElem_toArray, List.getElem_cons_succ, List.getElem_cons_zero, List.setIfInBounds_toArray, List.set_cons_succ, List.set_cons_zero]
  refine hKq _ _ ?_
  clear hKq Kq
  refine ord_quietK _ ?_ rfl trivial ?_ ?_ (fun Kq hKq => ?_)
  rotate_left
  · rfl
  · intro w' _; go_simp; rfl
  simp only [Act.put, List.getElem_toArray, List.getElem_cons_succ, List.getElem_cons_zero, List.setIfInBounds_toArray, List.set_cons_succ, List.set_cons_zero]
  refine hKq _ _ ?_
  clear hKq Kq
  refine ord_act _ rfl fun K1 hK1 => ?_
  simp only [List.getElem_toArray, List.getElem_cons_succ, List.getElem_cons_zero]
  go_wp2_with fail
  refine (c_copy _ s1 (x1.take k) _ ((hs1.keep hb1).keep ((Below.refl _ _).drew)) (by simpa using hb1.size) (by omega)).mono ?_
  rintro e u2 ⟨c2, rfl, hf2, hb2⟩
  have hB2 : Below w.heap.size w u2 := hb1.trans ((((Below.refl _ _).drew).trans (hb2.mono (by simp))).mono hb1.size)
  go_wp2
  refine hK1 _ _ trivial ?_
  clear hK1 K1
  refine ord_act _ rfl fun K1 hK1 => ?_
  simp only [List.getElem_toArray, List.getElem_cons_succ, List.getElem_cons_zero]
  go_wp2_with fail
  refine (c_packN b1 _ c2 (x1.take k) _ hb1m (by omega) hf2 (Nat.le_refl _)).mono ?_
  rintro e u3 ⟨v3, rfl, hv3, hb3⟩
  rw [hb1d.out] at hv3 ⊢
  have hB3 := below_cut hB2 hb3
  clear hb1 hb2 hb3 hf2 hB2
  go_wp2
  refine hK1 _ _ trivial ?_
  clear hK1 K1
  refine ord_quietK _ ?_ rfl trivial ?_ ?_ (fun Kq hKq => ?_)
  rotate_left
  · rfl
  · intro w' _; go_simp; rfl
  simp only [Act.put, List.getElem_toArray, List.getElem_cons_succ, List.getElem_cons_zero, List.setIfInBounds_toArray, List.set_cons_succ, List.set_cons_zero]
  refine hKq _ _ ?_
  clear hKq Kq
  refine ord_quietK _ ?_ rfl trivial ?_ ?_ (fun Kq hKq => ?_)
  rotate_left
  · rfl
  · intro w' _; go_simp; rfl
  simp only [Act.put, List.getElem_toArray, List.getElem_cons_succ, List.getElem_cons_zero, List.setIfInBounds_toArray, List.set_cons_succ, List.set_cons_zero]
  refine hKq _ _ ?_
  clear hKq Kq
  refine ord_quietK _ ?_ rfl trivial ?_ ?_ (fun Kq hKq => ?_)
  rotate_left
  · rfl
  · intro w' _; go_simp; rfl
  simp only [Act.put, List.getElem_toArray, List.getElem_cons_succ, List.getElem_cons_zero, List.setIfInBounds_toArray, List.set_cons_succ, List.set_cons_zero]
  refine hKq _ _ ?_
  clear hKq Kq
  refine ord_quietK _ ?_ rfl trivial ?_ ?_ (fun Kq hKq => ?_)
  rotate_left
  · rfl
  · intro w' _; go_simp; rfl
  simp only [Act.put, List.getElem_toArray, List.getElem_cons_succ, List.getElem_cons_zero, List.setIfInBounds_toArray, List.set_cons_succ, List.set_cons_zero]
  refine hKq _ _ ?_
  clear hKq Kq
  refine ord_tail ?_
  simp only [List.drop_succ_cons, List.drop_zero]
  go_wp2
  refine wp_region_ord [] 12 [(0, true), (1, true), (2, true), (3, true), (4, true), (5, true), (6, false), (7, false), (8, true), (9, true), (10, true), (11, true)] (fun _ => True) (by kernel_rfl) (by kernel_rfl) ?_
  refine ord_quietK _ ?_ rfl trivial ?_ ?_ (fun Kq hKq => ?_)
  rotate_left
  · rfl
  · intro w' _; go_simp; rfl
  simp only [Act.put, List.getElem_toArray, List.getElem_cons_succ, List.getElem_cons_zero, List.setIfInBounds_toArray, List.set_cons_succ, List.set_cons_zero]
  refine hKq _ _ ?_
  clear hKq Kq
  refine ord_quietK _ ?_ rfl trivial ?_ ?_ (fun Kq hKq => ?_)
  rotate_left
  · rfl
  · intro w' _; go_simp; rfl
  simp only [Act.put, List.getElem_toArray, List.getElem_cons_succ, List.getElem_cons_zero, List.setIfInBounds_toArray, List.set_cons_succ, List.set_cons_zero]
  refine hKq _ _ ?_
  clear hKq Kq
  refine ord_quietK _ ?_ rfl trivial ?_ ?_ (fun Kq hKq => ?_)
  rotate_left
  · rfl
  · intro w' _; go_simp; rfl
  simp only [Act.put, List.getElem_toArray, List.getElem_cons_succ, List.getElem_cons_zero, List.setIfInBounds_toArray, List.set_cons_succ, List.set_cons_zero]
  refine hKq _ _ ?_
  clear hKq Kq
  refine ord_quietK _ ?_ rfl trivial ?_ ?_ (fun Kq hKq => ?_)
  rotate_left
  · rfl
  · intro w' _; go_simp; rfl
  simp only [Act.put, List.getElem_toArray, List.getElem_cons_succ, List.getElem_cons_zero, List.setIfInBounds_toArray, List.set_cons_succ, List.set_cons_zero]
  refine hKq _ _ ?_
  clear hKq Kq
  refine ord_quietK _ ?_ rfl trivial ?_ ?_ (fun Kq hKq => ?_)
  rotate_left
  · rfl
  · intro w' _; go_simp; rfl
  simp only [Act.put, List.getElem_toArray, List.getElem_cons_succ, List.getElem_cons_zero, List.setIfInBounds_toArray, List.set_cons_succ, List.set_cons_zero]
  refine hKq _ _ ?_
  clear hKq Kq
  refine ord_quietK _ ?_ rfl trivial ?_ ?_ (fun Kq hKq => ?_)
  rotate_left
  · rfl
  · intro w' _; go_simp; rfl
  simp only [Act.put, List.getElem_toArray, List.getElem_cons_succ, List.getElem_cons_zero, List.setIfInBounds_toArray, List.set_cons_succ, List.set_cons_zero]
  refine hKq _ _ ?_
  clear hKq Kq
  refine ord_act _ rfl fun K1 hK1 => ?_
  simp only [List.getElem_toArray, List.getElem_cons_succ, List.getElem_cons_zero]
  go_wp2_with fail
  refine (c_copy _ s2 (x1.drop k) _ ((hs2.keep hB3).keep ((Below.refl _ _).drew)) (by simpa using hB3.size) (by omega)).mono ?_
  rintro e u4 ⟨c4, rfl, hf4, hb4⟩
  have hb4' : Below u3.heap.size u3 u4 := ((Below.refl _ _).drew).trans (hb4.mono (by simp))
  go_wp2
  refine hK1 _ _ trivial ?_
  clear hK1 K1
  refine ord_act _ rfl fun K1 hK1 => ?_
  simp only [List.getElem_toArray, List.getElem_cons_succ, List.getElem_cons_zero]
  go_wp2_with fail
  refine (c_packN b2 _ c4 (x1.drop k) _ hb2m (by omega) hf4 (Nat.le_refl _)).mono ?_
  rintro e u5 ⟨v5, rfl, hv5, hb5⟩
  rw [hb2d.out] at hv5 ⊢
  have hb35 := below_cut hb4' hb5
  have hB5 := below_cut hB3 hb35
  have hv3 := hv3.keep hb35
  clear hb4 hb4' hb5 hf4
  go_wp2
  refine hK1 _ _ trivial ?_
  clear hK1 K1
  refine ord_quietK _ ?_ rfl trivial ?_ ?_ (fun Kq hKq => ?_)
  rotate_left
  · rfl
  · intro w' _; go_simp; rfl
  simp only [Act.put, List.getElem_toArray, List.getElem_cons_succ, List.getElem_cons_zero, List.setIfInBounds_toArray, List.set_cons_succ, List.set_cons_zero]
  refine hKq _ _ ?_
  clear hKq Kq
  refine ord_quietK _ ?_ rfl trivial ?_ ?_ (fun Kq hKq => ?_)
  rotate_left
  · rfl
  · intro w' _; go_simp; rfl
  simp only [Act.put, List.getElem_toArray, List.getElem_cons_succ, List.getElem_cons_zero, List.setIfInBounds_toArray, List.set_cons_succ, List.set_cons_zero]
  refine hKq _ _ ?_
  clear hKq Kq
  refine ord_quietK _ ?_ rfl trivial ?_ ?_ (fun Kq hKq => ?_)
  rotate_left
  · rfl
  · intro w' _; go_simp; rfl
  simp only [Act.put, List.getElem_toArray, List.getElem_cons_succ, List.getElem_cons_zero, List.setIfInBounds_toArray, List.set_cons_succ, List.set_cons_zero]
  refine hKq _ _ ?_
  clear hKq Kq
  refine ord_quietK _ ?_ rfl trivial ?_ ?_ (fun Kq hKq => ?_)
  rotate_left
  · rfl
  · intro w' _; go_simp; rfl
  simp only [Act.put, List.getElem_toArray, List.getElem_cons_succ, List.getElem_cons_zero, List.setIfInBounds_toArray, List.set_cons_succ, List.set_cons_zero]
  refine hKq _ _ ?_
  clear hKq Kq
  refine ord_tail ?_
  simp only [List.drop_succ_cons, List.drop_zero]
  go_wp2_with fail
  refine (c_copy _ _ x1 _ (w1.keep hB5) hB5.size (by omega)).mono ?_
  rintro e u6 ⟨c6, rfl, hf6, hb6⟩
  go_wp2_with fail
  refine (c_packN a0 _ c6 x1 _ w0 hl1 hf6 (Nat.le_refl _)).mono ?_
  rintro e u7 ⟨v7, rfl, hv7, hb7⟩
  have hb57 := below_cut hb6 hb7
  have hB7 : Hid _ := below_cut hB5 hb57
  have hcv3 := run_string_sl 22 5 9 Try.underlying22 Try.underlying5 Try.underlying9 (hv3.keep (hb57.mono hb35.size))
  have hcv5 := run_string_sl 22 5 9 Try.underlying22 Try.underlying5 Try.underlying9 (hv5.keep hb57)
  have hcv7 := run_string_sl 22 5 9 Try.underlying22 Try.underlying5 Try.underlying9 hv7
  have hp1 : ∀ x, pack (a0.data.toList.take k) (x1.take k) = some x → x.length ≤ 205200 := fun _ h => pack_length h
  have hp2 : ∀ x, pack (a0.data.toList.drop k) (x1.drop k) = some x → x.length ≤ 205200 := fun _ h => pack_length h
  have hj := hj.out
  clear hb6 hb7 hf6 hb57 hb35 hv3 hv5 hv7 hB5 hB3 hcut1 hcut2 hcut3 hcut4 hs1 hs2 w1 hb1d hb2d
  generalize pack (a0.data.toList.take k) (x1.take k) = o1 at *
  generalize pack (a0.data.toList.drop k) (x1.drop k) = o2 at *
  generalize pack a0.data.toList x1 = o3 at *
  by_cases hbad : o1 = none ∨ o2 = none ∨ 200 < x1.length
  · obtain rfl := hj.1 hbad
    clear hj hp1 hp2
    rcases o1 with _ | x
    · simp only [errN_none]
      go_wp2
      go_ret
      exact ⟨rfl, hB7.out⟩
    rcases o2 with _ | y
    · simp only [errN_none, errN_some]
      go_wp2
      go_ret
      exact ⟨rfl, hB7.out⟩
    have h200 : decide (200 < (x1.length : Int)) = true := by simp at hbad; exact decide_eq_true (by omega)
    simp only [errN_none, errN_some]
    go_wp2
    go_ret
    exact ⟨rfl, hB7.out⟩
  · rcases o1 with _ | x
    · simp at hbad
    rcases o2 with _ | y
    · simp at hbad
    have h2 : x1.length ≤ 200 := by simp at hbad; omega
    have h200 : decide (200 < (x1.length : Int)) = false := decide_eq_false (by omega)
    obtain rfl := hj.2 x y rfl rfl h2
    have hx := hp1 x rfl
    have hy := hp2 y rfl
    clear hj hp1 hp2 hbad
    have hadd : ∀ w, (Op.stringOp .add ⟨x.toArray⟩ ⟨y.toArray⟩).run Try.prog w = .ok (.string ⟨(x ++ y).toArray⟩) w := fun w => run_string_add_lists w x y (by omega) (by omega)
    simp only [errN_some, Option.getD_some] at *
    go_wp2
    go_ret
    exact ⟨rfl, hB7.out⟩

set_option maxRecDepth 100000 in
theorem lifted (os : Os) (started : os.Started) (H : Type) (enc : TypeId × Value → H) :
    ReturnsInHanded {} Try.checked os 8 .any (Rows.codecJoinsSpec.pre6 enc Try.prog Try.f8 Rows.codecJoinsRow.domain false) (Rows.codecJoinsSpec.post enc Try.prog Try.f8 false true false false) := by
  refine returnsInHanded_of_change_sized (C := Try.checked) own started (by kernel_rfl) Try.func8
    (ChangeSpec.witness6 (enc := enc) (C := Try.checked) false ⟨#[], #[.string ByteArray.empty, .slice none 0 0, .int .i64 0], []⟩ 8 (by kernel_rfl) (by kernel_rfl) (by kernel_rfl) (by kernel_rfl)) ?_
  intro W base args ds gs before hval0 hW hcnd hsz0 _
  have hval : ∀ (j : Nat) t v, Try.f8.params[j]? = some t → args[j]? = some v → Value.okWide Try.prog W .any base t v := hval0
  have hsz : (DataW.weightsEach Try.prog (Try.f8.params.toList ++ Rows.codecJoinsSpec.plain.varTypes Try.prog) (ds ++ gs)).all (· ≤ reachBytes) = true := hsz0
  have hW' := hW
  obtain ⟨p, q, hA0, hV, rfl, hfz, hnd⟩ := hW
  have hA : DataW.TrodAll enc Try.prog W 0 (fun _ => true) true Try.f8.params.toList args.toList ds p := hA0
  rw [Try.params8] at hA hval hsz
  obtain ⟨v0, vs0, d0, ds0, p0, q0, hargs, rfl, rfl, h0, r0⟩ := trodAll_cons hA
  obtain ⟨v1, vs1, d1, ds1, p1, q1, rfl, rfl, rfl, h1, r1⟩ := trodAll_cons r0
  obtain ⟨v2, vs2, d2, ds2, p2, q2, rfl, rfl, rfl, h2, r2⟩ := trodAll_cons r1
  obtain ⟨rfl, rfl, rfl⟩ := trodAll_nil r2
  obtain rfl : args = #[v0, v1, v2] := by cases args; simp_all
  obtain ⟨rfl, rfl⟩ := trodVars_none hV
  obtain ⟨a0, rfl, rfl, rfl, w0⟩ := open_string Try.underlying9 (hval 0 9 v0 rfl rfl) h0
  obtain ⟨a1, len1, cap1, rfl⟩ := okWide_slice Try.underlying26 (hval 1 26 v1 rfl rfl)
  have k1 := h1
  have lt1 : ∀ x ∈ p1, x.block < W.heap.size := by obtain ⟨m, hm⟩ := k1; exact DataW.trod_lt m _ _ _ hm
  obtain ⟨x1, w1, l1⟩ : ∃ xs : List Fld, FieldsAt W.heap.size W (.slice a1 len1 cap1) xs ∧ xs.length * 32 ≤ 140737488351232 := by
    obtain ⟨fuel, hf⟩ := h1
    exact open_fields (v := .slice a1 len1 cap1) hf (fun n hn => by have := List.all_eq_true.1 hsz n (DataW.weights_mem_each (j := 1) (t := 26) rfl rfl n hn); simpa using this)
  obtain ⟨a2, rfl, rfl, rfl, w2⟩ := open_int Try.underlying3 (hval 2 3 v2 rfl rfl) h2
  clear hA0 hval0
  refine (walk W a0 w0 _ x1 w1 l1 a2 w2).mono fun e W' ⟨he, bel⟩ => ?_
  subst he
  exact ⟨_, rfl, _, _, _, [], _, [], hW', trodAll_mk1 (shut_bool Try.underlying4 _), (trodAll_cons_mk (shut_string Try.underlying9 w0) (trodAll_cons_mk (Below.trod laidOut (by kernel_rfl) (of_decide_eq_true (by kernel_rfl)) k1 bel lt1) (trodAll_cons_mk (shut_int Try.underlying3 w2) trodAll_mk0))), rfl, bel.frame _, fun h => by cases h⟩

theorem over : Rows.codecJoinsRow.holds Try.pinned (OpenSpec.ofChange Rows.codecJoinsSpec) :=
  OpenClaim.holds_of_wide 8 Try.f8 rfl rfl rfl rfl rfl rfl rfl ⟨rfl, rfl, rfl, rfl, rfl⟩ rfl rfl rfl rfl rfl (by kernel_rfl) Try.func8 (by kernel_rfl)
    (of_decide_eq_true (by kernel_rfl)) (by unfold Func.isWrapper; first | (rw [if_pos (by decide +kernel)]; kernel_rfl) | (rw [if_neg (by decide +kernel)]; exact ⟨rfl, rfl⟩))
    (fun os started H enc _ => lifted os started H enc)
end Go.Proofs.Ytfnokdgfbhlccaa.codecJoins
namespace Go.Proofs.Ytfnokdgfbhlccaa
/-- The given statement. -/
theorem codecJoins_holds : Rows.CodecJoinsSaid := codecJoins.over
end Go.Proofs.Ytfnokdgfbhlccaa
