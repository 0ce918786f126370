/-
  CrcFinds returns true for all bytes, every place and every change: bytes of which one is another one have another sum.
  Conditions: none; the statement is the given one, for every input.
-/
import Derived.Test.YtflmeaekgkckjaaRows
import Derived.Test.YtflmeaekgkckjaaL1
import Derived.WalkKit
import Derived.ProofKit
import Derived.OpenShut
import Derived.ShutString
import Derived.ChangeOld
import Derived.Below
import Derived.SizedLaws
namespace Go.Proofs.Ytflmeaekgkckjaa.crcFinds
open Go.ChangeShapes Go.WideShapes Go.ChangeAt Go.RowKit
open Go.ChangeMaps (open_string shut_string)
set_option linter.unusedVariables false
set_option linter.unusedSimpArgs false

theorem own : ownKnob Try.prog.godebug = none := by kernel_rfl
theorem laidOut : laidOutB Try.prog = true := by kernel_rfl

set_option maxHeartbeats 1600000 in
/-- The law's own walk. -/
theorem walk (w : World) (v0 : Value) (x0 : List UInt8) (w0 : Sl w.heap.size w v0 x0.length (x0.map bv)) (l0 : x0.length ≤ 140737488351232) (a1 : Int) (w1 : (Lit.int .i64 a1).wf = true) (a2 : Int) (w2 : (Lit.int .u8 a2).wf = true) :
    Calls Try.prog 6 #[v0, .int .i64 a1, .int .u8 a2] w fun e w' => e = .returned (.bool true) ∧ Below w.heap.size w w' := by
  obtain ⟨i0, hi, hz0, hz1, hz2⟩ := info_parts Try.info5
  have hib := i64_of_wf w1
  have hc2 := u8_of_wf w2
  generalize UInt8.ofNat a2.toNat = ch at hc2
  subst hc2
  clear w1 w2
  go_enter Try.func6, Try.ntmps6
  go_wp2_with fail
  refine (c_names _).mono ?_
  rintro e u1 ⟨rfl, hb1⟩
  have hs1 := w0.keep hb1
  have HB : Hid (Below w.heap.size w u1) := hb1
  have HZ : Hid (w.heap.size ≤ u1.heap.size) := hb1.size
  clear hb1 w0
  obtain ⟨vo, vc, rfl⟩ := sl_form hs1
  by_cases hneg : a1 < 0
  · have hd : decide (a1 < 0) = true := decide_eq_true hneg
    go_wp2
    go_ret
    exact ⟨rfl, HB.out⟩
  have hd : decide (a1 < 0) = false := decide_eq_false hneg
  obtain ⟨k, rfl⟩ : ∃ k : Nat, a1 = k := ⟨a1.toNat, by omega⟩
  by_cases hge : x0.length ≤ k
  · have hd2 : decide ((x0.length : Int) ≤ (k : Int)) = true := decide_eq_true (by omega)
    go_wp2
    go_ret
    exact ⟨rfl, HB.out⟩
  have hd2 : decide ((x0.length : Int) ≤ (k : Int)) = false := decide_eq_false (by omega)
  by_cases hch : ch = 0
  · subst hch
    go_wp2
    go_ret
    exact ⟨rfl, HB.out⟩
  have hch2 : (((ch.toNat : Int)) == 0) = false := by
    rw [beq_eq_false_iff_ne]
    intro e
    exact hch (UInt8.toNat_inj.1 (by simpa using e))
  by_cases hbig : 5000 < x0.length
  · have hd3 : decide (5000 < (x0.length : Int)) = true := decide_eq_true (by omega)
    go_wp2
    go_ret
    exact ⟨rfl, HB.out⟩
  have hd3 : decide (5000 < (x0.length : Int)) = false := decide_eq_false (by omega)
  have hkl : k < x0.length := by omega
  have hlit := World.ownsRow_lit (base := u1.heap.size) (e := 5) (size := 1) u1 #[] 0 (Nat.le_refl _) (by decide) rfl
  have hs1a := hs1.keep ((Below.refl _ u1).alloc HZ.out (.cells #[] 5))
  have HS : Hid (Sl w.heap.size u1 (.slice vo x0.length vc) x0.length (x0.map bv)) := hs1
  clear hs1
  go_wp2_with (at_builtin; refine wpList_append_sl _ rfl _ _ 24 rfl u1.heap.size 5 i0 (.int .u8 0) 1 1 Try.underlying24 hi hz0 hz1 hz2 rfl (by decide) _ 0 [] rfl hlit w.heap.size _ x0.length (x0.map bv) rfl hs1a (by simp) (bv_oneCell _) ?c1 ?c2 ?c3 ?_)
  case c1 => unfold maxLen; omega
  case c2 => omega
  case c3 => simp
  intro c4 u2 hown2 hgrow2 _
  have hb2 : Below u1.heap.size u1 u2 := ((Below.refl _ _).alloc (Nat.le_refl _) _).grown hgrow2 (by simp) (by intro k hk; simp [Value.ownBlock] at hk; omega)
  have hown2 : u2.ownsRow u1.heap.size 5 1 c4 x0.length (x0.map bv) := by simpa using hown2
  obtain ⟨g, cap, rfl, hgb, hgl⟩ := owns_some hown2 (by omega)
  have hcl : u2.cell? ⟨g, k, none⟩ = some (.int .u8 (x0[k].toNat : Int)) := by
    rw [hown2.cellAt k (by omega), List.getElem?_map, List.getElem?_eq_getElem hkl]; rfl
  have hfz := hown2.frozenAt k
  have hx := bits_xor_u8 x0[k] ch
  have HN : Hid (crcAdd 0#32 (x0.set k (x0[k] ^^^ ch)) ≠ crcAdd 0#32 x0) := crcAdd_set 0#32 x0 k hkl _ (xor_ne _ _ hch)
  have hsn : Sl u2.heap.size (u2.setCell ⟨g, k, none⟩ (bv (x0[k] ^^^ ch))) (.slice (some ⟨g, 0, none⟩) x0.length cap) (x0.set k (x0[k] ^^^ ch)).length ((x0.set k (x0[k] ^^^ ch)).map bv) := by
    rw [List.length_set]; exact sl_set hown2 rfl hgl k hkl _
  have hbn : Below u1.heap.size u1 (u2.setCell ⟨g, k, none⟩ (bv (x0[k] ^^^ ch))) := hb2.setCell hgb _
  have HBN : Hid (Below u1.heap.size u1 (u2.setCell ⟨g, k, none⟩ (.int .u8 ((x0[k] ^^^ ch).toNat : Int)))) := hbn
  have HSN : Hid (Sl u2.heap.size (u2.setCell ⟨g, k, none⟩ (.int .u8 ((x0[k] ^^^ ch).toNat : Int))) (.slice (some ⟨g, 0, none⟩) x0.length cap) (x0.set k (x0[k] ^^^ ch)).length ((x0.set k (x0[k] ^^^ ch)).map bv)) := hsn
  have HLN : Hid ((x0.set k (x0[k] ^^^ ch)).length = x0.length) := List.length_set
  generalize (x0[k] ^^^ ch).toNat = z at hx HBN HSN
  generalize x0.set k (x0[k] ^^^ ch) = y0 at *
  clear hown2 hgrow2 hb2 hlit hs1a hsn hbn
  go_wp2_with fail
  have hz3 : (u2.setCell ⟨g, k, none⟩ (.int .u8 (z : Int))).heap.size = u2.heap.size := by simp
  refine (c_sum _ _ [y0] _ (parts_one 24 (K := u2.heap.size) (n := u2.heap.size) HSN.out (by omega) (by have := HLN.out; omega) hz3) (by simp)).mono ?_
  rintro e u3 ⟨rfl, rfl⟩
  have hb3 := HBN.out.alloc HBN.out.size (.cells #[.slice (some ⟨g, 0, none⟩) x0.length cap] 24)
  generalize (u2.setCell ⟨g, k, none⟩ (.int .u8 (z : Int))).alloc (.cells #[.slice (some ⟨g, 0, none⟩) x0.length cap] 24) = u3 at hb3 ⊢
  have hB3 := below_cut HB.out hb3
  have hs3 := HS.out.keep (hb3.mono HZ.out)
  have hlit := World.ownsRow_lit (base := u3.heap.size) (e := 5) (size := 1) u3 #[] 0 (Nat.le_refl _) (by decide) rfl
  have hs3a := hs3.keep ((Below.refl _ u3).alloc hB3.size (.cells #[] 5))
  have HB3 : Hid (Below w.heap.size w u3) := hB3
  rw [crcSum_one]
  clear hb3 hs3 hB3 hcl hfz hx HBN HSN hz3
  go_wp2_with (at_builtin; refine wpList_append_sl _ rfl _ _ 24 rfl u3.heap.size 5 i0 (.int .u8 0) 1 1 Try.underlying24 hi hz0 hz1 hz2 rfl (by decide) _ 0 [] rfl hlit w.heap.size _ x0.length (x0.map bv) rfl hs3a (by simp) (bv_oneCell _) ?c1 ?c2 ?c3 ?_)
  case c1 => unfold maxLen; omega
  case c2 => omega
  case c3 => simp
  intro c5 u4 hown4 hgrow4 _
  have hb4 : Below u3.heap.size u3 u4 := ((Below.refl _ _).alloc (Nat.le_refl _) _).grown hgrow4 (by simp) (by intro k hk; simp [Value.ownBlock] at hk; omega)
  have hs4 : Sl u4.heap.size u4 c5 x0.length (x0.map bv) := sl_of_owns (by simpa using hown4)
  have hB4 := below_cut HB3.out hb4
  obtain ⟨co, cc, rfl⟩ := sl_form hs4
  clear hown4 hgrow4 hlit hs3a
  go_wp2_with fail
  refine (c_sum _ _ [x0] _ (parts_one 24 hs4 (Nat.le_refl _) (by omega) rfl) (by simp)).mono ?_
  rintro e u5 ⟨rfl, rfl⟩
  have hB5 : Hid (Below w.heap.size w (u4.alloc (.cells #[.slice co x0.length cc] 24))) := hB4.alloc hB4.size _
  rw [crcSum_one]
  have hne : (tn (crcAdd 0#32 y0) != tn (crcAdd 0#32 x0)) = true := by
    rw [bne_iff_ne]
    intro e
    exact HN.out (tn_inj e)
  have hne2 : (tn (crcAdd 0#32 y0) == tn (crcAdd 0#32 x0)) = false := by
    rw [beq_eq_false_iff_ne]
    intro e
    exact HN.out (tn_inj e)
  clear hs4 hb4 hB4
  go_wp2
  go_ret
  exact ⟨rfl, hB5.out⟩

set_option maxRecDepth 100000 in
theorem lifted (os : Os) (started : os.Started) (H : Type) (enc : TypeId × Value → H) :
    ReturnsInHanded {} Try.checked os 6 .any (Rows.crcFindsSpec.pre6 enc Try.prog Try.f6 Rows.crcFindsRow.domain false) (Rows.crcFindsSpec.post enc Try.prog Try.f6 false true false false) := by
  refine returnsInHanded_of_change_sized (C := Try.checked) own started (by kernel_rfl) Try.func6
    (ChangeSpec.witness6 (enc := enc) (C := Try.checked) false ⟨#[], #[.slice none 0 0, .int .i64 0, .int .u8 0], []⟩ 8 (by kernel_rfl) (by kernel_rfl) (by kernel_rfl) (by kernel_rfl)) ?_
  intro W base args ds gs before hval0 hW hcnd hsz0 _
  have hval : ∀ (j : Nat) t v, Try.f6.params[j]? = some t → args[j]? = some v → Value.okWide Try.prog W .any base t v := hval0
  have hsz : (DataW.weightsEach Try.prog (Try.f6.params.toList ++ Rows.crcFindsSpec.plain.varTypes Try.prog) (ds ++ gs)).all (· ≤ reachBytes) = true := hsz0
  have hW' := hW
  obtain ⟨p, q, hA0, hV, rfl, hfz, hnd⟩ := hW
  have hA : DataW.TrodAll enc Try.prog W 0 (fun _ => true) true Try.f6.params.toList args.toList ds p := hA0
  rw [Try.params6] at hA hval hsz
  obtain ⟨v0, vs0, d0, ds0, p0, q0, hargs, rfl, rfl, h0, r0⟩ := trodAll_cons hA
  obtain ⟨v1, vs1, d1, ds1, p1, q1, rfl, rfl, rfl, h1, r1⟩ := trodAll_cons r0
  obtain ⟨v2, vs2, d2, ds2, p2, q2, rfl, rfl, rfl, h2, r2⟩ := trodAll_cons r1
  obtain ⟨rfl, rfl, rfl⟩ := trodAll_nil r2
  obtain rfl : args = #[v0, v1, v2] := by cases args; simp_all
  obtain ⟨rfl, rfl⟩ := trodVars_none hV
  obtain ⟨a0, len0, cap0, rfl⟩ := okWide_slice Try.underlying24 (hval 0 24 v0 rfl rfl)
  have k0 := h0
  have lt0 : ∀ x ∈ p0, x.block < W.heap.size := by obtain ⟨m, hm⟩ := k0; exact DataW.trod_lt m _ _ _ hm
  obtain ⟨x0, w0, l0, m0⟩ : ∃ xs : List UInt8, Sl W.heap.size W (.slice a0 len0 cap0) xs.length (xs.map bv) ∧ xs.length ≤ 140737488351232 ∧ xs.length + 1 ≤ Rows.uptoBulk d0 := by
    obtain ⟨fuel, hf⟩ := h0
    exact open_bytes (v := .slice a0 len0 cap0) hf (fun n hn => by have := List.all_eq_true.1 hsz n (DataW.weights_mem_each (j := 0) (t := 24) rfl rfl n hn); simpa using this)
  obtain ⟨a1, rfl, rfl, rfl, w1⟩ := open_int Try.underlying3 (hval 1 3 v1 rfl rfl) h1
  obtain ⟨a2, rfl, rfl, rfl, w2⟩ := open_int Try.underlying5 (hval 2 5 v2 rfl rfl) h2
  clear hA0 hval0
  refine (walk W _ x0 w0 l0 a1 w1 a2 w2).mono fun e W' ⟨he, bel⟩ => ?_
  subst he
  exact ⟨_, rfl, _, _, _, [], _, [], hW', trodAll_mk1 (shut_bool Try.underlying4 _), (trodAll_cons_mk (Below.trod laidOut (by kernel_rfl) (of_decide_eq_true (by kernel_rfl)) k0 bel lt0) (trodAll_cons_mk (shut_int Try.underlying3 w1) (trodAll_cons_mk (shut_int Try.underlying5 w2) trodAll_mk0))), rfl, bel.frame _, fun h => by cases h⟩

theorem over : Rows.crcFindsRow.holds Try.pinned (OpenSpec.ofChange Rows.crcFindsSpec) :=
  OpenClaim.holds_of_wide 6 Try.f6 rfl rfl rfl rfl rfl rfl rfl ⟨rfl, rfl, rfl, rfl, rfl⟩ rfl rfl rfl rfl rfl (by kernel_rfl) Try.func6 (by kernel_rfl)
    (of_decide_eq_true (by kernel_rfl)) (by unfold Func.isWrapper; first | (rw [if_pos (by decide +kernel)]; kernel_rfl) | (rw [if_neg (by decide +kernel)]; exact ⟨rfl, rfl⟩))
    (fun os started H enc _ => lifted os started H enc)
end Go.Proofs.Ytflmeaekgkckjaa.crcFinds
namespace Go.Proofs.Ytflmeaekgkckjaa
/-- The given statement. -/
theorem crcFinds_holds : Rows.CrcFindsSaid := crcFinds.over
end Go.Proofs.Ytflmeaekgkckjaa
