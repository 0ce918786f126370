/-
  CrcSums returns true for any three texts: of three of one length the sums, added bit by bit without carry, are the sum of the three so added.
  Conditions: none; the statement is the given one, for every input.
-/
import Derived.Test.YtflmeaekgkckjaaRows
import Derived.Test.YtflmeaekgkckjaaL1
import Derived.Test.YtflmeaekgkckjaaLex
import Derived.WalkKit
import Derived.ProofKit
import Derived.OpenShut
import Derived.ShutString
import Derived.ChangeOld
import Derived.Below
import Derived.SizedLaws
namespace Go.Proofs.Ytflmeaekgkckjaa.crcSums
open Go.ChangeShapes Go.WideShapes Go.ChangeAt Go.RowKit
open Go.ChangeMaps (open_string shut_string)
set_option linter.unusedVariables false
set_option linter.unusedSimpArgs false

theorem own : ownKnob Try.prog.godebug = none := by kernel_rfl
theorem laidOut : laidOutB Try.prog = true := by kernel_rfl

set_option maxHeartbeats 3200000 in
/-- The law's own walk. -/
theorem walk (w : World) (v0 : Value) (x0 : List UInt8) (w0 : Sl w.heap.size w v0 x0.length (x0.map bv)) (l0 : x0.length ≤ 140737488351232) (v1 : Value) (x1 : List UInt8) (w1 : Sl w.heap.size w v1 x1.length (x1.map bv)) (l1 : x1.length ≤ 140737488351232) (v2 : Value) (x2 : List UInt8) (w2 : Sl w.heap.size w v2 x2.length (x2.map bv)) (l2 : x2.length ≤ 140737488351232) :
    Calls Try.prog 7 #[v0, v1, v2] w fun e w' => e = .returned (.bool true) ∧ Below w.heap.size w w' := by
  obtain ⟨i0, hi, hz0, hz1, hz2⟩ := info_parts Try.info5
  go_enter Try.func7, Try.ntmps7
  go_wp2_with fail
  refine (c_names _).mono ?_
  rintro e u1 ⟨rfl, hb1⟩
  have hs0 := w0.keep hb1
  have hs1 := w1.keep hb1
  have hs2 := w2.keep hb1
  have HB : Hid (Below w.heap.size w u1) := hb1
  have HZ : Hid (w.heap.size ≤ u1.heap.size) := hb1.size
  clear hb1 w0 w1 w2
  obtain ⟨vo, vc, rfl⟩ := sl_form hs0
  obtain ⟨vo1, vc1, rfl⟩ := sl_form hs1
  obtain ⟨vo2, vc2, rfl⟩ := sl_form hs2
  by_cases h01 : x1.length = x0.length
  case neg =>
    have hd : ((x0.length : Int) != (x1.length : Int)) = true := by rw [bne_iff_ne]; omega
    have hd' : ((x0.length : Int) == (x1.length : Int)) = false := by rw [beq_eq_false_iff_ne]; omega
    have hd2 : (x0.length == x1.length) = false := by rw [beq_eq_false_iff_ne]; omega
    clear hs0 hs1 hs2
    go_wp2
    go_ret
    exact ⟨rfl, HB.out⟩
  by_cases h02 : x2.length = x0.length
  case neg =>
    rw [h01] at *
    have hd : ((x0.length : Int) != (x2.length : Int)) = true := by rw [bne_iff_ne]; omega
    have hd' : ((x0.length : Int) == (x2.length : Int)) = false := by rw [beq_eq_false_iff_ne]; omega
    have hd2 : (x0.length == x2.length) = false := by rw [beq_eq_false_iff_ne]; omega
    clear hs0 hs1 hs2 h01
    go_wp2
    go_ret
    exact ⟨rfl, HB.out⟩
  by_cases hbig : 5000 < x0.length
  · have hd3 : decide (5000 < (x0.length : Int)) = true := decide_eq_true (by omega)
    rw [h01, h02] at *
    clear hs0 hs1 hs2 h01 h02
    go_wp2
    go_ret
    exact ⟨rfl, HB.out⟩
  have hd3 : decide (5000 < (x0.length : Int)) = false := decide_eq_false (by omega)
  have HX : Hid (crcAdd 0#32 (List.zipWith (fun p z => p ^^^ z) (List.zipWith (fun x y => x ^^^ y) x0 x1) x2) = crcAdd 0#32 x0 ^^^ crcAdd 0#32 x1 ^^^ crcAdd 0#32 x2) := crcAdd_xor3 x0 x1 x2 h01 h02
  have HL : Hid ((List.zipWith (fun p z => p ^^^ z) (List.zipWith (fun x y => x ^^^ y) x0 x1) x2).length = x0.length) := by unfold Hid; simp; omega
  have HT : Hid (∀ (k : Nat) (a : k < x0.length) (b : k < x1.length) (c : k < x2.length), (List.zipWith (fun p z => p ^^^ z) (List.zipWith (fun x y => x ^^^ y) x0 x1) x2).take (k + 1) = (List.zipWith (fun p z => p ^^^ z) (List.zipWith (fun x y => x ^^^ y) x0 x1) x2).take k ++ [x0[k] ^^^ x1[k] ^^^ x2[k]]) := fun k a b c => zip3_snoc x0 x1 x2 k a b c
  generalize List.zipWith (fun p z => p ^^^ z) (List.zipWith (fun x y => x ^^^ y) x0 x1) x2 = d0 at HX HL HT
  have H1 : Hid (x1.length = x0.length) := h01
  have H2 : Hid (x2.length = x0.length) := h02
  have HS0 : Hid (Sl w.heap.size u1 (.slice vo x0.length vc) x0.length (x0.map bv)) := hs0
  have HS1 : Hid (Sl w.heap.size u1 (.slice vo1 x0.length vc1) x0.length (x1.map bv)) := by rw [h01] at hs1; exact hs1
  have HS2 : Hid (Sl w.heap.size u1 (.slice vo2 x0.length vc2) x0.length (x2.map bv)) := by rw [h02] at hs2; exact hs2
  rw [h01, h02]
  clear hs0 hs1 hs2 h01 h02
  go_wp2
  go_loopw [7, 31] (fun o i wr => ∃ k : Nat, k ≤ x0.length ∧ i = .int .i64 k ∧ wr.ownsRow u1.heap.size 5 1 o k ((d0.take k).map bv) ∧ Below u1.heap.size u1 wr) (fun _ i _ => x0.length - (intOf i).toNat)
  case atStart => exact ⟨0, Nat.zero_le _, rfl, World.ownsRow_lit u1 #[] 0 (Nat.le_refl _) (by decide) rfl, (Below.refl _ _).alloc (Nat.le_refl _) _⟩
  case round =>
    obtain ⟨k, hk, rfl, hown, hbel⟩ := hrel
    by_cases hlt : k < x0.length
    · have hk1 : k < x1.length := by rw [H1.out]; exact hlt
      have hk2 : k < x2.length := by rw [H2.out]; exact hlt
      have hkeep := hbel.mono HZ.out
      obtain ⟨b0, o0, rfl, hb0, hc0⟩ := sl_bytes_get (HS0.out.keep hkeep) k hlt
      obtain ⟨b1, o1, rfl, hb1, hc1⟩ := sl_bytes_get (HS1.out.keep hkeep) k hk1
      obtain ⟨b2, o2, rfl, hb2, hc2⟩ := sl_bytes_get (HS2.out.keep hkeep) k hk2
      have hx1 := bits_xor_u8 x0[k] x1[k]
      have hx2 := bits_xor_u8 (x0[k] ^^^ x1[k]) x2[k]
      have HT1 : Hid (d0.take (k + 1) = d0.take k ++ [x0[k] ^^^ x1[k] ^^^ x2[k]]) := HT.out k hlt hk1 hk2
      have HZ2 : Hid (bv (x0[k] ^^^ x1[k] ^^^ x2[k]) = .int .u8 ((x0[k] ^^^ x1[k] ^^^ x2[k]).toNat : Int)) := rfl
      have HO : Hid (wr.ownsRow u1.heap.size 5 1 _ k ((d0.take k).map bv)) := hown
      have HBel : Hid (Below u1.heap.size u1 wr) := hbel
      generalize (x0[k] ^^^ x1[k] ^^^ x2[k]).toNat = z2 at hx2 HZ2
      generalize (x0[k] ^^^ x1[k]).toNat = z1 at hx1 hx2
      generalize x0[k] ^^^ x1[k] ^^^ x2[k] = zb at HZ2 HT1
      clear hkeep hown hbel
      go_wp2
      have hS : (fun w' : World => w'.cell? ⟨b0, o0 + k, none⟩ = some (.int .u8 (x0[k].toNat : Int)) ∧ w'.cell? ⟨b1, o1 + k, none⟩ = some (.int .u8 (x1[k].toNat : Int)) ∧ w'.cell? ⟨b2, o2 + k, none⟩ = some (.int .u8 (x2[k].toNat : Int))) wr.drew := ⟨by rw [World.cell?_drew]; exact hc0, by rw [World.cell?_drew]; exact hc1, by rw [World.cell?_drew]; exact hc2⟩
      clear hc0 hc1 hc2
      refine wp_region_ord [] 16 [(0, true), (1, true), (2, true), (3, true), (4, true), (5, true), (6, true), (7, true), (8, true), (9, true), (10, true), (11, true), (12, true), (13, true), (14, true), (15, false)] (fun w' : World => w'.cell? ⟨b0, o0 + k, none⟩ = some (.int .u8 (x0[k].toNat : Int)) ∧ w'.cell? ⟨b1, o1 + k, none⟩ = some (.int .u8 (x1[k].toNat : Int)) ∧ w'.cell? ⟨b2, o2 + k, none⟩ = some (.int .u8 (x2[k].toNat : Int))) (by kernel_rfl) (by kernel_rfl) ?_
      refine ord_quiet _ ?_ rfl hS rfl ?_ ?_
      rotate_left
      · rintro w' ⟨hS0, hS1, hS2⟩; go_simp; rfl
      refine ord_quiet _ ?_ rfl hS rfl ?_ ?_
      rotate_left
      · rintro w' ⟨hS0, hS1, hS2⟩; go_simp; rfl
      refine ord_quiet _ ?_ rfl hS rfl ?_ ?_
      rotate_left
      · rintro w' ⟨hS0, hS1, hS2⟩; go_simp; rfl
      refine ord_quiet _ ?_ rfl hS rfl ?_ ?_
      rotate_left
      · rintro w' ⟨hS0, hS1, hS2⟩; go_simp; rfl
      refine ord_quiet _ ?_ rfl hS rfl ?_ ?_
      rotate_left
      · rintro w' ⟨hS0, hS1, hS2⟩; go_simp; rfl
      refine ord_quiet _ ?_ rfl hS rfl ?_ ?_
      rotate_left
      · rintro w' ⟨hS0, hS1, hS2⟩; go_simp; rfl
      refine ord_quiet _ ?_ rfl hS rfl ?_ ?_
      rotate_left
      · rintro w' ⟨hS0, hS1, hS2⟩; go_simp; rfl
      refine ord_quiet _ ?_ rfl hS rfl ?_ ?_
      rotate_left
      · rintro w' ⟨hS0, hS1, hS2⟩; go_simp; rfl
      refine ord_quiet _ ?_ rfl hS rfl ?_ ?_
      rotate_left
      · rintro w' ⟨hS0, hS1, hS2⟩; go_simp; rfl
      refine ord_quiet _ ?_ rfl hS rfl ?_ ?_
      rotate_left
      · rintro w' ⟨hS0, hS1, hS2⟩; go_simp; rfl
      refine ord_quiet _ ?_ rfl hS rfl ?_ ?_
      rotate_left
      · rintro w' ⟨hS0, hS1, hS2⟩; go_simp; rfl
      refine ord_quiet _ ?_ rfl hS rfl ?_ ?_
      rotate_left
      · rintro w' ⟨hS0, hS1, hS2⟩; go_simp; rfl
      refine ord_quiet _ ?_ rfl hS rfl ?_ ?_
      rotate_left
      · rintro w' ⟨hS0, hS1, hS2⟩; go_simp; rfl
      refine ord_quiet _ ?_ rfl hS rfl ?_ ?_
      rotate_left
      · rintro w' ⟨hS0, hS1, hS2⟩; go_simp; rfl
      refine ord_quiet _ ?_ rfl hS rfl ?_ ?_
      rotate_left
      · rintro w' ⟨hS0, hS1, hS2⟩; go_simp; rfl
      have hsz : u1.heap.size ≤ wr.heap.size := HBel.out.size
      have hS2 : (fun w' : World => w'.cell? ⟨b0, o0 + k, none⟩ = some (.int .u8 (x0[k].toNat : Int)) ∧ w'.cell? ⟨b1, o1 + k, none⟩ = some (.int .u8 (x1[k].toNat : Int)) ∧ w'.cell? ⟨b2, o2 + k, none⟩ = some (.int .u8 (x2[k].toNat : Int))) (wr.drew.alloc (.cells #[.int .u8 (z2 : Int)] 5)) := by
        have hz := HZ.out
        refine ⟨?_, ?_, ?_⟩
        · rw [World.cell?_alloc_past _ _ _ (by show b0 < wr.heap.size; omega)]; exact hS.1
        · rw [World.cell?_alloc_past _ _ _ (by show b1 < wr.heap.size; omega)]; exact hS.2.1
        · rw [World.cell?_alloc_past _ _ _ (by show b2 < wr.heap.size; omega)]; exact hS.2.2
      refine ord_act _ rfl fun K1 hK1 => ?_
      simp only [Act.put, List.getElem_toArray, List.getElem_cons_succ, List.getElem_cons_zero, List.setIfInBounds_toArray, List.set_cons_succ, List.set_cons_zero]
      go_wp2
      refine hK1 _ _ hS2 ?_
      clear hK1 K1 hS hS2 hx1 hx2
      refine ord_tail ?_
      simp only [List.drop_succ_cons, List.drop_zero]
      have hsl := sl_lit wr.drew #[.int .u8 (z2 : Int)] 5 1 (by omega)
      have hown2 := HO.out.drew.alloc (.cells #[.int .u8 (z2 : Int)] 5)
      go_wp2_with (at_builtin; refine wpList_append_sl _ rfl _ _ 24 rfl u1.heap.size 5 i0 (.int .u8 0) 1 1 Try.underlying24 hi hz0 hz1 hz2 rfl (by decide) _ _ _ rfl hown2 _ _ 1 _ rfl hsl rfl ?c1 ?c2 ?c3 ?c4 ?_)
      case c1 => first | rfl | (intro u hu; simp at hu; subst hu; rfl)
      case c2 => unfold maxLen; omega
      case c3 => omega
      case c4 => first | omega | (simp; omega)
      intro v' w2 hown3 hgrow3 _
      have hb3 : Below u1.heap.size u1 w2 := (HBel.out.drew.alloc (by show _ ≤ wr.heap.size; omega) _).grown hgrow3 (by simp; omega) (owns_ge hown2)
      have hown4 : w2.ownsRow u1.heap.size 5 1 v' (k + 1) ((d0.take (k + 1)).map bv) := by
        rw [HT1.out, List.map_append]
        simpa [HZ2.out] using hown3
      clear hown2 hown3 hgrow3 hsl
      go_wp2
      go_roundw
      case rel => exact ⟨k + 1, by omega, by go_num, hown4, hb3⟩
      case measure => simp [intOf]; omega
    · have hkx : k = x0.length := by omega
      subst hkx
      have hsd0 : Sl wr.heap.size wr u7 x0.length (d0.map bv) := by
        have h := sl_of_owns hown
        rw [List.take_of_length_le (by rw [HL.out]; exact Nat.le_refl _)] at h
        exact h
      obtain ⟨od, cd, rfl⟩ := sl_form hsd0
      have HSD : Hid (Sl wr.heap.size wr (.slice od x0.length cd) d0.length (d0.map bv)) := by unfold Hid; rw [HL.out]; exact hsd0
      have hbw : Below u1.heap.size u1 wr := hbel
      clear hown hbel hsd0
      go_wp2_with fail
      refine (c_sum _ _ [d0] _ (parts_one 24 HSD.out (Nat.le_refl _) (by rw [HL.out]; omega) rfl) (by simp)).mono ?_
      rintro e u2 ⟨rfl, rfl⟩
      have HBu2 : Hid (Below u1.heap.size u1 (wr.alloc (.cells #[.slice od x0.length cd] 24))) := hbw.alloc hbw.size _
      generalize wr.alloc (.cells #[.slice od x0.length cd] 24) = u2 at HBu2 ⊢
      rw [crcSum_one]
      clear hbw HSD
      have hlit := World.ownsRow_lit (base := u2.heap.size) (e := 5) (size := 1) u2 #[] 0 (Nat.le_refl _) (by decide) rfl
      have hsa := (HS0.out.keep (HBu2.out.mono HZ.out)).keep ((Below.refl _ u2).alloc (Nat.le_trans HZ.out HBu2.out.size) (.cells #[] 5))
      go_wp2_with (at_builtin; refine wpList_append_sl _ rfl _ _ 24 rfl u2.heap.size 5 i0 (.int .u8 0) 1 1 Try.underlying24 hi hz0 hz1 hz2 rfl (by decide) _ 0 [] rfl hlit w.heap.size _ x0.length (x0.map bv) rfl hsa ?c0 (bv_oneCell _) ?c1 ?c2 ?c3 ?_)
      case c0 => have := H1.out; have := H2.out; simp; try omega
      case c1 => unfold maxLen; omega
      case c2 => omega
      case c3 => simp
      intro c3 u3a hown hgrow _
      have hbu3 : Below u1.heap.size u1 u3a := (HBu2.out.alloc HBu2.out.size _).grown hgrow (by simp; have := HBu2.out.size; omega) (by intro k hk; simp [Value.ownBlock] at hk; have := HBu2.out.size; omega)
      have hsu3 : Sl u3a.heap.size u3a c3 x0.length (x0.map bv) := by
        have h := sl_of_owns (show u3a.ownsRow u2.heap.size 5 1 c3 x0.length (x0.map bv) from by simpa using hown)
        exact h
      obtain ⟨ou3, cu3, rfl⟩ := sl_form hsu3
      clear hown hgrow hlit hsa
      go_wp2_with fail
      refine (c_sum _ _ [x0] _ (parts_one 24 hsu3 (Nat.le_refl _) (by omega) rfl) (by simp)).mono ?_
      rintro e u3 ⟨rfl, rfl⟩
      have HBu3 : Hid (Below u1.heap.size u1 (u3a.alloc (.cells #[.slice ou3 x0.length cu3] 24))) := hbu3.alloc hbu3.size _
      generalize u3a.alloc (.cells #[.slice ou3 x0.length cu3] 24) = u3 at HBu3 ⊢
      rw [crcSum_one]
      clear hbu3 hsu3
      have hlit := World.ownsRow_lit (base := u3.heap.size) (e := 5) (size := 1) u3 #[] 0 (Nat.le_refl _) (by decide) rfl
      have hsa := (HS1.out.keep (HBu3.out.mono HZ.out)).keep ((Below.refl _ u3).alloc (Nat.le_trans HZ.out HBu3.out.size) (.cells #[] 5))
      go_wp2_with (at_builtin; refine wpList_append_sl _ rfl _ _ 24 rfl u3.heap.size 5 i0 (.int .u8 0) 1 1 Try.underlying24 hi hz0 hz1 hz2 rfl (by decide) _ 0 [] rfl hlit w.heap.size _ x0.length (x1.map bv) rfl hsa ?c0 (bv_oneCell _) ?c1 ?c2 ?c3 ?_)
      case c0 => have := H1.out; have := H2.out; simp; try omega
      case c1 => unfold maxLen; omega
      case c2 => omega
      case c3 => simp
      intro c4 u4a hown hgrow _
      have hbu4 : Below u1.heap.size u1 u4a := (HBu3.out.alloc HBu3.out.size _).grown hgrow (by simp; have := HBu3.out.size; omega) (by intro k hk; simp [Value.ownBlock] at hk; have := HBu3.out.size; omega)
      have hsu4 : Sl u4a.heap.size u4a c4 x1.length (x1.map bv) := by
        have h := sl_of_owns (show u4a.ownsRow u3.heap.size 5 1 c4 x0.length (x1.map bv) from by simpa using hown)
        rw [H1.out]; exact h
      obtain ⟨ou4, cu4, rfl⟩ := sl_form hsu4
      clear hown hgrow hlit hsa
      go_wp2_with fail
      refine (c_sum _ _ [x1] _ (parts_one 24 hsu4 (Nat.le_refl _) (by omega) rfl) (by simp)).mono ?_
      rintro e u4 ⟨rfl, rfl⟩
      have HBu4 : Hid (Below u1.heap.size u1 (u4a.alloc (.cells #[.slice ou4 x1.length cu4] 24))) := hbu4.alloc hbu4.size _
      generalize u4a.alloc (.cells #[.slice ou4 x1.length cu4] 24) = u4 at HBu4 ⊢
      rw [crcSum_one]
      clear hbu4 hsu4
      have hlit := World.ownsRow_lit (base := u4.heap.size) (e := 5) (size := 1) u4 #[] 0 (Nat.le_refl _) (by decide) rfl
      have hsa := (HS2.out.keep (HBu4.out.mono HZ.out)).keep ((Below.refl _ u4).alloc (Nat.le_trans HZ.out HBu4.out.size) (.cells #[] 5))
      go_wp2_with (at_builtin; refine wpList_append_sl _ rfl _ _ 24 rfl u4.heap.size 5 i0 (.int .u8 0) 1 1 Try.underlying24 hi hz0 hz1 hz2 rfl (by decide) _ 0 [] rfl hlit w.heap.size _ x0.length (x2.map bv) rfl hsa ?c0 (bv_oneCell _) ?c1 ?c2 ?c3 ?_)
      case c0 => have := H1.out; have := H2.out; simp; try omega
      case c1 => unfold maxLen; omega
      case c2 => omega
      case c3 => simp
      intro c5 u5a hown hgrow _
      have hbu5 : Below u1.heap.size u1 u5a := (HBu4.out.alloc HBu4.out.size _).grown hgrow (by simp; have := HBu4.out.size; omega) (by intro k hk; simp [Value.ownBlock] at hk; have := HBu4.out.size; omega)
      have hsu5 : Sl u5a.heap.size u5a c5 x2.length (x2.map bv) := by
        have h := sl_of_owns (show u5a.ownsRow u4.heap.size 5 1 c5 x0.length (x2.map bv) from by simpa using hown)
        rw [H2.out]; exact h
      obtain ⟨ou5, cu5, rfl⟩ := sl_form hsu5
      clear hown hgrow hlit hsa
      go_wp2_with fail
      refine (c_sum _ _ [x2] _ (parts_one 24 hsu5 (Nat.le_refl _) (by omega) rfl) (by simp)).mono ?_
      rintro e u5 ⟨rfl, rfl⟩
      have HBu5 : Hid (Below u1.heap.size u1 (u5a.alloc (.cells #[.slice ou5 x2.length cu5] 24))) := hbu5.alloc hbu5.size _
      generalize u5a.alloc (.cells #[.slice ou5 x2.length cu5] 24) = u5 at HBu5 ⊢
      rw [crcSum_one]
      clear hbu5 hsu5
      have hB : Hid (Below w.heap.size w u5) := below_cut HB.out HBu5.out
      have hx := HX.out
      have e1 := bits_xor_u32 (crcAdd 0#32 x0) (crcAdd 0#32 x1)
      have e2 := bits_xor_u32 (xo (crcAdd 0#32 x0) (crcAdd 0#32 x1)) (crcAdd 0#32 x2)
      rw [show xo (xo (crcAdd 0#32 x0) (crcAdd 0#32 x1)) (crcAdd 0#32 x2) = crcAdd 0#32 d0 from hx.symm] at e2
      generalize xo (crcAdd 0#32 x0) (crcAdd 0#32 x1) = A at e1 e2
      clear hx HX
      generalize crcAdd 0#32 d0 = D at *
      generalize crcAdd 0#32 x0 = A0 at *
      generalize crcAdd 0#32 x1 = A1 at *
      generalize crcAdd 0#32 x2 = A2 at *
      go_wp2
      go_ret
      exact ⟨rfl, hB.out⟩

set_option maxRecDepth 100000 in
theorem lifted (os : Os) (started : os.Started) (H : Type) (enc : TypeId × Value → H) :
    ReturnsInHanded {} Try.checked os 7 .any (Rows.crcSumsSpec.pre6 enc Try.prog Try.f7 Rows.crcSumsRow.domain false) (Rows.crcSumsSpec.post enc Try.prog Try.f7 false true false false) := by
  refine returnsInHanded_of_change_sized (C := Try.checked) own started (by kernel_rfl) Try.func7
    (ChangeSpec.witness6 (enc := enc) (C := Try.checked) false ⟨#[], #[.slice none 0 0, .slice none 0 0, .slice none 0 0], []⟩ 8 (by kernel_rfl) (by kernel_rfl) (by kernel_rfl) (by kernel_rfl)) ?_
  intro W base args ds gs before hval0 hW hcnd hsz0 _
  have hval : ∀ (j : Nat) t v, Try.f7.params[j]? = some t → args[j]? = some v → Value.okWide Try.prog W .any base t v := hval0
  have hsz : (DataW.weightsEach Try.prog (Try.f7.params.toList ++ Rows.crcSumsSpec.plain.varTypes Try.prog) (ds ++ gs)).all (· ≤ reachBytes) = true := hsz0
  have hW' := hW
  obtain ⟨p, q, hA0, hV, rfl, hfz, hnd⟩ := hW
  have hA : DataW.TrodAll enc Try.prog W 0 (fun _ => true) true Try.f7.params.toList args.toList ds p := hA0
  rw [Try.params7] at hA hval hsz
  obtain ⟨v0, vs0, d0, ds0, p0, q0, hargs, rfl, rfl, h0, r0⟩ := trodAll_cons hA
  obtain ⟨v1, vs1, d1, ds1, p1, q1, rfl, rfl, rfl, h1, r1⟩ := trodAll_cons r0
  obtain ⟨v2, vs2, d2, ds2, p2, q2, rfl, rfl, rfl, h2, r2⟩ := trodAll_cons r1
  obtain ⟨rfl, rfl, rfl⟩ := trodAll_nil r2
  obtain rfl : args = #[v0, v1, v2] := by cases args; simp_all
  obtain ⟨rfl, rfl⟩ := trodVars_none hV
  obtain ⟨a0, len0, cap0, rfl⟩ := okWide_slice Try.underlying24 (hval 0 24 v0 rfl rfl)
  have k0 := h0
  have lt0 : ∀ x ∈ p0, x.block < W.heap.size := by obtain ⟨m, hm⟩ := k0; exact DataW.trod_lt m _ _ _ hm
  obtain ⟨x0, w0, l0, m0⟩ : ∃ xs : List UInt8, Sl W.heap.size W (.slice a0 len0 cap0) xs.length (xs.map bv) ∧ xs.length ≤ 140737488351232 ∧ xs.length + 1 ≤ Rows.uptoBulk d0 := by
    obtain ⟨fuel, hf⟩ := h0
    exact open_bytes (v := .slice a0 len0 cap0) hf (fun n hn => by have := List.all_eq_true.1 hsz n (DataW.weights_mem_each (j := 0) (t := 24) rfl rfl n hn); simpa using this)
  obtain ⟨a1, len1, cap1, rfl⟩ := okWide_slice Try.underlying24 (hval 1 24 v1 rfl rfl)
  have k1 := h1
  have lt1 : ∀ x ∈ p1, x.block < W.heap.size := by obtain ⟨m, hm⟩ := k1; exact DataW.trod_lt m _ _ _ hm
  obtain ⟨x1, w1, l1, m1⟩ : ∃ xs : List UInt8, Sl W.heap.size W (.slice a1 len1 cap1) xs.length (xs.map bv) ∧ xs.length ≤ 140737488351232 ∧ xs.length + 1 ≤ Rows.uptoBulk d1 := by
    obtain ⟨fuel, hf⟩ := h1
    exact open_bytes (v := .slice a1 len1 cap1) hf (fun n hn => by have := List.all_eq_true.1 hsz n (DataW.weights_mem_each (j := 1) (t := 24) rfl rfl n hn); simpa using this)
  obtain ⟨a2, len2, cap2, rfl⟩ := okWide_slice Try.underlying24 (hval 2 24 v2 rfl rfl)
  have k2 := h2
  have lt2 : ∀ x ∈ p2, x.block < W.heap.size := by obtain ⟨m, hm⟩ := k2; exact DataW.trod_lt m _ _ _ hm
  obtain ⟨x2, w2, l2, m2⟩ : ∃ xs : List UInt8, Sl W.heap.size W (.slice a2 len2 cap2) xs.length (xs.map bv) ∧ xs.length ≤ 140737488351232 ∧ xs.length + 1 ≤ Rows.uptoBulk d2 := by
    obtain ⟨fuel, hf⟩ := h2
    exact open_bytes (v := .slice a2 len2 cap2) hf (fun n hn => by have := List.all_eq_true.1 hsz n (DataW.weights_mem_each (j := 2) (t := 24) rfl rfl n hn); simpa using this)
  clear hA0 hval0
  refine (walk W _ x0 w0 l0 _ x1 w1 l1 _ x2 w2 l2).mono fun e W' ⟨he, bel⟩ => ?_
  subst he
  exact ⟨_, rfl, _, _, _, [], _, [], hW', trodAll_mk1 (shut_bool Try.underlying4 _), (trodAll_cons_mk (Below.trod laidOut (by kernel_rfl) (of_decide_eq_true (by kernel_rfl)) k0 bel lt0) (trodAll_cons_mk (Below.trod laidOut (by kernel_rfl) (of_decide_eq_true (by kernel_rfl)) k1 bel lt1) (trodAll_cons_mk (Below.trod laidOut (by kernel_rfl) (of_decide_eq_true (by kernel_rfl)) k2 bel lt2) trodAll_mk0))), rfl, bel.frame _, fun h => by cases h⟩

theorem over : Rows.crcSumsRow.holds Try.pinned (OpenSpec.ofChange Rows.crcSumsSpec) :=
  OpenClaim.holds_of_wide 7 Try.f7 rfl rfl rfl rfl rfl rfl rfl ⟨rfl, rfl, rfl, rfl, rfl⟩ rfl rfl rfl rfl rfl (by kernel_rfl) Try.func7 (by kernel_rfl)
    (of_decide_eq_true (by kernel_rfl)) (by unfold Func.isWrapper; first | (rw [if_pos (by decide +kernel)]; kernel_rfl) | (rw [if_neg (by decide +kernel)]; exact ⟨rfl, rfl⟩))
    (fun os started H enc _ => lifted os started H enc)
end Go.Proofs.Ytflmeaekgkckjaa.crcSums
namespace Go.Proofs.Ytflmeaekgkckjaa
/-- The given statement. -/
theorem crcSums_holds : Rows.CrcSumsSaid := crcSums.over
end Go.Proofs.Ytflmeaekgkckjaa
