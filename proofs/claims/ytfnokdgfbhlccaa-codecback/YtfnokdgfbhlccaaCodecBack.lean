/-
  CodecBack returns true for every shape, list of fields and all bytes: fields that are packed are unpacked as they are, and bytes that are unpacked are just those of their fields.
  Conditions: none; the statement is the given one, for every input.
-/
import Derived.Test.YtfnokdgfbhlccaaRows
import Derived.Test.YtfnokdgfbhlccaaL0
import Derived.WalkKit
import Derived.ProofKit
import Derived.OpenShut
import Derived.ShutString
import Derived.ChangeOld
import Derived.Below
import Derived.SizedLaws
namespace Go.Proofs.Ytfnokdgfbhlccaa.codecBack
open Go.ChangeShapes Go.WideShapes Go.ChangeAt Go.RowKit
open Go.ChangeMaps (open_string shut_string)
set_option linter.unusedVariables false
set_option linter.unusedSimpArgs false

theorem own : ownKnob Try.prog.godebug = none := by kernel_rfl
theorem laidOut : laidOutB Try.prog = true := by kernel_rfl

theorem errN_some {α : Type} (x : α) : errN (some x) = 0 := rfl

theorem sl_form0 {K n : Nat} {w : World} {v : Value} {cs : List Value} (h : Sl K w v n cs) : ∃ ao cap, v = .slice ao n cap := by
  obtain ⟨ao, cap, hv, _⟩ := h
  exact ⟨ao, cap, hv⟩

theorem back_get {K : Nat} {w : World} {ao : Option Addr} {cap : Nat} {fs : List Fld} {sh : ByteArray} (h : FieldsAt K w (.slice ao fs.length cap) (List.zipWith nrm sh.data.toList fs)) (k : Nat) (hk : k < fs.length) (hks : k < sh.size) :
    ∃ b off bvv, ao = some ⟨b, off, none⟩ ∧ b < K ∧ w.cell? ⟨b, off + k * 2, none⟩ = some (.int .u64 ((nrm sh[k] fs[k]).num : Nat)) ∧ w.cell? ⟨b, off + k * 2 + 1, none⟩ = some bvv ∧
      Sl K w bvv (nrm sh[k] fs[k]).bytes.length ((nrm sh[k] fs[k]).bytes.map bv) := by
  obtain ⟨ao', cap', hv, _, _, hcs⟩ := h
  simp only [Value.slice.injEq] at hv
  obtain ⟨rfl, _, rfl⟩ := hv
  have h3 : sh.data.toList[k]? = some sh[k] := by
    simp [ByteArray.getElem_eq_getElem_data, hks]
  obtain ⟨b, off, bvv, h1, h2, h4, h5, h6, _⟩ := hcs k (nrm sh[k] fs[k]) (by simp [List.getElem?_zipWith, h3, hk])
  exact ⟨b, off, bvv, h1, h2, h4, h5, h6⟩

theorem fields_form {K : Nat} {w : World} {v : Value} {fs gs : List Fld} (h : FieldsAt K w v gs) (hl : gs.length = fs.length) : ∃ ao cap, v = .slice ao fs.length cap := by
  obtain ⟨ao, cap, hv, _⟩ := h
  exact ⟨ao, cap, by rw [hv, hl]⟩

/-- The same as ord_skip, what follows behind a name. -/
theorem ord_skipK {P : Program} {ops : Array Oper} {S : World → Prop} {Q : Exit → Act → World → Prop} {T : Act → World → Prop} {i : Nat} {r : List (Nat × Bool)} {a : Act} {w : World} (oi : Oper) (ho : ops[i]? = some oi) (hS : S w)
    (hw : Region.wanted oi (yielded ops a.tmps) = false) (h : ∀ K : Act → World → Prop, (∀ a w, wpOrd P ops Q S T r a w → K a w) → K (a.put oi.dst undef) w) : wpOrd P ops Q S T ((i, true) :: r) a w :=
  ord_skip oi ho hS hw (h _ fun _ _ h => h)

set_option maxHeartbeats 12800000 in
set_option maxRecDepth 100000 in
/-- The law's own walk. -/
theorem walk (w : World) (a0 : ByteArray) (w0 : a0.size ≤ maxLen) (v1 : Value) (x1 : List Fld) (w1 : FieldsAt w.heap.size w v1 x1) (l1 : x1.length * 32 ≤ 140737488351232) (v2 : Value) (x2 : List UInt8) (w2 : Sl w.heap.size w v2 x2.length (x2.map bv)) (l2 : x2.length ≤ 140737488351232) :
    Calls Try.prog 6 #[.string a0, v1, v2] w fun e w' => e = .returned (.bool true) ∧ Below w.heap.size w w' := by
  have hl1 : x1.length ≤ maxLen := by unfold maxLen; omega
  obtain ⟨i0, hi, hz0, hz1, hz2⟩ := info_parts Try.info5
  obtain ⟨ao, cap, rfl, h1⟩ := w1
  have w1 : FieldsAt w.heap.size w (.slice ao x1.length cap) x1 := ⟨ao, cap, rfl, h1⟩
  clear h1
  obtain ⟨ao2, cap2, rfl⟩ := sl_form0 w2
  go_enter Try.func6, Try.ntmps6
  go_wp2_with fail
  refine (c_alive _).mono ?_
  rintro e u1 ⟨rfl, hb1⟩
  go_wp2_with fail
  refine (c_copy _ _ x1 _ (w1.keep hb1) hb1.size (by omega)).mono ?_
  rintro e u2 ⟨c1, rfl, hf2, hb2⟩
  go_wp2_with fail
  refine (c_pack a0 _ c1 x1 _ w0 hl1 hf2 (Nat.le_refl _)).mono ?_
  rintro e u3 ⟨hb3, h3⟩
  have HB : Hid (Below w.heap.size w u3) := below_cut (below_cut hb1 hb2) hb3
  clear hb1 hb2 hb3 hf2
  rcases h3 with ⟨ys, v3, hy, rfl, hs3⟩ | ⟨hy, rfl⟩
  case inr =>
    clear hy
    have hlit := World.ownsRow_lit (base := u3.heap.size) (e := 5) (size := 1) u3 #[] 0 (Nat.le_refl _) (by decide) rfl
    have hsx := (w2.keep HB.out).keep ((Below.refl w.heap.size u3).alloc HB.out.size (.cells #[] 5))
    go_wp2_with (at_builtin; refine wpList_append_sl _ rfl (.tmp 105) (.tmp 106) 22 rfl u3.heap.size 5 i0 (.int .u8 0) 1 1 Try.underlying22 hi hz0 hz1 hz2 rfl (by decide) _ 0 [] rfl hlit w.heap.size _ x2.length (x2.map bv) rfl hsx (by simp) (bv_oneCell _) ?c1 ?c2 ?c3 ?_)
    case c1 => unfold maxLen; omega
    case c2 => omega
    case c3 => simp
    intro c7 u7 hown7 hgrow7 _
    have hb7 : Below u3.heap.size u3 u7 := ((Below.refl _ _).alloc (Nat.le_refl _) _).grown hgrow7 (by simp) (by intro k hk; simp [Value.ownBlock] at hk; omega)
    have hs7 : Sl u7.heap.size u7 c7 x2.length (x2.map bv) := sl_of_owns (by simpa using hown7)
    clear hown7 hgrow7 hlit hsx
    go_wp2_with fail
    refine (c_unpack a0 _ c7 x2 _ w0 hs7 (Nat.le_refl _)).mono ?_
    rintro e u8 ⟨hb8, ⟨fs', v8, hy8, rfl, hf8⟩ | ⟨hy8, rfl⟩⟩
    case inr =>
      clear hy8
      go_wp2
      go_ret
      exact ⟨rfl, below_cut (below_cut HB.out hb7) hb8⟩
    have hl8 := unpack_length hy8
    have hp8 := pack_unpack hy8
    clear hy8
    go_wp2_with fail
    refine (c_packN a0 _ v8 fs' _ w0 (by unfold maxLen; omega) hf8 (Nat.le_refl _)).mono ?_
    rintro e u9 ⟨v9, rfl, hs9, hb9⟩
    rw [hp8] at hs9 ⊢
    have hB9 := below_cut (below_cut (below_cut HB.out hb7) hb8) hb9
    have hcv1 := run_string_sl 22 5 9 Try.underlying22 Try.underlying5 Try.underlying9 hs9
    have hcv2 := run_string_sl 22 5 9 Try.underlying22 Try.underlying5 Try.underlying9 (w2.keep hB9)
    have hB9 : Hid _ := hB9
    clear hs9 hb9 hb8 hb7 hf8 hp8 hs7
    simp only [errN_some, Option.getD_some] at *
    go_wp2
    go_ret
    exact ⟨rfl, hB9.out⟩
  go_wp2_with fail
  refine (c_unpackN a0 _ v3 ys _ w0 hs3 (Nat.le_refl _)).mono ?_
  rintro e u5 ⟨v5, rfl, hf5, hb5⟩
  rw [unpack_pack hy] at hf5 ⊢
  obtain ⟨hsz, hlen0, -⟩ := pack_some hy
  rw [ba_len] at hsz hlen0
  have hgl : (List.zipWith nrm a0.data.toList x1).length = x1.length := by rw [List.length_zipWith, ba_len]; omega
  simp only [errN_some, Option.getD_some] at *
  obtain ⟨ao5, cap5, rfl⟩ := fields_form hf5 hgl
  have HB : Hid (Below w.heap.size w u5) := below_cut HB.out hb5
  have hlen : Hid (x1.length = a0.size) := hlen0
  have hsl : x1.length ≤ 200 := by have := hlen.out; omega
  clear hy hs3 hb5 hgl hlen0
  go_wp2
  go_loopw [44] (fun i wr => ∃ k : Nat, k ≤ x1.length ∧ i = .int .i64 k ∧ Below u5.heap.size u5 wr) (fun i _ => x1.length - (intOf i).toNat)
  case atStart => exact ⟨0, Nat.zero_le _, rfl, Below.refl _ _⟩
  case round =>
    obtain ⟨k, hk, rfl, hbel⟩ := hrel
    by_cases hlt : k < x1.length
    · have hks : k < a0.size := by have := hlen.out; omega
      have hks' : (k : Int) < (a0.size : Int) := by omega
      have hk0 : (0 : Int) ≤ (k : Int) := by omega
      have hk1 : (k : Int) < (x1.length : Int) := by omega
      have hsz5 := HB.out.size
      have hbd : Below u5.heap.size u5 wr.drew := hbel.drew
      obtain ⟨b, off, bvv, rfl, hbK, hcn, hcb, hsb, hnum, hbl⟩ := fields_get (w1.keep HB.out) k hlt
      obtain ⟨bo, bc, rfl⟩ : ∃ bo bc, bvv = .slice bo (x1[k].bytes.length) bc := sl_form hsb
      obtain ⟨b', off', bvv', rfl, hbK', hcn', hcb', hsb'⟩ := back_get hf5 k hlt hks
      have hcn : wr.drew.cell? ⟨b, off + k * 2, none⟩ = some (.int .u64 (x1[k].num : Nat)) := by rw [hbd.cell (p := ⟨b, _, none⟩) (by show b < _; omega)]; exact hcn
      have hcb : wr.drew.cell? ⟨b, off + k * 2 + 1, none⟩ = some (.slice bo (x1[k].bytes.length) bc) := by rw [hbd.cell (p := ⟨b, _, none⟩) (by show b < _; omega)]; exact hcb
      have hcn' : wr.drew.cell? ⟨b', off' + k * 2, none⟩ = some (.int .u64 ((nrm a0[k] x1[k]).num : Nat)) := by rw [hbd.cell (p := ⟨b', _, none⟩) (by show b' < _; omega)]; exact hcn'
      have hcb' : wr.drew.cell? ⟨b', off' + k * 2 + 1, none⟩ = some bvv' := by rw [hbd.cell (p := ⟨b', _, none⟩) (by show b' < _; omega)]; exact hcb'
      have hsb := hsb.keep (hbd.mono hsz5)
      have hsb' := hsb'.keep hbd
      by_cases h98 : a0[k] = 98
      · have hc : ((a0[k].toNat : Nat) : Int) = 98 := by rw [h98]; rfl
        have hn : nrm a0[k] x1[k] = ⟨0, x1[k].bytes⟩ := by simp [nrm, h98]
        rw [hn] at hcn' hsb'
        simp only at hcn' hsb'
        obtain ⟨bo', bc', rfl⟩ : ∃ bo' bc', bvv' = .slice bo' (x1[k].bytes.length) bc' := sl_form hsb'
        have hS : (fun w' : World => w'.cell? ⟨b', off' + k * 2, none⟩ = some (.int .u64 0) ∧ w'.cell? ⟨b', off' + k * 2 + 1, none⟩ = some (.slice bo' x1[k].bytes.length bc') ∧ w'.cell? ⟨b, off + k * 2 + 1, none⟩ = some (.slice bo x1[k].bytes.length bc) ∧ (convert 22 9 (.slice bo' x1[k].bytes.length bc')).run Try.prog w' = .ok (.string ⟨x1[k].bytes.toArray⟩) w' ∧ (convert 22 9 (.slice bo x1[k].bytes.length bc)).run Try.prog w' = .ok (.string ⟨x1[k].bytes.toArray⟩) w') wr.drew := ⟨hcn', hcb', hcb, run_string_sl 22 5 9 Try.underlying22 Try.underlying5 Try.underlying9 hsb', run_string_sl 22 5 9 Try.underlying22 Try.underlying5 Try.underlying9 hsb⟩
        clear hcn hcb hcn' hcb' hsb hsb' hn h98
        go_wp2
        refine wp_region_ord [] 54 [(0, true), (1, true), (2, true), (3, true), (4, true), (5, true), (6, true), (7, true), (8, true), (9, true), (10, true), (11, true), (12, true), (13, true), (14, true), (15, true), (16, true), (17, true), (18, true), (19, true), (20, true), (21, true), (22, true), (23, true), (24, true), (25, true), (26, true), (27, true), (28, true), (29, true), (30, true), (31, true), (32, true), (33, true), (34, true), (35, true), (36, true), (37, true), (38, true), (39, true), (40, true), (41, true), (42, true), (43, true), (44, true), (45, true), (46, true), (47, true), (48, true), (49, true), (50, true), (51, true), (52, true), (53, true)] (fun w' : World => w'.cell? ⟨b', off' + k * 2, none⟩ = some (.int .u64 0) ∧ w'.cell? ⟨b', off' + k * 2 + 1, none⟩ = some (.slice bo' x1[k].bytes.length bc') ∧ w'.cell? ⟨b, off + k * 2 + 1, none⟩ = some (.slice bo x1[k].bytes.length bc) ∧ (convert 22 9 (.slice bo' x1[k].bytes.length bc')).run Try.prog w' = .ok (.string ⟨x1[k].bytes.toArray⟩) w' ∧ (convert 22 9 (.slice bo x1[k].bytes.length bc)).run Try.prog w' = .ok (.string ⟨x1[k].bytes.toArray⟩) w') (by kernel_rfl) (by kernel_rfl) ?_
        refine ord_quietK _ ?_ rfl hS ?_ ?_ (fun Kq hKq => ?_)
        rotate_left
        · rfl
        · rintro w' ⟨hS1, hS2, hS3, hS4, hS5⟩; go_simp; rfl
        simp only [Act.put, List.getElem_toArray, List.getElem_cons_succ, List.getElem_cons_zero, List.setIfInBounds_toArray, List.set_cons_succ, List.set_cons_zero]
        refine hKq _ _ ?_
        clear hKq Kq
        refine ord_quietK _ ?_ rfl hS ?_ ?_ (fun Kq hKq => ?_)
        rotate_left
        · rfl
        · rintro w' ⟨hS1, hS2, hS3, hS4, hS5⟩; go_simp; rfl
        simp only [Act.put, List.getElem_toArray, List.getElem_cons_succ, List.getElem_cons_zero, List.setIfInBounds_toArray, List.set_cons_succ, List.set_cons_zero]
        refine hKq _ _ ?_
        clear hKq Kq
        refine ord_quietK _ ?_ rfl hS ?_ ?_ (fun Kq hKq => ?_)
        rotate_left
        · rfl
        · rintro w' ⟨hS1, hS2, hS3, hS4, hS5⟩; go_simp; rfl
        simp only [Act.put, List.getElem_toArray, List.getElem_cons_succ, List.getElem_cons_zero, List.setIfInBounds_toArray, List.set_cons_succ, List.set_cons_zero]
        refine hKq _ _ ?_
        clear hKq Kq
        refine ord_quietK _ ?_ rfl hS ?_ ?_ (fun Kq hKq => ?_)
        rotate_left
        · rfl
        · rintro w' ⟨hS1, hS2, hS3, hS4, hS5⟩; go_simp; rfl
        simp only [Act.put, List.getElem_toArray, List.getElem_cons_succ, List.getElem_cons_zero, List.setIfInBounds_toArray, List.set_cons_succ, List.set_cons_zero]
        refine hKq _ _ ?_
        clear hKq Kq
        refine ord_quietK _ ?_ rfl hS ?_ ?_ (fun Kq hKq => ?_)
        rotate_left
        · rfl
        · rintro w' ⟨hS1, hS2, hS3, hS4, hS5⟩; go_simp; rfl
        simp only [Act.put, List.getElem_toArray, List.getElem_cons_succ, List.getElem_cons_zero, List.setIfInBounds_toArray, List.set_cons_succ, List.set_cons_zero]
        refine hKq _ _ ?_
        clear hKq Kq
        refine ord_quietK _ ?_ rfl hS ?_ ?_ (fun Kq hKq => ?_)
        rotate_left
        · simp [Region.wanted, yielded]
        · rintro w' ⟨hS1, hS2, hS3, hS4, hS5⟩; go_simp; rfl
        simp only [Act.put, List.getElem_toArray, List.getElem_cons_succ, List.getElem_cons_zero, List.setIfInBounds_toArray, List.set_cons_succ, List.set_cons_zero]
        refine hKq _ _ ?_
        clear hKq Kq
        refine ord_quietK _ ?_ rfl hS ?_ ?_ (fun Kq hKq => ?_)
        rotate_left
        · simp [Region.wanted, yielded]
        · rintro w' ⟨hS1, hS2, hS3, hS4, hS5⟩; go_simp; rfl
        simp only [Act.put, List.getElem_toArray, List.getElem_cons_succ, List.getElem_cons_zero, List.setIfInBounds_toArray, List.set_cons_succ, List.set_cons_zero]
        refine hKq _ _ ?_
        clear hKq Kq
        refine ord_quietK _ ?_ rfl hS ?_ ?_ (fun Kq hKq => ?_)
        rotate_left
        · simp [Region.wanted, yielded]
        · rintro w' ⟨hS1, hS2, hS3, hS4, hS5⟩; go_simp; rfl
        simp only [Act.put, List.getElem_toArray, List.getElem_cons_succ, List.getElem_cons_zero, List.setIfInBounds_toArray, List.set_cons_succ, List.set_cons_zero]
        refine hKq _ _ ?_
        clear hKq Kq
        refine ord_quietK _ ?_ rfl hS ?_ ?_ (fun Kq hKq => ?_)
        rotate_left
        · simp [Region.wanted, yielded]
        · rintro w' ⟨hS1, hS2, hS3, hS4, hS5⟩; go_simp; rfl
        simp only [Act.put, List.getElem_toArray, List.getElem_cons_succ, List.getElem_cons_zero, List.setIfInBounds_toArray, List.set_cons_succ, List.set_cons_zero]
        refine hKq _ _ ?_
        clear hKq Kq
        refine ord_quietK _ ?_ rfl hS ?_ ?_ (fun Kq hKq => ?_)
        rotate_left
        · simp [Region.wanted, yielded]
        · rintro w' ⟨hS1, hS2, hS3, hS4, hS5⟩; go_simp; rfl
        simp only [Act.put, List.getElem_toArray, List.getElem_cons_succ, List.getElem_cons_zero, List.setIfInBounds_toArray, List.set_cons_succ, List.set_cons_zero]
        refine hKq _ _ ?_
        clear hKq Kq
        refine ord_quietK _ ?_ rfl hS ?_ ?_ (fun Kq hKq => ?_)
        rotate_left
        · simp [Region.wanted, yielded]
        · rintro w' ⟨hS1, hS2, hS3, hS4, hS5⟩; go_simp; rfl
        simp only [Act.put, List.getElem_toArray, List.getElem_cons_succ, List.getElem_cons_zero, List.setIfInBounds_toArray, List.set_cons_succ, List.set_cons_zero]
        refine hKq _ _ ?_
        clear hKq Kq
        refine ord_quietK _ ?_ rfl hS ?_ ?_ (fun Kq hKq => ?_)
        rotate_left
        · simp [Region.wanted, yielded]
        · rintro w' ⟨hS1, hS2, hS3, hS4, hS5⟩; go_simp; rfl
        simp only [Act.put, List.getElem_toArray, List.getElem_cons_succ, List.getElem_cons_zero, List.setIfInBounds_toArray, List.set_cons_succ, List.set_cons_zero]
        refine hKq _ _ ?_
        clear hKq Kq
        refine ord_quietK _ ?_ rfl hS ?_ ?_ (fun Kq hKq => ?_)
        rotate_left
        · simp [Region.wanted, yielded]
        · rintro w' ⟨hS1, hS2, hS3, hS4, hS5⟩; go_simp; rfl
        simp only [Act.put, List.getElem_toArray, List.getElem_cons_succ, List.getElem_cons_zero, List.setIfInBounds_toArray, List.set_cons_succ, List.set_cons_zero]
        refine hKq _ _ ?_
        clear hKq Kq
        refine ord_quietK _ ?_ rfl hS ?_ ?_ (fun Kq hKq => ?_)
        rotate_left
        · simp [Region.wanted, yielded]
        · rintro w' ⟨hS1, hS2, hS3, hS4, hS5⟩; go_simp; rfl
        simp only [Act.put, List.getElem_toArray, List.getElem_cons_succ, List.getElem_cons_zero, List.setIfInBounds_toArray, List.set_cons_succ, List.set_cons_zero]
        refine hKq _ _ ?_
        clear hKq Kq
        refine ord_quietK _ ?_ rfl hS ?_ ?_ (fun Kq hKq => ?_)
        rotate_left
        · simp [Region.wanted, yielded]
        · rintro w' ⟨hS1, hS2, hS3, hS4, hS5⟩; go_simp; rfl
        simp only [Act.put, List.getElem_toArray, List.getElem_cons_succ, List.getElem_cons_zero, List.setIfInBounds_toArray, List.set_cons_succ, List.set_cons_zero]
        refine hKq _ _ ?_
        clear hKq Kq
        refine ord_quietK _ ?_ rfl hS ?_ ?_ (fun Kq hKq => ?_)
        rotate_left
        · simp [Region.wanted, yielded]
        · rintro w' ⟨hS1, hS2, hS3, hS4, hS5⟩; go_simp; rfl
        simp only [Act.put, List.getElem_toArray, List.getElem_cons_succ, List.getElem_cons_zero, List.setIfInBounds_toArray, List.set_cons_succ, List.set_cons_zero]
        refine hKq _ _ ?_
        clear hKq Kq
        refine ord_quietK _ ?_ rfl hS ?_ ?_ (fun Kq hKq => ?_)
        rotate_left
        · simp [Region.wanted, yielded]
        · rintro w' ⟨hS1, hS2, hS3, hS4, hS5⟩; go_simp; rfl
        simp only [Act.put, List.getElem_toArray, List.getElem_cons_succ, List.getElem_cons_zero, List.setIfInBounds_toArray, List.set_cons_succ, List.set_cons_zero]
        refine hKq _ _ ?_
        clear hKq Kq
        refine ord_quietK _ ?_ rfl hS ?_ ?_ (fun Kq hKq => ?_)
        rotate_left
        · simp [Region.wanted, yielded]
        · rintro w' ⟨hS1, hS2, hS3, hS4, hS5⟩; go_simp; rfl
        simp only [Act.put, List.getElem_toArray, List.getElem_cons_succ, List.getElem_cons_zero, List.setIfInBounds_toArray, List.set_cons_succ, List.set_cons_zero]
        refine hKq _ _ ?_
        clear hKq Kq
        refine ord_quietK _ ?_ rfl hS ?_ ?_ (fun Kq hKq => ?_)
        rotate_left
        · simp [Region.wanted, yielded]
        · rintro w' ⟨hS1, hS2, hS3, hS4, hS5⟩; go_simp; rfl
        simp only [Act.put, List.getElem_toArray, List.getElem_cons_succ, List.getElem_cons_zero, List.setIfInBounds_toArray, List.set_cons_succ, List.set_cons_zero]
        refine hKq _ _ ?_
        clear hKq Kq
        refine ord_quietK _ ?_ rfl hS ?_ ?_ (fun Kq hKq => ?_)
        rotate_left
        · simp [Region.wanted, yielded]
        · rintro w' ⟨hS1, hS2, hS3, hS4, hS5⟩; go_simp; rfl
        simp only [Act.put, List.getElem_toArray, List.getElem_cons_succ, List.getElem_cons_zero, List.setIfInBounds_toArray, List.set_cons_succ, List.set_cons_zero]
        refine hKq _ _ ?_
        clear hKq Kq
        refine ord_quietK _ ?_ rfl hS ?_ ?_ (fun Kq hKq => ?_)
        rotate_left
        · simp [Region.wanted, yielded]
        · rintro w' ⟨hS1, hS2, hS3, hS4, hS5⟩; go_simp; rfl
        simp only [Act.put, List.getElem_toArray, List.getElem_cons_succ, List.getElem_cons_zero, List.setIfInBounds_toArray, List.set_cons_succ, List.set_cons_zero]
        refine hKq _ _ ?_
        clear hKq Kq
        refine ord_quietK _ ?_ rfl hS ?_ ?_ (fun Kq hKq => ?_)
        rotate_left
        · simp [Region.wanted, yielded]
        · rintro w' ⟨hS1, hS2, hS3, hS4, hS5⟩; go_simp; rfl
        simp only [Act.put, List.getElem_toArray, List.getElem_cons_succ, List.getElem_cons_zero, List.setIfInBounds_toArray, List.set_cons_succ, List.set_cons_zero]
        refine hKq _ _ ?_
        clear hKq Kq
        refine ord_quietK _ ?_ rfl hS ?_ ?_ (fun Kq hKq => ?_)
        rotate_left
        · simp [Region.wanted, yielded]
        · rintro w' ⟨hS1, hS2, hS3, hS4, hS5⟩; go_simp; rfl
        simp only [Act.put, List.getElem_toArray, List.getElem_cons_succ, List.getElem_cons_zero, List.setIfInBounds_toArray, List.set_cons_succ, List.set_cons_zero]
        refine hKq _ _ ?_
        clear hKq Kq
        refine ord_quietK _ ?_ rfl hS ?_ ?_ (fun Kq hKq => ?_)
        rotate_left
        · simp [Region.wanted, yielded]
        · rintro w' ⟨hS1, hS2, hS3, hS4, hS5⟩; go_simp; rfl
        simp only [Act.put, List.getElem_toArray, List.getElem_cons_succ, List.getElem_cons_zero, List.setIfInBounds_toArray, List.set_cons_succ, List.set_cons_zero]
        refine hKq _ _ ?_
        clear hKq Kq
        refine ord_quietK _ ?_ rfl hS ?_ ?_ (fun Kq hKq => ?_)
        rotate_left
        · simp [Region.wanted, yielded]
        · rintro w' ⟨hS1, hS2, hS3, hS4, hS5⟩; go_simp; rfl
        simp only [Act.put, List.getElem_toArray, List.getElem_cons_succ, List.getElem_cons_zero, List.setIfInBounds_toArray, List.set_cons_succ, List.set_cons_zero]
        refine hKq _ _ ?_
        clear hKq Kq
        refine ord_quietK _ ?_ rfl hS ?_ ?_ (fun Kq hKq => ?_)
        rotate_left
        · simp [Region.wanted, yielded]
        · rintro w' ⟨hS1, hS2, hS3, hS4, hS5⟩; go_simp; rfl
        simp only [Act.put, List.getElem_toArray, List.getElem_cons_succ, List.getElem_cons_zero, List.setIfInBounds_toArray, List.set_cons_succ, List.set_cons_zero]
        refine hKq _ _ ?_
        clear hKq Kq
        refine ord_quietK _ ?_ rfl hS ?_ ?_ (fun Kq hKq => ?_)
        rotate_left
        · rfl
        · rintro w' ⟨hS1, hS2, hS3, hS4, hS5⟩; go_simp; rfl
        simp only [Act.put, List.getElem_toArray, List.getElem_cons_succ, List.getElem_cons_zero, List.setIfInBounds_toArray, List.set_cons_succ, List.set_cons_zero]
        refine hKq _ _ ?_
        clear hKq Kq
        refine ord_quietK _ ?_ rfl hS ?_ ?_ (fun Kq hKq => ?_)
        rotate_left
        · rfl
        · rintro w' ⟨hS1, hS2, hS3, hS4, hS5⟩; go_simp; rfl
        simp only [Act.put, List.getElem_toArray, List.getElem_cons_succ, List.getElem_cons_zero, List.setIfInBounds_toArray, List.set_cons_succ, List.set_cons_zero]
        refine hKq _ _ ?_
        clear hKq Kq
        refine ord_quietK _ ?_ rfl hS ?_ ?_ (fun Kq hKq => ?_)
        rotate_left
        · simp [Region.wanted, yielded]
        · rintro w' ⟨hS1, hS2, hS3, hS4, hS5⟩; go_simp; rfl
        simp only [Act.put, List.getElem_toArray, List.getElem_cons_succ, List.getElem_cons_zero, List.setIfInBounds_toArray, List.set_cons_succ, List.set_cons_zero]
        refine hKq _ _ ?_
        clear hKq Kq
        refine ord_quietK _ ?_ rfl hS ?_ ?_ (fun Kq hKq => ?_)
        rotate_left
        · simp [Region.wanted, yielded]
        · rintro w' ⟨hS1, hS2, hS3, hS4, hS5⟩; go_simp; rfl
        simp only [Act.put, List.getElem_toArray, List.getElem_cons_succ, List.getElem_cons_zero, List.setIfInBounds_toArray, List.set_cons_succ, List.set_cons_zero]
        refine hKq _ _ ?_
        clear hKq Kq
        refine ord_quietK _ ?_ rfl hS ?_ ?_ (fun Kq hKq => ?_)
        rotate_left
        · simp [Region.wanted, yielded]
        · rintro w' ⟨hS1, hS2, hS3, hS4, hS5⟩; go_simp; rfl
        simp only [Act.put, List.getElem_toArray, List.getElem_cons_succ, List.getElem_cons_zero, List.setIfInBounds_toArray, List.set_cons_succ, List.set_cons_zero]
        refine hKq _ _ ?_
        clear hKq Kq
        refine ord_quietK _ ?_ rfl hS ?_ ?_ (fun Kq hKq => ?_)
        rotate_left
        · simp [Region.wanted, yielded]
        · rintro w' ⟨hS1, hS2, hS3, hS4, hS5⟩; go_simp; rfl
        simp only [Act.put, List.getElem_toArray, List.getElem_cons_succ, List.getElem_cons_zero, List.setIfInBounds_toArray, List.set_cons_succ, List.set_cons_zero]
        refine hKq _ _ ?_
        clear hKq Kq
        refine ord_quietK _ ?_ rfl hS ?_ ?_ (fun Kq hKq => ?_)
        rotate_left
        · simp [Region.wanted, yielded]
        · rintro w' ⟨hS1, hS2, hS3, hS4, hS5⟩; go_simp; rfl
        simp only [Act.put, List.getElem_toArray, List.getElem_cons_succ, List.getElem_cons_zero, List.setIfInBounds_toArray, List.set_cons_succ, List.set_cons_zero]
        refine hKq _ _ ?_
        clear hKq Kq
        refine ord_skipK _ rfl hS ?_ (fun Kq hKq => ?_)
        · simp [Region.wanted, yielded, undef]
        simp only [Act.put, List.getElem_toArray, List.getElem_cons_succ, List.getElem_cons_zero, List.setIfInBounds_toArray, List.set_cons_succ, List.set_cons_zero]
        refine hKq _ _ ?_
        clear hKq Kq
        refine ord_skipK _ rfl hS ?_ (fun Kq hKq => ?_)
        · simp [Region.wanted, yielded, undef]
        simp only [Act.put, List.getElem_toArray, List.getElem_cons_succ, List.getElem_cons_zero, List.setIfInBounds_toArray, List.set_cons_succ, List.set_cons_zero]
        refine hKq _ _ ?_
        clear hKq Kq
        refine ord_skipK _ rfl hS ?_ (fun Kq hKq => ?_)
        · simp [Region.wanted, yielded, undef]
        simp only [Act.put, List.getElem_toArray, List.getElem_cons_succ, List.getElem_cons_zero, List.setIfInBounds_toArray, List.set_cons_succ, List.set_cons_zero]
        refine hKq _ _ ?_
        clear hKq Kq
        refine ord_skipK _ rfl hS ?_ (fun Kq hKq => ?_)
        · simp [Region.wanted, yielded, undef]
        simp only [Act.put, List.getElem_toArray, List.getElem_cons_succ, List.getElem_cons_zero, List.setIfInBounds_toArray, List.set_cons_succ, List.set_cons_zero]
        refine hKq _ _ ?_
        clear hKq Kq
        refine ord_skipK _ rfl hS ?_ (fun Kq hKq => ?_)
        · simp [Region.wanted, yielded, undef]
        simp only [Act.put, List.getElem_toArray, List.getElem_cons_succ, List.getElem_cons_zero, List.setIfInBounds_toArray, List.set_cons_succ, List.set_cons_zero]
        refine hKq _ _ ?_
        clear hKq Kq
        refine ord_skipK _ rfl hS ?_ (fun Kq hKq => ?_)
        · simp [Region.wanted, yielded, undef]
        simp only [Act.put, List.getElem_toArray, List.getElem_cons_succ, List.getElem_cons_zero, List.setIfInBounds_toArray, List.set_cons_succ, List.set_cons_zero]
        refine hKq _ _ ?_
        clear hKq Kq
        refine ord_skipK _ rfl hS ?_ (fun Kq hKq => ?_)
        · simp [Region.wanted, yielded, undef]
        simp only [Act.put, List.getElem_toArray, List.getElem_cons_succ, List.getElem_cons_zero, List.setIfInBounds_toArray, List.set_cons_succ, List.set_cons_zero]
        refine hKq _ _ ?_
        clear hKq Kq
        refine ord_skipK _ rfl hS ?_ (fun Kq hKq => ?_)
        · simp [Region.wanted, yielded, undef]
        simp only [Act.put, List.getElem_toArray, List.getElem_cons_succ, List.getElem_cons_zero, List.setIfInBounds_toArray, List.set_cons_succ, List.set_cons_zero]
        refine hKq _ _ ?_
        clear hKq Kq
        refine ord_skipK _ rfl hS ?_ (fun Kq hKq => ?_)
        · simp [Region.wanted, yielded, undef]
        simp only [Act.put, List.getElem_toArray, List.getElem_cons_succ, List.getElem_cons_zero, List.setIfInBounds_toArray, List.set_cons_succ, List.set_cons_zero]
        refine hKq _ _ ?_
        clear hKq Kq
        refine ord_skipK _ rfl hS ?_ (fun Kq hKq => ?_)
        · simp [Region.wanted, yielded, undef]
        simp only [Act.put, List.getElem_toArray, List.getElem_cons_succ, List.getElem_cons_zero, List.setIfInBounds_toArray, List.set_cons_succ, List.set_cons_zero]
        refine hKq _ _ ?_
        clear hKq Kq
        refine ord_skipK _ rfl hS ?_ (fun Kq hKq => ?_)
        · simp [Region.wanted, yielded, undef]
        simp only [Act.put, List.getElem_toArray, List.getElem_cons_succ, List.getElem_cons_zero, List.setIfInBounds_toArray, List.set_cons_succ, List.set_cons_zero]
        refine hKq _ _ ?_
        clear hKq Kq
        refine ord_skipK _ rfl hS ?_ (fun Kq hKq => ?_)
        · simp [Region.wanted, yielded, undef]
        simp only [Act.put, List.getElem_toArray, List.getElem_cons_succ, List.getElem_cons_zero, List.setIfInBounds_toArray, List.set_cons_succ, List.set_cons_zero]
        refine hKq _ _ ?_
        clear hKq Kq
        refine ord_skipK _ rfl hS ?_ (fun Kq hKq => ?_)
        · simp [Region.wanted, yielded, undef]
        simp only [Act.put, List.getElem_toArray, List.getElem_cons_succ, List.getElem_cons_zero, List.setIfInBounds_toArray, List.set_cons_succ, List.set_cons_zero]
        refine hKq _ _ ?_
        clear hKq Kq
        refine ord_skipK _ rfl hS ?_ (fun Kq hKq => ?_)
        · simp [Region.wanted, yielded, undef]
        simp only [Act.put, List.getElem_toArray, List.getElem_cons_succ, List.getElem_cons_zero, List.setIfInBounds_toArray, List.set_cons_succ, List.set_cons_zero]
        refine hKq _ _ ?_
        clear hKq Kq
        refine ord_skipK _ rfl hS ?_ (fun Kq hKq => ?_)
        · simp [Region.wanted, yielded, undef]
        simp only [Act.put, List.getElem_toArray, List.getElem_cons_succ, List.getElem_cons_zero, List.setIfInBounds_toArray, List.set_cons_succ, List.set_cons_zero]
        refine hKq _ _ ?_
        clear hKq Kq
        refine ord_skipK _ rfl hS ?_ (fun Kq hKq => ?_)
        · simp [Region.wanted, yielded, undef]
        simp only [Act.put, List.getElem_toArray, List.getElem_cons_succ, List.getElem_cons_zero, List.setIfInBounds_toArray, List.set_cons_succ, List.set_cons_zero]
        refine hKq _ _ ?_
        clear hKq Kq
        refine ord_skipK _ rfl hS ?_ (fun Kq hKq => ?_)
        · simp [Region.wanted, yielded, undef]
        simp only [Act.put, List.getElem_toArray, List.getElem_cons_succ, List.getElem_cons_zero, List.setIfInBounds_toArray, List.set_cons_succ, List.set_cons_zero]
        refine hKq _ _ ?_
        clear hKq Kq
        refine ord_skipK _ rfl hS ?_ (fun Kq hKq => ?_)
        · simp [Region.wanted, yielded, undef]
        simp only [Act.put, List.getElem_toArray, List.getElem_cons_succ, List.getElem_cons_zero, List.setIfInBounds_toArray, List.set_cons_succ, List.set_cons_zero]
        refine hKq _ _ ?_
        clear hKq Kq
        refine ord_skipK _ rfl hS ?_ (fun Kq hKq => ?_)
        · simp [Region.wanted, yielded, undef]
        simp only [Act.put, List.getElem_toArray, List.getElem_cons_succ, List.getElem_cons_zero, List.setIfInBounds_toArray, List.set_cons_succ, List.set_cons_zero]
        refine hKq _ _ ?_
        clear hKq Kq
        refine ord_skipK _ rfl hS ?_ (fun Kq hKq => ?_)
        · simp [Region.wanted, yielded, undef]
        simp only [Act.put, List.getElem_toArray, List.getElem_cons_succ, List.getElem_cons_zero, List.setIfInBounds_toArray, List.set_cons_succ, List.set_cons_zero]
        refine hKq _ _ ?_
        clear hKq Kq
        refine ord_quietK _ ?_ rfl hS ?_ ?_ (fun Kq hKq => ?_)
        rotate_left
        · simp [Region.wanted, yielded]
        · rintro w' ⟨hS1, hS2, hS3, hS4, hS5⟩; go_simp; rfl
        simp only [Act.put, List.getElem_toArray, List.getElem_cons_succ, List.getElem_cons_zero, List.setIfInBounds_toArray, List.set_cons_succ, List.set_cons_zero]
        refine hKq _ _ ?_
        clear hKq Kq
        refine ord_tail ?_
        simp only [List.drop_succ_cons, List.drop_zero]
        go_wp2
        go_roundw
        case rel => exact ⟨k + 1, by omega, by go_num, hbel.drew⟩
        case measure => simp [intOf]; omega
      · have hc : (((a0[k].toNat : Nat) : Int) == 98) = false := byte_ne h98 98 rfl
        have hc' : (((a0[k].toNat : Nat) : Int) != 98) = true := by simp only [bne, hc, Bool.not_false]
        have hn : nrm a0[k] x1[k] = ⟨x1[k].num, []⟩ := by simp [nrm, h98]
        rw [hn] at hcn' hsb'
        simp only [List.length_nil] at hcn' hsb'
        obtain ⟨bo', bc', rfl⟩ : ∃ bo' bc', bvv' = .slice bo' 0 bc' := sl_form0 hsb'
        have hS : (fun w' : World => w'.cell? ⟨b', off' + k * 2, none⟩ = some (.int .u64 (x1[k].num : Nat)) ∧ w'.cell? ⟨b', off' + k * 2 + 1, none⟩ = some (.slice bo' 0 bc') ∧ w'.cell? ⟨b, off + k * 2, none⟩ = some (.int .u64 (x1[k].num : Nat)) ∧ True ∧ True) wr.drew := ⟨hcn', hcb', hcn, trivial, trivial⟩
        clear hcn hcb hcn' hcb' hsb hsb' hn h98
        go_wp2
        refine wp_region_ord [] 54 [(0, true), (1, true), (2, true), (3, true), (4, true), (5, true), (6, true), (7, true), (8, true), (9, true), (10, true), (11, true), (12, true), (13, true), (14, true), (15, true), (16, true), (17, true), (18, true), (19, true), (20, true), (21, true), (22, true), (23, true), (24, true), (25, true), (26, true), (27, true), (28, true), (29, true), (30, true), (31, true), (32, true), (33, true), (34, true), (35, true), (36, true), (37, true), (38, true), (39, true), (40, true), (41, true), (42, true), (43, true), (44, true), (45, true), (46, true), (47, true), (48, true), (49, true), (50, true), (51, true), (52, true), (53, true)] (fun w' : World => w'.cell? ⟨b', off' + k * 2, none⟩ = some (.int .u64 (x1[k].num : Nat)) ∧ w'.cell? ⟨b', off' + k * 2 + 1, none⟩ = some (.slice bo' 0 bc') ∧ w'.cell? ⟨b, off + k * 2, none⟩ = some (.int .u64 (x1[k].num : Nat)) ∧ True ∧ True) (by kernel_rfl) (by kernel_rfl) ?_
        refine ord_quietK _ ?_ rfl hS ?_ ?_ (fun Kq hKq => ?_)
        rotate_left
        · rfl
        · rintro w' ⟨hS1, hS2, hS3, hS4, hS5⟩; go_simp; rfl
        simp only [Act.put, List.getElem_toArray, List.getElem_cons_succ, List.getElem_cons_zero, List.setIfInBounds_toArray, List.set_cons_succ, List.set_cons_zero]
        refine hKq _ _ ?_
        clear hKq Kq
        refine ord_quietK _ ?_ rfl hS ?_ ?_ (fun Kq hKq => ?_)
        rotate_left
        · rfl
        · rintro w' ⟨hS1, hS2, hS3, hS4, hS5⟩; go_simp; rfl
        simp only [Act.put, List.getElem_toArray, List.getElem_cons_succ, List.getElem_cons_zero, List.setIfInBounds_toArray, List.set_cons_succ, List.set_cons_zero]
        refine hKq _ _ ?_
        clear hKq Kq
        refine ord_quietK _ ?_ rfl hS ?_ ?_ (fun Kq hKq => ?_)
        rotate_left
        · rfl
        · rintro w' ⟨hS1, hS2, hS3, hS4, hS5⟩; go_simp; rfl
        simp only [Act.put, List.getElem_toArray, List.getElem_cons_succ, List.getElem_cons_zero, List.setIfInBounds_toArray, List.set_cons_succ, List.set_cons_zero]
        refine hKq _ _ ?_
        clear hKq Kq
        refine ord_quietK _ ?_ rfl hS ?_ ?_ (fun Kq hKq => ?_)
        rotate_left
        · rfl
        · rintro w' ⟨hS1, hS2, hS3, hS4, hS5⟩; go_simp; rfl
        simp only [Act.put, List.getElem_toArray, List.getElem_cons_succ, List.getElem_cons_zero, List.setIfInBounds_toArray, List.set_cons_succ, List.set_cons_zero]
        refine hKq _ _ ?_
        clear hKq Kq
        refine ord_quietK _ ?_ rfl hS ?_ ?_ (fun Kq hKq => ?_)
        rotate_left
        · rfl
        · rintro w' ⟨hS1, hS2, hS3, hS4, hS5⟩; go_simp; rfl
        simp only [Act.put, List.getElem_toArray, List.getElem_cons_succ, List.getElem_cons_zero, List.setIfInBounds_toArray, List.set_cons_succ, List.set_cons_zero]
        refine hKq _ _ ?_
        clear hKq Kq
        refine ord_skipK _ rfl hS ?_ (fun Kq hKq => ?_)
        · simp [Region.wanted, yielded, undef]
        simp only [Act.put, List.getElem_toArray, List.getElem_cons_succ, List.getElem_cons_zero, List.setIfInBounds_toArray, List.set_cons_succ, List.set_cons_zero]
        refine hKq _ _ ?_
        clear hKq Kq
        refine ord_skipK _ rfl hS ?_ (fun Kq hKq => ?_)
        · simp [Region.wanted, yielded, undef]
        simp only [Act.put, List.getElem_toArray, List.getElem_cons_succ, List.getElem_cons_zero, List.setIfInBounds_toArray, List.set_cons_succ, List.set_cons_zero]
        refine hKq _ _ ?_
        clear hKq Kq
        refine ord_skipK _ rfl hS ?_ (fun Kq hKq => ?_)
        · simp [Region.wanted, yielded, undef]
        simp only [Act.put, List.getElem_toArray, List.getElem_cons_succ, List.getElem_cons_zero, List.setIfInBounds_toArray, List.set_cons_succ, List.set_cons_zero]
        refine hKq _ _ ?_
        clear hKq Kq
        refine ord_skipK _ rfl hS ?_ (fun Kq hKq => ?_)
        · simp [Region.wanted, yielded, undef]
        simp only [Act.put, List.getElem_toArray, List.getElem_cons_succ, List.getElem_cons_zero, List.setIfInBounds_toArray, List.set_cons_succ, List.set_cons_zero]
        refine hKq _ _ ?_
        clear hKq Kq
        refine ord_skipK _ rfl hS ?_ (fun Kq hKq => ?_)
        · simp [Region.wanted, yielded, undef]
        simp only [Act.put, List.getElem_toArray, List.getElem_cons_succ, List.getElem_cons_zero, List.setIfInBounds_toArray, List.set_cons_succ, List.set_cons_zero]
        refine hKq _ _ ?_
        clear hKq Kq
        refine ord_skipK _ rfl hS ?_ (fun Kq hKq => ?_)
        · simp [Region.wanted, yielded, undef]
        simp only [Act.put, List.getElem_toArray, List.getElem_cons_succ, List.getElem_cons_zero, List.setIfInBounds_toArray, List.set_cons_succ, List.set_cons_zero]
        refine hKq _ _ ?_
        clear hKq Kq
        refine ord_skipK _ rfl hS ?_ (fun Kq hKq => ?_)
        · simp [Region.wanted, yielded, undef]
        simp only [Act.put, List.getElem_toArray, List.getElem_cons_succ, List.getElem_cons_zero, List.setIfInBounds_toArray, List.set_cons_succ, List.set_cons_zero]
        refine hKq _ _ ?_
        clear hKq Kq
        refine ord_skipK _ rfl hS ?_ (fun Kq hKq => ?_)
        · simp [Region.wanted, yielded, undef]
        simp only [Act.put, List.getElem_toArray, List.getElem_cons_succ, List.getElem_cons_zero, List.setIfInBounds_toArray, List.set_cons_succ, List.set_cons_zero]
        refine hKq _ _ ?_
        clear hKq Kq
        refine ord_skipK _ rfl hS ?_ (fun Kq hKq => ?_)
        · simp [Region.wanted, yielded, undef]
        simp only [Act.put, List.getElem_toArray, List.getElem_cons_succ, List.getElem_cons_zero, List.setIfInBounds_toArray, List.set_cons_succ, List.set_cons_zero]
        refine hKq _ _ ?_
        clear hKq Kq
        refine ord_skipK _ rfl hS ?_ (fun Kq hKq => ?_)
        · simp [Region.wanted, yielded, undef]
        simp only [Act.put, List.getElem_toArray, List.getElem_cons_succ, List.getElem_cons_zero, List.setIfInBounds_toArray, List.set_cons_succ, List.set_cons_zero]
        refine hKq _ _ ?_
        clear hKq Kq
        refine ord_skipK _ rfl hS ?_ (fun Kq hKq => ?_)
        · simp [Region.wanted, yielded, undef]
        simp only [Act.put, List.getElem_toArray, List.getElem_cons_succ, List.getElem_cons_zero, List.setIfInBounds_toArray, List.set_cons_succ, List.set_cons_zero]
        refine hKq _ _ ?_
        clear hKq Kq
        refine ord_skipK _ rfl hS ?_ (fun Kq hKq => ?_)
        · simp [Region.wanted, yielded, undef]
        simp only [Act.put, List.getElem_toArray, List.getElem_cons_succ, List.getElem_cons_zero, List.setIfInBounds_toArray, List.set_cons_succ, List.set_cons_zero]
        refine hKq _ _ ?_
        clear hKq Kq
        refine ord_skipK _ rfl hS ?_ (fun Kq hKq => ?_)
        · simp [Region.wanted, yielded, undef]
        simp only [Act.put, List.getElem_toArray, List.getElem_cons_succ, List.getElem_cons_zero, List.setIfInBounds_toArray, List.set_cons_succ, List.set_cons_zero]
        refine hKq _ _ ?_
        clear hKq Kq
        refine ord_skipK _ rfl hS ?_ (fun Kq hKq => ?_)
        · simp [Region.wanted, yielded, undef]
        simp only [Act.put, List.getElem_toArray, List.getElem_cons_succ, List.getElem_cons_zero, List.setIfInBounds_toArray, List.set_cons_succ, List.set_cons_zero]
        refine hKq _ _ ?_
        clear hKq Kq
        refine ord_skipK _ rfl hS ?_ (fun Kq hKq => ?_)
        · simp [Region.wanted, yielded, undef]
        simp only [Act.put, List.getElem_toArray, List.getElem_cons_succ, List.getElem_cons_zero, List.setIfInBounds_toArray, List.set_cons_succ, List.set_cons_zero]
        refine hKq _ _ ?_
        clear hKq Kq
        refine ord_skipK _ rfl hS ?_ (fun Kq hKq => ?_)
        · simp [Region.wanted, yielded, undef]
        simp only [Act.put, List.getElem_toArray, List.getElem_cons_succ, List.getElem_cons_zero, List.setIfInBounds_toArray, List.set_cons_succ, List.set_cons_zero]
        refine hKq _ _ ?_
        clear hKq Kq
        refine ord_skipK _ rfl hS ?_ (fun Kq hKq => ?_)
        · simp [Region.wanted, yielded, undef]
        simp only [Act.put, List.getElem_toArray, List.getElem_cons_succ, List.getElem_cons_zero, List.setIfInBounds_toArray, List.set_cons_succ, List.set_cons_zero]
        refine hKq _ _ ?_
        clear hKq Kq
        refine ord_skipK _ rfl hS ?_ (fun Kq hKq => ?_)
        · simp [Region.wanted, yielded, undef]
        simp only [Act.put, List.getElem_toArray, List.getElem_cons_succ, List.getElem_cons_zero, List.setIfInBounds_toArray, List.set_cons_succ, List.set_cons_zero]
        refine hKq _ _ ?_
        clear hKq Kq
        refine ord_skipK _ rfl hS ?_ (fun Kq hKq => ?_)
        · simp [Region.wanted, yielded, undef]
        simp only [Act.put, List.getElem_toArray, List.getElem_cons_succ, List.getElem_cons_zero, List.setIfInBounds_toArray, List.set_cons_succ, List.set_cons_zero]
        refine hKq _ _ ?_
        clear hKq Kq
        refine ord_skipK _ rfl hS ?_ (fun Kq hKq => ?_)
        · simp [Region.wanted, yielded, undef]
        simp only [Act.put, List.getElem_toArray, List.getElem_cons_succ, List.getElem_cons_zero, List.setIfInBounds_toArray, List.set_cons_succ, List.set_cons_zero]
        refine hKq _ _ ?_
        clear hKq Kq
        refine ord_skipK _ rfl hS ?_ (fun Kq hKq => ?_)
        · simp [Region.wanted, yielded, undef]
        simp only [Act.put, List.getElem_toArray, List.getElem_cons_succ, List.getElem_cons_zero, List.setIfInBounds_toArray, List.set_cons_succ, List.set_cons_zero]
        refine hKq _ _ ?_
        clear hKq Kq
        refine ord_quietK _ ?_ rfl hS ?_ ?_ (fun Kq hKq => ?_)
        rotate_left
        · rfl
        · rintro w' ⟨hS1, hS2, hS3, hS4, hS5⟩; go_simp; rfl
        simp only [Act.put, List.getElem_toArray, List.getElem_cons_succ, List.getElem_cons_zero, List.setIfInBounds_toArray, List.set_cons_succ, List.set_cons_zero]
        refine hKq _ _ ?_
        clear hKq Kq
        refine ord_quietK _ ?_ rfl hS ?_ ?_ (fun Kq hKq => ?_)
        rotate_left
        · rfl
        · rintro w' ⟨hS1, hS2, hS3, hS4, hS5⟩; go_simp; rfl
        simp only [Act.put, List.getElem_toArray, List.getElem_cons_succ, List.getElem_cons_zero, List.setIfInBounds_toArray, List.set_cons_succ, List.set_cons_zero]
        refine hKq _ _ ?_
        clear hKq Kq
        refine ord_quietK _ ?_ rfl hS ?_ ?_ (fun Kq hKq => ?_)
        rotate_left
        · simp [Region.wanted, yielded]
        · rintro w' ⟨hS1, hS2, hS3, hS4, hS5⟩; go_simp; rfl
        simp only [Act.put, List.getElem_toArray, List.getElem_cons_succ, List.getElem_cons_zero, List.setIfInBounds_toArray, List.set_cons_succ, List.set_cons_zero]
        refine hKq _ _ ?_
        clear hKq Kq
        refine ord_quietK _ ?_ rfl hS ?_ ?_ (fun Kq hKq => ?_)
        rotate_left
        · simp [Region.wanted, yielded]
        · rintro w' ⟨hS1, hS2, hS3, hS4, hS5⟩; go_simp; rfl
        simp only [Act.put, List.getElem_toArray, List.getElem_cons_succ, List.getElem_cons_zero, List.setIfInBounds_toArray, List.set_cons_succ, List.set_cons_zero]
        refine hKq _ _ ?_
        clear hKq Kq
        refine ord_quietK _ ?_ rfl hS ?_ ?_ (fun Kq hKq => ?_)
        rotate_left
        · simp [Region.wanted, yielded]
        · rintro w' ⟨hS1, hS2, hS3, hS4, hS5⟩; go_simp; rfl
        simp only [Act.put, List.getElem_toArray, List.getElem_cons_succ, List.getElem_cons_zero, List.setIfInBounds_toArray, List.set_cons_succ, List.set_cons_zero]
        refine hKq _ _ ?_
        clear hKq Kq
        refine ord_quietK _ ?_ rfl hS ?_ ?_ (fun Kq hKq => ?_)
        rotate_left
        · simp [Region.wanted, yielded]
        · rintro w' ⟨hS1, hS2, hS3, hS4, hS5⟩; go_simp; rfl
        simp only [Act.put, List.getElem_toArray, List.getElem_cons_succ, List.getElem_cons_zero, List.setIfInBounds_toArray, List.set_cons_succ, List.set_cons_zero]
        refine hKq _ _ ?_
        clear hKq Kq
        refine ord_quietK _ ?_ rfl hS ?_ ?_ (fun Kq hKq => ?_)
        rotate_left
        · simp [Region.wanted, yielded]
        · rintro w' ⟨hS1, hS2, hS3, hS4, hS5⟩; go_simp; rfl
        simp only [Act.put, List.getElem_toArray, List.getElem_cons_succ, List.getElem_cons_zero, List.setIfInBounds_toArray, List.set_cons_succ, List.set_cons_zero]
        refine hKq _ _ ?_
        clear hKq Kq
        refine ord_quietK _ ?_ rfl hS ?_ ?_ (fun Kq hKq => ?_)
        rotate_left
        · simp [Region.wanted, yielded]
        · rintro w' ⟨hS1, hS2, hS3, hS4, hS5⟩; go_simp; rfl
        simp only [Act.put, List.getElem_toArray, List.getElem_cons_succ, List.getElem_cons_zero, List.setIfInBounds_toArray, List.set_cons_succ, List.set_cons_zero]
        refine hKq _ _ ?_
        clear hKq Kq
        refine ord_quietK _ ?_ rfl hS ?_ ?_ (fun Kq hKq => ?_)
        rotate_left
        · simp [Region.wanted, yielded]
        · rintro w' ⟨hS1, hS2, hS3, hS4, hS5⟩; go_simp; rfl
        simp only [Act.put, List.getElem_toArray, List.getElem_cons_succ, List.getElem_cons_zero, List.setIfInBounds_toArray, List.set_cons_succ, List.set_cons_zero]
        refine hKq _ _ ?_
        clear hKq Kq
        refine ord_quietK _ ?_ rfl hS ?_ ?_ (fun Kq hKq => ?_)
        rotate_left
        · simp [Region.wanted, yielded]
        · rintro w' ⟨hS1, hS2, hS3, hS4, hS5⟩; go_simp; rfl
        simp only [Act.put, List.getElem_toArray, List.getElem_cons_succ, List.getElem_cons_zero, List.setIfInBounds_toArray, List.set_cons_succ, List.set_cons_zero]
        refine hKq _ _ ?_
        clear hKq Kq
        refine ord_quietK _ ?_ rfl hS ?_ ?_ (fun Kq hKq => ?_)
        rotate_left
        · simp [Region.wanted, yielded]
        · rintro w' ⟨hS1, hS2, hS3, hS4, hS5⟩; go_simp; rfl
        simp only [Act.put, List.getElem_toArray, List.getElem_cons_succ, List.getElem_cons_zero, List.setIfInBounds_toArray, List.set_cons_succ, List.set_cons_zero]
        refine hKq _ _ ?_
        clear hKq Kq
        refine ord_quietK _ ?_ rfl hS ?_ ?_ (fun Kq hKq => ?_)
        rotate_left
        · simp [Region.wanted, yielded]
        · rintro w' ⟨hS1, hS2, hS3, hS4, hS5⟩; go_simp; rfl
        simp only [Act.put, List.getElem_toArray, List.getElem_cons_succ, List.getElem_cons_zero, List.setIfInBounds_toArray, List.set_cons_succ, List.set_cons_zero]
        refine hKq _ _ ?_
        clear hKq Kq
        refine ord_quietK _ ?_ rfl hS ?_ ?_ (fun Kq hKq => ?_)
        rotate_left
        · simp [Region.wanted, yielded]
        · rintro w' ⟨hS1, hS2, hS3, hS4, hS5⟩; go_simp; rfl
        simp only [Act.put, List.getElem_toArray, List.getElem_cons_succ, List.getElem_cons_zero, List.setIfInBounds_toArray, List.set_cons_succ, List.set_cons_zero]
        refine hKq _ _ ?_
        clear hKq Kq
        refine ord_quietK _ ?_ rfl hS ?_ ?_ (fun Kq hKq => ?_)
        rotate_left
        · simp [Region.wanted, yielded]
        · rintro w' ⟨hS1, hS2, hS3, hS4, hS5⟩; go_simp; rfl
        simp only [Act.put, List.getElem_toArray, List.getElem_cons_succ, List.getElem_cons_zero, List.setIfInBounds_toArray, List.set_cons_succ, List.set_cons_zero]
        refine hKq _ _ ?_
        clear hKq Kq
        refine ord_quietK _ ?_ rfl hS ?_ ?_ (fun Kq hKq => ?_)
        rotate_left
        · simp [Region.wanted, yielded]
        · rintro w' ⟨hS1, hS2, hS3, hS4, hS5⟩; go_simp; rfl
        simp only [Act.put, List.getElem_toArray, List.getElem_cons_succ, List.getElem_cons_zero, List.setIfInBounds_toArray, List.set_cons_succ, List.set_cons_zero]
        refine hKq _ _ ?_
        clear hKq Kq
        refine ord_quietK _ ?_ rfl hS ?_ ?_ (fun Kq hKq => ?_)
        rotate_left
        · simp [Region.wanted, yielded]
        · rintro w' ⟨hS1, hS2, hS3, hS4, hS5⟩; go_simp; rfl
        simp only [Act.put, List.getElem_toArray, List.getElem_cons_succ, List.getElem_cons_zero, List.setIfInBounds_toArray, List.set_cons_succ, List.set_cons_zero]
        refine hKq _ _ ?_
        clear hKq Kq
        refine ord_quietK _ ?_ rfl hS ?_ ?_ (fun Kq hKq => ?_)
        rotate_left
        · simp [Region.wanted, yielded]
        · rintro w' ⟨hS1, hS2, hS3, hS4, hS5⟩; go_simp; rfl
        simp only [Act.put, List.getElem_toArray, List.getElem_cons_succ, List.getElem_cons_zero, List.setIfInBounds_toArray, List.set_cons_succ, List.set_cons_zero]
        refine hKq _ _ ?_
        clear hKq Kq
        refine ord_quietK _ ?_ rfl hS ?_ ?_ (fun Kq hKq => ?_)
        rotate_left
        · simp [Region.wanted, yielded]
        · rintro w' ⟨hS1, hS2, hS3, hS4, hS5⟩; go_simp; rfl
        simp only [Act.put, List.getElem_toArray, List.getElem_cons_succ, List.getElem_cons_zero, List.setIfInBounds_toArray, List.set_cons_succ, List.set_cons_zero]
        refine hKq _ _ ?_
        clear hKq Kq
        refine ord_quietK _ ?_ rfl hS ?_ ?_ (fun Kq hKq => ?_)
        rotate_left
        · simp [Region.wanted, yielded]
        · rintro w' ⟨hS1, hS2, hS3, hS4, hS5⟩; go_simp; rfl
        simp only [Act.put, List.getElem_toArray, List.getElem_cons_succ, List.getElem_cons_zero, List.setIfInBounds_toArray, List.set_cons_succ, List.set_cons_zero]
        refine hKq _ _ ?_
        clear hKq Kq
        refine ord_quietK _ ?_ rfl hS ?_ ?_ (fun Kq hKq => ?_)
        rotate_left
        · simp [Region.wanted, yielded]
        · rintro w' ⟨hS1, hS2, hS3, hS4, hS5⟩; go_simp; rfl
        simp only [Act.put, List.getElem_toArray, List.getElem_cons_succ, List.getElem_cons_zero, List.setIfInBounds_toArray, List.set_cons_succ, List.set_cons_zero]
        refine hKq _ _ ?_
        clear hKq Kq
        refine ord_quietK _ ?_ rfl hS ?_ ?_ (fun Kq hKq => ?_)
        rotate_left
        · simp [Region.wanted, yielded]
        · rintro w' ⟨hS1, hS2, hS3, hS4, hS5⟩; go_simp; rfl
        simp only [Act.put, List.getElem_toArray, List.getElem_cons_succ, List.getElem_cons_zero, List.setIfInBounds_toArray, List.set_cons_succ, List.set_cons_zero]
        refine hKq _ _ ?_
        clear hKq Kq
        refine ord_quietK _ ?_ rfl hS ?_ ?_ (fun Kq hKq => ?_)
        rotate_left
        · simp [Region.wanted, yielded]
        · rintro w' ⟨hS1, hS2, hS3, hS4, hS5⟩; go_simp; rfl
        simp only [Act.put, List.getElem_toArray, List.getElem_cons_succ, List.getElem_cons_zero, List.setIfInBounds_toArray, List.set_cons_succ, List.set_cons_zero]
        refine hKq _ _ ?_
        clear hKq Kq
        refine ord_quietK _ ?_ rfl hS ?_ ?_ (fun Kq hKq => ?_)
        rotate_left
        · simp [Region.wanted, yielded]
        · rintro w' ⟨hS1, hS2, hS3, hS4, hS5⟩; go_simp; rfl
        simp only [Act.put, List.getElem_toArray, List.getElem_cons_succ, List.getElem_cons_zero, List.setIfInBounds_toArray, List.set_cons_succ, List.set_cons_zero]
        refine hKq _ _ ?_
        clear hKq Kq
        refine ord_quietK _ ?_ rfl hS ?_ ?_ (fun Kq hKq => ?_)
        rotate_left
        · simp [Region.wanted, yielded]
        · rintro w' ⟨hS1, hS2, hS3, hS4, hS5⟩; go_simp; rfl
        simp only [Act.put, List.getElem_toArray, List.getElem_cons_succ, List.getElem_cons_zero, List.setIfInBounds_toArray, List.set_cons_succ, List.set_cons_zero]
        refine hKq _ _ ?_
        clear hKq Kq
        refine ord_quietK _ ?_ rfl hS ?_ ?_ (fun Kq hKq => ?_)
        rotate_left
        · simp [Region.wanted, yielded]
        · rintro w' ⟨hS1, hS2, hS3, hS4, hS5⟩; go_simp; rfl
        simp only [Act.put, List.getElem_toArray, List.getElem_cons_succ, List.getElem_cons_zero, List.setIfInBounds_toArray, List.set_cons_succ, List.set_cons_zero]
        refine hKq _ _ ?_
        clear hKq Kq
        refine ord_quietK _ ?_ rfl hS ?_ ?_ (fun Kq hKq => ?_)
        rotate_left
        · simp [Region.wanted, yielded]
        · rintro w' ⟨hS1, hS2, hS3, hS4, hS5⟩; go_simp; rfl
        simp only [Act.put, List.getElem_toArray, List.getElem_cons_succ, List.getElem_cons_zero, List.setIfInBounds_toArray, List.set_cons_succ, List.set_cons_zero]
        refine hKq _ _ ?_
        clear hKq Kq
        refine ord_quietK _ ?_ rfl hS ?_ ?_ (fun Kq hKq => ?_)
        rotate_left
        · simp [Region.wanted, yielded]
        · rintro w' ⟨hS1, hS2, hS3, hS4, hS5⟩; go_simp; rfl
        simp only [Act.put, List.getElem_toArray, List.getElem_cons_succ, List.getElem_cons_zero, List.setIfInBounds_toArray, List.set_cons_succ, List.set_cons_zero]
        refine hKq _ _ ?_
        clear hKq Kq
        refine ord_quietK _ ?_ rfl hS ?_ ?_ (fun Kq hKq => ?_)
        rotate_left
        · simp [Region.wanted, yielded]
        · rintro w' ⟨hS1, hS2, hS3, hS4, hS5⟩; go_simp; rfl
        simp only [Act.put, List.getElem_toArray, List.getElem_cons_succ, List.getElem_cons_zero, List.setIfInBounds_toArray, List.set_cons_succ, List.set_cons_zero]
        refine hKq _ _ ?_
        clear hKq Kq
        refine ord_tail ?_
        simp only [List.drop_succ_cons, List.drop_zero]
        go_wp2
        go_roundw
        case rel => exact ⟨k + 1, by omega, by go_num, hbel.drew⟩
        case measure => simp [intOf]; omega
    · have hk1 : decide ((k : Int) < (x1.length : Int)) = false := decide_eq_false (by omega)
      have HB : Hid (Below w.heap.size w wr) := below_cut HB.out hbel
      clear hbel hf5
      have hlit := World.ownsRow_lit (base := wr.heap.size) (e := 5) (size := 1) wr #[] 0 (Nat.le_refl _) (by decide) rfl
      have hsx := (w2.keep HB.out).keep ((Below.refl w.heap.size wr).alloc HB.out.size (.cells #[] 5))
      go_wp2_with (at_builtin; refine wpList_append_sl _ rfl (.tmp 105) (.tmp 106) 22 rfl wr.heap.size 5 i0 (.int .u8 0) 1 1 Try.underlying22 hi hz0 hz1 hz2 rfl (by decide) _ 0 [] rfl hlit w.heap.size _ x2.length (x2.map bv) rfl hsx (by simp) (bv_oneCell _) ?c1 ?c2 ?c3 ?_)
      case c1 => unfold maxLen; omega
      case c2 => omega
      intro c7 u7 hown7 hgrow7 _
      have hb7 : Below wr.heap.size wr u7 := ((Below.refl _ _).alloc (Nat.le_refl _) _).grown hgrow7 (by simp) (by intro k hk; simp [Value.ownBlock] at hk; omega)
      have hs7 : Sl u7.heap.size u7 c7 x2.length (x2.map bv) := sl_of_owns (by simpa using hown7)
      clear hown7 hgrow7 hlit hsx
      go_wp2_with fail
      refine (c_unpack a0 _ c7 x2 _ w0 hs7 (Nat.le_refl _)).mono ?_
      rintro e u8 ⟨hb8, ⟨fs', v8, hy8, rfl, hf8⟩ | ⟨hy8, rfl⟩⟩
      case inr =>
        clear hy8
        go_wp2
        go_ret
        exact ⟨rfl, below_cut (below_cut HB.out hb7) hb8⟩
      have hl8 := unpack_length hy8
      have hp8 := pack_unpack hy8
      clear hy8
      go_wp2_with fail
      refine (c_packN a0 _ v8 fs' _ w0 (by unfold maxLen; omega) hf8 (Nat.le_refl _)).mono ?_
      rintro e u9 ⟨v9, rfl, hs9, hb9⟩
      rw [hp8] at hs9 ⊢
      have hB9 := below_cut (below_cut (below_cut HB.out hb7) hb8) hb9
      have hcv1 := run_string_sl 22 5 9 Try.underlying22 Try.underlying5 Try.underlying9 hs9
      have hcv2 := run_string_sl 22 5 9 Try.underlying22 Try.underlying5 Try.underlying9 (w2.keep hB9)
      have hB9 : Hid _ := hB9
      clear hs9 hb9 hb8 hb7 hf8 hp8 hs7
      simp only [errN_some, Option.getD_some] at *
      go_wp2
      go_ret
      exact ⟨rfl, hB9.out⟩

set_option maxRecDepth 100000 in
theorem lifted (os : Os) (started : os.Started) (H : Type) (enc : TypeId × Value → H) :
    ReturnsInHanded {} Try.checked os 6 .any (Rows.codecBackSpec.pre6 enc Try.prog Try.f6 Rows.codecBackRow.domain false) (Rows.codecBackSpec.post enc Try.prog Try.f6 false true false false) := by
  refine returnsInHanded_of_change_sized (C := Try.checked) own started (by kernel_rfl) Try.func6
    (ChangeSpec.witness6 (enc := enc) (C := Try.checked) false ⟨#[], #[.string ByteArray.empty, .slice none 0 0, .slice none 0 0], []⟩ 8 (by kernel_rfl) (by kernel_rfl) (by kernel_rfl) (by kernel_rfl)) ?_
  intro W base args ds gs before hval0 hW hcnd hsz0 _
  have hval : ∀ (j : Nat) t v, Try.f6.params[j]? = some t → args[j]? = some v → Value.okWide Try.prog W .any base t v := hval0
  have hsz : (DataW.weightsEach Try.prog (Try.f6.params.toList ++ Rows.codecBackSpec.plain.varTypes Try.prog) (ds ++ gs)).all (· ≤ reachBytes) = true := hsz0
  have hW' := hW
  obtain ⟨p, q, hA0, hV, rfl, hfz, hnd⟩ := hW
  have hA : DataW.TrodAll enc Try.prog W 0 (fun _ => true) true Try.f6.params.toList args.toList ds p := hA0
  rw [Try.params6] at hA hval hsz
  obtain ⟨v0, vs0, d0, ds0, p0, q0, hargs, rfl, rfl, h0, r0⟩ := trodAll_cons hA
  obtain ⟨v1, vs1, d1, ds1, p1, q1, rfl, rfl, rfl, h1, r1⟩ := trodAll_cons r0
  obtain ⟨v2, vs2, d2, ds2, p2, q2, rfl, rfl, rfl, h2, r2⟩ := trodAll_cons r1
  obtain ⟨rfl, rfl, rfl⟩ := trodAll_nil r2
  obtain rfl : args = #[v0, v1, v2] := by cases args; simp_all
  obtain ⟨rfl, rfl⟩ := trodVars_none hV
  obtain ⟨a0, rfl, rfl, rfl, w0⟩ := open_string Try.underlying9 (hval 0 9 v0 rfl rfl) h0
  obtain ⟨a1, len1, cap1, rfl⟩ := okWide_slice Try.underlying26 (hval 1 26 v1 rfl rfl)
  have k1 := h1
  have lt1 : ∀ x ∈ p1, x.block < W.heap.size := by obtain ⟨m, hm⟩ := k1; exact DataW.trod_lt m _ _ _ hm
  obtain ⟨x1, w1, l1⟩ : ∃ xs : List Fld, FieldsAt W.heap.size W (.slice a1 len1 cap1) xs ∧ xs.length * 32 ≤ 140737488351232 := by
    obtain ⟨fuel, hf⟩ := h1
    exact open_fields (v := .slice a1 len1 cap1) hf (fun n hn => by have := List.all_eq_true.1 hsz n (DataW.weights_mem_each (j := 1) (t := 26) rfl rfl n hn); simpa using this)
  obtain ⟨a2, len2, cap2, rfl⟩ := okWide_slice Try.underlying22 (hval 2 22 v2 rfl rfl)
  have k2 := h2
  have lt2 : ∀ x ∈ p2, x.block < W.heap.size := by obtain ⟨m, hm⟩ := k2; exact DataW.trod_lt m _ _ _ hm
  obtain ⟨x2, w2, l2⟩ : ∃ xs : List UInt8, Sl W.heap.size W (.slice a2 len2 cap2) xs.length (xs.map bv) ∧ xs.length ≤ 140737488351232 := by
    obtain ⟨fuel, hf⟩ := h2
    exact open_bytes (v := .slice a2 len2 cap2) hf (fun n hn => by have := List.all_eq_true.1 hsz n (DataW.weights_mem_each (j := 2) (t := 22) rfl rfl n hn); simpa using this)
  clear hA0 hval0
  refine (walk W a0 w0 _ x1 w1 l1 _ x2 w2 l2).mono fun e W' ⟨he, bel⟩ => ?_
  subst he
  exact ⟨_, rfl, _, _, _, [], _, [], hW', trodAll_mk1 (shut_bool Try.underlying4 _), (trodAll_cons_mk (shut_string Try.underlying9 w0) (trodAll_cons_mk (Below.trod laidOut (by kernel_rfl) (of_decide_eq_true (by kernel_rfl)) k1 bel lt1) (trodAll_cons_mk (Below.trod laidOut (by kernel_rfl) (of_decide_eq_true (by kernel_rfl)) k2 bel lt2) trodAll_mk0))), rfl, bel.frame _, fun h => by cases h⟩

theorem over : Rows.codecBackRow.holds Try.pinned (OpenSpec.ofChange Rows.codecBackSpec) :=
  OpenClaim.holds_of_wide 6 Try.f6 rfl rfl rfl rfl rfl rfl rfl ⟨rfl, rfl, rfl, rfl, rfl⟩ rfl rfl rfl rfl rfl (by kernel_rfl) Try.func6 (by kernel_rfl)
    (of_decide_eq_true (by kernel_rfl)) (by unfold Func.isWrapper; first | (rw [if_pos (by decide +kernel)]; kernel_rfl) | (rw [if_neg (by decide +kernel)]; exact ⟨rfl, rfl⟩))
    (fun os started H enc _ => lifted os started H enc)
end Go.Proofs.Ytfnokdgfbhlccaa.codecBack
namespace Go.Proofs.Ytfnokdgfbhlccaa
/-- The given statement. -/
theorem codecBack_holds : Rows.CodecBackSaid := codecBack.over
end Go.Proofs.Ytfnokdgfbhlccaa
