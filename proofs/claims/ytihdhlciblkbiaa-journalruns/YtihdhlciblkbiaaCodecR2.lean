/-
  The document's answer: Pack.
-/
import Derived.Test.YtihdhlciblkbiaaRows
import Derived.Test.YtihdhlciblkbiaaCodecR1
namespace Go.Proofs.Ytihdhlciblkbiaa
set_option linter.unusedVariables false
set_option linter.unusedSimpArgs false
set_option maxRecDepth 20000
open Go.RowKit

theorem owns_keep {W w1 : World} {base e size n : Nat} {v : Value} {xs : List Value} (h : W.ownsRow base e size v n xs) (hb : Below W.heap.size W w1) : w1.ownsRow base e size v n xs := by
  refine ⟨h.1, ?_⟩
  rcases h.2 with h2 | ⟨g, cap, cur, hv, hg, hh, r⟩
  · exact .inl h2
  · exact .inr ⟨g, cap, cur, hv, hg, (hb.block g (Array.getElem?_eq_some_iff.1 hh).1).trans hh, r⟩

theorem owns_ne {w : World} {base e size n : Nat} {v : Value} {xs : List Value} (h : w.ownsRow base e size v n xs) (F : Nat) (hF : w.heap.size ≤ F) : some F ≠ v.ownBlock := by
  intro e
  have := (h.lt F e.symm).2
  omega

theorem refpack_refused (sh : ByteArray) (ao : Option Addr) (len cap : Nat) (w : World) (hs : sh.size ≤ maxLen) (hl : len ≤ maxLen) (h : ¬ (sh.size ≤ 200 ∧ len = sh.size)) :
    Calls Try.prog 33 #[.string sh, .slice ao len cap] w fun e w' => e = .returned (.tuple #[.slice none 0 0, .int .i64 21]) ∧ w = w' := by
  unfold maxLen at hs hl
  by_cases h1 : sh.size ≤ 200
  · have hd1 : decide ((200 : Int) < (sh.size : Int)) = false := decide_eq_false (by omega)
    have hd2 : ((sh.size : Int) != (len : Int)) = true := bne_iff_ne.2 (by omega)
    go_enter Try.func33, Try.ntmps33
    go_wp2
    go_ret2
    exact ⟨rfl, rfl⟩
  · have hd1 : decide ((200 : Int) < (sh.size : Int)) = true := decide_eq_true (by omega)
    go_enter Try.func33, Try.ntmps33
    go_wp2
    go_ret2
    exact ⟨rfl, rfl⟩

set_option maxHeartbeats 3200000 in
theorem refpack_run (sh : ByteArray) (K : Nat) (ao : Option Addr) (cap : Nat) (fs : List Fld) (w : World) (hs : sh.size ≤ 200) (hl : fs.length = sh.size) (hf : FieldsAt K w (.slice ao fs.length cap) fs) (hK : K ≤ w.heap.size) :
    Calls Try.prog 33 #[.string sh, .slice ao fs.length cap] w fun e w' => Below w.heap.size w w' ∧
      ((∃ ys v, packL (sh.data.toList.zip fs) = some ys ∧ e = .returned (.tuple #[v, .int .i64 0]) ∧ Sl w'.heap.size w' v ys.length (ys.map bv)) ∨
       (packL (sh.data.toList.zip fs) = none ∧ e = .returned (.tuple #[.slice none 0 0, .int .i64 21]))) := by
  obtain ⟨i0, hi, hi0, hi1, hi2⟩ := info_parts Try.info5
  have hd1 : decide ((200 : Int) < (sh.size : Int)) = false := decide_eq_false (by omega)
  have hd2 : ((sh.size : Int) != (fs.length : Int)) = false := by simp; omega
  have hl' : Hid (fs.length = sh.size) := hl
  have hls : fs.length ≤ 200 := by omega
  clear hl
  go_enter Try.func33, Try.ntmps33
  go_wp2
  go_loopw [6, 27] (fun o i wr => ∃ (k : Nat) (acc : List UInt8), k ≤ fs.length ∧ i = .int .i64 k ∧ Hid (packL ((sh.data.toList.zip fs).take k) = some acc) ∧ acc.length ≤ k * 1026 ∧ wr.ownsRow w.heap.size 5 1 o acc.length (acc.map bv) ∧ Below w.heap.size w wr) (fun _ i _ => fs.length - (intOf i).toNat)
  case atStart => exact ⟨0, [], Nat.zero_le _, rfl, rfl, Nat.zero_le _, World.ownsRow_lit w #[] 0 (Nat.le_refl _) (by decide) rfl, (Below.refl _ _).alloc (Nat.le_refl _) _⟩
  case round =>
    obtain ⟨k, acc, hk, rfl, hacc, hlen, hown, hbel⟩ := hrel
    by_cases hlt : k < fs.length
    · obtain ⟨b, off, bvv, rfl, hbK, hcn, hcb, hsb, hnum, hbl⟩ := fields_get hf k hlt
      obtain ⟨bo, bc, rfl⟩ : ∃ bo bc, bvv = .slice bo (fs[k].bytes.length) bc := sl_form hsb
      have hcn : wr.cell? ⟨b, off + k * 2, none⟩ = some (.int .u64 (fs[k].num : Nat)) := by rw [hbel.cell (p := ⟨b, _, none⟩) (by show b < _; omega)]; exact hcn
      have hcb : wr.cell? ⟨b, off + k * 2 + 1, none⟩ = some (.slice bo (fs[k].bytes.length) bc) := by rw [hbel.cell (p := ⟨b, _, none⟩) (by show b < _; omega)]; exact hcb
      have hks : k < sh.size := by have := hl'.out; omega
      have hks' : (k : Int) < (sh.size : Int) := by omega
      have hk0 : (0 : Int) ≤ (k : Int) := by omega
      have hsz := hbel.size
      by_cases h98 : sh[k] = 98
      · have hc : (((sh[k].toNat : Nat) : Int) = 98 ∧ (0 : Int) = 0) := ⟨by rw [h98]; rfl, rfl⟩
        by_cases hle : fs[k].bytes.length ≤ 1024
        · have hd3 : decide ((1024 : Int) < (fs[k].bytes.length : Int)) = false := decide_eq_false (by omega)
          go_wp2_with (first | (go_at_call 50; refine (c_width_yes _ 0 (by omega) _).mono ?_; rintro e w' ⟨rfl, rfl⟩))
          generalize hWf : wr.alloc (Obj.cells #[Value.int IntKind.u64 ↑fs[k].num, Value.slice bo fs[k].bytes.length bc] 79) = Wf
          have hF1 : Wf.cell? ⟨wr.heap.size, 1, none⟩ = some (.slice bo fs[k].bytes.length bc) := by subst hWf; simp [go_sem]
          have hF0 : wr.heap.size < Wf.heap.size := by subst hWf; simp
          have hownF : Wf.ownsRow w.heap.size 5 1 u6 acc.length (acc.map bv) := by subst hWf; exact hown.alloc _
          have hbelF : Below w.heap.size w Wf := by subst hWf; exact hbel.alloc (by omega) _
          refine (c_refNumber 2 fs[k].bytes.length _ (by omega) (by omega)).mono ?_
          rintro e w1 ⟨v1, rfl, hs1, hb1⟩
          have hown1 := owns_keep hownF hb1
          have hF2 : w1.cell? ⟨wr.heap.size, 1, none⟩ = some (.slice bo fs[k].bytes.length bc) := by rw [hb1.cell (p := ⟨wr.heap.size, 1, none⟩) hF0]; exact hF1
          have hbel1 : Below w.heap.size w w1 := hbelF.trans (hb1.mono (by omega))
          have hs1' := hs1
          rw [show (2 : Nat) = (be 2 fs[k].bytes.length).length from (be_length _ _).symm] at hs1'
          have hsz1 := hbel1.size
          have hp : packF sh[k] fs[k] = some (be 2 fs[k].bytes.length ++ fs[k].bytes) := by simp [packF, h98, hle]
          have hacc1 : Hid (packL ((sh.data.toList.zip fs).take (k + 1)) = some (acc ++ (be 2 fs[k].bytes.length ++ fs[k].bytes))) := packL_round hlt hks hacc.out hp
          have hlen3 : Hid ((acc ++ (be 2 fs[k].bytes.length ++ fs[k].bytes)).length ≤ (k + 1) * 1026) := by unfold Hid; rw [List.length_append]; have := packF_length hp; omega
          clear hp
          go_wp2_with (at_builtin; refine wpList_append_sl _ rfl _ _ 37 rfl w.heap.size 5 i0 (.int .u8 0) 1 1 Try.underlying37 hi hi0 hi1 hi2 rfl (by decide) _ _ _ rfl hown1 _ _ _ _ rfl hs1 (by simp [be_length]) (bv_oneCell _) ?c1 ?c2 ?c3 ?_)
          case c1 => unfold maxLen; omega
          case c2 => omega
          case c3 => omega
          intro v2 w2 hown2 hgrow2 _
          have hbel2 : Below w.heap.size w w2 := hbel1.grown hgrow2 (by omega) (owns_ge hown1)
          have hF3 : w2.cell? ⟨wr.heap.size, 1, none⟩ = some (.slice bo fs[k].bytes.length bc) := hgrow2.cell hF2 (owns_ne hown _ (Nat.le_refl _))
          have hsb2 := hsb.keep (hbel2.mono hK)
          have hsz2 := hbel2.size
          clear hgrow2 hown1 hF1 hF2 hs1 hs1' hb1 hownF hbelF hown hcn hcb
          go_wp2_with (at_builtin; refine wpList_append_sl _ rfl _ _ 37 rfl w.heap.size 5 i0 (.int .u8 0) 1 1 Try.underlying37 hi hi0 hi1 hi2 rfl (by decide) _ _ _ rfl hown2 _ _ _ _ rfl hsb2 (by simp) (bv_oneCell _) ?d1 ?d2 ?d3 ?_)
          case d1 => unfold maxLen; omega
          case d2 => omega
          case d3 => omega
          intro v3 w3 hown3 hgrow3 _
          have hbel3 : Below w.heap.size w w3 := hbel2.grown hgrow3 (by omega) (owns_ge hown2)
          have hown4 : w3.ownsRow w.heap.size 5 1 v3 (acc ++ (be 2 fs[k].bytes.length ++ fs[k].bytes)).length ((acc ++ (be 2 fs[k].bytes.length ++ fs[k].bytes)).map bv) := by simpa [be_length, Nat.add_assoc] using hown3
          clear hgrow3 hown3 hown2 hF3 hsb2
          go_wp2
          go_roundw
          case rel => exact ⟨k + 1, _, by omega, by go_num, hacc1, hlen3.out, hown4, hbel3⟩
          case measure => simp [intOf]; omega
        · have hd3 : decide ((1024 : Int) < (fs[k].bytes.length : Int)) = true := decide_eq_true (by omega)
          have hnone : packL (sh.data.toList.zip fs) = none := packL_stop hlt hks hacc.out (by simp [packF, h98, hle])
          go_wp2_with (first | (go_at_call 50; refine (c_width_yes _ 0 (by omega) _).mono ?_; rintro e w' ⟨rfl, rfl⟩))
          go_ret2
          exact ⟨hbel.alloc (by omega) _, .inr ⟨hnone, rfl⟩⟩
      · cases hw : wdt sh[k] with
        | none =>
          obtain ⟨h1, h2, h3, h4⟩ := wdt_none hw
          have h5 := byte_ne h98 98 rfl
          have hnone : packL (sh.data.toList.zip fs) = none := packL_stop hlt hks hacc.out (by simp [packF, h98, hw])
          clear hw
          go_wp2_with (first | (go_at_call 50; refine (c_width_no _ h1 h2 h3 h4 h5 _).mono ?_; rintro e w' ⟨rfl, rfl⟩))
          go_ret2
          exact ⟨hbel.alloc (by omega) _, .inr ⟨hnone, rfl⟩⟩
        | some q =>
          have hq := wdt_int hw
          have hq0 : decide ((q : Int) < 0) = false := decide_eq_false (by omega)
          have hq1 : ((q : Int) == 0) = false := beq_eq_false_iff_ne.2 (by omega)
          have hq8 : q ≤ 8 := by omega
          have hq' : Hid ((((sh[k].toNat : Nat) : Int) = 49 ∧ (q : Int) = 1) ∨ (((sh[k].toNat : Nat) : Int) = 50 ∧ (q : Int) = 2) ∨ (((sh[k].toNat : Nat) : Int) = 52 ∧ (q : Int) = 4) ∨ (((sh[k].toNat : Nat) : Int) = 56 ∧ (q : Int) = 8)) := hq
          clear hq
          have hw' : Hid (wdt sh[k] = some q) := hw
          clear hw
          go_wp2_with (first | (go_at_call 50; refine (c_width_yes _ q (by have := hq'.out; omega) _).mono ?_; rintro e w' ⟨rfl, rfl⟩))
          generalize hWf : wr.alloc (Obj.cells #[Value.int IntKind.u64 ↑fs[k].num, Value.slice bo fs[k].bytes.length bc] 79) = Wf
          have hownF : Wf.ownsRow w.heap.size 5 1 u6 acc.length (acc.map bv) := by subst hWf; exact hown.alloc _
          have hbelF : Below w.heap.size w Wf := by subst hWf; exact hbel.alloc (by omega) _
          have hszF := hbelF.size
          refine (c_refNumber q fs[k].num _ hq8 hnum).mono ?_
          rintro e w1 ⟨v1, rfl, hs1, hb1⟩
          have hown1 := owns_keep hownF hb1
          have hbel1 : Below w.heap.size w w1 := hbelF.trans (hb1.mono (by omega))
          have hsz1 := hbel1.size
          by_cases hov : fs[k].num < 256 ^ q
          · have hd : decide (fs[k].num < 256 ^ q) = true := decide_eq_true hov
            have hp : packF sh[k] fs[k] = some (be q fs[k].num) := by simp [packF, h98, hw'.out, hov]
            have hacc1 : Hid (packL ((sh.data.toList.zip fs).take (k + 1)) = some (acc ++ be q fs[k].num)) := packL_round hlt hks hacc.out hp
            have hlen3 : Hid ((acc ++ be q fs[k].num).length ≤ (k + 1) * 1026) := by unfold Hid; rw [List.length_append]; have := packF_length hp; omega
            clear hp hcn hcb hownF hbelF hb1 hown
            go_wp2_with (at_builtin; refine wpList_append_sl _ rfl _ _ 37 rfl w.heap.size 5 i0 (.int .u8 0) 1 1 Try.underlying37 hi hi0 hi1 hi2 rfl (by decide) _ _ _ rfl hown1 _ _ _ _ rfl hs1 (by simp [be_length]) (bv_oneCell _) ?e1 ?e2 ?e3 ?_)
            case e1 => unfold maxLen; omega
            case e2 => omega
            case e3 => omega
            intro v2 w2 hown2 hgrow2 _
            have hbel2 : Below w.heap.size w w2 := hbel1.grown hgrow2 (by omega) (owns_ge hown1)
            have hown4 : w2.ownsRow w.heap.size 5 1 v2 (acc ++ be q fs[k].num).length ((acc ++ be q fs[k].num).map bv) := by simpa [be_length] using hown2
            clear hgrow2 hown2 hown1 hs1
            go_wp2
            go_roundw
            case rel => exact ⟨k + 1, _, by omega, by go_num, hacc1, hlen3.out, hown4, hbel2⟩
            case measure => simp [intOf]; omega
          · have hd : decide (fs[k].num < 256 ^ q) = false := decide_eq_false hov
            have hnone : packL (sh.data.toList.zip fs) = none := packL_stop hlt hks hacc.out (by simp [packF, h98, hw'.out, hov])
            clear hcn hcb hownF hbelF hb1 hown hown1 hs1
            go_wp2
            go_ret2
            exact ⟨hbel1, .inr ⟨hnone, rfl⟩⟩
    · have htk : packL (sh.data.toList.zip fs) = some acc := by
        have e := hacc.out
        rw [List.take_of_length_le (by rw [List.length_zip]; omega)] at e
        exact e
      go_wp2
      go_ret2
      exact ⟨hbel, .inl ⟨acc, _, htk, rfl, sl_of_owns hown⟩⟩

theorem ba_len (sh : ByteArray) : sh.data.toList.length = sh.size := Array.length_toList

/-- What both ways of packing come to. -/
def Packed (s : List UInt8) (fs : List Fld) (w : World) (e : Ending) (w' : World) : Prop :=
  Below w.heap.size w w' ∧ ((∃ ys v, pack s fs = some ys ∧ e = .returned (.tuple #[v, .int .i64 0]) ∧ Sl w'.heap.size w' v ys.length (ys.map bv)) ∨
    (pack s fs = none ∧ e = .returned (.tuple #[.slice none 0 0, .int .i64 21])))

theorem c_pack (sh : ByteArray) (K : Nat) (v : Value) (fs : List Fld) (w : World) (hs : sh.size ≤ maxLen) (hl : fs.length ≤ maxLen) (hf : FieldsAt K w v fs) (hK : K ≤ w.heap.size) :
    Calls Try.prog 45 #[.string sh, v] w fun e w' => Packed sh.data.toList fs w e w' := by
  obtain ⟨ao, cap, rfl, h1⟩ := hf
  have hf : FieldsAt K w (.slice ao fs.length cap) fs := ⟨ao, cap, rfl, h1⟩
  have hsz : sh.data.toList.length = sh.size := ba_len sh
  by_cases h : sh.size ≤ 200 ∧ fs.length = sh.size
  · refine (c_pack_run sh K ao cap fs w h.1 h.2 hf hK).mono ?_
    rintro e w' ⟨hb, h2⟩
    refine ⟨hb, ?_⟩
    unfold pack
    rw [hsz, if_pos h]
    exact h2
  · refine (c_pack_refused sh ao fs.length cap w hs hl h).mono ?_
    rintro e w' ⟨he, hb⟩
    exact ⟨hb, .inr ⟨by unfold pack; rw [hsz, if_neg h], he⟩⟩

theorem c_refpack (sh : ByteArray) (K : Nat) (v : Value) (fs : List Fld) (w : World) (hs : sh.size ≤ maxLen) (hl : fs.length ≤ maxLen) (hf : FieldsAt K w v fs) (hK : K ≤ w.heap.size) :
    Calls Try.prog 33 #[.string sh, v] w fun e w' => Packed sh.data.toList fs w e w' := by
  obtain ⟨ao, cap, rfl, h1⟩ := hf
  have hf : FieldsAt K w (.slice ao fs.length cap) fs := ⟨ao, cap, rfl, h1⟩
  have hsz : sh.data.toList.length = sh.size := ba_len sh
  by_cases h : sh.size ≤ 200 ∧ fs.length = sh.size
  · refine (refpack_run sh K ao cap fs w h.1 h.2 hf hK).mono ?_
    rintro e w' ⟨hb, h2⟩
    refine ⟨hb, ?_⟩
    unfold pack
    rw [hsz, if_pos h]
    exact h2
  · refine (refpack_refused sh ao fs.length cap w hs hl h).mono ?_
    rintro e w' ⟨he, rfl⟩
    exact ⟨Below.refl _ _, .inr ⟨by unfold pack; rw [hsz, if_neg h], he⟩⟩
end Go.Proofs.Ytihdhlciblkbiaa
