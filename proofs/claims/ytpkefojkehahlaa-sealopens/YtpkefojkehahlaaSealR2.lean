/-
  The document's Open.
-/
import Derived.Test.YtpkefojkehahlaaSealR1
namespace Go.Proofs.Ytpkefojkehahlaa
set_option linter.unusedVariables false
set_option linter.unusedSimpArgs false
open Go.RowKit

theorem opN_eq (s : List UInt8) (hs : s.length = 128) : opN s = (s[8]'(by omega)).toNat * 256 + (s[9]'(by omega)).toNat := by
  unfold opN
  rw [List.drop_eq_getElem_cons (show 8 < s.length by omega), List.drop_eq_getElem_cons (show 8 + 1 < s.length by omega)]
  simp [List.take, val, valFrom]

set_option maxRecDepth 20000 in
set_option maxHeartbeats 3200000 in
theorem c_ropen (s : List UInt8) (w : World) (hs : s.length = 128) :
    Calls Try.prog 13 #[sec s] w fun e w' => ∃ v, e = .returned (.tuple #[.int .u64 (oM s : Int), v, .bool (openS s).isSome]) ∧ Sl w'.heap.size w' v (oB s).length ((oB s).map bv) ∧ Below w.heap.size w w' := by
  obtain ⟨i0, hi, hz0, hz1, hz2⟩ := info_parts Try.info5
  have hal : Try.prog.arrayLen 27 = 128 := by kernel_rfl
  have hst := OpAt.start w s
  generalize hW : w.alloc (.cells (s.map bv).toArray 27) = W at *
  have hW : Hid (w.alloc (.cells (s.map bv).toArray 27) = W) := hW
  go_enter Try.func13, Try.ntmps13
  go_wp2_with (first
    | (refine wpList_box_agg rfl 27 _ rfl (sec s) _ rfl rfl ?_; rw [hW.out]))
  go_loop [5, 6] (fun u i => ∃ k : Nat, k ≤ 8 ∧ i = .int .i64 k ∧ u = .int .u64 (val (s.take k) : Nat)) (fun _ i => 8 - (intOf i).toNat)
  case atStart => exact ⟨0, Nat.zero_le _, rfl, rfl⟩
  case round =>
    obtain ⟨k, hk, rfl, rfl⟩ := hrel
    by_cases hlt : k < 8
    · have hcell : W.cell? ⟨w.heap.size, k, none⟩ = some (.int .u8 ((s[k]'(by omega)).toNat : Int)) := sec_cell hst.blk (List.getElem?_eq_getElem (by omega))
      have H1 : Hid (val (s.take (k + 1)) = val (s.take k) * 256 + (s[k]'(by omega)).toNat) := take_val_snoc s k (by omega)
      have hv : Hid (val (s.take k) < 72057594037927936) := take_val_lt s k (by omega)
      generalize val (s.take k) = m at *
      clear hst
      go_wp2
      go_round
      case rel => exact ⟨k + 1, by omega, by go_num, by rw [H1.out]; exact close_add m _ hv⟩
      case measure => simp [intOf]; omega
    · obtain rfl : k = 8 := by omega
      have c8 : W.cell? ⟨w.heap.size, 8, none⟩ = some (.int .u8 ((s[8]'(by omega)).toNat : Int)) := sec_cell hst.blk (List.getElem?_eq_getElem (by omega))
      have c9 : W.cell? ⟨w.heap.size, 9, none⟩ = some (.int .u8 ((s[9]'(by omega)).toNat : Int)) := sec_cell hst.blk (List.getElem?_eq_getElem (by omega))
      have hM := opM_lt s
      have hN := opN_eq s hs
      have hMe : Hid (val (s.take 8) = opM s) := rfl
      rw [hMe.out]
      clear hMe
      have x8 := (s[8]'(by omega)).toNat_lt
      have x9 := (s[9]'(by omega)).toNat_lt
      generalize (s[8]'(by omega)).toNat = y8 at *
      generalize (s[9]'(by omega)).toNat = y9 at *
      by_cases h106 : opN s ≤ 106
      case neg =>
        have hno : openS s = none := by unfold openS; rw [if_neg (fun h => h106 h.1)]
        have e1 : oM s = 0 := by unfold oM; rw [hno]; rfl
        have e2 : oB s = [] := by unfold oB; rw [hno]; rfl
        have HE : Hid (∃ v : Value, (.tuple #[.int .u64 0, .slice none 0 0, .bool false] : Value) = .tuple #[.int .u64 (oM s : Int), v, .bool (openS s).isSome] ∧ Sl W.heap.size W v (oB s).length ((oB s).map bv)) := by
          rw [hno, e1, e2]; exact ⟨_, rfl, Sl.nil _ _⟩
        have hd : decide (106 < (y8 : Int) * 256 + (y9 : Int)) = true := decide_eq_true (by omega)
        have hbel := hst.bel
        clear hst hno e1 e2 hN h106
        generalize opM s = m at *
        go_wp2
        go_ret3
        obtain ⟨v, h1, h2⟩ := HE.out
        exact ⟨v, congrArg Ending.returned h1, h2, hbel⟩
      have hd : decide (106 < (y8 : Int) * 256 + (y9 : Int)) = false := decide_eq_false (by omega)
      have hBl := opB_length hs h106
      have hOB : Hid (opB s = (s.drop 10).take (opN s)) := rfl
      have hop : Hid (openS s = if okS (opM s) (opB s) ∧ sealOf (opM s) (opB s) = s then some (opM s, opB s) else none) := by
        unfold Hid openS
        by_cases hq : okS (opM s) (opB s) ∧ sealOf (opM s) (opB s) = s
        · rw [if_pos hq, if_pos ⟨h106, hq⟩]
        · rw [if_neg hq, if_neg (fun h => hq h.2)]
      generalize opB s = b at *
      generalize opN s = n at *
      generalize opM s = m at *
      subst hBl
      have hs2 := hst.sl 10 b.length 118 hs (by omega) (by omega) (by omega)
      rw [← hOB.out] at hs2
      have hN' : (y8 : Int) * 256 + (y9 : Int) = (b.length : Int) := by omega
      have kc : ∀ w' : World, (Instr.sliceAt 27 (.pointer (some ⟨w.heap.size, 0, none⟩)) (some (.int .i64 10)) (some (.int .i64 (10 + (b.length : Int)))) none).run Try.prog w' = .ok (.slice (some ⟨w.heap.size, 10, none⟩) b.length 118) w' := fun w' => secCut w.heap.size b.length (by omega) w'
      clear hN
      go_wp2_with (at_builtin; refine wpList_append_sl _ rfl _ _ 23 rfl W.heap.size 5 i0 (.int .u8 0) 1 1 Try.underlying23 hi hz0 hz1 hz2 rfl (by decide) _ 0 [] rfl (World.ownsRow_lit W #[] 0 (Nat.le_refl _) (by decide) rfl) W.heap.size _ b.length (b.map bv) rfl ?c0 (by simp) (bv_oneCell _) ?c1 ?c2 ?c3 ?_)
      case c0 => exact hs2.keep ((Below.refl _ _).alloc (Nat.le_refl _) _)
      case c1 => unfold maxLen; omega
      case c2 => omega
      intro v3 W3 ho3 hg3 _
      have hb3 : Below W.heap.size W W3 := ((Below.refl _ _).alloc (Nat.le_refl _) _).grown hg3 (by simp) (by intro k hk; simp [Value.ownBlock] at hk; omega)
      have ho3 : W3.ownsRow W.heap.size 5 1 v3 b.length (b.map bv) := by simpa using ho3
      have hs3 := sl_of_owns ho3
      obtain ⟨ao3, cap3, rfl⟩ := owns_form ho3
      have hat3 := hst.keep hb3
      clear hb3 ho3 hg3 hst hs2 kc hN' c8 c9
      go_wp2_with (go_at_call 12; refine stop_here ?_)
      unfold Hid
      refine (c_rmake m _ b _ _ hM hs3 (Nat.le_refl _) (by omega)).mono ?_
      rintro e W4 ⟨rfl, hb4⟩
      have hat4 := hat3.keep hb4
      have hs4 := (hs3.keep hb4).mono hb4.size
      have hlen := mkS_length m b
      have hmd := made W4
      have hrow := range_all (putS_blk W4 (mkS m b))
      have hb5 := putS_below W4 (mkS m b)
      have hat5 := hat4.keep hb5
      have hs5 := (hs4.keep hb5).mono hb5.size
      have hr5 := range_all hat5.blk
      have hbel5 := hat5.bel
      have hW5 : Hid ((W4.alloc (.cells (z128.map bv).toArray 27)).setRow W4.heap.size ((mkS m b).map bv).toArray = putS W4 (mkS m b)) := rfl
      clear hat3 hb4 hs3 hb5 hat4 hs4 hat5
      generalize putS W4 (mkS m b) = W5 at *
      have hq := neqS (mkS m b) s hlen hs
      have hg := guardS
      by_cases hok : okS m b
      case neg =>
        have hE : mkE m b = 51 := by unfold mkE; rw [if_neg hok]
        have hno : openS s = none := by rw [hop.out, if_neg (fun h => hok h.1)]
        have HE : Hid (∃ v : Value, (.tuple #[.int .u64 0, .slice none 0 0, .bool false] : Value) = .tuple #[.int .u64 (oM s : Int), v, .bool (openS s).isSome] ∧ Sl W5.heap.size W5 v (oB s).length ((oB s).map bv)) := by
          have e1 : oM s = 0 := by unfold oM; rw [hno]; rfl
          have e2 : oB s = [] := by unfold oB; rw [hno]; rfl
          rw [hno, e1, e2]; exact ⟨_, rfl, Sl.nil _ _⟩
        rw [hE]
        clear hno hE hq
        generalize mkS m b = L at *
        go_wp2_with (first
          | (refine wpList_alloc_agg rfl 27 rfl _ Try.zeroS ?_)
          | (refine wpList_store_all rfl 27 _ _ rfl W4.heap.size rfl (sec L) rfl _ rfl _ 27 hmd.new (sec_fit hlen) (bv_oneCell _) (sizeS hlen) ?_; rw [hW5.out]))
        go_ret3
        obtain ⟨v, h1, h2⟩ := HE.out
        exact ⟨v, congrArg Ending.returned h1, h2, hbel5⟩
      have hE : mkE m b = 0 := by unfold mkE; rw [if_pos hok]
      have hSl : Hid (mkS m b = sealOf m b) := by unfold Hid mkS; rw [if_pos hok]
      rw [hE]
      clear hE
      by_cases he : mkS m b = s
      · have hse : openS s = some (m, b) := by rw [hop.out, if_pos ⟨hok, hSl.out.symm.trans he⟩]
        have HE : Hid (∃ v : Value, (.tuple #[.int .u64 (m : Int), .slice ao3 b.length cap3, .bool true] : Value) = .tuple #[.int .u64 (oM s : Int), v, .bool (openS s).isSome] ∧ Sl W5.heap.size W5 v (oB s).length ((oB s).map bv)) := by
          have e1 : oM s = m := by unfold oM; rw [hse]; rfl
          have e2 : oB s = b := by unfold oB; rw [hse]; rfl
          rw [hse, e1, e2]; exact ⟨_, rfl, hs5⟩
        have hbq : (mkS m b == s) = true := beq_iff_eq.2 he
        rw [hbq, Bool.not_true] at hq
        clear hse hbq hs5 he
        generalize mkS m b = L at *
        go_wp2_with (first
          | (refine wpList_alloc_agg rfl 27 rfl _ Try.zeroS ?_)
          | (refine wpList_store_all rfl 27 _ _ rfl W4.heap.size rfl (sec L) rfl _ rfl _ 27 hmd.new (sec_fit hlen) (bv_oneCell _) (sizeS hlen) ?_; rw [hW5.out])
          | (refine wpList_load_as rfl 27 (.tmp 9) rfl W4.heap.size 0 rfl (sec L) _ rfl hrow Try.rowS (sizeS hlen) ?_)
          | (refine wpList_load_as rfl 27 (.tmp 1) rfl w.heap.size 0 rfl (sec s) _ rfl hr5 Try.rowS (sizeS hs) ?_))
        go_ret3
        obtain ⟨v, h1, h2⟩ := HE.out
        exact ⟨v, congrArg Ending.returned h1, h2, hbel5⟩
      · have hno : openS s = none := by rw [hop.out, if_neg (fun h => he (hSl.out.trans h.2))]
        have HE : Hid (∃ v : Value, (.tuple #[.int .u64 0, .slice none 0 0, .bool false] : Value) = .tuple #[.int .u64 (oM s : Int), v, .bool (openS s).isSome] ∧ Sl W5.heap.size W5 v (oB s).length ((oB s).map bv)) := by
          have e1 : oM s = 0 := by unfold oM; rw [hno]; rfl
          have e2 : oB s = [] := by unfold oB; rw [hno]; rfl
          rw [hno, e1, e2]; exact ⟨_, rfl, Sl.nil _ _⟩
        have hbq : (mkS m b == s) = false := beq_eq_false_iff_ne.2 he
        rw [hbq, Bool.not_false] at hq
        clear hno hbq hs5 he
        generalize mkS m b = L at *
        go_wp2_with (first
          | (refine wpList_alloc_agg rfl 27 rfl _ Try.zeroS ?_)
          | (refine wpList_store_all rfl 27 _ _ rfl W4.heap.size rfl (sec L) rfl _ rfl _ 27 hmd.new (sec_fit hlen) (bv_oneCell _) (sizeS hlen) ?_; rw [hW5.out])
          | (refine wpList_load_as rfl 27 (.tmp 9) rfl W4.heap.size 0 rfl (sec L) _ rfl hrow Try.rowS (sizeS hlen) ?_)
          | (refine wpList_load_as rfl 27 (.tmp 1) rfl w.heap.size 0 rfl (sec s) _ rfl hr5 Try.rowS (sizeS hs) ?_))
        go_ret3
        obtain ⟨v, h1, h2⟩ := HE.out
        exact ⟨v, congrArg Ending.returned h1, h2, hbel5⟩
end Go.Proofs.Ytpkefojkehahlaa
