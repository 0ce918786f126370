/-
  Package seal: Open.
-/
import Derived.Test.YtihdhlciblkbiaaSealW3
import Derived.Test.YtihdhlciblkbiaaCodecU1
namespace Go.Proofs.Ytihdhlciblkbiaa
set_option linter.unusedVariables false
set_option linter.unusedSimpArgs false
set_option maxRecDepth 20000
open Go.RowKit

theorem unpack82 (s : List UInt8) (hs : s.length = 128) : unpack [56, 50] (s.take 10) = some [⟨opM s, []⟩, ⟨opN s, []⟩] := by
  have e1 : unpF 56 (s.take 10) = some (⟨val ((s.take 10).take 8), []⟩, (s.take 10).drop 8) := by
    unfold unpF
    rw [if_neg (by decide)]
    exact if_pos (by rw [List.length_take]; omega)
  have e2 : unpF 50 ((s.take 10).drop 8) = some (⟨val (((s.take 10).drop 8).take 2), []⟩, ((s.take 10).drop 8).drop 2) := by
    unfold unpF
    rw [if_neg (by decide)]
    exact if_pos (by rw [List.length_drop, List.length_take]; omega)
  have e3 : ((s.take 10).drop 8).drop 2 = [] := by
    rw [List.drop_drop]
    exact List.drop_eq_nil_of_le (by rw [List.length_take]; omega)
  have e4 : (s.take 10).take 8 = s.take 8 := by simp [List.take_take]
  have e5 : ((s.take 10).drop 8).take 2 = (s.drop 8).take 2 := by
    simp [List.drop_take, List.take_take]
  unfold unpack
  rw [if_pos (by simp)]
  simp only [unpL, e1, e2, e3, e4, e5]
  rfl

/-- What Open keeps: the sector's variable. -/
structure OpAt (w wr : World) (s : List UInt8) : Prop where
  blk : wr.heap[w.heap.size]? = some (.cells (s.map bv).toArray 55 (0, 0))
  bel : Below w.heap.size w wr

theorem OpAt.start (w : World) (s : List UInt8) : OpAt w (w.alloc (.cells (s.map bv).toArray 55)) s := ⟨heap_alloc_new w _, (Below.refl _ _).alloc (Nat.le_refl _) _⟩

theorem OpAt.keep {w wr w1 : World} {s : List UInt8} (h : OpAt w wr s) (hb : Below wr.heap.size wr w1) : OpAt w w1 s :=
  ⟨(hb.block _ (heap_lt h.blk)).trans h.blk, h.bel.trans (hb.mono h.bel.size)⟩

theorem OpAt.drew {w wr : World} {s : List UInt8} (h : OpAt w wr s) : OpAt w wr.drew s := ⟨h.blk, h.bel.drew⟩

theorem OpAt.sl {w wr : World} {s : List UInt8} (h : OpAt w wr s) (off n : Nat) (cap : Nat) (hs : s.length = 128) (ho : off + n ≤ 128) (hc : n ≤ cap) (hc2 : cap ≤ 128) :
    Sl wr.heap.size wr (.slice (some ⟨w.heap.size, off, none⟩) n cap) n (((s.drop off).take n).map bv) := by
  refine sl_blk h.blk off n cap _ hc (by omega) (heap_lt h.blk) (fun j v hj => ?_)
  rw [List.map_take, List.getElem?_take] at hj
  split at hj
  · rw [List.map_drop, List.getElem?_drop] at hj; exact hj
  · cases hj

theorem secCut (B n : Nat) (hn : n ≤ 118) (w : World) : (Instr.sliceAt 55 (.pointer (some ⟨B, 0, none⟩)) (some (.int .i64 10)) (some (.int .i64 (10 + (n : Int)))) none).run Try.prog w = .ok (.slice (some ⟨B, 10, none⟩) n 118) w := by
  have hal : Try.prog.arrayLen 55 = 128 := by kernel_rfl
  have ht : Try.prog.underlying 55 = some (.array (Try.prog.arrayLen 55) (Try.prog.elem 55)) := by kernel_rfl
  have he : Try.prog.elem 55 = 5 := by kernel_rfl
  have h5 : (sizeOf 5).run Try.prog w = .ok 1 w := by
    have := Try.size5
    cases hq : Try.prog.info? 5 with
    | none => rw [hq] at this; cases this
    | some i =>
      rw [hq] at this
      simp only [Option.map_some, Option.some.injEq] at this
      simp [sizeOf, typeInfo, hq, this]
  rw [run_sliceAt_array_lh w _ _ ht .i64 .i64 10 (10 + (n : Int)) (by omega) (by omega) (by rw [hal]; omega), he, h5]
  have e : (10 + (n : Int)).toNat = 10 + n := by omega
  simp [slicedAt, hal, add_plain, Result.andThen, e]

set_option maxRecDepth 20000 in
set_option maxHeartbeats 3200000 in
theorem c_open (s : List UInt8) (w : World) (hs : s.length = 128) :
    Calls Try.prog 53 #[sec s] w fun e w' => ∃ v, e = .returned (.tuple #[.int .u64 (oM s : Int), v, .bool (openS s).isSome]) ∧ Sl w'.heap.size w' v (oB s).length ((oB s).map bv) ∧ Below w.heap.size w w' := by
  have hal : Try.prog.arrayLen 55 = 128 := by kernel_rfl
  have hst := OpAt.start w s
  generalize hW : w.alloc (.cells (s.map bv).toArray 55) = W at *
  have hW : Hid (w.alloc (.cells (s.map bv).toArray 55) = W) := hW
  have hs0 := hst.sl 0 10 128 hs (by omega) (by omega) (by omega)
  rw [List.drop_zero] at hs0
  go_enter Try.func53, Try.ntmps53
  go_wp2_with (first
    | (refine wpList_box_agg rfl 55 _ rfl (sec s) _ rfl rfl ?_; rw [hW.out])
    | (go_at_call 54; refine stop_here ?_))
  unfold Hid
  refine (c_unpack ⟨#[56, 50]⟩ _ _ (s.take 10) _ (by decide) (by rw [List.length_take, hs]; exact hs0) (Nat.le_refl _)).mono ?_
  rintro e W1 ⟨hb1, ⟨fs, v, hu, rfl, hf⟩ | ⟨hu, -⟩⟩
  case inr => rw [show (⟨#[56, 50]⟩ : ByteArray).data.toList = [56, 50] from rfl, unpack82 s hs] at hu; cases hu
  rw [show (⟨#[56, 50]⟩ : ByteArray).data.toList = [56, 50] from rfl, unpack82 s hs] at hu
  obtain rfl := Option.some.inj hu
  obtain ⟨ao, cap, rfl, -, -, hcs⟩ := hf
  obtain ⟨b0, off0, bv0, rfl, hbK, hc0, -, -, -, -⟩ := hcs 0 _ rfl
  obtain ⟨b1, off1, bv1, he, -, hc1, -, -, -, -⟩ := hcs 1 _ rfl
  simp only [Option.some.injEq, Addr.mk.injEq, and_true] at he
  obtain ⟨rfl, rfl⟩ := he
  have hat1 := hst.keep hb1
  have hM := opM_lt s
  have hN := opN_lt s
  clear hu hcs hb1 hst hs0 hW
  simp only [Nat.zero_mul, Nat.add_zero, Nat.one_mul, List.length_cons, List.length_nil, Nat.zero_add, Nat.reduceAdd] at hc0 hc1 ⊢
  by_cases h106 : opN s ≤ 106
  case neg =>
    have hno : openS s = none := by unfold openS; rw [if_neg (fun h => h106 h.1)]
    have e1 : oM s = 0 := by unfold oM; rw [hno]; rfl
    have e2 : oB s = [] := by unfold oB; rw [hno]; rfl
    have HE : Hid (∃ v : Value, (.tuple #[.int .u64 0, .slice none 0 0, .bool false] : Value) = .tuple #[.int .u64 (oM s : Int), v, .bool (openS s).isSome] ∧ Sl W1.heap.size W1 v (oB s).length ((oB s).map bv)) := by
      rw [hno, e1, e2]; exact ⟨_, rfl, Sl.nil _ _⟩
    have hd : decide (106 < (opN s : Int)) = true := decide_eq_true (by omega)
    have hbel := hat1.bel
    clear hat1 hno e1 e2
    generalize opN s = n at *
    generalize opM s = m at *
    go_wp2
    go_ret3
    obtain ⟨v, h1, h2⟩ := HE.out
    exact ⟨v, congrArg Ending.returned h1, h2, hbel⟩
  have hd : decide (106 < (opN s : Int)) = false := decide_eq_false (by omega)
  have hBl := opB_length hs h106
  have hOB : Hid (opB s = (s.drop 10).take (opN s)) := rfl
  have hop : Hid (openS s = if okS (opM s) (opB s) ∧ sealOf (opM s) (opB s) = s then some (opM s, opB s) else none) := by
    unfold Hid openS
    by_cases hq : okS (opM s) (opB s) ∧ sealOf (opM s) (opB s) = s
    · rw [if_pos hq, if_pos ⟨h106, hq⟩]
    · rw [if_neg hq, if_neg (fun h => hq h.2)]
  generalize opB s = b at *
  generalize opN s = n at *
  generalize opM s = m at *
  subst hBl
  go_wp2
  have hS : (fun w' : World => w'.cell? ⟨b0, off0, none⟩ = some (.int .u64 (m : Int)) ∧ w'.cell? ⟨b0, off0 + 2, none⟩ = some (.int .u64 (b.length : Int))) W1.drew := ⟨hc0, hc1⟩
  refine wp_region_ord [] 10 [(0, true), (1, true), (2, true), (3, true), (4, true), (5, true), (6, true), (7, true), (8, true), (9, true)] (fun w' : World => w'.cell? ⟨b0, off0, none⟩ = some (.int .u64 (m : Int)) ∧ w'.cell? ⟨b0, off0 + 2, none⟩ = some (.int .u64 (b.length : Int))) (by kernel_rfl) (by kernel_rfl) ?_
  refine ord_quietL _ ?_ rfl hS rfl ?_ ?_
  rotate_left
  · rintro w' ⟨hS1, hS2⟩; go_simp; rfl
  simp only [Act.put, List.setIfInBounds_toArray, List.set_cons_zero, List.set_cons_succ]
  refine ord_quietL _ ?_ rfl hS rfl ?_ ?_
  rotate_left
  · rintro w' ⟨hS1, hS2⟩; go_simp; rfl
  simp only [Act.put, List.setIfInBounds_toArray, List.set_cons_zero, List.set_cons_succ]
  refine ord_quietL _ ?_ rfl hS rfl ?_ ?_
  rotate_left
  · rintro w' ⟨hS1, hS2⟩; go_simp; rfl
  simp only [Act.put, List.setIfInBounds_toArray, List.set_cons_zero, List.set_cons_succ]
  refine ord_quietL _ ?_ rfl hS rfl ?_ ?_
  rotate_left
  · rintro w' ⟨hS1, hS2⟩; go_simp; rfl
  simp only [Act.put, List.setIfInBounds_toArray, List.set_cons_zero, List.set_cons_succ]
  refine ord_quietL _ ?_ rfl hS rfl ?_ ?_
  rotate_left
  · rintro w' ⟨hS1, hS2⟩; go_simp; rfl
  simp only [Act.put, List.setIfInBounds_toArray, List.set_cons_zero, List.set_cons_succ]
  refine ord_quietL _ ?_ rfl hS rfl ?_ ?_
  rotate_left
  · rintro w' ⟨hS1, hS2⟩; go_simp; rfl
  simp only [Act.put, List.setIfInBounds_toArray, List.set_cons_zero, List.set_cons_succ]
  refine ord_quietL _ ?_ rfl hS rfl ?_ ?_
  rotate_left
  · rintro w' ⟨hS1, hS2⟩; go_simp; rfl
  simp only [Act.put, List.setIfInBounds_toArray, List.set_cons_zero, List.set_cons_succ]
  refine ord_quietL _ ?_ rfl hS rfl ?_ ?_
  rotate_left
  · rintro w' ⟨hS1, hS2⟩; go_simp; rfl
  simp only [Act.put, List.setIfInBounds_toArray, List.set_cons_zero, List.set_cons_succ]
  refine ord_quietL _ ?_ rfl hS rfl ?_ ?_
  rotate_left
  · rintro w' ⟨hS1, hS2⟩; go_simp; rfl
  simp only [Act.put, List.setIfInBounds_toArray, List.set_cons_zero, List.set_cons_succ]
  refine ord_quietL _ ?_ rfl hS rfl ?_ ?_
  rotate_left
  · rintro w' ⟨hS1, hS2⟩; go_simp; rfl
  simp only [Act.put, List.setIfInBounds_toArray, List.set_cons_zero, List.set_cons_succ]
  refine ord_tail ?_
  simp only [List.drop_succ_cons, List.drop_zero]
  have hat2 := hat1.drew
  have hs2 := hat2.sl 10 b.length 118 hs (by omega) (by omega) (by omega)
  rw [← hOB.out] at hs2
  have hiw : IntKind.i64.wrap (b.length : Int) = (b.length : Int) := by rw [IntKind.wrap_i64]; omega
  have kc : ∀ w' : World, (Instr.sliceAt 55 (.pointer (some ⟨w.heap.size, 0, none⟩)) (some (.int .i64 10)) (some (.int .i64 (10 + (b.length : Int)))) none).run Try.prog w' = .ok (.slice (some ⟨w.heap.size, 10, none⟩) b.length 118) w' := fun w' => secCut w.heap.size b.length (by omega) w'
  clear hc0 hc1 hS hat1
  generalize W1.drew = W2 at *
  go_wp2_with (go_at_call 62; refine stop_here ?_)
  unfold Hid
  refine (c_cloneX _ b.length _ _ b _ hs2 rfl (Nat.le_refl _) (by omega)).mono ?_
  rintro e W3 ⟨v3, rfl, hfr, hb3⟩
  have hs3 : Sl W3.heap.size W3 v3 b.length (b.map bv) := hfr.sl (fun k hk => hk.2)
  obtain ⟨ao3, cap3, rfl⟩ := sl_form hs3
  have hat3 := hat2.keep hb3
  clear hfr hb3 hat2 hs2 kc
  go_wp2_with (go_at_call 47; refine stop_here ?_)
  unfold Hid
  refine (c_make m _ b _ _ hM hs3 (Nat.le_refl _) (by omega)).mono ?_
  rintro e W4 ⟨rfl, hb4⟩
  have hat4 := hat3.keep hb4
  have hs4 := (hs3.keep hb4).mono hb4.size
  have hlen := mkS_length m b
  have hmd := made W4
  have hfit := hmd.fin (mkS m b)
  have hrow := hmd.row (mkS m b)
  have hb5 : Below W4.heap.size W4 ((W4.alloc (.cells (z128.map bv).toArray 55)).setRow W4.heap.size ((mkS m b).map bv).toArray) := hfit.below (Nat.le_refl _) (fun _ => False.elim)
  have hat5 := hat4.keep hb5
  have hs5 := (hs4.keep hb5).mono hb5.size
  have hr5 := range_all hat5.blk
  have hbel5 := hat5.bel
  clear hat3 hb4 hs3 hfit hb5 hat4 hs4 hat5
  generalize hW5 : (W4.alloc (.cells (z128.map bv).toArray 55)).setRow W4.heap.size ((mkS m b).map bv).toArray = W5 at *
  have hW5 : Hid ((W4.alloc (.cells (z128.map bv).toArray 55)).setRow W4.heap.size ((mkS m b).map bv).toArray = W5) := hW5
  have hq := neqS (mkS m b) s hlen hs
  have hg := guardS
  by_cases hok : okS m b
  case neg =>
    have hE : mkE m b = 51 := by unfold mkE; rw [if_neg hok]
    have hno : openS s = none := by rw [hop.out, if_neg (fun h => hok h.1)]
    have HE : Hid (∃ v : Value, (.tuple #[.int .u64 0, .slice none 0 0, .bool false] : Value) = .tuple #[.int .u64 (oM s : Int), v, .bool (openS s).isSome] ∧ Sl W5.heap.size W5 v (oB s).length ((oB s).map bv)) := by
      have e1 : oM s = 0 := by unfold oM; rw [hno]; rfl
      have e2 : oB s = [] := by unfold oB; rw [hno]; rfl
      rw [hno, e1, e2]; exact ⟨_, rfl, Sl.nil _ _⟩
    rw [hE]
    clear hno hE hq
    generalize mkS m b = L at *
    go_wp2_with (first
      | (refine wpList_alloc_agg rfl 55 rfl _ Try.zeroS ?_)
      | (refine wpList_store_all rfl 55 _ _ rfl W4.heap.size rfl (sec L) rfl _ rfl _ 55 hmd.new (sec_fit hlen) (bv_oneCell _) (sizeS hlen) ?_; rw [hW5.out]))
    go_ret3
    obtain ⟨v, h1, h2⟩ := HE.out
    exact ⟨v, congrArg Ending.returned h1, h2, hbel5⟩
  have hE : mkE m b = 0 := by unfold mkE; rw [if_pos hok]
  have hSl : Hid (mkS m b = sealOf m b) := by unfold Hid mkS; rw [if_pos hok]
  rw [hE]
  clear hE
  by_cases he : mkS m b = s
  · have hse : openS s = some (m, b) := by rw [hop.out, if_pos ⟨hok, hSl.out.symm.trans he⟩]
    have HE : Hid (∃ v : Value, (.tuple #[.int .u64 (m : Int), .slice ao3 b.length cap3, .bool true] : Value) = .tuple #[.int .u64 (oM s : Int), v, .bool (openS s).isSome] ∧ Sl W5.heap.size W5 v (oB s).length ((oB s).map bv)) := by
      have e1 : oM s = m := by unfold oM; rw [hse]; rfl
      have e2 : oB s = b := by unfold oB; rw [hse]; rfl
      rw [hse, e1, e2]; exact ⟨_, rfl, hs5⟩
    have hbq : (mkS m b == s) = true := beq_iff_eq.2 he
    rw [hbq, Bool.not_true] at hq
    clear hse hbq hs5 he
    generalize mkS m b = L at *
    go_wp2_with (first
      | (refine wpList_alloc_agg rfl 55 rfl _ Try.zeroS ?_)
      | (refine wpList_store_all rfl 55 _ _ rfl W4.heap.size rfl (sec L) rfl _ rfl _ 55 hmd.new (sec_fit hlen) (bv_oneCell _) (sizeS hlen) ?_; rw [hW5.out])
      | (refine wpList_load_as rfl 55 (.tmp 10) rfl W4.heap.size 0 rfl (sec L) _ rfl hrow Try.rowS (sizeS hlen) ?_)
      | (refine wpList_load_as rfl 55 (.tmp 1) rfl w.heap.size 0 rfl (sec s) _ rfl hr5 Try.rowS (sizeS hs) ?_))
    go_ret3
    obtain ⟨v, h1, h2⟩ := HE.out
    exact ⟨v, congrArg Ending.returned h1, h2, hbel5⟩
  · have hno : openS s = none := by rw [hop.out, if_neg (fun h => he (hSl.out.trans h.2))]
    have HE : Hid (∃ v : Value, (.tuple #[.int .u64 0, .slice none 0 0, .bool false] : Value) = .tuple #[.int .u64 (oM s : Int), v, .bool (openS s).isSome] ∧ Sl W5.heap.size W5 v (oB s).length ((oB s).map bv)) := by
      have e1 : oM s = 0 := by unfold oM; rw [hno]; rfl
      have e2 : oB s = [] := by unfold oB; rw [hno]; rfl
      rw [hno, e1, e2]; exact ⟨_, rfl, Sl.nil _ _⟩
    have hbq : (mkS m b == s) = false := beq_eq_false_iff_ne.2 he
    rw [hbq, Bool.not_false] at hq
    clear hno hbq hs5 he
    generalize mkS m b = L at *
    go_wp2_with (first
      | (refine wpList_alloc_agg rfl 55 rfl _ Try.zeroS ?_)
      | (refine wpList_store_all rfl 55 _ _ rfl W4.heap.size rfl (sec L) rfl _ rfl _ 55 hmd.new (sec_fit hlen) (bv_oneCell _) (sizeS hlen) ?_; rw [hW5.out])
      | (refine wpList_load_as rfl 55 (.tmp 10) rfl W4.heap.size 0 rfl (sec L) _ rfl hrow Try.rowS (sizeS hlen) ?_)
      | (refine wpList_load_as rfl 55 (.tmp 1) rfl w.heap.size 0 rfl (sec s) _ rfl hr5 Try.rowS (sizeS hs) ?_))
    go_ret3
    obtain ⟨v, h1, h2⟩ := HE.out
    exact ⟨v, congrArg Ending.returned h1, h2, hbel5⟩
end Go.Proofs.Ytihdhlciblkbiaa
