/-
  Package journal: writeBytes.
-/
import Derived.Test.YtihdhlciblkbiaaJourW2
namespace Go.Proofs.Ytihdhlciblkbiaa
set_option linter.unusedVariables false
set_option linter.unusedSimpArgs false
set_option maxRecDepth 20000
open Go.RowKit

/-- A slice of bytes cut at its beginning. -/
theorem run_from (ao : Option Addr) (n cap l : Nat) (hl : l ≤ n) (w : World) : (Instr.sliceAt 37 (.slice ao n cap) (some (.int .i64 (l : Int))) none none).run Try.prog w = .ok (cut1 ao l n cap) w := by
  have he : Try.prog.elem 37 = 5 := by kernel_rfl
  have hu : Try.prog.underlying 37 = some (.slice (Try.prog.elem 37)) := by rw [he]; exact Try.underlying37
  have h5 : (sizeOf 5).run Try.prog w = .ok 1 w := by
    have := Try.size5
    cases hq : Try.prog.info? 5 with
    | none => rw [hq] at this; cases this
    | some i =>
      rw [hq] at this
      simp only [Option.map_some, Option.some.injEq] at this
      simp [sizeOf, typeInfo, hq, this]
  rw [run_sliceAt_slice w _ _ _ _ _ hu, run_slice_l w _ _ _ _ hu .i64 (l : Int) (by omega) (by omega), he, h5]
  simp [Result.andThen, cut1]

theorem seg_splice (xs : List UInt8) (k : Nat) : splice (z128.map bv) 0 ((segN xs k).map bv) = (secAt xs k).map bv := by
  have hl := segN_le xs k
  unfold splice secAt
  rw [List.take_zero, List.nil_append, List.map_append, Nat.zero_add, List.length_map, ← List.map_drop]
  rw [show z128.drop (segN xs k).length = List.replicate (128 - (segN xs k).length) 0 by unfold z128; rw [List.drop_replicate]]

theorem Slp.fr {X X' F : Nat → Prop} {w w' : World} {v : Value} {n : Nat} {cs : List Value} (h : Slp X w v n cs) (hf : Fr F w w') (hX : ∀ k, X k → k < w.heap.size → ¬ F k) (hX' : ∀ k, X k → k < w.heap.size → X' k) : Slp X' w' v n cs :=
  h.keepL fun k hk hlt => ⟨hX' k hk hlt, hf.block k hlt (hX k hk hlt)⟩

theorem Slp.sub {X X' : Nat → Prop} {w : World} {v : Value} {n : Nat} {cs : List Value} (h : Slp X w v n cs) (hX' : ∀ k, X k → k < w.heap.size → X' k) : Slp X' w v n cs :=
  h.keepL fun k hk hlt => ⟨hX' k hk hlt, rfl⟩

theorem Slp.slw {X : Nat → Prop} {w : World} {v : Value} {n : Nat} {cs : List Value} (h : Slp X w v n cs) : Sl w.heap.size w v n cs :=
  (h.sub (X' := fun k => k < w.heap.size) fun _ _ hlt => hlt).sl (fun _ h => h)

theorem Sl.pre {K n : Nat} {w : World} {v : Value} {cs ds : List Value} (h : Sl K w v n cs) (hd : ∀ (i : Nat) (c : Value), ds[i]? = some c → cs[i]? = some c) : Sl K w v n ds := by
  obtain ⟨ao, cap, e, h1, h2, h3⟩ := h
  exact ⟨ao, cap, e, h1, h2, fun i c hi => h3 i c (hd i c hi)⟩

theorem segN_length (xs : List UInt8) (k : Nat) : (segN xs k).length = Nat.min (xs.length - k * 128) 128 := by
  unfold segN
  rw [List.length_take, List.length_drop, Nat.min_comm]

/-- Done, and then something that leaves what is old. -/
theorem Done.trans {base : Nat} {w w1 w2 : World} {b : Nat} {S : Nat → Prop} {D2 : Dk} {S1 : Nat → Prop} (hf1 : Fr S w w1) (hS1 : ∀ k, S1 k → S k ∨ w.heap.size ≤ k) (h2 : Done base w1 b S1 D2 w2) : Done base w b S D2 w2 := by
  obtain ⟨S2, hd, hf, hs⟩ := h2
  refine ⟨S2, hd, hf1.trans hf hS1, fun k hk => ?_⟩
  rcases hs k hk with h | h
  · exact hS1 k h
  · exact .inr (Nat.le_trans hf1.size h)

set_option maxHeartbeats 3200000 in
theorem c_writeBytes {base b : Nat} {S : Nat → Prop} {D : Dk} {j f gen cnt : Nat} {xs : List UInt8} {v : Value} (w : World) (hD : DiskAt base w b S D) (hJ : JrAt w j b f gen cnt) (hn : ¬ S j)
    (hs : Slp (fun k => ¬ S k) w v xs.length (xs.map bv)) (hl : xs.length ≤ 384) (hpl : D.pd.length ≤ 900000) :
    Calls Try.prog 26 #[.pointer (some ⟨j, 0, none⟩), v] w fun e w' => e = .returned (.int .i64 (D.wrs (headN f cnt + 1) xs (secsN xs.length)).2) ∧ Done base w b S (D.wrs (headN f cnt + 1) xs (secsN xs.length)).1 w' := by
  obtain ⟨ao, cap, rfl, hcl, hcm⟩ := hs.form
  have hal : Try.prog.arrayLen 55 = 128 := by kernel_rfl
  have hn3 := secsN_le hl
  obtain ⟨a, ha⟩ : ∃ a, Hid (a = headN f cnt + 1) := ⟨_, rfl⟩
  rw [← ha.out]
  have hse : Hid (∀ k, k < secsN xs.length → k * 128 < xs.length) := fun k hk => by unfold secsN at hk; omega
  obtain ⟨n, hnE⟩ : ∃ n, Hid (secsN xs.length = n) := ⟨_, rfl⟩
  rw [hnE.out] at hn3 hse ⊢
  have hd0 : Done base w b S D w := ⟨S, hD, Fr.refl _ _, fun _ h => .inl h⟩
  go_enter Try.func26, Try.ntmps26
  go_wp2_with (go_at_call 43; refine (c_sectorsFor xs.length _ (by omega)).mono ?_; rw [hnE.out]; rintro e w' ⟨rfl, rfl⟩)
  go_loopw [11] (fun i wr => ∃ k : Nat, k ≤ n ∧ i = .int .i64 k ∧ (D.wrs a xs k).2 = 0 ∧ Done base w b S (D.wrs a xs k).1 wr) (fun i _ => n - (intOf i).toNat)
  case atStart => exact ⟨0, Nat.zero_le _, rfl, rfl, hd0⟩
  case round =>
    obtain ⟨k, hk, rfl, he, S1, hD1, hf1, hS1⟩ := hrel
    by_cases hlt : k < n
    case neg =>
      obtain rfl : k = n := by omega
      have HR : Hid ((D.wrs a xs k).2 = 0 ∧ Done base w b S (D.wrs a xs k).1 wr) := ⟨he, S1, hD1, hf1, hS1⟩
      clear he hD1 hf1 hS1 hd0 hD hJ hs hse
      go_wp2
      go_ret
      obtain ⟨h1, h2⟩ := HR.out
      exact ⟨by rw [h1]; rfl, h2⟩
    have hkx := hse.out k hlt
    have hpd := (lim_wrs D a xs k).2
    have HX : Hid (D.wrs a xs (k + 1) = ((D.wrs a xs k).1.write ((a + k : Nat) : Int) (secAt xs k), (D.wrs a xs k).1.werr ((a + k : Nat) : Int))) := by
      unfold Hid
      show stepE (D.wrs a xs k) _ = _
      unfold stepE
      rw [if_pos he]
      rfl
    have HY : Hid (D.wrs a xs (k + 1) = (D.wrs a xs n) ∨ (D.wrs a xs (k + 1)).2 = 0) := by
      by_cases h0 : (D.wrs a xs (k + 1)).2 = 0
      · exact .inr h0
      · exact .inl (wrs_err D a xs (k + 1) n (by omega) h0).symm
    generalize (D.wrs a xs k).1 = D1 at *
    clear he hd0 hse
    have hs1 : Slp (fun q => ¬ S1 q) wr (.slice ao xs.length cap) xs.length (xs.map bv) := hs.fr hf1 (fun q hq _ => hq) (fun q hq hql h => (hS1 q h).elim hq (by omega))
    have hj1 : JrAt wr j b f gen cnt := hJ.fr hf1 hn
    have hmd := made wr
    have hbW : Below wr.heap.size wr (wr.alloc (.cells (z128.map bv).toArray 55)) := below_of_nw hmd.fr
    have hsW := (hs1.fr (X' := fun _ => True) hmd.fr (fun _ _ _ => id) (fun _ _ _ => trivial)).slw
    have hnew := hmd.new
    clear hmd hs
    generalize hW : wr.alloc (.cells (z128.map bv).toArray 55) = W at *
    have hW : Hid (wr.alloc (.cells (z128.map bv).toArray 55) = W) := hW
    obtain ⟨ao2, hcut⟩ := cut1_form ao (k * 128) xs.length cap
    have hs2 := hsW.cut1 (k * 128) xs.length (by omega) (Nat.le_refl _)
    rw [hcut] at hs2
    have hs3 : Sl W.heap.size W (.slice ao2 (xs.length - k * 128) (cap - k * 128)) (xs.length - k * 128) ((segN xs k).map bv) := hs2.pre (fun i c hi => by
      rw [List.getElem?_map] at hi ⊢
      unfold segN at hi
      rw [List.getElem?_take] at hi
      split at hi
      · rw [List.getElem?_take]
        split
        · exact hi
        · rw [List.getElem?_drop, List.getElem?_eq_none (by omega)] at hi; simp at hi
      · simp at hi)
    have hw1 : IntKind.i64.wrap ((k : Int) * 128) = (k : Int) * 128 := by rw [IntKind.wrap_i64]; omega
    have kc : ∀ w' : World, (Instr.sliceAt 37 (.slice ao xs.length cap) (some (.int .i64 ((k : Int) * 128))) none none).run Try.prog w' = .ok (.slice ao2 (xs.length - k * 128) (cap - k * 128)) w' := fun w' => by rw [show ((k : Int) * 128) = ((k * 128 : Nat) : Int) by omega, run_from _ _ _ _ (by omega), hcut]
    clear hs2 hsW hcut
    go_wp2_with (refine wpList_alloc_agg rfl 55 rfl _ Try.zeroS ?_; rw [hW.out])
    refine wp_region_ord [] 5 [(0, true), (1, true), (2, true), (3, true), (4, true)] (fun _ => True) (by kernel_rfl) (by kernel_rfl) ?_
    refine ord_quietL _ ?_ rfl trivial rfl ?_ ?_
    rotate_left
    · rintro w' _; go_simp; rfl
    simp only [Act.put, List.setIfInBounds_toArray, List.set_cons_zero, List.set_cons_succ]
    refine ord_quietL _ ?_ rfl trivial rfl ?_ ?_
    rotate_left
    · rintro w' _; go_simp; rfl
    simp only [Act.put, List.setIfInBounds_toArray, List.set_cons_zero, List.set_cons_succ]
    refine ord_quietL _ ?_ rfl trivial rfl ?_ ?_
    rotate_left
    · rintro w' _; go_simp; rfl
    simp only [Act.put, List.setIfInBounds_toArray, List.set_cons_zero, List.set_cons_succ]
    refine ord_quietL _ ?_ rfl trivial rfl ?_ ?_
    rotate_left
    · rintro w' _; go_simp; rfl
    simp only [Act.put, List.setIfInBounds_toArray, List.set_cons_zero, List.set_cons_succ]
    refine ord_quietL _ ?_ rfl trivial rfl ?_ ?_
    rotate_left
    · rintro w' _; go_simp; rfl
    simp only [Act.put, List.setIfInBounds_toArray, List.set_cons_zero, List.set_cons_succ]
    refine ord_tail ?_
    simp only [List.drop_succ_cons, List.drop_zero]
    have hnd : W.drew.heap[wr.heap.size]? = some (.cells (z128.map bv).toArray 55 (0, 0)) := hnew
    have hbd : Below wr.heap.size wr W.drew := hbW.drew
    have hsd : Sl W.drew.heap.size W.drew (.slice ao2 (xs.length - k * 128) (cap - k * 128)) (xs.length - k * 128) ((segN xs k).map bv) := hs3
    clear hnew hbW hs3 hW kc
    refine wpList_copy_splice rfl _ _ 37 37 rfl 5 Try.underlying37 Try.size5 _ _ _ _ _ _ rfl rfl wr.heap.size 0 (z128.map bv) 55 hnd ((segN xs k).map bv) ?a1 (fun hp => ⟨rfl, sl_src hsd hp⟩) ?a2 (bv_oneCell _) _ _ hbd (Nat.le_refl _) ?_
    case a1 => rw [List.length_map]; exact segN_length xs k
    case a2 => rw [List.length_map, List.length_map, z128_length]; have := segN_le xs k; omega
    intro W1 hb1 hbel1
    have hb1 := hb1.out
    rw [seg_splice] at hb1
    have hlen := secAt_length xs k
    clear hnd hbd hsd
    generalize secAt xs k = s at *
    generalize ((segN xs k).map bv).length = sl at *
    have hn1 : Nw wr W1 := nw_of_below hbel1
    have hjW := hj1.nw hn1
    have hDW := hD1.keep hn1 (fun _ _ => id)
    have hrow := range_all hb1
    obtain ⟨c0, -, -, -, -⟩ := hjW.cells
    clear hj1 hb1 hbel1
    go_wp2
    have hS : (fun w' : World => w'.cell? ⟨j, 0, none⟩ = some (.pointer (some ⟨b, 0, none⟩)) ∧ w'.rangeAt wr.heap.size 0 (s.map bv)) W1.drew := ⟨c0, hrow⟩
    refine wp_region_ord [] 10 [(0, true), (1, true), (2, true), (3, true), (4, true), (7, true), (9, true), (5, false), (6, true), (8, true)] (fun w' : World => w'.cell? ⟨j, 0, none⟩ = some (.pointer (some ⟨b, 0, none⟩)) ∧ w'.rangeAt wr.heap.size 0 (s.map bv)) (by kernel_rfl) (by kernel_rfl) ?_
    refine ord_quietL _ ?_ rfl hS rfl ?_ ?_
    rotate_left
    · rintro w' ⟨hS1, hS2⟩; go_simp; rfl
    simp only [Act.put, List.setIfInBounds_toArray, List.set_cons_zero, List.set_cons_succ]
    refine ord_quietL _ ?_ rfl hS rfl ?_ ?_
    rotate_left
    · rintro w' ⟨hS1, hS2⟩; go_simp; rfl
    simp only [Act.put, List.setIfInBounds_toArray, List.set_cons_zero, List.set_cons_succ]
    refine ord_quietL _ ?_ rfl hS rfl ?_ ?_
    rotate_left
    · rintro w' ⟨hS1, hS2⟩; go_simp; rfl
    simp only [Act.put, List.setIfInBounds_toArray, List.set_cons_zero, List.set_cons_succ]
    refine ord_quietL _ ?_ rfl hS rfl ?_ ?_
    rotate_left
    · rintro w' ⟨hS1, hS2⟩; go_simp; rfl
    simp only [Act.put, List.setIfInBounds_toArray, List.set_cons_zero, List.set_cons_succ]
    refine ord_quietL _ ?_ rfl hS rfl ?_ ?_
    rotate_left
    · rintro w' ⟨hS1, hS2⟩; go_simp; rfl
    simp only [Act.put, List.setIfInBounds_toArray, List.set_cons_zero, List.set_cons_succ]
    refine ord_quietL _ ?_ rfl hS rfl ?_ ?_
    rotate_left
    · rintro w' ⟨hS1, hS2⟩; go_simp; rfl
    simp only [Act.put, List.setIfInBounds_toArray, List.set_cons_zero, List.set_cons_succ]
    refine ord_quietL _ (sec s) rfl hS rfl ?_ ?_
    · rintro w' ⟨hS1, hS2⟩
      exact run_load_quiet 55 _ w' rfl wr.heap.size 0 rfl _ hS2 Try.rowS (sizeS hlen)
    simp only [Act.put, List.setIfInBounds_toArray, List.set_cons_zero, List.set_cons_succ]
    refine ord_actL _ rfl (fun K1 hK1 => ?_)
    go_wp2_with fail
    refine (c_headAt _ hjW.drew).mono ?_
    rintro e W2 ⟨rfl, hn2⟩
    have hn12 : Nw W1 W2 := Fr.trans (Fr.refl _ W1).drew hn2 (fun _ => False.elim)
    have hDX := hDW.keep hn12 (fun _ _ => id)
    have hJX := hjW.nw hn12
    obtain ⟨d0, -, -, -, -⟩ := hJX.cells
    have hS' : (fun w' : World => w'.cell? ⟨j, 0, none⟩ = some (.pointer (some ⟨b, 0, none⟩)) ∧ w'.rangeAt wr.heap.size 0 (s.map bv)) W2 :=
      ⟨d0, fun i x hx => (World.cell?_of_block (w := W1) (a := ⟨wr.heap.size, 0 + i, none⟩) (hn12.block wr.heap.size (World.block_lt_of_cell? W1 _ (hrow i x hx)) id)).trans (hrow i x hx)⟩
    have hfl := hJX.fl
    have hcl4 := hJX.cl
    have hN : headN f cnt ≤ 2016 := by unfold headN; omega
    have hw2 : IntKind.i64.wrap ((headN f cnt : Int) + 1) = (headN f cnt : Int) + 1 := by rw [IntKind.wrap_i64]; omega
    have hw3 : IntKind.i64.wrap ((headN f cnt : Int) + 1 + (k : Int)) = (headN f cnt : Int) + 1 + (k : Int) := by rw [IntKind.wrap_i64]; omega
    have hH : Hid (((headN f cnt : Int) + 1 + (k : Int)) = ((a + k : Nat) : Int)) := by unfold Hid; rw [ha.out]; omega
    generalize headN f cnt = hN0 at *
    go_wp2
    refine hK1 _ _ hS' ?_
    clear hK1 K1 hS c0 hrow
    refine ord_quietL _ ?_ rfl hS' rfl ?_ ?_
    rotate_left
    · rintro w' ⟨hS1, hS2⟩; go_simp; rfl
    simp only [Act.put, List.setIfInBounds_toArray, List.set_cons_zero, List.set_cons_succ]
    refine ord_quietL _ ?_ rfl hS' rfl ?_ ?_
    rotate_left
    · rintro w' ⟨hS1, hS2⟩; go_simp; rfl
    simp only [Act.put, List.setIfInBounds_toArray, List.set_cons_zero, List.set_cons_succ]
    refine ord_tail ?_
    simp only [List.drop_succ_cons, List.drop_zero]
    have hfw : Fr S w W2 := (hf1.trans (hn1.mono (fun _ => False.elim)) hS1).trans (hn12.mono (fun _ => False.elim)) (fun q h => hS1 q h)
    have hp1 : D1.pd.length ≤ 1000000 := by omega
    clear hDW hn12 hn1 hjW hJX hn2 hD1 hs1 hD hJ hf1 hpd d0 hS'
    rw [hH.out]
    go_wp2_with (go_at_call 28; refine stop_here ?_)
    unfold Hid
    refine (c_write ((a + k : Nat) : Int) s _ hDX hlen hp1).mono ?_
    rintro e W3 ⟨rfl, hd3⟩
    have hdn := hd3.trans hfw hS1
    clear hd3 hDX hfw
    have HX1 : Hid ((D.wrs a xs (k + 1)).2 = D1.werr ((a + k : Nat) : Int)) := by unfold Hid; rw [HX.out]
    have HX2 : Hid ((D.wrs a xs (k + 1)).1 = D1.write ((a + k : Nat) : Int) s) := by unfold Hid; rw [HX.out]
    clear HX
    rw [← HX2.out] at hdn
    clear HX2
    generalize D1.werr ((a + k : Nat) : Int) = ev at *
    by_cases h0 : ev = 0
    · subst h0
      go_wp2
      go_roundw
      case rel => exact ⟨k + 1, by omega, by go_num, HX1.out, hdn⟩
      case measure => simp [intOf]; omega
    · have hne : (ev != 0) = true := by simpa using h0
      have hne2 : (ev == 0) = false := by simpa using h0
      have HE : Hid (ev = (D.wrs a xs n).2 ∧ Done base w b S (D.wrs a xs n).1 W3) := by
        rcases HY.out with h1 | h1
        · rw [← h1]; exact ⟨HX1.out.symm, hdn⟩
        · exact absurd (HX1.out.symm.trans h1) h0
      clear h0 hdn HX1 HY
      go_wp2
      go_ret
      exact ⟨congrArg (fun z => Ending.returned (.int .i64 z)) HE.out.1, HE.out.2⟩
end Go.Proofs.Ytihdhlciblkbiaa
