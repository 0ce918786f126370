/-
  How much is used, of both; Has of the document; Fresh of both.
-/
import Derived.Test.YtppfcdnhmieejaaDrBS
namespace Go.Proofs.Ytppfcdnhmieejaa
set_option linter.unusedVariables false
set_option linter.unusedSimpArgs false
set_option maxRecDepth 20000
open Go.RowKit

theorem has_drop {ls : List Cat} {k : Nat} (h : k < ls.length) (id : Int) : hasB (ls.drop k) id = (ls[k].1 == id || hasB (ls.drop (k + 1)) id) := by
  unfold hasB
  rw [List.drop_eq_getElem_cons h, List.any_cons]

set_option maxHeartbeats 1600000 in
theorem c_used {X : Nat → Prop} {t : Th} {uL uC uK uD : Value} (w : World) (h : ThAt X w t uL uC uK uD) (hl : LkOk t.links) (h16 : t.links.length ≤ 1000) :
    Calls Try.prog 13 #[thV t uL uC uK uD] w fun e w' => e = .returned (.int .i64 (usedL t.links)) ∧ Nw w w' := by
  obtain ⟨ka, kc, rfl, hk1, hk2⟩ := h.k.form
  obtain ⟨W, hW⟩ : ∃ W, Hid (W = w.alloc (.cells (thC t uL uC (.slice ka t.links.length kc) uD).toArray 34)) := ⟨_, rfl⟩
  have nW : Nw w W := by rw [hW.out]; exact nw_alloc (nw_refl w) _
  have hA : W.heap[w.heap.size]? = some (.cells (thC t uL uC (.slice ka t.links.length kc) uD).toArray 34 (0, 0)) := by rw [hW.out]; exact heap_alloc_new w _
  have hk := h.k.nw nW
  have a8 : W.cell? ⟨w.heap.size, 8, none⟩ = some (.slice ka t.links.length kc) := cell_blk hA rfl
  have hsum : Hid (∀ k, k ≤ t.links.length → 0 ≤ sumL (t.links.take k) ∧ sumL (t.links.take k) ≤ 48000) := fun k hk => sum_take hl k hk h16
  have hq : Hid (∀ k (h : k < t.links.length), 1 ≤ t.links[k].2 ∧ t.links[k].2 ≤ 48) := lk_quota hl
  have hst : Hid (∀ k (h : k < t.links.length), sumL (t.links.take (k + 1)) = sumL (t.links.take k) + t.links[k].2) := sum_take_succ t.links
  have hful : Hid (1 + sumL (t.links.take t.links.length) = usedL t.links) := by unfold Hid usedL; rw [List.take_length]
  clear hl
  go_enter Try.func13, Try.ntmps13
  go_upto_region 1 with (refine wpList_box_agg rfl 34 _ rfl (thV t uL uC (.slice ka t.links.length kc) uD) _ rfl rfl ?_)
  rw [← hW.out]
  clear hW
  go_wp2
  clear a8
  go_loopw [3, 9] (fun sv kv wr => ∃ (k : Nat) (s : Int), k ≤ t.links.length ∧ sv = .int .i64 s ∧ kv = .int .i64 k ∧ Hid (s = 1 + sumL (t.links.take k)) ∧ Nw W wr) (fun _ kv _ => t.links.length - (intOf kv).toNat)
  case atStart => exact ⟨0, 1, Nat.zero_le _, rfl, rfl, rfl, nw_refl _⟩
  case round =>
    obtain ⟨k, s, hk0, rfl, rfl, hs, hw⟩ := hrel
    by_cases hlt : k < t.links.length
    · obtain ⟨q, off, rfl, _, d1, d2⟩ := (hk.nw hw).get k hlt
      have hb1 : Hid (0 ≤ s ∧ s ≤ 48001) := by have := hsum.out k hk0; have := hs.out; unfold Hid; omega
      have hb2 : Hid (1 ≤ t.links[k].2 ∧ t.links[k].2 ≤ 48) := hq.out k hlt
      have hs' : Hid (s + t.links[k].2 = 1 + sumL (t.links.take (k + 1))) := by unfold Hid; rw [hst.out k hlt, hs.out]; omega
      generalize t.links[k] = c at *
      have hwr : IntKind.i64.wrap (s + c.2) = s + c.2 := by have := hb1.out; have := hb2.out; rw [IntKind.wrap_i64]; omega
      have hnA : Hid (∀ o, Nw W (wr.alloc o)) := fun o => nw_alloc hw o
      clear hs
      go_wp2
      go_roundw
      case rel => exact ⟨k + 1, s + c.2, by omega, rfl, by go_num, hs', hnA.out _⟩
      case measure => simp [intOf]; omega
    · have hk1 : k = t.links.length := by omega
      have hfin : Hid (s = usedL t.links) := by unfold Hid; rw [hs.out, hk1, hful.out]
      clear hs hk1
      go_wp2
      go_ret
      exact ⟨congrArg (fun z => Ending.returned (Value.int .i64 z)) hfin.out, nw_trans nW hw⟩

set_option maxHeartbeats 1600000 in
theorem c_rused {X : Nat → Prop} {t : Th} {uL uC uK uD : Value} (w : World) (h : ThAt X w t uL uC uK uD) (hl : LkOk t.links) (h16 : t.links.length ≤ 1000) :
    Calls Try.prog 14 #[thV t uL uC uK uD] w fun e w' => e = .returned (.int .i64 (usedL t.links)) ∧ Nw w w' := by
  obtain ⟨ka, kc, rfl, hk1, hk2⟩ := h.k.form
  obtain ⟨W, hW⟩ : ∃ W, Hid (W = w.alloc (.cells (thC t uL uC (.slice ka t.links.length kc) uD).toArray 34)) := ⟨_, rfl⟩
  have nW : Nw w W := by rw [hW.out]; exact nw_alloc (nw_refl w) _
  have hA : W.heap[w.heap.size]? = some (.cells (thC t uL uC (.slice ka t.links.length kc) uD).toArray 34 (0, 0)) := by rw [hW.out]; exact heap_alloc_new w _
  have hk := h.k.nw nW
  have a8 : W.cell? ⟨w.heap.size, 8, none⟩ = some (.slice ka t.links.length kc) := cell_blk hA rfl
  have hsum : Hid (∀ k, k ≤ t.links.length → 0 ≤ sumL (t.links.take k) ∧ sumL (t.links.take k) ≤ 48000) := fun k hk => sum_take hl k hk h16
  have hq : Hid (∀ k (h : k < t.links.length), 1 ≤ t.links[k].2 ∧ t.links[k].2 ≤ 48) := lk_quota hl
  have hst : Hid (∀ k (h : k < t.links.length), sumL (t.links.take (k + 1)) = sumL (t.links.take k) + t.links[k].2) := sum_take_succ t.links
  have hful : Hid (1 + sumL (t.links.take t.links.length) = usedL t.links) := by unfold Hid usedL; rw [List.take_length]
  clear hl
  go_enter Try.func14, Try.ntmps14
  go_upto_region 1 with (refine wpList_box_agg rfl 34 _ rfl (thV t uL uC (.slice ka t.links.length kc) uD) _ rfl rfl ?_)
  rw [← hW.out]
  clear hW
  go_wp2
  clear a8
  go_loopw [3, 9] (fun sv kv wr => ∃ (k : Nat) (s : Int), k ≤ t.links.length ∧ sv = .int .i64 s ∧ kv = .int .i64 k ∧ Hid (s = 1 + sumL (t.links.take k)) ∧ Nw W wr) (fun _ kv _ => t.links.length - (intOf kv).toNat)
  case atStart => exact ⟨0, 1, Nat.zero_le _, rfl, rfl, rfl, nw_refl _⟩
  case round =>
    obtain ⟨k, s, hk0, rfl, rfl, hs, hw⟩ := hrel
    by_cases hlt : k < t.links.length
    · obtain ⟨q, off, rfl, _, d1, d2⟩ := (hk.nw hw).get k hlt
      have hb1 : Hid (0 ≤ s ∧ s ≤ 48001) := by have := hsum.out k hk0; have := hs.out; unfold Hid; omega
      have hb2 : Hid (1 ≤ t.links[k].2 ∧ t.links[k].2 ≤ 48) := hq.out k hlt
      have hs' : Hid (s + t.links[k].2 = 1 + sumL (t.links.take (k + 1))) := by unfold Hid; rw [hst.out k hlt, hs.out]; omega
      generalize t.links[k] = c at *
      have hwr : IntKind.i64.wrap (s + c.2) = s + c.2 := by have := hb1.out; have := hb2.out; rw [IntKind.wrap_i64]; omega
      have hnA : Hid (∀ o, Nw W (wr.alloc o)) := fun o => nw_alloc hw o
      clear hs
      go_wp2
      go_roundw
      case rel => exact ⟨k + 1, s + c.2, by omega, rfl, by go_num, hs', hnA.out _⟩
      case measure => simp [intOf]; omega
    · have hk1 : k = t.links.length := by omega
      have hfin : Hid (s = usedL t.links) := by unfold Hid; rw [hs.out, hk1, hful.out]
      clear hs hk1
      go_wp2
      go_ret
      exact ⟨congrArg (fun z => Ending.returned (Value.int .i64 z)) hfin.out, nw_trans nW hw⟩

set_option maxHeartbeats 1600000 in
theorem c_rhas {X : Nat → Prop} {t : Th} {uL uC uK uD : Value} (id : Int) (w : World) (h : ThAt X w t uL uC uK uD) :
    Calls Try.prog 16 #[thV t uL uC uK uD, .int .u64 id] w fun e w' => e = .returned (.bool (hasB t.links id)) ∧ Nw w w' := by
  obtain ⟨ka, kc, rfl, hk1, hk2⟩ := h.k.form
  obtain ⟨W, hW⟩ : ∃ W, Hid (W = w.alloc (.cells (thC t uL uC (.slice ka t.links.length kc) uD).toArray 34)) := ⟨_, rfl⟩
  have nW : Nw w W := by rw [hW.out]; exact nw_alloc (nw_refl w) _
  have hA : W.heap[w.heap.size]? = some (.cells (thC t uL uC (.slice ka t.links.length kc) uD).toArray 34 (0, 0)) := by rw [hW.out]; exact heap_alloc_new w _
  have hk := h.k.nw nW
  have a8 : W.cell? ⟨w.heap.size, 8, none⟩ = some (.slice ka t.links.length kc) := cell_blk hA rfl
  go_enter Try.func16, Try.ntmps16
  go_upto_region 1 with (refine wpList_box_agg rfl 34 _ rfl (thV t uL uC (.slice ka t.links.length kc) uD) _ rfl rfl ?_)
  rw [← hW.out]
  clear hW
  go_wp2
  clear a8
  go_loopw [10] (fun kv wr => ∃ k : Nat, k ≤ t.links.length ∧ kv = .int .i64 k ∧ Hid (hasB (t.links.drop k) id = hasB t.links id) ∧ Nw W wr) (fun kv _ => t.links.length - (intOf kv).toNat)
  case atStart => exact ⟨0, Nat.zero_le _, rfl, rfl, nw_refl _⟩
  case round =>
    obtain ⟨k, hk0, rfl, hs, hw⟩ := hrel
    by_cases hlt : k < t.links.length
    · obtain ⟨q, off, rfl, _, d1, d2⟩ := (hk.nw hw).get k hlt
      have hst : Hid (hasB t.links id = (t.links[k].1 == id || hasB (t.links.drop (k + 1)) id)) := by unfold Hid; rw [← has_drop hlt, hs.out]
      generalize t.links[k] = c at *
      have hnA : Hid (∀ o, Nw W (wr.alloc o)) := fun o => nw_alloc hw o
      clear hs
      cases hc : (c.1 == id) with
      | true =>
        have hfin : Hid (true = hasB t.links id) := by unfold Hid; rw [hst.out, hc]; rfl
        clear hst
        go_wp2
        go_ret
        exact ⟨congrArg (fun z => Ending.returned (Value.bool z)) hfin.out, nw_trans nW (hnA.out _)⟩
      | false =>
        have hs' : Hid (hasB (t.links.drop (k + 1)) id = hasB t.links id) := by unfold Hid; rw [hst.out, hc]; rfl
        clear hst
        go_wp2
        go_roundw
        case rel => exact ⟨k + 1, by omega, by go_num, hs', hnA.out _⟩
        case measure => simp [intOf]; omega
    · have hfin : Hid (false = hasB t.links id) := by unfold Hid; rw [← hs.out, List.drop_of_length_le (by omega)]; rfl
      clear hs
      go_wp2
      go_ret
      exact ⟨congrArg (fun z => Ending.returned (Value.bool z)) hfin.out, nw_trans nW hw⟩

set_option maxHeartbeats 1600000 in
theorem c_fresh {X : Nat → Prop} {t : Th} {uL uC uK uD : Value} (w : World) (h : ThAt X w t uL uC uK uD) (h1 : 0 ≤ t.id ∧ t.id < 18446744073709551616) (h2 : btw 0 t.next 63) :
    Calls Try.prog 11 #[thV t uL uC uK uD] w fun e w' => e = .returned (.tuple #[.int .u64 (freshT t).1, .int .i64 (freshT t).2]) ∧ Nw w w' := by
  obtain ⟨W, hW⟩ : ∃ W, Hid (W = w.alloc (.cells (thC t uL uC uK uD).toArray 34)) := ⟨_, rfl⟩
  have nW : Nw w W := by rw [hW.out]; exact nw_alloc (nw_refl w) _
  have hA : W.heap[w.heap.size]? = some (.cells (thC t uL uC uK uD).toArray 34 (0, 0)) := by rw [hW.out]; exact heap_alloc_new w _
  have a0 : W.cell? ⟨w.heap.size, 0, none⟩ = some (.int .u64 t.id) := cell_blk hA rfl
  have a7 : W.cell? ⟨w.heap.size, 7, none⟩ = some (.int .i64 t.next) := cell_blk hA rfl
  have hf : Hid (freshT t = if 63 ≤ t.next ∨ 4398046511104 ≤ t.id then (0, 125) else (t.id * 64 + t.next + 1, 0)) := rfl
  generalize freshT t = f at *
  unfold btw at h2
  generalize t.id = i at *
  generalize t.next = n at *
  by_cases c1 : 63 ≤ n
  · have b1 : decide (63 ≤ n) = true := decide_eq_true c1
    have hff : Hid (f = (0, 125)) := by unfold Hid; rw [hf.out, if_pos (.inl c1)]
    clear hf c1
    go_enter Try.func11, Try.ntmps11
    go_upto_region 1 with (refine wpList_box_agg rfl 34 _ rfl (thV t uL uC uK uD) _ rfl rfl ?_)
    rw [← hW.out]
    clear hW
    go_wp2
    go_ret2
    exact ⟨by rw [hff.out]; rfl, nW⟩
  · have b1 : decide (63 ≤ n) = false := decide_eq_false c1
    by_cases c2 : 4398046511104 ≤ i
    · have b2 : decide (4398046511104 ≤ i) = true := decide_eq_true c2
      have hff : Hid (f = (0, 125)) := by unfold Hid; rw [hf.out, if_pos (.inr c2)]
      clear hf c1 c2
      go_enter Try.func11, Try.ntmps11
      go_upto_region 1 with (refine wpList_box_agg rfl 34 _ rfl (thV t uL uC uK uD) _ rfl rfl ?_)
      rw [← hW.out]
      clear hW
      go_wp2
      go_ret2
      exact ⟨by rw [hff.out]; rfl, nW⟩
    · have b2 : decide (4398046511104 ≤ i) = false := decide_eq_false c2
      have hff : Hid (f = (i * 64 + n + 1, 0)) := by unfold Hid; rw [hf.out, if_neg (by omega)]
      have w1 : IntKind.u64.wrap (i * 64) = i * 64 := by rw [IntKind.wrap_u64]; omega
      have w2 : IntKind.u64.wrap n = n := by rw [IntKind.wrap_u64]; omega
      have w3 : IntKind.u64.wrap (i * 64 + n) = i * 64 + n := by rw [IntKind.wrap_u64]; omega
      have w4 : IntKind.u64.wrap (i * 64 + n + 1) = i * 64 + n + 1 := by rw [IntKind.wrap_u64]; omega
      clear hf c1 c2
      go_enter Try.func11, Try.ntmps11
      go_upto_region 1 with (refine wpList_box_agg rfl 34 _ rfl (thV t uL uC uK uD) _ rfl rfl ?_)
      rw [← hW.out]
      clear hW
      go_wp2
      go_ret2
      exact ⟨by rw [hff.out]; rfl, nW⟩

set_option maxHeartbeats 1600000 in
theorem c_rfresh {X : Nat → Prop} {t : Th} {uL uC uK uD : Value} (w : World) (h : ThAt X w t uL uC uK uD) (h1 : 0 ≤ t.id ∧ t.id < 18446744073709551616) (h2 : btw 0 t.next 63) :
    Calls Try.prog 12 #[thV t uL uC uK uD] w fun e w' => e = .returned (.tuple #[.int .u64 (freshT t).1, .int .i64 (freshT t).2]) ∧ Nw w w' := by
  obtain ⟨W, hW⟩ : ∃ W, Hid (W = w.alloc (.cells (thC t uL uC uK uD).toArray 34)) := ⟨_, rfl⟩
  have nW : Nw w W := by rw [hW.out]; exact nw_alloc (nw_refl w) _
  have hA : W.heap[w.heap.size]? = some (.cells (thC t uL uC uK uD).toArray 34 (0, 0)) := by rw [hW.out]; exact heap_alloc_new w _
  have a0 : W.cell? ⟨w.heap.size, 0, none⟩ = some (.int .u64 t.id) := cell_blk hA rfl
  have a7 : W.cell? ⟨w.heap.size, 7, none⟩ = some (.int .i64 t.next) := cell_blk hA rfl
  have hf : Hid (freshT t = if 63 ≤ t.next ∨ 4398046511104 ≤ t.id then (0, 125) else (t.id * 64 + t.next + 1, 0)) := rfl
  generalize freshT t = f at *
  unfold btw at h2
  generalize t.id = i at *
  generalize t.next = n at *
  by_cases c1 : n = 63
  · have b1 : (n == 63) = true := by simp [c1]
    have hff : Hid (f = (0, 125)) := by unfold Hid; rw [hf.out, if_pos (.inl (by omega))]
    clear hf c1
    go_enter Try.func12, Try.ntmps12
    go_upto_region 1 with (refine wpList_box_agg rfl 34 _ rfl (thV t uL uC uK uD) _ rfl rfl ?_)
    rw [← hW.out]
    clear hW
    go_wp2
    go_ret2
    exact ⟨by rw [hff.out]; rfl, nW⟩
  · have b1 : (n == 63) = false := by simp [c1]
    by_cases c2 : 4398046511104 ≤ i
    · have b2 : decide (4398046511103 < i) = true := decide_eq_true (by omega)
      have hff : Hid (f = (0, 125)) := by unfold Hid; rw [hf.out, if_pos (.inr c2)]
      clear hf c1 c2
      go_enter Try.func12, Try.ntmps12
      go_upto_region 1 with (refine wpList_box_agg rfl 34 _ rfl (thV t uL uC uK uD) _ rfl rfl ?_)
      rw [← hW.out]
      clear hW
      go_wp2
      go_ret2
      exact ⟨by rw [hff.out]; rfl, nW⟩
    · have b2 : decide (4398046511103 < i) = false := decide_eq_false (by omega)
      have hff : Hid (f = (64 * i + (n + 1), 0)) := by unfold Hid; rw [hf.out, if_neg (by omega)]; congr 1; omega
      have w1 : IntKind.u64.wrap (64 * i) = 64 * i := by rw [IntKind.wrap_u64]; omega
      have w2 : IntKind.i64.wrap (n + 1) = n + 1 := by rw [IntKind.wrap_i64]; omega
      have w3 : IntKind.u64.wrap (n + 1) = n + 1 := by rw [IntKind.wrap_u64]; omega
      have w4 : IntKind.u64.wrap (64 * i + (n + 1)) = 64 * i + (n + 1) := by rw [IntKind.wrap_u64]; omega
      clear hf c1 c2
      go_enter Try.func12, Try.ntmps12
      go_upto_region 1 with (refine wpList_box_agg rfl 34 _ rfl (thV t uL uC uK uD) _ rfl rfl ?_)
      rw [← hW.out]
      clear hW
      go_wp2
      go_ret2
      exact ⟨by rw [hff.out]; rfl, nW⟩
end Go.Proofs.Ytppfcdnhmieejaa
