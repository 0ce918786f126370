/-
  The document's Add.
-/
import Derived.Test.YtppfcdnhmieejaaDrA2S
namespace Go.Proofs.Ytppfcdnhmieejaa
set_option linter.unusedVariables false
set_option linter.unusedSimpArgs false
set_option maxRecDepth 20000
open Go.RowKit

/-- What the document's change answers. -/
def RcP (X : Nat → Prop) (t : Th) (err : Int) (w : World) (e : Ending) (w' : World) : Prop := ∃ u1 u2 u3 u4, e = .returned (.tuple #[thV t u1 u2 u3 u4, .int .i64 err]) ∧ ThAt (fun b => X b ∨ w.heap.size ≤ b) w' t u1 u2 u3 u4 ∧ Nw w w'

/-- What the document has laid behind the first k links. -/
def accL (ls : List Cat) (c : Cat) (k : Nat) : List Cat := if posL ls c.1 < k then ls.take (posL ls c.1) ++ c :: (ls.take k).drop (posL ls c.1) else ls.take k

theorem acc_zero (ls : List Cat) (c : Cat) : accL ls c 0 = [] := by unfold accL; rw [if_neg (Nat.not_lt_zero _)]; simp
theorem acc_past {ls : List Cat} {c : Cat} {k : Nat} (hk : k < ls.length) (h : posL ls c.1 < k) : accL ls c (k + 1) = accL ls c k ++ [ls[k]] := by
  unfold accL
  rw [if_pos h, if_pos (by omega), List.take_succ_eq_append_getElem hk, List.drop_append_of_le_length (by simp; omega)]
  simp
theorem acc_ahead {ls : List Cat} {c : Cat} {k : Nat} (hk : k < ls.length) (h : k < posL ls c.1) : accL ls c (k + 1) = accL ls c k ++ [ls[k]] := by
  unfold accL
  rw [if_neg (by omega), if_neg (by omega), List.take_succ_eq_append_getElem hk]
theorem acc_here {ls : List Cat} {c : Cat} {k : Nat} (hk : k < ls.length) (h : posL ls c.1 = k) : accL ls c (k + 1) = (accL ls c k ++ [c]) ++ [ls[k]] := by
  have h1 : ¬ posL ls c.1 < k := by omega
  have h2 : posL ls c.1 < k + 1 := by omega
  unfold accL
  rw [if_neg h1, if_pos h2, h, List.take_succ_eq_append_getElem hk, List.drop_append_of_le_length (by simp; omega), List.drop_of_length_le (by simp; omega)]
  simp
theorem acc_done {ls : List Cat} {c : Cat} (h : posL ls c.1 < ls.length) : accL ls c ls.length = insL ls c := by
  unfold accL insL
  rw [if_pos h, List.take_length]
theorem acc_end {ls : List Cat} {c : Cat} (h : ¬ posL ls c.1 < ls.length) : accL ls c ls.length ++ [c] = insL ls c := by
  have := pos_le ls c.1
  have e : posL ls c.1 = ls.length := by omega
  unfold accL insL
  rw [if_neg h, e, List.drop_of_length_le (Nat.le_refl _)]
/-- Where a link stands that is greater. -/
theorem gt_iff {ls : List Cat} (hl : LkOk ls) {id : Int} (hn : hasB ls id = false) {k : Nat} (hk : k < ls.length) (hp : ¬ posL ls id < k) : decide (id < ls[k].1) = decide (posL ls id = k) := by
  have hne : ls[k].1 ≠ id := fun e => by
    have : hasB ls id = true := List.any_eq_true.2 ⟨ls[k], List.getElem_mem hk, by simpa using e⟩
    rw [hn] at this
    cases this
  by_cases h : posL ls id = k
  · have := pos_ge hl id k hk (by omega)
    rw [decide_eq_true h, decide_eq_true (by omega)]
  · have := pos_lt ls id k hk (by omega)
    rw [decide_eq_false h, decide_eq_false (by omega)]

/-- An own row with one link more. -/
theorem row_more {S : Nat} {w9 : World} {v : Value} {m : Nat} {es : List Cat} (x y : Int) (h : w9.ownsRow S 65 2 v (m + 1) (ccells es ++ [.int .u64 x, .int .i64 y])) : w9.ownsRow S 65 2 v (m + 1) (ccells (es ++ [(x, y)])) := by
  rw [ccells_append, ccells_one]
  exact h

theorem csl_of_rowS {w : World} {S m : Nat} {v : Value} {es : List Cat} (h : w.ownsRow S 65 2 v m (ccells es)) : CSl (fun b => S ≤ b) w v es := by
  have h1 := h.1
  rw [ccells_length] at h1
  have : m = es.length := by omega
  subst this
  exact csl_of_own h

set_option maxRecDepth 100000 in
set_option maxHeartbeats 6400000 in
theorem c_radd {X : Nat → Prop} {t : Th} {uL uC uK uD : Value} (id q : Int) (w : World) (h : ThAt X w t uL uC uK uD) (hd : DirT t) (hq0 : -9223372036854775808 ≤ q) (hq1 : q ≤ 9223372036854775807) :
    Calls Try.prog 19 #[thV t uL uC uK uD, .int .u64 id, .int .i64 q] w (RcP X (addT t id q).1 (addT t id q).2 w) := by
  obtain ⟨ka, kc, hku, hk1, hk2⟩ := h.k.form
  subst hku
  obtain ⟨W, hW⟩ : ∃ W, Hid (W = (w.alloc (.cells (thC t uL uC (.slice ka t.links.length kc) uD).toArray 34)).alloc (.cells (thC zeroT (.slice none 0 0) (.slice none 0 0) (.slice none 0 0) (.slice none 0 0)).toArray 34)) := ⟨_, rfl⟩
  have nW : Nw w W := by rw [hW.out]; exact nw_alloc (nw_alloc (nw_refl w) _) _
  have hB0 : W.heap[w.heap.size]? = some (.cells (thC t uL uC (.slice ka t.links.length kc) uD).toArray 34 (0, 0)) := by rw [hW.out]; exact heap_alloc2_old w _ _
  have hB1 : W.heap[w.heap.size + 1]? = some (.cells (thC zeroT (.slice none 0 0) (.slice none 0 0) (.slice none 0 0) (.slice none 0 0)).toArray 34 (0, 0)) := by rw [hW.out]; exact heap_alloc2_new w _ _
  have ht := (h.mono (X' := fun b => X b ∧ b < w.heap.size) (fun b hx hb => ⟨hx, hb⟩)).nw nW
  have hlk := hd.ok.lk
  have h16 : t.links.length ≤ 16 := hd.ok.len
  replace hd : Hid _ := hd
  clear h
  have hN : w.heap.size + 2 ≤ W.heap.size := by have := heap_lt hB1; omega
  go_enter Try.func19, Try.ntmps19
  go_upto_region 1 with (first | (refine wpList_box_agg rfl 34 _ rfl (thV t uL uC (.slice ka t.links.length kc) uD) _ rfl rfl ?_) | (refine wpList_alloc_agg rfl 34 rfl _ Try.zeroTh ?_; rw [← hW.out]))
  clear hW
  have hcon : Hid _ := c_rhas id W ht
  have hr0 := range_all hB0
  go_wp2_with (first | (refine wpList_load_as rfl 34 _ rfl (w.heap.size) 0 rfl (thV t uL uC (.slice ka t.links.length kc) uD) _ rfl hr0 Try.rowT Try.sizeT ?_) | (go_at_call 16; refine Calls.mono hcon.out ?_; rintro e W1 ⟨rfl, n1⟩; refine stop_here ?_))
  unfold Hid
  clear hcon hr0
  replace hB0 := (n1.block _ (heap_lt hB0) (fun h => h)).trans hB0
  replace hB1 := (n1.block _ (heap_lt hB1) (fun h => h)).trans hB1
  replace ht := ht.nw n1
  replace nW := nw_trans nW n1
  cases hh : hasB t.links id with
  | true =>
    go_upto_region 2 with fail
    have hfin : Hid ((addT t id q) = (t, 123)) := by unfold Hid addT; rw [if_pos hh]
    have hr0 := range_all hB0
    go_wp2_with (first | (refine wpList_load_as rfl 34 _ rfl (w.heap.size) 0 rfl (thV t uL uC (.slice ka t.links.length kc) uD) _ rfl hr0 Try.rowT Try.sizeT ?_; refine stop_here ?_))
    unfold Hid
    clear hr0
    obtain ⟨W2, hV⟩ : ∃ V, Hid (V = W1.setRow (w.heap.size + 1) (thC t uL uC (.slice ka t.links.length kc) uD).toArray) := ⟨_, rfl⟩
    have fV : Fr (fun k => k = w.heap.size + 1) W1 W2 := by rw [hV.out]; exact (Fr.refl (fun k => k = w.heap.size + 1) W1).setRow (.inl rfl) _
    have hnew : W2.heap[w.heap.size + 1]? = some (.cells (thC t uL uC (.slice ka t.links.length kc) uD).toArray 34 (0, 0)) := by rw [hV.out]; exact setRow_heap _ _ _ _ _ _ hB1
    refine wpList_store_all rfl 34 _ _ rfl (w.heap.size + 1) rfl (thV t uL uC (.slice ka t.links.length kc) uD) rfl (thC t uL uC (.slice ka t.links.length kc) uD) rfl (thC zeroT (.slice none 0 0) (.slice none 0 0) (.slice none 0 0) (.slice none 0 0)) 34 hB1 rfl (ht.one) Try.sizeT ?_
    rw [← hV.out]
    clear hV
    replace hB0 := (fV.block _ (heap_lt hB0) (by show ¬ _ = _; omega)).trans hB0
    replace hB1 := hnew
    clear hnew
    replace ht := ht.keep (X' := fun b => X b ∨ w.heap.size ≤ b) fV (fun b hb _ e => by have hb2 : b < w.heap.size := hb.2; have e2 : b = w.heap.size + 1 := e; omega) (fun b hb _ => .inl hb.1)
    replace nW : Nw w W2 := Fr.trans nW fV (fun k hk => .inr (by omega))
    clear fV
    go_wp2
    refine bodyPost_ret (results_cell2 rfl _ (w.heap.size + 1) _ (thV t uL uC (.slice ka t.links.length kc) uD) rfl rfl (range_all hB1) Try.rowT Try.sizeT) rfl ?_
    exact ⟨_, _, _, _, by rw [hfin.out]; rfl, by rw [hfin.out]; exact ht, nW⟩
  | false =>
    have hh0 : Hid (hasB t.links id = false) := hh
    clear hh
    have a8 : W1.cell? ⟨w.heap.size, 8, none⟩ = some (.slice ka t.links.length kc) := cell_blk hB0 rfl
    by_cases hl16 : 16 ≤ t.links.length
    · have hb16 : decide ((16 : Int) ≤ (t.links.length : Int)) = true := decide_eq_true (by omega)
      go_upto_region 4 with fail
      clear a8
      have hfin : Hid ((addT t id q) = (t, 122)) := by unfold Hid addT; rw [if_neg (by rw [hh0.out]; exact Bool.noConfusion), if_pos hl16]
      have hr0 := range_all hB0
      go_wp2_with (first | (refine wpList_load_as rfl 34 _ rfl (w.heap.size) 0 rfl (thV t uL uC (.slice ka t.links.length kc) uD) _ rfl hr0 Try.rowT Try.sizeT ?_; refine stop_here ?_))
      unfold Hid
      clear hr0
      obtain ⟨W2, hV⟩ : ∃ V, Hid (V = W1.setRow (w.heap.size + 1) (thC t uL uC (.slice ka t.links.length kc) uD).toArray) := ⟨_, rfl⟩
      have fV : Fr (fun k => k = w.heap.size + 1) W1 W2 := by rw [hV.out]; exact (Fr.refl (fun k => k = w.heap.size + 1) W1).setRow (.inl rfl) _
      have hnew : W2.heap[w.heap.size + 1]? = some (.cells (thC t uL uC (.slice ka t.links.length kc) uD).toArray 34 (0, 0)) := by rw [hV.out]; exact setRow_heap _ _ _ _ _ _ hB1
      refine wpList_store_all rfl 34 _ _ rfl (w.heap.size + 1) rfl (thV t uL uC (.slice ka t.links.length kc) uD) rfl (thC t uL uC (.slice ka t.links.length kc) uD) rfl (thC zeroT (.slice none 0 0) (.slice none 0 0) (.slice none 0 0) (.slice none 0 0)) 34 hB1 rfl (ht.one) Try.sizeT ?_
      rw [← hV.out]
      clear hV
      replace hB0 := (fV.block _ (heap_lt hB0) (by show ¬ _ = _; omega)).trans hB0
      replace hB1 := hnew
      clear hnew
      replace ht := ht.keep (X' := fun b => X b ∨ w.heap.size ≤ b) fV (fun b hb _ e => by have hb2 : b < w.heap.size := hb.2; have e2 : b = w.heap.size + 1 := e; omega) (fun b hb _ => .inl hb.1)
      replace nW : Nw w W2 := Fr.trans nW fV (fun k hk => .inr (by omega))
      clear fV
      go_wp2
      refine bodyPost_ret (results_cell2 rfl _ (w.heap.size + 1) _ (thV t uL uC (.slice ka t.links.length kc) uD) rfl rfl (range_all hB1) Try.rowT Try.sizeT) rfl ?_
      exact ⟨_, _, _, _, by rw [hfin.out]; rfl, by rw [hfin.out]; exact ht, nW⟩
    · have hb16 : decide ((16 : Int) ≤ (t.links.length : Int)) = false := decide_eq_false (by omega)
      go_upto_region 5 with fail
      clear a8
      replace hl16 : Hid _ := hl16
      clear hb16
      by_cases hq : q < 1
      · have hbq : decide (q < 1) = true := decide_eq_true hq
        have hSof : ∀ w', Nw W1 w' → (fun w' : World => Nw W1 w' ∧ w'.heap[w.heap.size]? = some (.cells (thC t uL uC (.slice ka t.links.length kc) uD).toArray 34 (0, 0))) w' := fun w' hw => ⟨hw, (hw.block _ (heap_lt hB0) (fun h => h)).trans hB0⟩
        have hW0 : Nw W1 W1.drew := Fr.drew (Fr.refl _ W1)
        have hS := hSof _ hW0
        replace hSof : Hid _ := hSof
        refine wp_region_ord [] 10 [(0, true), (1, true), (2, true), (3, true), (4, true), (6, true), (5, true), (7, false), (8, true), (9, true)] (fun w' : World => Nw W1 w' ∧ w'.heap[w.heap.size]? = some (.cells (thC t uL uC (.slice ka t.links.length kc) uD).toArray 34 (0, 0))) (by kernel_rfl) (by kernel_rfl) ?_
        refine ord_quietL _ ?_ rfl hS rfl ?_ ?_
        rotate_left
        · rintro w' ⟨hn, rhB0⟩; go_simp; rfl
        simp only [Act.put, List.setIfInBounds_toArray, List.set_cons_zero, List.set_cons_succ]
        refine ord_quietL _ ?_ rfl hS rfl ?_ ?_
        rotate_left
        · rintro w' ⟨hn, rhB0⟩; go_simp; rfl
        simp only [Act.put, List.setIfInBounds_toArray, List.set_cons_zero, List.set_cons_succ]
        refine ord_quietL _ ?_ rfl hS rfl ?_ ?_
        rotate_left
        · rintro w' ⟨hn, rhB0⟩; go_simp; rfl
        simp only [Act.put, List.setIfInBounds_toArray, List.set_cons_zero, List.set_cons_succ]
        refine ord_skipL _ rfl hS rfl ?_
        simp only [Act.put, List.setIfInBounds_toArray, List.set_cons_zero, List.set_cons_succ]
        refine ord_skipL _ rfl hS rfl ?_
        simp only [Act.put, List.setIfInBounds_toArray, List.set_cons_zero, List.set_cons_succ]
        refine ord_skipL _ rfl hS rfl ?_
        simp only [Act.put, List.setIfInBounds_toArray, List.set_cons_zero, List.set_cons_succ]
        refine ord_skipL _ rfl hS rfl ?_
        simp only [Act.put, List.setIfInBounds_toArray, List.set_cons_zero, List.set_cons_succ]
        refine ord_actL _ rfl (fun K1 hK1 => ?_)
        go_wp2
        refine hK1 _ _ (hSof.out _ hW0) ?_
        clear hK1 K1
        refine ord_skipL _ rfl hS rfl ?_
        simp only [Act.put, List.setIfInBounds_toArray, List.set_cons_zero, List.set_cons_succ]
        refine ord_skipL _ rfl hS rfl ?_
        simp only [Act.put, List.setIfInBounds_toArray, List.set_cons_zero, List.set_cons_succ]
        refine ord_tail ?_
        simp only [List.drop_succ_cons, List.drop_zero]
        have n7 : Nw W1 W1.drew := hW0
        clear hSof hS hW0
        replace hB0 := (n7.block _ (heap_lt hB0) (fun h => h)).trans hB0
        replace hB1 := (n7.block _ (heap_lt hB1) (fun h => h)).trans hB1
        replace ht := ht.nw n7
        replace nW := nw_trans nW n7
        go_upto_region 6 with fail
        have hfin : Hid ((addT t id q) = (t, 121)) := by unfold Hid addT; rw [if_neg (by rw [hh0.out]; exact Bool.noConfusion), if_neg hl16.out, if_pos (.inl hq)]
        have hr0 := range_all hB0
        go_wp2_with (first | (refine wpList_load_as rfl 34 _ rfl (w.heap.size) 0 rfl (thV t uL uC (.slice ka t.links.length kc) uD) _ rfl hr0 Try.rowT Try.sizeT ?_; refine stop_here ?_))
        unfold Hid
        clear hr0
        obtain ⟨W2, hV⟩ : ∃ V, Hid (V = W1.drew.setRow (w.heap.size + 1) (thC t uL uC (.slice ka t.links.length kc) uD).toArray) := ⟨_, rfl⟩
        have fV : Fr (fun k => k = w.heap.size + 1) W1.drew W2 := by rw [hV.out]; exact (Fr.refl (fun k => k = w.heap.size + 1) W1.drew).setRow (.inl rfl) _
        have hnew : W2.heap[w.heap.size + 1]? = some (.cells (thC t uL uC (.slice ka t.links.length kc) uD).toArray 34 (0, 0)) := by rw [hV.out]; exact setRow_heap _ _ _ _ _ _ hB1
        refine wpList_store_all rfl 34 _ _ rfl (w.heap.size + 1) rfl (thV t uL uC (.slice ka t.links.length kc) uD) rfl (thC t uL uC (.slice ka t.links.length kc) uD) rfl (thC zeroT (.slice none 0 0) (.slice none 0 0) (.slice none 0 0) (.slice none 0 0)) 34 hB1 rfl (ht.one) Try.sizeT ?_
        rw [← hV.out]
        clear hV
        replace hB0 := (fV.block _ (heap_lt hB0) (by show ¬ _ = _; omega)).trans hB0
        replace hB1 := hnew
        clear hnew
        replace ht := ht.keep (X' := fun b => X b ∨ w.heap.size ≤ b) fV (fun b hb _ e => by have hb2 : b < w.heap.size := hb.2; have e2 : b = w.heap.size + 1 := e; omega) (fun b hb _ => .inl hb.1)
        replace nW : Nw w W2 := Fr.trans nW fV (fun k hk => .inr (by omega))
        clear fV
        go_wp2
        refine bodyPost_ret (results_cell2 rfl _ (w.heap.size + 1) _ (thV t uL uC (.slice ka t.links.length kc) uD) rfl rfl (range_all hB1) Try.rowT Try.sizeT) rfl ?_
        exact ⟨_, _, _, _, by rw [hfin.out]; rfl, by rw [hfin.out]; exact ht, nW⟩
      · have hbq : decide (q < 1) = false := decide_eq_false hq
        have hus := used_bound hd.out
        have hwr : IntKind.i64.wrap (t.quota - usedL t.links) = t.quota - usedL t.links := by rw [IntKind.wrap_i64]; omega
        replace hus : Hid _ := hus
        have hSof : ∀ w', Nw W1 w' → (fun w' : World => Nw W1 w' ∧ w'.heap[w.heap.size]? = some (.cells (thC t uL uC (.slice ka t.links.length kc) uD).toArray 34 (0, 0))) w' := fun w' hw => ⟨hw, (hw.block _ (heap_lt hB0) (fun h => h)).trans hB0⟩
        have hW0 : Nw W1 W1.drew := Fr.drew (Fr.refl _ W1)
        have hS := hSof _ hW0
        replace hSof : Hid _ := hSof
        refine wp_region_ord [] 10 [(0, true), (1, true), (2, true), (3, true), (4, true), (6, true), (5, true), (7, false), (8, true), (9, true)] (fun w' : World => Nw W1 w' ∧ w'.heap[w.heap.size]? = some (.cells (thC t uL uC (.slice ka t.links.length kc) uD).toArray 34 (0, 0))) (by kernel_rfl) (by kernel_rfl) ?_
        refine ord_quietL _ ?_ rfl hS rfl ?_ ?_
        rotate_left
        · rintro w' ⟨hn, rhB0⟩; go_simp; rfl
        simp only [Act.put, List.setIfInBounds_toArray, List.set_cons_zero, List.set_cons_succ]
        refine ord_quietL _ ?_ rfl hS rfl ?_ ?_
        rotate_left
        · rintro w' ⟨hn, rhB0⟩; go_simp; rfl
        simp only [Act.put, List.setIfInBounds_toArray, List.set_cons_zero, List.set_cons_succ]
        refine ord_quietL _ ?_ rfl hS rfl ?_ ?_
        rotate_left
        · rintro w' ⟨hn, rhB0⟩; go_simp; rfl
        simp only [Act.put, List.setIfInBounds_toArray, List.set_cons_zero, List.set_cons_succ]
        refine ord_quietL _ ?_ rfl hS rfl ?_ ?_
        rotate_left
        · rintro w' ⟨hn, rhB0⟩; go_simp; rfl
        simp only [Act.put, List.setIfInBounds_toArray, List.set_cons_zero, List.set_cons_succ]
        refine ord_quietL _ ?_ rfl hS rfl ?_ ?_
        rotate_left
        · rintro w' ⟨hn, rhB0⟩; go_simp; rfl
        simp only [Act.put, List.setIfInBounds_toArray, List.set_cons_zero, List.set_cons_succ]
        refine ord_quietL _ ?_ rfl hS rfl ?_ ?_
        rotate_left
        · rintro w' ⟨hn, rhB0⟩; refine (run_load_th _ w' rfl (w.heap.size) rfl rhB0).trans ?_; rfl
        simp only [Act.put, List.setIfInBounds_toArray, List.set_cons_zero, List.set_cons_succ]
        refine ord_quietL _ ?_ rfl hS rfl ?_ ?_
        rotate_left
        · rintro w' ⟨hn, rhB0⟩; have g0 : w'.cell? ⟨w.heap.size, 6, none⟩ = some (.int .i64 t.quota) := cell_blk rhB0 rfl; go_simp; rfl
        simp only [Act.put, List.setIfInBounds_toArray, List.set_cons_zero, List.set_cons_succ]
        refine ord_actL _ rfl (fun K1 hK1 => ?_)
        have hcon : Hid _ := c_rused W1.drew (ht.nw hW0) hlk (by omega)
        go_wp2_with (go_at_call 14; refine Calls.mono hcon.out ?_; rintro e wk0 ⟨rfl, qn⟩)
        have m0 := nw_trans hW0 qn
        refine hK1 _ _ (hSof.out _ m0) ?_
        clear hK1 K1 hcon qn hS hW0
        have hS := hSof.out _ m0
        refine ord_quietL _ ?_ rfl hS rfl ?_ ?_
        rotate_left
        · rintro w' ⟨hn, rhB0⟩; go_simp; rfl
        simp only [Act.put, List.setIfInBounds_toArray, List.set_cons_zero, List.set_cons_succ]
        refine ord_quietL _ ?_ rfl hS rfl ?_ ?_
        rotate_left
        · rintro w' ⟨hn, rhB0⟩; go_simp; rfl
        simp only [Act.put, List.setIfInBounds_toArray, List.set_cons_zero, List.set_cons_succ]
        refine ord_tail ?_
        simp only [List.drop_succ_cons, List.drop_zero]
        have n7 : Nw W1 wk0 := m0
        clear hSof hS m0 hwr
        replace hB0 := (n7.block _ (heap_lt hB0) (fun h => h)).trans hB0
        replace hB1 := (n7.block _ (heap_lt hB1) (fun h => h)).trans hB1
        replace ht := ht.nw n7
        replace nW := nw_trans nW n7
        by_cases hr : t.quota - usedL t.links < q
        · have hbr : decide (t.quota - usedL t.links < q) = true := decide_eq_true hr
          go_upto_region 6 with fail
          clear hbr
          have hfin : Hid ((addT t id q) = (t, 121)) := by unfold Hid addT; rw [if_neg (by rw [hh0.out]; exact Bool.noConfusion), if_neg hl16.out, if_pos (.inr hr)]
          have hr0 := range_all hB0
          go_wp2_with (first | (refine wpList_load_as rfl 34 _ rfl (w.heap.size) 0 rfl (thV t uL uC (.slice ka t.links.length kc) uD) _ rfl hr0 Try.rowT Try.sizeT ?_; refine stop_here ?_))
          unfold Hid
          clear hr0
          obtain ⟨W2, hV⟩ : ∃ V, Hid (V = wk0.setRow (w.heap.size + 1) (thC t uL uC (.slice ka t.links.length kc) uD).toArray) := ⟨_, rfl⟩
          have fV : Fr (fun k => k = w.heap.size + 1) wk0 W2 := by rw [hV.out]; exact (Fr.refl (fun k => k = w.heap.size + 1) wk0).setRow (.inl rfl) _
          have hnew : W2.heap[w.heap.size + 1]? = some (.cells (thC t uL uC (.slice ka t.links.length kc) uD).toArray 34 (0, 0)) := by rw [hV.out]; exact setRow_heap _ _ _ _ _ _ hB1
          refine wpList_store_all rfl 34 _ _ rfl (w.heap.size + 1) rfl (thV t uL uC (.slice ka t.links.length kc) uD) rfl (thC t uL uC (.slice ka t.links.length kc) uD) rfl (thC zeroT (.slice none 0 0) (.slice none 0 0) (.slice none 0 0) (.slice none 0 0)) 34 hB1 rfl (ht.one) Try.sizeT ?_
          rw [← hV.out]
          clear hV
          replace hB0 := (fV.block _ (heap_lt hB0) (by show ¬ _ = _; omega)).trans hB0
          replace hB1 := hnew
          clear hnew
          replace ht := ht.keep (X' := fun b => X b ∨ w.heap.size ≤ b) fV (fun b hb _ e => by have hb2 : b < w.heap.size := hb.2; have e2 : b = w.heap.size + 1 := e; omega) (fun b hb _ => .inl hb.1)
          replace nW : Nw w W2 := Fr.trans nW fV (fun k hk => .inr (by omega))
          clear fV
          go_wp2
          refine bodyPost_ret (results_cell2 rfl _ (w.heap.size + 1) _ (thV t uL uC (.slice ka t.links.length kc) uD) rfl rfl (range_all hB1) Try.rowT Try.sizeT) rfl ?_
          exact ⟨_, _, _, _, by rw [hfin.out]; rfl, by rw [hfin.out]; exact ht, nW⟩
        · have hbr : decide (t.quota - usedL t.links < q) = false := decide_eq_false hr
          have hfin : Hid ((addT t id q) = ({ t with links := insL t.links (id, q) }, 0)) := by unfold Hid addT; rw [if_neg (by rw [hh0.out]; exact Bool.noConfusion), if_neg hl16.out, if_neg (by omega)]
          go_upto_region 7 with fail
          clear hbr hr hbq hq
          obtain ⟨i0, hi0, hz0, hs0, hb0⟩ := info_parts3 Try.infoLk
          obtain ⟨S, hS⟩ : ∃ S, Hid (S = wk0.heap.size) := ⟨_, rfl⟩
          have hNS : w.heap.size + 2 ≤ S := by have := heap_lt hB1; rw [hS.out]; omega
          have hrow0 : (wk0.alloc (.cells #[] 65)).ownsRow S 65 2 (.slice (some ⟨wk0.heap.size, 0, none⟩) 0 0) 0 (ccells (accL t.links (id, q) 0)) := by rw [hS.out, acc_zero]; exact ⟨rfl, .inr ⟨wk0.heap.size, 0, #[], rfl, Nat.le_refl _, heap_alloc_new wk0 _, Nat.le_refl _, Nat.zero_le _, rfl, rfl⟩⟩
          have n0 : Nw wk0 (wk0.alloc (.cells #[] 65)) := nw_alloc (nw_refl _) _
          have hge := fun k (hk : k < t.links.length) => gt_iff hlk hh0.out hk
          replace hge : Hid _ := hge
          go_wp2_with (refine wpList_buildSlice0 rfl 27 65 rfl Try.underlying27 (by kernel_rfl) ?_; refine stop_here ?_)
          unfold Hid
          obtain ⟨Y, hY⟩ : ∃ Y, Hid (Y = wk0.alloc (.cells #[] 65)) := ⟨_, rfl⟩
          rw [← hY.out] at hrow0 n0
          have hS0 := hS.out
          rw [← hY.out]
          clear hY
          have a8 : Y.cell? ⟨w.heap.size, 8, none⟩ = some (.slice ka t.links.length kc) := cell_blk ((n0.block _ (heap_lt hB0) (fun h => h)).trans hB0) rfl
          clear hS0
          go_wp2
          clear a8
          go_loopw [8, 9, 37] (fun uv bv kv wr => ∃ (k m : Nat) (u : Value) (b : Bool), k ≤ t.links.length ∧ uv = u ∧ bv = .bool b ∧ kv = .int .i64 k ∧ Hid (b = decide (posL t.links id < k)) ∧ wr.ownsRow S 65 2 u m (ccells (accL t.links (id, q) k)) ∧ m ≤ 2 * k ∧ Nw wk0 wr) (fun _ _ kv _ => t.links.length - (intOf kv).toNat)
          case atStart => exact ⟨0, 0, _, false, Nat.zero_le _, rfl, rfl, rfl, (by unfold Hid; rw [decide_eq_false (Nat.not_lt_zero _)]), hrow0, Nat.zero_le _, n0⟩
          case round =>
            clear hrow0 n0
            obtain ⟨k, m, uv, bd, hk, rfl, rfl, rfl, hbd, hrow, hmk, hw⟩ := hrel
            obtain ⟨oa, oc, rfl⟩ := owns_form hrow
            by_cases hlt : k < t.links.length
            · obtain ⟨p0, off, hka, _, d1, d2⟩ := (ht.k.nw hw).get k hlt
              subst hka
              have hg := fun hp => hge.out k hlt hp
              have e1 := acc_past (c := (id, q)) hlt
              have e2 := acc_ahead (c := (id, q)) hlt
              have e3 := acc_here (c := (id, q)) hlt
              replace e1 : Hid _ := e1
              replace e2 : Hid _ := e2
              replace e3 : Hid _ := e3
              replace hg : Hid _ := hg
              generalize t.links[k] = c at *
              obtain ⟨Y2, hY2⟩ : ∃ Y2, Hid (Y2 = wr.alloc (.cells #[.int .u64 c.1, .int .i64 c.2] 65)) := ⟨_, rfl⟩
              have n2 : Nw wr Y2 := by rw [hY2.out]; exact nw_alloc (nw_refl _) _
              have hC : Y2.heap[wr.heap.size]? = some (.cells #[.int .u64 c.1, .int .i64 c.2] 65 (0, 0)) := by rw [hY2.out]; exact heap_alloc_new _ _
              go_upto_region 12 with fail
              rw [← hY2.out]
              clear hY2 d1 d2
              have hneB : Hid (∀ k2, (Value.slice oa m oc).ownBlock = some k2 → k2 < wr.heap.size) := fun k2 h2 => (hrow.lt k2 h2).2
              replace hrow := owns_nw hrow n2
              replace hw := nw_trans hw n2
              generalize hB : wr.heap.size = B at *
              clear hB n2
              cases bd with
              | true =>
                have hp : posL t.links id < k := by have := hbd.out; exact of_decide_eq_true this.symm
                have ha := e1.out hp
                have hb2 : Hid (true = decide (posL t.links id < k + 1)) := by unfold Hid; rw [decide_eq_true (by omega)]
                clear e1 e2 e3 hg hbd
                replace ha : Hid _ := ha
                replace hp : Hid _ := hp
                have c0 : Y2.cell? ⟨B, 0, none⟩ = some (.int .u64 c.1) := cell_blk hC rfl
                have c1 : Y2.cell? ⟨B, 1, none⟩ = some (.int .i64 c.2) := cell_blk hC rfl
                have hrA := World.ownsRow.alloc hrow (.cells #[.int .u64 c.1, .int .i64 c.2] 65)
                have hsl := sl_lit Y2 #[.int .u64 c.1, .int .i64 c.2] 65 1 (by omega)
                go_wp2_with (at_builtin; refine wpList_append_sl _ rfl _ _ 27 rfl S 65 i0 _ 2 16 Try.underlying27 hi0 hz0 hs0 hb0 rfl (by decide) _ _ _ rfl hrA _ _ 1 _ rfl hsl rfl ?d1a ?d2a ?d3a ?d4a ?_)
                case d1a => first | (intro u hu; simp at hu; rcases hu with rfl | rfl <;> rfl) | simp [Value.oneCell']
                case d2a => unfold maxLen; omega
                case d3a => omega
                case d4a => have := hw.size; have := hS.out; simp; omega
                intro v9 w9a hown9 hgrow9 hat9
                have m9 : Nw wk0 w9a := Fr.grown (nw_alloc hw _) hgrow9 (fun q hq => .inr (by have := ((hrow).lt q hq).1; have := hS.out; omega))
                have hrow2 := row_more c.1 c.2 hown9
                obtain ⟨a9, cp9, rfl⟩ := owns_form hown9
                replace hrow2 : Hid _ := hrow2
                clear hown9 hgrow9 hat9 hrA hsl c0 c1 hC hrow
                go_wp2
                go_roundw
                case rel => exact ⟨k + 1, _, _, _, by omega, rfl, rfl, by go_num, hb2, by rw [ha.out]; exact hrow2.out, by omega, m9⟩
                case measure => simp [intOf]; omega
              | false =>
                have hp : ¬ posL t.links id < k := by have := hbd.out; exact of_decide_eq_false this.symm
                have hgk := hg.out hp
                clear hg
                by_cases hpk : posL t.links id = k
                · have ha := e3.out hpk
                  rw [decide_eq_true hpk] at hgk
                  have hb2 : Hid (true = decide (posL t.links id < k + 1)) := by unfold Hid; rw [decide_eq_true (by omega)]
                  clear e1 e2 e3 hbd
                  replace ha : Hid _ := ha
                  replace hp : Hid _ := hp
                  replace hpk : Hid _ := hpk
                  have c0 : Y2.cell? ⟨B, 0, none⟩ = some (.int .u64 c.1) := cell_blk hC rfl
                  have c1 : Y2.cell? ⟨B, 1, none⟩ = some (.int .i64 c.2) := cell_blk hC rfl
                  have hrA := World.ownsRow.alloc hrow (.cells #[.int .u64 id, .int .i64 q] 65)
                  have hsl := sl_lit Y2 #[.int .u64 id, .int .i64 q] 65 1 (by omega)
                  go_wp2_with (at_builtin; refine wpList_append_sl _ rfl _ _ 27 rfl S 65 i0 _ 2 16 Try.underlying27 hi0 hz0 hs0 hb0 rfl (by decide) _ _ _ rfl hrA _ _ 1 _ rfl hsl rfl ?d1b ?d2b ?d3b ?d4b ?_)
                  case d1b => first | (intro u hu; simp at hu; rcases hu with rfl | rfl <;> rfl) | simp [Value.oneCell']
                  case d2b => unfold maxLen; omega
                  case d3b => omega
                  case d4b => have := hw.size; have := hS.out; simp; omega
                  intro v9 w9b hown9 hgrow9 hat9
                  have m9 : Nw wk0 w9b := Fr.grown (nw_alloc hw _) hgrow9 (fun q hq => .inr (by have := ((hrow).lt q hq).1; have := hS.out; omega))
                  have hrow2 := row_more id q hown9
                  replace m9 : Nw wk0 w9b := m9
                  obtain ⟨a8, cp8, rfl⟩ := owns_form hown9
                  have fr9 : Fr (fun k2 => (Value.slice oa m oc).ownBlock = some k2) Y2 w9b := Fr.grown (fr_of_nw (nw_alloc (nw_refl Y2) _)) hgrow9 (fun q hq => .inl hq)
                  have hC9 : w9b.heap[B]? = some (.cells #[.int .u64 c.1, .int .i64 c.2] 65 (0, 0)) := (fr9.block B (heap_lt hC) (fun h => by have := hneB.out B h; omega)).trans hC
                  clear fr9 hneB
                  clear c0 c1 hgk hgrow9 hat9 hrA hsl hown9 hrow hw hC
                  have hw := m9
                  have hrow := hrow2
                  clear m9 hrow2
                  have c0 : w9b.cell? ⟨B, 0, none⟩ = some (.int .u64 c.1) := cell_blk hC9 rfl
                  have c1 : w9b.cell? ⟨B, 1, none⟩ = some (.int .i64 c.2) := cell_blk hC9 rfl
                  have hC := hC9
                  clear hC9
                  have hrA := World.ownsRow.alloc hrow (.cells #[.int .u64 c.1, .int .i64 c.2] 65)
                  have hsl := sl_lit w9b #[.int .u64 c.1, .int .i64 c.2] 65 1 (by omega)
                  go_wp2_with (at_builtin; refine wpList_append_sl _ rfl _ _ 27 rfl S 65 i0 _ 2 16 Try.underlying27 hi0 hz0 hs0 hb0 rfl (by decide) _ _ _ rfl hrA _ _ 1 _ rfl hsl rfl ?d1c ?d2c ?d3c ?d4c ?_)
                  case d1c => first | (intro u hu; simp at hu; rcases hu with rfl | rfl <;> rfl) | simp [Value.oneCell']
                  case d2c => unfold maxLen; omega
                  case d3c => omega
                  case d4c => have := hw.size; have := hS.out; simp; omega
                  intro v9 w9c hown9 hgrow9 hat9
                  have m9 : Nw wk0 w9c := Fr.grown (nw_alloc hw _) hgrow9 (fun q hq => .inr (by have := ((hrow).lt q hq).1; have := hS.out; omega))
                  have hrow2 := row_more c.1 c.2 hown9
                  obtain ⟨a9, cp9, rfl⟩ := owns_form hown9
                  replace hrow2 : Hid _ := hrow2
                  clear hown9 hgrow9 hat9 hrA hsl c0 c1 hC hrow
                  go_wp2
                  go_roundw
                  case rel => exact ⟨k + 1, _, _, _, by omega, rfl, rfl, by go_num, hb2, by rw [ha.out]; exact hrow2.out, by omega, m9⟩
                  case measure => simp [intOf]; omega
                · have ha := e2.out (by omega : k < posL t.links id)
                  rw [decide_eq_false hpk] at hgk
                  have hb2 : Hid (false = decide (posL t.links id < k + 1)) := by unfold Hid; rw [decide_eq_false (by omega)]
                  clear e1 e2 e3 hbd
                  replace ha : Hid _ := ha
                  replace hp : Hid _ := hp
                  replace hpk : Hid _ := hpk
                  have c0 : Y2.cell? ⟨B, 0, none⟩ = some (.int .u64 c.1) := cell_blk hC rfl
                  have c1 : Y2.cell? ⟨B, 1, none⟩ = some (.int .i64 c.2) := cell_blk hC rfl
                  have hrA := World.ownsRow.alloc hrow (.cells #[.int .u64 c.1, .int .i64 c.2] 65)
                  have hsl := sl_lit Y2 #[.int .u64 c.1, .int .i64 c.2] 65 1 (by omega)
                  go_wp2_with (at_builtin; refine wpList_append_sl _ rfl _ _ 27 rfl S 65 i0 _ 2 16 Try.underlying27 hi0 hz0 hs0 hb0 rfl (by decide) _ _ _ rfl hrA _ _ 1 _ rfl hsl rfl ?d1d ?d2d ?d3d ?d4d ?_)
                  case d1d => first | (intro u hu; simp at hu; rcases hu with rfl | rfl <;> rfl) | simp [Value.oneCell']
                  case d2d => unfold maxLen; omega
                  case d3d => omega
                  case d4d => have := hw.size; have := hS.out; simp; omega
                  intro v9 w9d hown9 hgrow9 hat9
                  have m9 : Nw wk0 w9d := Fr.grown (nw_alloc hw _) hgrow9 (fun q hq => .inr (by have := ((hrow).lt q hq).1; have := hS.out; omega))
                  have hrow2 := row_more c.1 c.2 hown9
                  obtain ⟨a9, cp9, rfl⟩ := owns_form hown9
                  replace hrow2 : Hid _ := hrow2
                  clear hown9 hgrow9 hat9 hrA hsl c0 c1 hC hrow
                  go_wp2
                  go_roundw
                  case rel => exact ⟨k + 1, _, _, _, by omega, rfl, rfl, by go_num, hb2, by rw [ha.out]; exact hrow2.out, by omega, m9⟩
                  case measure => simp [intOf]; omega
            · have hkn : k = t.links.length := by omega
              rw [hkn] at hbd hrow
              clear hge
              replace hkn : Hid _ := hkn
              cases bd with
              | true =>
                have hp : posL t.links id < t.links.length := by have := hbd.out; exact of_decide_eq_true this.symm
                rw [acc_done (c := (id, q)) hp] at hrow
                have hkk := csl_of_rowS hrow
                replace hrow : Hid _ := hrow
                clear hp hbd
                have ht2 : ThAt (fun b => (X b ∧ b < w.heap.size) ∨ S ≤ b) wr { t with links := insL t.links (id, q) } uL uC (.slice oa m oc) uD := ⟨(ht.l.nw hw).mono (fun b hb _ => .inl hb), (ht.c.nw hw).mono (fun b hb _ => .inl hb), (hkk.mono (fun b hb _ => .inr hb)), (ht.d.nw hw).mono (fun b hb _ => .inl hb)⟩
                replace hB0 := (hw.block _ (heap_lt hB0) (fun h => h)).trans hB0
                replace hB1 := (hw.block _ (heap_lt hB1) (fun h => h)).trans hB1
                replace nW := nw_trans nW hw
                have g8 : wr.cell? ⟨w.heap.size, 8, none⟩ = some (.slice ka t.links.length kc) := cell_blk hB0 rfl
                have gf : ∀ k, wr.frozen? ⟨w.heap.size, k, none⟩ = false := fun k => free_blk hB0
                obtain ⟨W2, hV⟩ : ∃ V, Hid (V = wr.setCell ⟨w.heap.size, 8, none⟩ (.slice oa m oc)) := ⟨_, rfl⟩
                have fV : Fr (fun k => k = w.heap.size) wr W2 := by rw [hV.out]; exact (Fr.refl (fun k => k = w.heap.size) wr).setCell (p := ⟨w.heap.size, 8, none⟩) (.inl rfl) _
                have hnew : W2.heap[w.heap.size]? = some (.cells (thC ({ t with links := insL t.links (id, q) } : Th) uL uC (.slice oa m oc) uD).toArray 34 (0, 0)) := by rw [hV.out, blk_setCell hB0]; rfl
                go_upto_region 20 with fail
                rw [← hV.out]
                clear hV g8 gf hB0
                have hB0 := hnew
                replace hB1 := (fV.block _ (heap_lt hB1) (by show ¬ _ = _; omega)).trans hB1
                clear hnew
                replace ht2 := ht2.keep (X' := fun b => (X b ∧ b < w.heap.size) ∨ S ≤ b) fV (fun b hb _ e => by have hb2 : (X b ∧ b < w.heap.size) ∨ S ≤ b := hb; have e2 : b = w.heap.size := e; omega) (fun b hb _ => hb)
                replace nW : Nw w W2 := Fr.trans nW fV (fun k hk => .inr (by omega))
                clear fV
                have hr0 := range_all hB0
                go_wp2_with (first | (refine wpList_load_as rfl 34 _ rfl (w.heap.size) 0 rfl (thV ({ t with links := insL t.links (id, q) } : Th) uL uC (.slice oa m oc) uD) _ rfl hr0 Try.rowT Try.sizeT ?_; refine stop_here ?_))
                unfold Hid
                clear hr0
                obtain ⟨W3, hV⟩ : ∃ V, Hid (V = W2.setRow (w.heap.size + 1) (thC ({ t with links := insL t.links (id, q) } : Th) uL uC (.slice oa m oc) uD).toArray) := ⟨_, rfl⟩
                have fV : Fr (fun k => k = w.heap.size + 1) W2 W3 := by rw [hV.out]; exact (Fr.refl (fun k => k = w.heap.size + 1) W2).setRow (.inl rfl) _
                have hnew : W3.heap[w.heap.size + 1]? = some (.cells (thC ({ t with links := insL t.links (id, q) } : Th) uL uC (.slice oa m oc) uD).toArray 34 (0, 0)) := by rw [hV.out]; exact setRow_heap _ _ _ _ _ _ hB1
                refine wpList_store_all rfl 34 _ _ rfl (w.heap.size + 1) rfl (thV ({ t with links := insL t.links (id, q) } : Th) uL uC (.slice oa m oc) uD) rfl (thC ({ t with links := insL t.links (id, q) } : Th) uL uC (.slice oa m oc) uD) rfl (thC zeroT (.slice none 0 0) (.slice none 0 0) (.slice none 0 0) (.slice none 0 0)) 34 hB1 rfl (ht2.one) Try.sizeT ?_
                rw [← hV.out]
                clear hV
                replace hB0 := (fV.block _ (heap_lt hB0) (by show ¬ _ = _; omega)).trans hB0
                replace hB1 := hnew
                clear hnew
                replace ht2 := ht2.keep (X' := fun b => X b ∨ w.heap.size ≤ b) fV (fun b hb _ e => by have hb2 : (X b ∧ b < w.heap.size) ∨ S ≤ b := hb; have e2 : b = w.heap.size + 1 := e; omega) (fun b hb _ => by have hb2 : (X b ∧ b < w.heap.size) ∨ S ≤ b := hb; rcases hb2 with h | h; exact .inl h.1; exact .inr (by omega))
                replace nW : Nw w W3 := Fr.trans nW fV (fun k hk => .inr (by omega))
                clear fV
                go_wp2
                refine bodyPost_ret (results_cell2 rfl _ (w.heap.size + 1) _ (thV ({ t with links := insL t.links (id, q) } : Th) uL uC (.slice oa m oc) uD) rfl rfl (range_all hB1) Try.rowT Try.sizeT) rfl ?_
                exact ⟨_, _, _, _, by rw [hfin.out]; rfl, by rw [hfin.out]; exact ht2, nW⟩
              | false =>
                have hp : ¬ posL t.links id < t.links.length := by have := hbd.out; exact of_decide_eq_false this.symm
                clear hbd
                have hrA := World.ownsRow.alloc hrow (.cells #[.int .u64 id, .int .i64 q] 65)
                have hsl := sl_lit wr #[.int .u64 id, .int .i64 q] 65 1 (by omega)
                go_wp2_with (at_builtin; refine wpList_append_sl _ rfl _ _ 27 rfl S 65 i0 _ 2 16 Try.underlying27 hi0 hz0 hs0 hb0 rfl (by decide) _ _ _ rfl hrA _ _ 1 _ rfl hsl rfl ?d1e ?d2e ?d3e ?d4e ?_)
                case d1e => first | (intro u hu; simp at hu; rcases hu with rfl | rfl <;> rfl) | simp [Value.oneCell']
                case d2e => unfold maxLen; omega
                case d3e => omega
                case d4e => have := hw.size; have := hS.out; simp; omega
                intro v9 w9e hown9 hgrow9 hat9
                have m9 : Nw wk0 w9e := Fr.grown (nw_alloc hw _) hgrow9 (fun q hq => .inr (by have := ((hrow).lt q hq).1; have := hS.out; omega))
                have hrow2 := row_more id q hown9
                rw [acc_end (c := (id, q)) hp] at hrow2
                obtain ⟨a9, cp9, rfl⟩ := owns_form hown9
                have hkk := csl_of_rowS hrow2
                replace hrow2 : Hid _ := hrow2
                clear hrow hp hown9 hgrow9 hat9 hrA hsl hw
                have hw := m9
                clear m9
                have ht2 : ThAt (fun b => (X b ∧ b < w.heap.size) ∨ S ≤ b) w9e { t with links := insL t.links (id, q) } uL uC (.slice a9 (m + 1) cp9) uD := ⟨(ht.l.nw hw).mono (fun b hb _ => .inl hb), (ht.c.nw hw).mono (fun b hb _ => .inl hb), (hkk.mono (fun b hb _ => .inr hb)), (ht.d.nw hw).mono (fun b hb _ => .inl hb)⟩
                replace hB0 := (hw.block _ (heap_lt hB0) (fun h => h)).trans hB0
                replace hB1 := (hw.block _ (heap_lt hB1) (fun h => h)).trans hB1
                replace nW := nw_trans nW hw
                have g8 : w9e.cell? ⟨w.heap.size, 8, none⟩ = some (.slice ka t.links.length kc) := cell_blk hB0 rfl
                have gf : ∀ k, w9e.frozen? ⟨w.heap.size, k, none⟩ = false := fun k => free_blk hB0
                obtain ⟨W2, hV⟩ : ∃ V, Hid (V = w9e.setCell ⟨w.heap.size, 8, none⟩ (.slice a9 (m + 1) cp9)) := ⟨_, rfl⟩
                have fV : Fr (fun k => k = w.heap.size) w9e W2 := by rw [hV.out]; exact (Fr.refl (fun k => k = w.heap.size) w9e).setCell (p := ⟨w.heap.size, 8, none⟩) (.inl rfl) _
                have hnew : W2.heap[w.heap.size]? = some (.cells (thC ({ t with links := insL t.links (id, q) } : Th) uL uC (.slice a9 (m + 1) cp9) uD).toArray 34 (0, 0)) := by rw [hV.out, blk_setCell hB0]; rfl
                go_upto_region 20 with fail
                rw [← hV.out]
                clear hV g8 gf hB0
                have hB0 := hnew
                replace hB1 := (fV.block _ (heap_lt hB1) (by show ¬ _ = _; omega)).trans hB1
                clear hnew
                replace ht2 := ht2.keep (X' := fun b => (X b ∧ b < w.heap.size) ∨ S ≤ b) fV (fun b hb _ e => by have hb2 : (X b ∧ b < w.heap.size) ∨ S ≤ b := hb; have e2 : b = w.heap.size := e; omega) (fun b hb _ => hb)
                replace nW : Nw w W2 := Fr.trans nW fV (fun k hk => .inr (by omega))
                clear fV
                have hr0 := range_all hB0
                go_wp2_with (first | (refine wpList_load_as rfl 34 _ rfl (w.heap.size) 0 rfl (thV ({ t with links := insL t.links (id, q) } : Th) uL uC (.slice a9 (m + 1) cp9) uD) _ rfl hr0 Try.rowT Try.sizeT ?_; refine stop_here ?_))
                unfold Hid
                clear hr0
                obtain ⟨W3, hV⟩ : ∃ V, Hid (V = W2.setRow (w.heap.size + 1) (thC ({ t with links := insL t.links (id, q) } : Th) uL uC (.slice a9 (m + 1) cp9) uD).toArray) := ⟨_, rfl⟩
                have fV : Fr (fun k => k = w.heap.size + 1) W2 W3 := by rw [hV.out]; exact (Fr.refl (fun k => k = w.heap.size + 1) W2).setRow (.inl rfl) _
                have hnew : W3.heap[w.heap.size + 1]? = some (.cells (thC ({ t with links := insL t.links (id, q) } : Th) uL uC (.slice a9 (m + 1) cp9) uD).toArray 34 (0, 0)) := by rw [hV.out]; exact setRow_heap _ _ _ _ _ _ hB1
                refine wpList_store_all rfl 34 _ _ rfl (w.heap.size + 1) rfl (thV ({ t with links := insL t.links (id, q) } : Th) uL uC (.slice a9 (m + 1) cp9) uD) rfl (thC ({ t with links := insL t.links (id, q) } : Th) uL uC (.slice a9 (m + 1) cp9) uD) rfl (thC zeroT (.slice none 0 0) (.slice none 0 0) (.slice none 0 0) (.slice none 0 0)) 34 hB1 rfl (ht2.one) Try.sizeT ?_
                rw [← hV.out]
                clear hV
                replace hB0 := (fV.block _ (heap_lt hB0) (by show ¬ _ = _; omega)).trans hB0
                replace hB1 := hnew
                clear hnew
                replace ht2 := ht2.keep (X' := fun b => X b ∨ w.heap.size ≤ b) fV (fun b hb _ e => by have hb2 : (X b ∧ b < w.heap.size) ∨ S ≤ b := hb; have e2 : b = w.heap.size + 1 := e; omega) (fun b hb _ => by have hb2 : (X b ∧ b < w.heap.size) ∨ S ≤ b := hb; rcases hb2 with h | h; exact .inl h.1; exact .inr (by omega))
                replace nW : Nw w W3 := Fr.trans nW fV (fun k hk => .inr (by omega))
                clear fV
                go_wp2
                refine bodyPost_ret (results_cell2 rfl _ (w.heap.size + 1) _ (thV ({ t with links := insL t.links (id, q) } : Th) uL uC (.slice a9 (m + 1) cp9) uD) rfl rfl (range_all hB1) Try.rowT Try.sizeT) rfl ?_
                exact ⟨_, _, _, _, by rw [hfin.out]; rfl, by rw [hfin.out]; exact ht2, nW⟩
end Go.Proofs.Ytppfcdnhmieejaa
