/-
  The program's Add and Drop.
-/
import Derived.Test.YtppfcdnhmieejaaDrUS
import Derived.Test.YtppfcdnhmieejaaDrDS
import Derived.Test.YtppfcdnhmieejaaThX0S
namespace Go.Proofs.Ytppfcdnhmieejaa
set_option linter.unusedVariables false
set_option linter.unusedSimpArgs false
set_option maxRecDepth 20000
open Go.RowKit

/-- What a change answers: the directory, in memory of its own, and the error. -/
def ChP (t : Th) (err : Int) (w : World) (e : Ending) (w' : World) : Prop := ∃ u1 u2 u3 u4, e = .returned (.tuple #[thV t u1 u2 u3 u4, .int .i64 err]) ∧ ThAt (fun b => w.heap.size ≤ b) w' t u1 u2 u3 u4 ∧ Nw w w'

theorem dir_sizes {t : Th} (h : DirT t) : t.cats.length ≤ 8796093022208 ∧ t.ccats.length ≤ 8796093022208 ∧ t.links.length ≤ 8796093022208 ∧ t.data.length ≤ 140737488355328 := by
  have h1 := h.right.rgt.len
  have h2 := h.ok.len
  have hb := h.bare
  have e1 : t.ccats = [] := by rw [hb]; rfl
  have e2 : t.data = [] := by rw [hb]; rfl
  rw [e1, e2]
  exact ⟨by omega, Nat.zero_le _, by omega, Nat.zero_le _⟩

theorem used_bound {t : Th} (h : DirT t) : 1 ≤ usedL t.links ∧ usedL t.links ≤ 769 ∧ 1 ≤ t.quota ∧ t.quota ≤ 48 := by
  have h1 := sum_each (lk_quota h.ok.lk)
  have h2 := h.ok.len
  have h3 := h.ok.quota
  unfold btw at h3
  unfold usedL
  omega

theorem CopT.nw {base : Nat} {w w' : World} {t : Th} {u1 u2 u3 u4 : Value} (h : CopT base w t u1 u2 u3 u4) (hf : Nw w w') : CopT base w' t u1 u2 u3 u4 := h.fr hf (fun _ h => h.elim)

/-- The links' own row is written; the other lists stay. -/
theorem cop_links {base : Nat} {w w' : World} {t : Th} {u1 u2 u3 u4 u : Value} {ls : List Cat} (h : CopT base w t u1 u2 u3 u4) (hf : Fr (fun k => u3.ownBlock = some k) w w') (hk : CSl (fun b => base ≤ b) w' u ls) : ThAt (fun b => base ≤ b) w' { t with links := ls } u1 u2 u u4 := by
  have hne : ∀ (e : Nat) (he : ¬ e = 65) {size n : Nat} {v : Value} {xs : List Value}, w.ownsRow base e size v n xs → w'.ownsRow base e size v n xs := fun e he size n v xs ho => by
    refine owns_of_block ho (fun k hk => hf.block k (ho.lt k hk).2 (fun h3 => ?_))
    rcases ho.2 with ⟨rfl, _⟩ | ⟨g, cap, cur, rfl, _, hg, _⟩
    · cases hk
    · have hkg : g = k := Option.some.inj hk
      subst hkg
      rcases h.k.2 with ⟨h4, _⟩ | ⟨g', cap', cur', h4, _, hg', _⟩
      · rw [h4] at h3; cases h3
      · rw [h4] at h3
        have : g' = g := Option.some.inj h3
        subst this
        rw [hg'] at hg
        cases hg
        exact he rfl
  exact ⟨csl_of_own (hne 80 (by decide) h.l), csl_of_own (hne 80 (by decide) h.c), hk, bsl_of_own (hne 5 (by decide) h.d)⟩

theorem CopT.ne {base : Nat} {w : World} {t : Th} {u1 u2 u3 u4 : Value} (h : CopT base w t u1 u2 u3 u4) {q : Nat} (hq : w.heap.size ≤ q) : u3.ownBlock ≠ some q := fun e => by
  have := (h.k.lt q e).2
  omega

set_option maxRecDepth 100000 in
set_option maxHeartbeats 6400000 in
theorem c_add {X : Nat → Prop} {t : Th} {uL uC uK uD : Value} (id q : Int) (w : World) (h : ThAt X w t uL uC uK uD) (hd : DirT t) (hq0 : -9223372036854775808 ≤ q) (hq1 : q ≤ 9223372036854775807) :
    Calls Try.prog 18 #[thV t uL uC uK uD, .int .u64 id, .int .i64 q] w (ChP (addT t id q).1 (addT t id q).2 w) := by
  obtain ⟨l1, l2, l3, l4⟩ := dir_sizes hd
  obtain ⟨W, hW⟩ : ∃ W, Hid (W = (w.alloc (.cells (thC t uL uC uK uD).toArray 34)).alloc (.cells (thC zeroT (.slice none 0 0) (.slice none 0 0) (.slice none 0 0) (.slice none 0 0)).toArray 34)) := ⟨_, rfl⟩
  have nW : Nw w W := by rw [hW.out]; exact nw_alloc (nw_alloc (nw_refl w) _) _
  have hB0 : W.heap[w.heap.size]? = some (.cells (thC t uL uC uK uD).toArray 34 (0, 0)) := by rw [hW.out]; exact heap_alloc2_old w _ _
  have hB1 : W.heap[w.heap.size + 1]? = some (.cells (thC zeroT (.slice none 0 0) (.slice none 0 0) (.slice none 0 0) (.slice none 0 0)).toArray 34 (0, 0)) := by rw [hW.out]; exact heap_alloc2_new w _ _
  have ht := (h.mono (X' := fun b => b < w.heap.size) (fun b _ hb => hb)).nw nW
  have hlk := hd.ok.lk
  have h16 : t.links.length ≤ 1000 := by have := hd.ok.len; omega
  replace hd : Hid _ := hd
  clear h
  have hN : w.heap.size + 2 ≤ W.heap.size := by have := heap_lt hB1; omega
  go_enter Try.func18, Try.ntmps18
  go_upto_region 1 with (first | (refine wpList_box_agg rfl 34 _ rfl (thV t uL uC uK uD) _ rfl rfl ?_) | (refine wpList_alloc_agg rfl 34 rfl _ Try.zeroTh ?_; rw [← hW.out]))
  clear hW
  have hWs : Hid (Nw W W) := nw_refl W
  have hcon : Hid _ := c_tcopy W ht l1 l2 l3 l4
  have hr0 := range_all hB0
  go_wp2_with (first | (refine wpList_load_as rfl 34 _ rfl (w.heap.size) 0 rfl (thV t uL uC uK uD) _ rfl hr0 Try.rowT Try.sizeT ?_) | (go_at_call 29; refine Calls.mono hcon.out ?_; rintro e W1 ⟨u1, u2, u3, u4, rfl, hc, n1⟩; refine stop_here ?_))
  unfold Hid
  clear hcon hr0 ht l1 l2 l3 l4
  replace hB0 := (n1.block _ (heap_lt hB0) (fun h => h)).trans hB0
  replace hB1 := (n1.block _ (heap_lt hB1) (fun h => h)).trans hB1
  replace nW := nw_trans nW n1
  replace hc := hc.mono hN
  obtain ⟨W2, hV⟩ : ∃ V, Hid (V = W1.setRow (w.heap.size) (thC t u1 u2 u3 u4).toArray) := ⟨_, rfl⟩
  have fV : Fr (fun k => k = w.heap.size) W1 W2 := by rw [hV.out]; exact (Fr.refl (fun k => k = w.heap.size) W1).setRow (.inl rfl) _
  have hnew : W2.heap[w.heap.size]? = some (.cells (thC t u1 u2 u3 u4).toArray 34 (0, 0)) := by rw [hV.out]; exact setRow_heap _ _ _ _ _ _ hB0
  go_wp2_with (refine wpList_store_all rfl 34 _ _ rfl (w.heap.size) rfl (thV t u1 u2 u3 u4) rfl (thC t u1 u2 u3 u4) rfl (thC t uL uC uK uD) 34 hB0 rfl (hc.at.one) Try.sizeT ?_; rw [← hV.out]; refine stop_here ?_)
  unfold Hid
  clear hV
  replace hB0 := hnew
  replace hB1 := (fV.block _ (heap_lt hB1) (by show ¬ _ = _; omega)).trans hB1
  clear hnew
  replace hc := hc.fr fV (fun k hk => by omega)
  replace nW : Nw w W2 := Fr.trans nW fV (fun k hk => .inr (by omega))
  clear fV
  go_upto_region 2 with fail
  have hcon : Hid _ := c_place id W2 hc.at hlk h16
  have hr0 := range_all hB0
  go_wp2_with (first | (refine wpList_load_as rfl 34 _ rfl (w.heap.size) 0 rfl (thV t u1 u2 u3 u4) _ rfl hr0 Try.rowT Try.sizeT ?_) | (go_at_call 27; refine Calls.mono hcon.out ?_; rintro e W3 ⟨rfl, n3⟩; refine stop_here ?_))
  unfold Hid
  clear hcon hr0
  replace hB0 := (n3.block _ (heap_lt hB0) (fun h => h)).trans hB0
  replace hB1 := (n3.block _ (heap_lt hB1) (fun h => h)).trans hB1
  replace hc := hc.nw n3
  replace nW := nw_trans nW n3
  go_upto_region 3 with fail
  cases hh : hasB t.links id with
  | true =>
    have hfin : Hid ((addT t id q) = (t, 123)) := by unfold Hid addT; rw [if_pos hh]
    have hr0 := range_all hB0
    go_wp2_with (first | (refine wpList_load_as rfl 34 _ rfl (w.heap.size) 0 rfl (thV t u1 u2 u3 u4) _ rfl hr0 Try.rowT Try.sizeT ?_; refine stop_here ?_))
    unfold Hid
    clear hr0
    obtain ⟨W4, hV⟩ : ∃ V, Hid (V = W3.setRow (w.heap.size + 1) (thC t u1 u2 u3 u4).toArray) := ⟨_, rfl⟩
    have fV : Fr (fun k => k = w.heap.size + 1) W3 W4 := by rw [hV.out]; exact (Fr.refl (fun k => k = w.heap.size + 1) W3).setRow (.inl rfl) _
    have hnew : W4.heap[w.heap.size + 1]? = some (.cells (thC t u1 u2 u3 u4).toArray 34 (0, 0)) := by rw [hV.out]; exact setRow_heap _ _ _ _ _ _ hB1
    refine wpList_store_all rfl 34 _ _ rfl (w.heap.size + 1) rfl (thV t u1 u2 u3 u4) rfl (thC t u1 u2 u3 u4) rfl (thC zeroT (.slice none 0 0) (.slice none 0 0) (.slice none 0 0) (.slice none 0 0)) 34 hB1 rfl (hc.at.one) Try.sizeT ?_
    rw [← hV.out]
    clear hV
    replace hB0 := (fV.block _ (heap_lt hB0) (by show ¬ _ = _; omega)).trans hB0
    replace hB1 := hnew
    clear hnew
    replace hc := hc.fr fV (fun k hk => by omega)
    replace nW : Nw w W4 := Fr.trans nW fV (fun k hk => .inr (by omega))
    clear fV
    go_wp2
    refine bodyPost_ret (results_cell2 rfl _ (w.heap.size + 1) _ (thV t u1 u2 u3 u4) rfl rfl (range_all hB1) Try.rowT Try.sizeT) rfl ?_
    exact ⟨_, _, _, _, by rw [hfin.out]; rfl, by rw [hfin.out]; exact hc.at.mono (fun b hb _ => by have hb2 : _ ≤ b := hb; show w.heap.size ≤ b; omega), nW⟩
  | false =>
    have hh0 : Hid (hasB t.links id = false) := hh
    clear hh
    obtain ⟨ka, kc, hku⟩ := owns_form hc.k
    subst hku
    have a8 : W3.cell? ⟨w.heap.size, 8, none⟩ = some (.slice ka t.links.length kc) := cell_blk hB0 rfl
    by_cases hl16 : 16 ≤ t.links.length
    · have hb16 : decide ((16 : Int) ≤ (t.links.length : Int)) = true := decide_eq_true (by omega)
      go_upto_region 6 with fail
      clear a8
      have hfin : Hid ((addT t id q) = (t, 122)) := by unfold Hid addT; rw [if_neg (by rw [hh0.out]; exact Bool.noConfusion), if_pos hl16]
      have hr0 := range_all hB0
      go_wp2_with (first | (refine wpList_load_as rfl 34 _ rfl (w.heap.size) 0 rfl (thV t u1 u2 (.slice ka t.links.length kc) u4) _ rfl hr0 Try.rowT Try.sizeT ?_; refine stop_here ?_))
      unfold Hid
      clear hr0
      obtain ⟨W4, hV⟩ : ∃ V, Hid (V = W3.setRow (w.heap.size + 1) (thC t u1 u2 (.slice ka t.links.length kc) u4).toArray) := ⟨_, rfl⟩
      have fV : Fr (fun k => k = w.heap.size + 1) W3 W4 := by rw [hV.out]; exact (Fr.refl (fun k => k = w.heap.size + 1) W3).setRow (.inl rfl) _
      have hnew : W4.heap[w.heap.size + 1]? = some (.cells (thC t u1 u2 (.slice ka t.links.length kc) u4).toArray 34 (0, 0)) := by rw [hV.out]; exact setRow_heap _ _ _ _ _ _ hB1
      refine wpList_store_all rfl 34 _ _ rfl (w.heap.size + 1) rfl (thV t u1 u2 (.slice ka t.links.length kc) u4) rfl (thC t u1 u2 (.slice ka t.links.length kc) u4) rfl (thC zeroT (.slice none 0 0) (.slice none 0 0) (.slice none 0 0) (.slice none 0 0)) 34 hB1 rfl (hc.at.one) Try.sizeT ?_
      rw [← hV.out]
      clear hV
      replace hB0 := (fV.block _ (heap_lt hB0) (by show ¬ _ = _; omega)).trans hB0
      replace hB1 := hnew
      clear hnew
      replace hc := hc.fr fV (fun k hk => by omega)
      replace nW : Nw w W4 := Fr.trans nW fV (fun k hk => .inr (by omega))
      clear fV
      go_wp2
      refine bodyPost_ret (results_cell2 rfl _ (w.heap.size + 1) _ (thV t u1 u2 (.slice ka t.links.length kc) u4) rfl rfl (range_all hB1) Try.rowT Try.sizeT) rfl ?_
      exact ⟨_, _, _, _, by rw [hfin.out]; rfl, by rw [hfin.out]; exact hc.at.mono (fun b hb _ => by have hb2 : _ ≤ b := hb; show w.heap.size ≤ b; omega), nW⟩
    · have hb16 : decide ((16 : Int) ≤ (t.links.length : Int)) = false := decide_eq_false (by omega)
      go_upto_region 7 with fail
      clear a8
      replace hl16 : Hid _ := hl16
      clear hb16
      by_cases hq : q < 1
      · have hbq : decide (q < 1) = true := decide_eq_true hq
        have hSof : ∀ w', Nw W3 w' → (fun w' : World => Nw W3 w' ∧ w'.heap[w.heap.size]? = some (.cells (thC t u1 u2 (.slice ka t.links.length kc) u4).toArray 34 (0, 0))) w' := fun w' hw => ⟨hw, (hw.block _ (heap_lt hB0) (fun h => h)).trans hB0⟩
        have hW0 : Nw W3 W3.drew := Fr.drew (Fr.refl _ W3)
        have hS := hSof _ hW0
        replace hSof : Hid _ := hSof
        refine wp_region_ord [] 11 [(0, true), (1, true), (2, true), (3, true), (4, true), (6, true), (5, true), (7, false), (8, true), (9, true), (10, true)] (fun w' : World => Nw W3 w' ∧ w'.heap[w.heap.size]? = some (.cells (thC t u1 u2 (.slice ka t.links.length kc) u4).toArray 34 (0, 0))) (by kernel_rfl) (by kernel_rfl) ?_
        refine ord_quietL _ ?_ rfl hS rfl ?_ ?_
        rotate_left
        · rintro w' ⟨hn, rhB0⟩; go_simp; rfl
        simp only [Act.put, List.setIfInBounds_toArray, List.set_cons_zero, List.set_cons_succ]
        refine ord_quietL _ ?_ rfl hS rfl ?_ ?_
        rotate_left
        · rintro w' ⟨hn, rhB0⟩; go_simp; rfl
        simp only [Act.put, List.setIfInBounds_toArray, List.set_cons_zero, List.set_cons_succ]
        refine ord_quietL _ ?_ rfl hS rfl ?_ ?_
        rotate_left
        · rintro w' ⟨hn, rhB0⟩; go_simp; rfl
        simp only [Act.put, List.setIfInBounds_toArray, List.set_cons_zero, List.set_cons_succ]
        refine ord_skipL _ rfl hS rfl ?_
        simp only [Act.put, List.setIfInBounds_toArray, List.set_cons_zero, List.set_cons_succ]
        refine ord_skipL _ rfl hS rfl ?_
        simp only [Act.put, List.setIfInBounds_toArray, List.set_cons_zero, List.set_cons_succ]
        refine ord_skipL _ rfl hS rfl ?_
        simp only [Act.put, List.setIfInBounds_toArray, List.set_cons_zero, List.set_cons_succ]
        refine ord_skipL _ rfl hS rfl ?_
        simp only [Act.put, List.setIfInBounds_toArray, List.set_cons_zero, List.set_cons_succ]
        refine ord_actL _ rfl (fun K1 hK1 => ?_)
        go_wp2
        refine hK1 _ _ (hSof.out _ hW0) ?_
        clear hK1 K1
        refine ord_skipL _ rfl hS rfl ?_
        simp only [Act.put, List.setIfInBounds_toArray, List.set_cons_zero, List.set_cons_succ]
        refine ord_skipL _ rfl hS rfl ?_
        simp only [Act.put, List.setIfInBounds_toArray, List.set_cons_zero, List.set_cons_succ]
        refine ord_quietL _ ?_ rfl hS rfl ?_ ?_
        rotate_left
        · rintro w' ⟨hn, rhB0⟩; go_simp; rfl
        simp only [Act.put, List.setIfInBounds_toArray, List.set_cons_zero, List.set_cons_succ]
        refine ord_tail ?_
        simp only [List.drop_succ_cons, List.drop_zero]
        have n7 : Nw W3 W3.drew := hW0
        clear hSof hS hW0
        replace hB0 := (n7.block _ (heap_lt hB0) (fun h => h)).trans hB0
        replace hB1 := (n7.block _ (heap_lt hB1) (fun h => h)).trans hB1
        replace hc := hc.nw n7
        replace nW := nw_trans nW n7
        go_upto_region 8 with fail
        have hfin : Hid ((addT t id q) = (t, 121)) := by unfold Hid addT; rw [if_neg (by rw [hh0.out]; exact Bool.noConfusion), if_neg hl16.out, if_pos (.inl hq)]
        have hr0 := range_all hB0
        go_wp2_with (first | (refine wpList_load_as rfl 34 _ rfl (w.heap.size) 0 rfl (thV t u1 u2 (.slice ka t.links.length kc) u4) _ rfl hr0 Try.rowT Try.sizeT ?_; refine stop_here ?_))
        unfold Hid
        clear hr0
        obtain ⟨W4, hV⟩ : ∃ V, Hid (V = W3.drew.setRow (w.heap.size + 1) (thC t u1 u2 (.slice ka t.links.length kc) u4).toArray) := ⟨_, rfl⟩
        have fV : Fr (fun k => k = w.heap.size + 1) W3.drew W4 := by rw [hV.out]; exact (Fr.refl (fun k => k = w.heap.size + 1) W3.drew).setRow (.inl rfl) _
        have hnew : W4.heap[w.heap.size + 1]? = some (.cells (thC t u1 u2 (.slice ka t.links.length kc) u4).toArray 34 (0, 0)) := by rw [hV.out]; exact setRow_heap _ _ _ _ _ _ hB1
        refine wpList_store_all rfl 34 _ _ rfl (w.heap.size + 1) rfl (thV t u1 u2 (.slice ka t.links.length kc) u4) rfl (thC t u1 u2 (.slice ka t.links.length kc) u4) rfl (thC zeroT (.slice none 0 0) (.slice none 0 0) (.slice none 0 0) (.slice none 0 0)) 34 hB1 rfl (hc.at.one) Try.sizeT ?_
        rw [← hV.out]
        clear hV
        replace hB0 := (fV.block _ (heap_lt hB0) (by show ¬ _ = _; omega)).trans hB0
        replace hB1 := hnew
        clear hnew
        replace hc := hc.fr fV (fun k hk => by omega)
        replace nW : Nw w W4 := Fr.trans nW fV (fun k hk => .inr (by omega))
        clear fV
        go_wp2
        refine bodyPost_ret (results_cell2 rfl _ (w.heap.size + 1) _ (thV t u1 u2 (.slice ka t.links.length kc) u4) rfl rfl (range_all hB1) Try.rowT Try.sizeT) rfl ?_
        exact ⟨_, _, _, _, by rw [hfin.out]; rfl, by rw [hfin.out]; exact hc.at.mono (fun b hb _ => by have hb2 : _ ≤ b := hb; show w.heap.size ≤ b; omega), nW⟩
      · have hbq : decide (q < 1) = false := decide_eq_false hq
        have hus := used_bound hd.out
        have hwr : IntKind.i64.wrap (t.quota - usedL t.links) = t.quota - usedL t.links := by rw [IntKind.wrap_i64]; omega
        replace hus : Hid _ := hus
        have hSof : ∀ w', Nw W3 w' → (fun w' : World => Nw W3 w' ∧ w'.heap[w.heap.size]? = some (.cells (thC t u1 u2 (.slice ka t.links.length kc) u4).toArray 34 (0, 0))) w' := fun w' hw => ⟨hw, (hw.block _ (heap_lt hB0) (fun h => h)).trans hB0⟩
        have hW0 : Nw W3 W3.drew := Fr.drew (Fr.refl _ W3)
        have hS := hSof _ hW0
        replace hSof : Hid _ := hSof
        refine wp_region_ord [] 11 [(0, true), (1, true), (2, true), (3, true), (4, true), (6, true), (5, true), (7, false), (8, true), (9, true), (10, true)] (fun w' : World => Nw W3 w' ∧ w'.heap[w.heap.size]? = some (.cells (thC t u1 u2 (.slice ka t.links.length kc) u4).toArray 34 (0, 0))) (by kernel_rfl) (by kernel_rfl) ?_
        refine ord_quietL _ ?_ rfl hS rfl ?_ ?_
        rotate_left
        · rintro w' ⟨hn, rhB0⟩; go_simp; rfl
        simp only [Act.put, List.setIfInBounds_toArray, List.set_cons_zero, List.set_cons_succ]
        refine ord_quietL _ ?_ rfl hS rfl ?_ ?_
        rotate_left
        · rintro w' ⟨hn, rhB0⟩; go_simp; rfl
        simp only [Act.put, List.setIfInBounds_toArray, List.set_cons_zero, List.set_cons_succ]
        refine ord_quietL _ ?_ rfl hS rfl ?_ ?_
        rotate_left
        · rintro w' ⟨hn, rhB0⟩; go_simp; rfl
        simp only [Act.put, List.setIfInBounds_toArray, List.set_cons_zero, List.set_cons_succ]
        refine ord_quietL _ ?_ rfl hS rfl ?_ ?_
        rotate_left
        · rintro w' ⟨hn, rhB0⟩; go_simp; rfl
        simp only [Act.put, List.setIfInBounds_toArray, List.set_cons_zero, List.set_cons_succ]
        refine ord_quietL _ ?_ rfl hS rfl ?_ ?_
        rotate_left
        · rintro w' ⟨hn, rhB0⟩; go_simp; rfl
        simp only [Act.put, List.setIfInBounds_toArray, List.set_cons_zero, List.set_cons_succ]
        refine ord_quietL _ ?_ rfl hS rfl ?_ ?_
        rotate_left
        · rintro w' ⟨hn, rhB0⟩; refine (run_load_th _ w' rfl (w.heap.size) rfl rhB0).trans ?_; rfl
        simp only [Act.put, List.setIfInBounds_toArray, List.set_cons_zero, List.set_cons_succ]
        refine ord_quietL _ ?_ rfl hS rfl ?_ ?_
        rotate_left
        · rintro w' ⟨hn, rhB0⟩; have g0 : w'.cell? ⟨w.heap.size, 6, none⟩ = some (.int .i64 t.quota) := cell_blk rhB0 rfl; go_simp; rfl
        simp only [Act.put, List.setIfInBounds_toArray, List.set_cons_zero, List.set_cons_succ]
        refine ord_actL _ rfl (fun K1 hK1 => ?_)
        have hcon : Hid _ := c_used W3.drew (hc.at.nw hW0) hlk h16
        go_wp2_with (go_at_call 13; refine Calls.mono hcon.out ?_; rintro e wk0 ⟨rfl, qn⟩)
        have m0 := nw_trans hW0 qn
        refine hK1 _ _ (hSof.out _ m0) ?_
        clear hK1 K1 hcon qn hS hW0
        have hS := hSof.out _ m0
        refine ord_quietL _ ?_ rfl hS rfl ?_ ?_
        rotate_left
        · rintro w' ⟨hn, rhB0⟩; go_simp; rfl
        simp only [Act.put, List.setIfInBounds_toArray, List.set_cons_zero, List.set_cons_succ]
        refine ord_quietL _ ?_ rfl hS rfl ?_ ?_
        rotate_left
        · rintro w' ⟨hn, rhB0⟩; go_simp; rfl
        simp only [Act.put, List.setIfInBounds_toArray, List.set_cons_zero, List.set_cons_succ]
        refine ord_quietL _ ?_ rfl hS rfl ?_ ?_
        rotate_left
        · rintro w' ⟨hn, rhB0⟩; go_simp; rfl
        simp only [Act.put, List.setIfInBounds_toArray, List.set_cons_zero, List.set_cons_succ]
        refine ord_tail ?_
        simp only [List.drop_succ_cons, List.drop_zero]
        have n7 : Nw W3 wk0 := m0
        clear hSof hS m0 hwr
        replace hB0 := (n7.block _ (heap_lt hB0) (fun h => h)).trans hB0
        replace hB1 := (n7.block _ (heap_lt hB1) (fun h => h)).trans hB1
        replace hc := hc.nw n7
        replace nW := nw_trans nW n7
        by_cases hr : t.quota - usedL t.links < q
        · have hbr : decide (t.quota - usedL t.links < q) = true := decide_eq_true hr
          go_upto_region 8 with fail
          clear hbr
          have hfin : Hid ((addT t id q) = (t, 121)) := by unfold Hid addT; rw [if_neg (by rw [hh0.out]; exact Bool.noConfusion), if_neg hl16.out, if_pos (.inr hr)]
          have hr0 := range_all hB0
          go_wp2_with (first | (refine wpList_load_as rfl 34 _ rfl (w.heap.size) 0 rfl (thV t u1 u2 (.slice ka t.links.length kc) u4) _ rfl hr0 Try.rowT Try.sizeT ?_; refine stop_here ?_))
          unfold Hid
          clear hr0
          obtain ⟨W4, hV⟩ : ∃ V, Hid (V = wk0.setRow (w.heap.size + 1) (thC t u1 u2 (.slice ka t.links.length kc) u4).toArray) := ⟨_, rfl⟩
          have fV : Fr (fun k => k = w.heap.size + 1) wk0 W4 := by rw [hV.out]; exact (Fr.refl (fun k => k = w.heap.size + 1) wk0).setRow (.inl rfl) _
          have hnew : W4.heap[w.heap.size + 1]? = some (.cells (thC t u1 u2 (.slice ka t.links.length kc) u4).toArray 34 (0, 0)) := by rw [hV.out]; exact setRow_heap _ _ _ _ _ _ hB1
          refine wpList_store_all rfl 34 _ _ rfl (w.heap.size + 1) rfl (thV t u1 u2 (.slice ka t.links.length kc) u4) rfl (thC t u1 u2 (.slice ka t.links.length kc) u4) rfl (thC zeroT (.slice none 0 0) (.slice none 0 0) (.slice none 0 0) (.slice none 0 0)) 34 hB1 rfl (hc.at.one) Try.sizeT ?_
          rw [← hV.out]
          clear hV
          replace hB0 := (fV.block _ (heap_lt hB0) (by show ¬ _ = _; omega)).trans hB0
          replace hB1 := hnew
          clear hnew
          replace hc := hc.fr fV (fun k hk => by omega)
          replace nW : Nw w W4 := Fr.trans nW fV (fun k hk => .inr (by omega))
          clear fV
          go_wp2
          refine bodyPost_ret (results_cell2 rfl _ (w.heap.size + 1) _ (thV t u1 u2 (.slice ka t.links.length kc) u4) rfl rfl (range_all hB1) Try.rowT Try.sizeT) rfl ?_
          exact ⟨_, _, _, _, by rw [hfin.out]; rfl, by rw [hfin.out]; exact hc.at.mono (fun b hb _ => by have hb2 : _ ≤ b := hb; show w.heap.size ≤ b; omega), nW⟩
        · have hbr : decide (t.quota - usedL t.links < q) = false := decide_eq_false hr
          have hfin : Hid ((addT t id q) = ({ t with links := insL t.links (id, q) }, 0)) := by unfold Hid addT; rw [if_neg (by rw [hh0.out]; exact Bool.noConfusion), if_neg hl16.out, if_neg (by omega)]
          go_upto_region 9 with fail
          clear hbr hr hbq hq
          have a8 : wk0.cell? ⟨w.heap.size, 8, none⟩ = some (.slice ka t.links.length kc) := cell_blk hB0 rfl
          have hcon : Hid _ := c_insertL (base := w.heap.size + 2) (i := posL t.links id) (c := (id, q)) (wk0.alloc (.cells #[.int .u64 id, .int .i64 q] 65)) (by have h1 := heap_lt hB1; have h2 := (nw_alloc (nw_refl wk0) (.cells #[.int .u64 id, .int .i64 q] 65)).size; omega) (owns_nw hc.k (nw_alloc (nw_refl _) _)) (pos_le _ _) (by have := hd.out.ok.len; omega) (heap_alloc_new _ _) (hc.ne (Nat.le_refl _))
          go_wp2_with (first | (go_at_call 30; refine Calls.mono hcon.out ?_; rintro e W4 ⟨u, rfl, hk, hf⟩; refine stop_here ?_))
          unfold Hid
          clear hcon a8
          have fI : Fr (fun k => (Value.slice ka t.links.length kc).ownBlock = some k) wk0 W4 := Fr.trans (fr_of_nw (nw_alloc (nw_refl wk0) _)) hf (fun k hk => .inl hk)
          have hgap : ∀ k, (Value.slice ka t.links.length kc).ownBlock = some k → w.heap.size + 2 ≤ k := fun k hk => by have := (hc.k.lt k hk).1; omega
          have ht2 := cop_links hc fI hk
          replace hB0 := (fI.block _ (heap_lt hB0) (fun h => by have := hgap _ h; omega)).trans hB0
          replace hB1 := (fI.block _ (heap_lt hB1) (fun h => by have := hgap _ h; omega)).trans hB1
          replace nW : Nw w W4 := Fr.trans nW fI (fun k hk => .inr (by have := hgap k hk; omega))
          obtain ⟨va, vc, hkv, -⟩ := hk.form
          subst hkv
          clear hf hk fI hgap
          generalize hnl : (t.links.take (posL t.links id) ++ (id, q) :: t.links.drop (posL t.links id)).length = nl at *
          replace hnl : Hid _ := hnl
          have g8 : W4.cell? ⟨w.heap.size, 8, none⟩ = some (.slice ka t.links.length kc) := cell_blk hB0 rfl
          have gf : ∀ k, W4.frozen? ⟨w.heap.size, k, none⟩ = false := fun k => free_blk hB0
          obtain ⟨W5, hV⟩ : ∃ V, Hid (V = W4.setCell ⟨w.heap.size, 8, none⟩ (.slice va nl vc)) := ⟨_, rfl⟩
          have fV : Fr (fun k => k = w.heap.size) W4 W5 := by rw [hV.out]; exact (Fr.refl (fun k => k = w.heap.size) W4).setCell (p := ⟨w.heap.size, 8, none⟩) (.inl rfl) _
          have hnew : W5.heap[w.heap.size]? = some (.cells (thC ({ t with links := insL t.links (id, q) } : Th) u1 u2 (.slice va nl vc) u4).toArray 34 (0, 0)) := by rw [hV.out, blk_setCell hB0]; rfl
          go_upto_region 10 with fail
          rw [← hV.out]
          clear hV g8 gf hB0
          have hB0 := hnew
          replace hB1 := (fV.block _ (heap_lt hB1) (by show ¬ _ = _; omega)).trans hB1
          clear hnew
          replace ht2 : ThAt (fun b => w.heap.size + 2 ≤ b) W5 ({ t with links := insL t.links (id, q) } : Th) u1 u2 (.slice va nl vc) u4 := ht2.keep fV (fun b hb _ e => by have hb2 : w.heap.size + 2 ≤ b := hb; have e2 : b = w.heap.size := e; omega) (fun b hb _ => hb)
          replace nW : Nw w W5 := Fr.trans nW fV (fun k hk => .inr (by omega))
          clear fV hc
          have hr0 := range_all hB0
          go_wp2_with (first | (refine wpList_load_as rfl 34 _ rfl (w.heap.size) 0 rfl (thV ({ t with links := insL t.links (id, q) } : Th) u1 u2 (.slice va nl vc) u4) _ rfl hr0 Try.rowT Try.sizeT ?_; refine stop_here ?_))
          unfold Hid
          clear hr0
          obtain ⟨W6, hV⟩ : ∃ V, Hid (V = W5.setRow (w.heap.size + 1) (thC ({ t with links := insL t.links (id, q) } : Th) u1 u2 (.slice va nl vc) u4).toArray) := ⟨_, rfl⟩
          have fV : Fr (fun k => k = w.heap.size + 1) W5 W6 := by rw [hV.out]; exact (Fr.refl (fun k => k = w.heap.size + 1) W5).setRow (.inl rfl) _
          have hnew : W6.heap[w.heap.size + 1]? = some (.cells (thC ({ t with links := insL t.links (id, q) } : Th) u1 u2 (.slice va nl vc) u4).toArray 34 (0, 0)) := by rw [hV.out]; exact setRow_heap _ _ _ _ _ _ hB1
          refine wpList_store_all rfl 34 _ _ rfl (w.heap.size + 1) rfl (thV ({ t with links := insL t.links (id, q) } : Th) u1 u2 (.slice va nl vc) u4) rfl (thC ({ t with links := insL t.links (id, q) } : Th) u1 u2 (.slice va nl vc) u4) rfl (thC zeroT (.slice none 0 0) (.slice none 0 0) (.slice none 0 0) (.slice none 0 0)) 34 hB1 rfl (ht2.one) Try.sizeT ?_
          rw [← hV.out]
          clear hV
          replace hB0 := (fV.block _ (heap_lt hB0) (by show ¬ _ = _; omega)).trans hB0
          replace hB1 := hnew
          clear hnew
          replace ht2 := ht2.keep (X' := fun b => w.heap.size ≤ b) fV (fun b hb _ e => by have hb2 : w.heap.size + 2 ≤ b := hb; have e2 : b = w.heap.size + 1 := e; omega) (fun b hb _ => by have hb2 : w.heap.size + 2 ≤ b := hb; show w.heap.size ≤ b; omega)
          replace nW : Nw w W6 := Fr.trans nW fV (fun k hk => .inr (by omega))
          clear fV
          go_wp2
          refine bodyPost_ret (results_cell2 rfl _ (w.heap.size + 1) _ (thV ({ t with links := insL t.links (id, q) } : Th) u1 u2 (.slice va nl vc) u4) rfl rfl (range_all hB1) Try.rowT Try.sizeT) rfl ?_
          exact ⟨_, _, _, _, by rw [hfin.out]; rfl, by rw [hfin.out]; exact ht2, nW⟩
end Go.Proofs.Ytppfcdnhmieejaa
