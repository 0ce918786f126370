/-
  The document's Drop and Born.
-/
import Derived.Test.YtppfcdnhmieejaaDrRS
namespace Go.Proofs.Ytppfcdnhmieejaa
set_option linter.unusedVariables false
set_option linter.unusedSimpArgs false
set_option maxRecDepth 20000
open Go.RowKit

/-- What the document's Born answers. -/
def RoP (X : Nat → Prop) (r : Th × Int × Int) (w : World) (e : Ending) (w' : World) : Prop := ∃ u1 u2 u3 u4, e = .returned (.tuple #[thV r.1 u1 u2 u3 u4, .int .u64 r.2.1, .int .i64 r.2.2]) ∧ ThAt (fun b => X b ∨ w.heap.size ≤ b) w' r.1 u1 u2 u3 u4 ∧ Nw w w'

set_option maxRecDepth 100000 in
set_option maxHeartbeats 6400000 in
theorem c_rdrop {X : Nat → Prop} {t : Th} {uL uC uK uD : Value} (id : Int) (w : World) (h : ThAt X w t uL uC uK uD) (hd : DirT t) :
    Calls Try.prog 23 #[thV t uL uC uK uD, .int .u64 id] w (RcP X (dropT t id).1 (dropT t id).2 w) := by
  obtain ⟨ka, kc, hku, hk1, hk2⟩ := h.k.form
  subst hku
  obtain ⟨W, hW⟩ : ∃ W, Hid (W = (w.alloc (.cells (thC t uL uC (.slice ka t.links.length kc) uD).toArray 34)).alloc (.cells (thC zeroT (.slice none 0 0) (.slice none 0 0) (.slice none 0 0) (.slice none 0 0)).toArray 34)) := ⟨_, rfl⟩
  have nW : Nw w W := by rw [hW.out]; exact nw_alloc (nw_alloc (nw_refl w) _) _
  have hB0 : W.heap[w.heap.size]? = some (.cells (thC t uL uC (.slice ka t.links.length kc) uD).toArray 34 (0, 0)) := by rw [hW.out]; exact heap_alloc2_old w _ _
  have hB1 : W.heap[w.heap.size + 1]? = some (.cells (thC zeroT (.slice none 0 0) (.slice none 0 0) (.slice none 0 0) (.slice none 0 0)).toArray 34 (0, 0)) := by rw [hW.out]; exact heap_alloc2_new w _ _
  have ht := (h.mono (X' := fun b => X b ∧ b < w.heap.size) (fun b hx hb => ⟨hx, hb⟩)).nw nW
  have hlk := hd.ok.lk
  have h16 : t.links.length ≤ 16 := hd.ok.len
  replace hd : Hid _ := hd
  clear h
  have hN : w.heap.size + 2 ≤ W.heap.size := by have := heap_lt hB1; omega
  go_enter Try.func23, Try.ntmps23
  go_upto_region 1 with (first | (refine wpList_box_agg rfl 34 _ rfl (thV t uL uC (.slice ka t.links.length kc) uD) _ rfl rfl ?_) | (refine wpList_alloc_agg rfl 34 rfl _ Try.zeroTh ?_; rw [← hW.out]))
  clear hW
  have hcon : Hid _ := c_rhas id W ht
  have hr0 := range_all hB0
  go_wp2_with (first | (refine wpList_load_as rfl 34 _ rfl (w.heap.size) 0 rfl (thV t uL uC (.slice ka t.links.length kc) uD) _ rfl hr0 Try.rowT Try.sizeT ?_) | (go_at_call 16; refine Calls.mono hcon.out ?_; rintro e W1 ⟨rfl, n1⟩; refine stop_here ?_))
  unfold Hid
  clear hcon hr0
  replace hB0 := (n1.block _ (heap_lt hB0) (fun h => h)).trans hB0
  replace hB1 := (n1.block _ (heap_lt hB1) (fun h => h)).trans hB1
  replace ht := ht.nw n1
  replace nW := nw_trans nW n1
  cases hh : hasB t.links id with
  | false =>
    have hfin : Hid ((dropT t id) = (t, 124)) := by unfold Hid dropT; rw [if_neg (by rw [hh]; exact Bool.noConfusion)]
    clear hh
    go_upto_region 2 with fail
    have hr0 := range_all hB0
    go_wp2_with (first | (refine wpList_load_as rfl 34 _ rfl (w.heap.size) 0 rfl (thV t uL uC (.slice ka t.links.length kc) uD) _ rfl hr0 Try.rowT Try.sizeT ?_; refine stop_here ?_))
    unfold Hid
    clear hr0
    obtain ⟨W2, hV⟩ : ∃ V, Hid (V = W1.setRow (w.heap.size + 1) (thC t uL uC (.slice ka t.links.length kc) uD).toArray) := ⟨_, rfl⟩
    have fV : Fr (fun k => k = w.heap.size + 1) W1 W2 := by rw [hV.out]; exact (Fr.refl (fun k => k = w.heap.size + 1) W1).setRow (.inl rfl) _
    have hnew : W2.heap[w.heap.size + 1]? = some (.cells (thC t uL uC (.slice ka t.links.length kc) uD).toArray 34 (0, 0)) := by rw [hV.out]; exact setRow_heap _ _ _ _ _ _ hB1
    refine wpList_store_all rfl 34 _ _ rfl (w.heap.size + 1) rfl (thV t uL uC (.slice ka t.links.length kc) uD) rfl (thC t uL uC (.slice ka t.links.length kc) uD) rfl (thC zeroT (.slice none 0 0) (.slice none 0 0) (.slice none 0 0) (.slice none 0 0)) 34 hB1 rfl (ht.one) Try.sizeT ?_
    rw [← hV.out]
    clear hV
    replace hB0 := (fV.block _ (heap_lt hB0) (by show ¬ _ = _; omega)).trans hB0
    replace hB1 := hnew
    clear hnew
    replace ht := ht.keep (X' := fun b => X b ∨ w.heap.size ≤ b) fV (fun b hb _ e => by have hb2 : b < w.heap.size := hb.2; have e2 : b = w.heap.size + 1 := e; omega) (fun b hb _ => .inl hb.1)
    replace nW : Nw w W2 := Fr.trans nW fV (fun k hk => .inr (by omega))
    clear fV
    go_wp2
    refine bodyPost_ret (results_cell2 rfl _ (w.heap.size + 1) _ (thV t uL uC (.slice ka t.links.length kc) uD) rfl rfl (range_all hB1) Try.rowT Try.sizeT) rfl ?_
    exact ⟨_, _, _, _, by rw [hfin.out]; rfl, by rw [hfin.out]; exact ht, nW⟩
  | true =>
    have hfin : Hid ((dropT t id) = ({ t with links := rmL t.links id }, 0)) := by unfold Hid dropT; rw [if_pos hh]
    obtain ⟨hp, hpe⟩ := (has_iff hlk id).1 hh
    have hflt : Hid (t.links.filter (fun c => c.1 != id) = rmL t.links id) := rm_filter hlk hp hpe
    clear hh hp hpe
    go_upto_region 3 with fail
    obtain ⟨i0, hi0, hz0, hs0, hb0⟩ := info_parts3 Try.infoLk
    obtain ⟨S, hS⟩ : ∃ S, Hid (S = W1.heap.size) := ⟨_, rfl⟩
    have hNS : w.heap.size + 2 ≤ S := by have := heap_lt hB1; rw [hS.out]; omega
    have hrow0 : (W1.alloc (.cells #[] 65)).ownsRow S 65 2 (.slice (some ⟨W1.heap.size, 0, none⟩) 0 0) 0 (ccells ((t.links.take 0).filter (fun c => c.1 != id))) := by rw [hS.out]; exact ⟨rfl, .inr ⟨W1.heap.size, 0, #[], rfl, Nat.le_refl _, heap_alloc_new W1 _, Nat.le_refl _, Nat.zero_le _, rfl, rfl⟩⟩
    have n0 : Nw W1 (W1.alloc (.cells #[] 65)) := nw_alloc (nw_refl _) _
    go_wp2_with (refine wpList_buildSlice0 rfl 27 65 rfl Try.underlying27 (by kernel_rfl) ?_; refine stop_here ?_)
    unfold Hid
    obtain ⟨Y, hY⟩ : ∃ Y, Hid (Y = W1.alloc (.cells #[] 65)) := ⟨_, rfl⟩
    rw [← hY.out] at hrow0 n0
    rw [← hY.out]
    clear hY
    have a8 : Y.cell? ⟨w.heap.size, 8, none⟩ = some (.slice ka t.links.length kc) := cell_blk ((n0.block _ (heap_lt hB0) (fun h => h)).trans hB0) rfl
    go_wp2
    clear a8
    go_loopw [6, 18] (fun uv kv wr => ∃ (k m : Nat) (u : Value), k ≤ t.links.length ∧ uv = u ∧ kv = .int .i64 k ∧ wr.ownsRow S 65 2 u m (ccells ((t.links.take k).filter (fun c => c.1 != id))) ∧ m ≤ k ∧ Nw W1 wr) (fun _ kv _ => t.links.length - (intOf kv).toNat)
    case atStart => exact ⟨0, 0, _, Nat.zero_le _, rfl, rfl, hrow0, Nat.zero_le _, n0⟩
    case round =>
      clear hrow0 n0
      obtain ⟨k, m, uv, hk, rfl, rfl, hrow, hmk, hw⟩ := hrel
      obtain ⟨oa, oc, rfl⟩ := owns_form hrow
      by_cases hlt : k < t.links.length
      · obtain ⟨p0, off, hka, _, d1, d2⟩ := (ht.k.nw hw).get k hlt
        subst hka
        have e1 : Hid ((t.links.take (k + 1)).filter (fun c => c.1 != id) = (t.links.take k).filter (fun c => c.1 != id) ++ (if (t.links[k].1 != id) = true then [t.links[k]] else [])) := by unfold Hid; rw [List.take_succ_eq_append_getElem hlt, List.filter_append, List.filter_cons, List.filter_nil]
        generalize t.links[k] = c at *
        obtain ⟨Y2, hY2⟩ : ∃ Y2, Hid (Y2 = wr.alloc (.cells #[.int .u64 c.1, .int .i64 c.2] 65)) := ⟨_, rfl⟩
        have n2 : Nw wr Y2 := by rw [hY2.out]; exact nw_alloc (nw_refl _) _
        have hC : Y2.heap[wr.heap.size]? = some (.cells #[.int .u64 c.1, .int .i64 c.2] 65 (0, 0)) := by rw [hY2.out]; exact heap_alloc_new _ _
        go_upto_region 7 with fail
        rw [← hY2.out]
        clear hY2 d1 d2
        replace hrow := owns_nw hrow n2
        replace hw := nw_trans hw n2
        generalize hB : wr.heap.size = B at *
        clear hB n2
        have c0 : Y2.cell? ⟨B, 0, none⟩ = some (.int .u64 c.1) := cell_blk hC rfl
        have c1 : Y2.cell? ⟨B, 1, none⟩ = some (.int .i64 c.2) := cell_blk hC rfl
        cases hc : (c.1 != id) with
        | true =>
          have ha : Hid ((t.links.take (k + 1)).filter (fun c => c.1 != id) = (t.links.take k).filter (fun c => c.1 != id) ++ [c]) := by unfold Hid; rw [e1.out, hc]; rfl
          clear e1
          generalize (t.links.take k).filter (fun c => c.1 != id) = es at *
          have hrA := World.ownsRow.alloc hrow (.cells #[.int .u64 c.1, .int .i64 c.2] 65)
          have hsl := sl_lit Y2 #[.int .u64 c.1, .int .i64 c.2] 65 1 (by omega)
          go_wp2_with (at_builtin; refine wpList_append_sl _ rfl _ _ 27 rfl S 65 i0 _ 2 16 Try.underlying27 hi0 hz0 hs0 hb0 rfl (by decide) _ _ _ rfl hrA _ _ 1 _ rfl hsl rfl ?d1 ?d2 ?d3 ?d4 ?_)
          case d1 => first | (intro u hu; simp at hu; rcases hu with rfl | rfl <;> rfl) | simp [Value.oneCell']
          case d2 => unfold maxLen; omega
          case d3 => omega
          case d4 => have := hw.size; have := hS.out; simp; omega
          intro v9 w9 hown9 hgrow9 hat9
          have m9 : Nw W1 w9 := Fr.grown (nw_alloc hw _) hgrow9 (fun q hq => .inr (by have := (hrow.lt q hq).1; have := hS.out; omega))
          have hrow2 := row_more c.1 c.2 hown9
          obtain ⟨a9, cp9, rfl⟩ := owns_form hown9
          replace hrow2 : Hid _ := hrow2
          clear hown9 hgrow9 hat9 hrA hsl c0 c1 hC hrow
          go_wp2
          go_roundw
          case rel => exact ⟨k + 1, _, _, by omega, rfl, by go_num, by rw [ha.out]; exact hrow2.out, by omega, m9⟩
          case measure => simp [intOf]; omega
        | false =>
          have ha : Hid ((t.links.take (k + 1)).filter (fun c => c.1 != id) = (t.links.take k).filter (fun c => c.1 != id)) := by unfold Hid; rw [e1.out, hc]; simp
          clear e1 hC
          replace hrow : Hid _ := hrow
          replace hw : Hid _ := hw
          go_wp2
          go_roundw
          case rel => exact ⟨k + 1, _, _, by omega, rfl, by go_num, by rw [ha.out]; exact hrow.out, by omega, hw.out⟩
          case measure => simp [intOf]; omega
      · have hkn : k = t.links.length := by omega
        rw [hkn, List.take_length, hflt.out] at hrow
        replace hkn : Hid _ := hkn
        have hkk := csl_of_rowS hrow
        replace hrow : Hid _ := hrow
        have ht2 : ThAt (fun b => (X b ∧ b < w.heap.size) ∨ S ≤ b) wr { t with links := rmL t.links id } uL uC (.slice oa m oc) uD := ⟨(ht.l.nw hw).mono (fun b hb _ => .inl hb), (ht.c.nw hw).mono (fun b hb _ => .inl hb), hkk.mono (fun b hb _ => .inr hb), (ht.d.nw hw).mono (fun b hb _ => .inl hb)⟩
        replace hB0 := (hw.block _ (heap_lt hB0) (fun h => h)).trans hB0
        replace hB1 := (hw.block _ (heap_lt hB1) (fun h => h)).trans hB1
        replace nW := nw_trans nW hw
        have g8 : wr.cell? ⟨w.heap.size, 8, none⟩ = some (.slice ka t.links.length kc) := cell_blk hB0 rfl
        have gf : ∀ k, wr.frozen? ⟨w.heap.size, k, none⟩ = false := fun k => free_blk hB0
        obtain ⟨W2, hV⟩ : ∃ V, Hid (V = wr.setCell ⟨w.heap.size, 8, none⟩ (.slice oa m oc)) := ⟨_, rfl⟩
        have fV : Fr (fun k => k = w.heap.size) wr W2 := by rw [hV.out]; exact (Fr.refl (fun k => k = w.heap.size) wr).setCell (p := ⟨w.heap.size, 8, none⟩) (.inl rfl) _
        have hnew : W2.heap[w.heap.size]? = some (.cells (thC ({ t with links := rmL t.links id } : Th) uL uC (.slice oa m oc) uD).toArray 34 (0, 0)) := by rw [hV.out, blk_setCell hB0]; rfl
        go_upto_region 11 with fail
        rw [← hV.out]
        clear hV g8 gf hB0
        have hB0 := hnew
        replace hB1 := (fV.block _ (heap_lt hB1) (by show ¬ _ = _; omega)).trans hB1
        clear hnew
        replace ht2 := ht2.keep (X' := fun b => (X b ∧ b < w.heap.size) ∨ S ≤ b) fV (fun b hb _ e => by have hb2 : (X b ∧ b < w.heap.size) ∨ S ≤ b := hb; have e2 : b = w.heap.size := e; omega) (fun b hb _ => hb)
        replace nW : Nw w W2 := Fr.trans nW fV (fun k hk => .inr (by omega))
        clear fV
        have hr0 := range_all hB0
        go_wp2_with (first | (refine wpList_load_as rfl 34 _ rfl (w.heap.size) 0 rfl (thV ({ t with links := rmL t.links id } : Th) uL uC (.slice oa m oc) uD) _ rfl hr0 Try.rowT Try.sizeT ?_; refine stop_here ?_))
        unfold Hid
        clear hr0
        obtain ⟨W3, hV⟩ : ∃ V, Hid (V = W2.setRow (w.heap.size + 1) (thC ({ t with links := rmL t.links id } : Th) uL uC (.slice oa m oc) uD).toArray) := ⟨_, rfl⟩
        have fV : Fr (fun k => k = w.heap.size + 1) W2 W3 := by rw [hV.out]; exact (Fr.refl (fun k => k = w.heap.size + 1) W2).setRow (.inl rfl) _
        have hnew : W3.heap[w.heap.size + 1]? = some (.cells (thC ({ t with links := rmL t.links id } : Th) uL uC (.slice oa m oc) uD).toArray 34 (0, 0)) := by rw [hV.out]; exact setRow_heap _ _ _ _ _ _ hB1
        refine wpList_store_all rfl 34 _ _ rfl (w.heap.size + 1) rfl (thV ({ t with links := rmL t.links id } : Th) uL uC (.slice oa m oc) uD) rfl (thC ({ t with links := rmL t.links id } : Th) uL uC (.slice oa m oc) uD) rfl (thC zeroT (.slice none 0 0) (.slice none 0 0) (.slice none 0 0) (.slice none 0 0)) 34 hB1 rfl (ht2.one) Try.sizeT ?_
        rw [← hV.out]
        clear hV
        replace hB0 := (fV.block _ (heap_lt hB0) (by show ¬ _ = _; omega)).trans hB0
        replace hB1 := hnew
        clear hnew
        replace ht2 := ht2.keep (X' := fun b => X b ∨ w.heap.size ≤ b) fV (fun b hb _ e => by have hb2 : (X b ∧ b < w.heap.size) ∨ S ≤ b := hb; have e2 : b = w.heap.size + 1 := e; omega) (fun b hb _ => by have hb2 : (X b ∧ b < w.heap.size) ∨ S ≤ b := hb; rcases hb2 with h | h; exact .inl h.1; exact .inr (by omega))
        replace nW : Nw w W3 := Fr.trans nW fV (fun k hk => .inr (by omega))
        clear fV
        go_wp2
        refine bodyPost_ret (results_cell2 rfl _ (w.heap.size + 1) _ (thV ({ t with links := rmL t.links id } : Th) uL uC (.slice oa m oc) uD) rfl rfl (range_all hB1) Try.rowT Try.sizeT) rfl ?_
        exact ⟨_, _, _, _, by rw [hfin.out]; rfl, by rw [hfin.out]; exact ht2, nW⟩

set_option maxRecDepth 100000 in
set_option maxHeartbeats 6400000 in
theorem c_rborn {X : Nat → Prop} {t : Th} {uL uC uK uD : Value} (q : Int) (w : World) (h : ThAt X w t uL uC uK uD) (hd : DirT t) (hq0 : -9223372036854775808 ≤ q) (hq1 : q ≤ 9223372036854775807) :
    Calls Try.prog 21 #[thV t uL uC uK uD, .int .i64 q] w (RoP X (bornT t q) w) := by
  obtain ⟨W, hW⟩ : ∃ W, Hid (W = (w.alloc (.cells (thC t uL uC uK uD).toArray 34)).alloc (.cells (thC zeroT (.slice none 0 0) (.slice none 0 0) (.slice none 0 0) (.slice none 0 0)).toArray 34)) := ⟨_, rfl⟩
  have nW : Nw w W := by rw [hW.out]; exact nw_alloc (nw_alloc (nw_refl w) _) _
  have hB0 : W.heap[w.heap.size]? = some (.cells (thC t uL uC uK uD).toArray 34 (0, 0)) := by rw [hW.out]; exact heap_alloc2_old w _ _
  have hB1 : W.heap[w.heap.size + 1]? = some (.cells (thC zeroT (.slice none 0 0) (.slice none 0 0) (.slice none 0 0) (.slice none 0 0)).toArray 34 (0, 0)) := by rw [hW.out]; exact heap_alloc2_new w _ _
  have ht := (h.mono (X' := fun b => X b ∧ b < w.heap.size) (fun b hx hb => ⟨hx, hb⟩)).nw nW
  have hid := hd.right.id
  have hnx := hd.ok.next
  unfold idOk at hid
  replace hd : Hid _ := hd
  clear h
  have hN : w.heap.size + 2 ≤ W.heap.size := by have := heap_lt hB1; omega
  have hfc : Hid _ := fun w' (n : Nw W w') => c_rfresh w' (ht.nw n) (by omega) hnx
  replace hid : Hid _ := hid
  replace hnx : Hid _ := hnx
  by_cases hf : (freshT t).2 = 0
  · obtain ⟨f1, f2, f3, f4⟩ := fresh_ok hd.out hf
    obtain ⟨n, hfn⟩ : ∃ n, freshT t = (n, 0) := ⟨(freshT t).1, Prod.ext rfl hf⟩
    rw [hfn] at f3 f4 hfc
    have f4 : idOk n := f4
    clear f3 hf
    replace f1 : Hid _ := f1
    replace f2 : Hid _ := f2
    replace f4 : Hid _ := f4
    obtain ⟨⟨t2, er⟩, hat⟩ : ∃ x, addT t n q = x := ⟨_, rfl⟩
    have hac : Hid _ := fun w' (n' : Nw W w') => c_radd n q w' (ht.nw n') hd.out hq0 hq1
    rw [hat] at hac
    go_enter Try.func21, Try.ntmps21
    go_upto_region 1 with (first | (refine wpList_box_agg rfl 34 _ rfl (thV t uL uC uK uD) _ rfl rfl ?_) | (refine wpList_alloc_agg rfl 34 rfl _ Try.zeroTh ?_; rw [← hW.out]))
    clear hW
    have hcon : Hid _ := hfc.out W (nw_refl _)
    have hr0 := range_all hB0
    go_wp2_with (first | (refine wpList_load_as rfl 34 _ rfl (w.heap.size) 0 rfl (thV t uL uC uK uD) _ rfl hr0 Try.rowT Try.sizeT ?_) | (go_at_call 12; refine Calls.mono hcon.out ?_; rintro e W1 ⟨rfl, n1⟩; refine stop_here ?_))
    unfold Hid
    clear hcon hr0 hfc
    replace hB0 := (n1.block _ (heap_lt hB0) (fun h => h)).trans hB0
    replace hB1 := (n1.block _ (heap_lt hB1) (fun h => h)).trans hB1
    replace ht := ht.nw n1
    replace nW := nw_trans nW n1
    go_upto_region 4 with fail
    unfold RcP at hac
    have hcon : Hid _ := hac.out W1 n1
    have hr0 := range_all hB0
    go_wp2_with (first | (refine wpList_load_as rfl 34 _ rfl (w.heap.size) 0 rfl (thV t uL uC uK uD) _ rfl hr0 Try.rowT Try.sizeT ?_) | (go_at_call 19; refine Calls.mono hcon.out ?_; rintro e W2 ⟨u1, u2, u3, u4, rfl, hc, n2⟩; refine stop_here ?_))
    unfold Hid
    clear hcon hr0 hac
    replace hB0 := (n2.block _ (heap_lt hB0) (fun h => h)).trans hB0
    replace hB1 := (n2.block _ (heap_lt hB1) (fun h => h)).trans hB1
    replace ht := ht.nw n2
    replace nW := nw_trans nW n2
    have hA0 : w.heap.size + 2 ≤ W2.heap.size := by have := heap_lt hB1; omega
    obtain ⟨Y, hY⟩ : ∃ Y, Hid (Y = W2.alloc (.cells (thC zeroT (.slice none 0 0) (.slice none 0 0) (.slice none 0 0) (.slice none 0 0)).toArray 34)) := ⟨_, rfl⟩
    have nY : Nw W2 Y := by rw [hY.out]; exact nw_alloc (nw_refl _) _
    have hB2 : Y.heap[W2.heap.size]? = some (.cells (thC zeroT (.slice none 0 0) (.slice none 0 0) (.slice none 0 0) (.slice none 0 0)).toArray 34 (0, 0)) := by rw [hY.out]; exact heap_alloc_new _ _
    have hcY : ThAt (fun b => ((X b ∧ b < w.heap.size) ∨ w.heap.size + 2 ≤ b) ∧ b < W2.heap.size) Y t2 u1 u2 u3 u4 := (hc.mono (fun b hb hlt => ⟨hb.imp id (fun h => by have := n1.size; omega), hlt⟩)).nw nY
    clear hc
    go_wp2_with (refine wpList_alloc_agg rfl 34 rfl _ Try.zeroTh ?_; rw [← hY.out]; refine stop_here ?_)
    unfold Hid
    clear hY
    replace hB0 := (nY.block _ (heap_lt hB0) (fun h => h)).trans hB0
    replace hB1 := (nY.block _ (heap_lt hB1) (fun h => h)).trans hB1
    replace ht := ht.nw nY
    replace nW := nw_trans nW nY
    clear nY
    generalize W2.heap.size = A at *
    obtain ⟨W3, hV⟩ : ∃ V, Hid (V = Y.setRow (A) (thC t2 u1 u2 u3 u4).toArray) := ⟨_, rfl⟩
    have fV : Fr (fun k => k = A) Y W3 := by rw [hV.out]; exact (Fr.refl (fun k => k = A) Y).setRow (.inl rfl) _
    have hnew : W3.heap[A]? = some (.cells (thC t2 u1 u2 u3 u4).toArray 34 (0, 0)) := by rw [hV.out]; exact setRow_heap _ _ _ _ _ _ hB2
    refine wpList_store_all rfl 34 _ _ rfl (A) rfl (thV t2 u1 u2 u3 u4) rfl (thC t2 u1 u2 u3 u4) rfl (thC zeroT (.slice none 0 0) (.slice none 0 0) (.slice none 0 0) (.slice none 0 0)) 34 hB2 rfl (hcY.one) Try.sizeT ?_
    rw [← hV.out]
    clear hV
    replace hB0 := (fV.block _ (heap_lt hB0) (by show ¬ _ = _; omega)).trans hB0
    replace hB1 := (fV.block _ (heap_lt hB1) (by show ¬ _ = _; omega)).trans hB1
    replace hB2 := hnew
    clear hnew
    replace hcY := hcY.keep (X' := fun b => ((X b ∧ b < w.heap.size) ∨ w.heap.size + 2 ≤ b) ∧ b < A) fV (fun b hb _ e => by have e2 : b = A := e; omega) (fun b hb _ => hb)
    replace ht := ht.keep (X' := fun b => X b ∧ b < w.heap.size) fV (fun b hb _ e => by have e2 : b = A := e; have := hb.2; omega) (fun b hb _ => hb)
    replace nW : Nw w W3 := Fr.trans nW fV (fun k hk => .inr (by have hk2 : k = A := hk; omega))
    clear fV
    go_upto_region 5 with fail
    by_cases he : er = 0
    · have hbe : (er != 0) = false := by simp [he]
      have har : (addT t n q).2 = 0 := by rw [hat]; exact he
      obtain ⟨_, _, a3, _⟩ := add_right hd.out f4.out har
      rw [hat] at a3
      have hnx2 : Hid (t2.next = t.next) := by unfold Hid; rw [show t2 = _ from a3]
      have hfin : Hid (bornT t q = ({ t2 with next := t2.next + 1 }, n, 0)) := by unfold Hid bornT; rw [hfn, if_pos rfl, if_pos har, hat, hnx2.out]
      have hwr : IntKind.i64.wrap (t2.next + 1) = t2.next + 1 := by have := hnx.out; have := f1.out; have := hnx2.out; unfold btw at *; rw [IntKind.wrap_i64]; omega
      clear a3 har hat he ht
      go_upto_region 7 with fail
      have g7 : W3.cell? ⟨A, 7, none⟩ = some (.int .i64 t2.next) := cell_blk hB2 rfl
      have gf : ∀ k, W3.frozen? ⟨A, k, none⟩ = false := fun k => free_blk hB2
      obtain ⟨W4, hV⟩ : ∃ V, Hid (V = W3.setCell ⟨A, 7, none⟩ (.int .i64 (t2.next + 1))) := ⟨_, rfl⟩
      have fV : Fr (fun k => k = A) W3 W4 := by rw [hV.out]; exact (Fr.refl (fun k => k = A) W3).setCell (p := ⟨A, 7, none⟩) (.inl rfl) _
      have hnew : W4.heap[A]? = some (.cells (thC ({ t2 with next := t2.next + 1 } : Th) u1 u2 u3 u4).toArray 34 (0, 0)) := by rw [hV.out, blk_setCell hB2]; rfl
      go_upto_region 8 with fail
      rw [← hV.out]
      clear hV g7 gf hB2
      have hB2 := hnew
      replace hB1 := (fV.block _ (heap_lt hB1) (by show ¬ _ = _; omega)).trans hB1
      replace hB0 := (fV.block _ (heap_lt hB0) (by show ¬ _ = _; omega)).trans hB0
      clear hnew
      replace hcY := hcY.keep (X' := fun b => ((X b ∧ b < w.heap.size) ∨ w.heap.size + 2 ≤ b) ∧ b < A) fV (fun b hb _ e => by have e2 : b = A := e; omega) (fun b hb _ => hb)
      have hc : ThAt (fun b => ((X b ∧ b < w.heap.size) ∨ w.heap.size + 2 ≤ b) ∧ b < A) W4 ({ t2 with next := t2.next + 1 } : Th) u1 u2 u3 u4 := ⟨hcY.l, hcY.c, hcY.k, hcY.d⟩
      replace nW : Nw w W4 := Fr.trans nW fV (fun k hk => .inr (by have hk2 : k = A := hk; omega))
      clear fV hcY
      have hr2 := range_all hB2
      go_wp2_with (first | (refine wpList_load_as rfl 34 _ rfl (A) 0 rfl (thV ({ t2 with next := t2.next + 1 } : Th) u1 u2 u3 u4) _ rfl hr2 Try.rowT Try.sizeT ?_; refine stop_here ?_))
      unfold Hid
      clear hr2
      obtain ⟨W5, hV⟩ : ∃ V, Hid (V = W4.setRow (w.heap.size + 1) (thC ({ t2 with next := t2.next + 1 } : Th) u1 u2 u3 u4).toArray) := ⟨_, rfl⟩
      have fV : Fr (fun k => k = w.heap.size + 1) W4 W5 := by rw [hV.out]; exact (Fr.refl (fun k => k = w.heap.size + 1) W4).setRow (.inl rfl) _
      have hnew : W5.heap[w.heap.size + 1]? = some (.cells (thC ({ t2 with next := t2.next + 1 } : Th) u1 u2 u3 u4).toArray 34 (0, 0)) := by rw [hV.out]; exact setRow_heap _ _ _ _ _ _ hB1
      go_wp2_with (refine wpList_store_all rfl 34 _ _ rfl (w.heap.size + 1) rfl (thV ({ t2 with next := t2.next + 1 } : Th) u1 u2 u3 u4) rfl (thC ({ t2 with next := t2.next + 1 } : Th) u1 u2 u3 u4) rfl (thC zeroT (.slice none 0 0) (.slice none 0 0) (.slice none 0 0) (.slice none 0 0)) 34 hB1 rfl (hc.one) Try.sizeT ?_; rw [← hV.out]; refine stop_here ?_)
      unfold Hid
      clear hV
      replace hB0 := (fV.block _ (heap_lt hB0) (by show ¬ _ = _; omega)).trans hB0
      replace hB1 := hnew
      replace hB2 := (fV.block _ (heap_lt hB2) (by show ¬ _ = _; omega)).trans hB2
      clear hnew
      replace hc := hc.keep (X' := fun b => X b ∨ w.heap.size ≤ b) fV (fun b hb _ e => by have e2 : b = w.heap.size + 1 := e; omega) (fun b hb _ => hb.1.imp (fun h => h.1) (fun h => by omega))
      replace nW : Nw w W5 := Fr.trans nW fV (fun k hk => .inr (by omega))
      clear fV
      go_wp2
      refine bodyPost_ret (results_cellTT rfl _ (w.heap.size + 1) _ (thV ({ t2 with next := t2.next + 1 } : Th) u1 u2 u3 u4) rfl rfl (range_all hB1) Try.rowT Try.sizeT) rfl ?_
      exact ⟨_, _, _, _, by rw [hfin.out]; rfl, by rw [hfin.out]; exact hc, nW⟩
    · have hbe : (er != 0) = true := by simpa using he
      have har : ¬ (addT t n q).2 = 0 := by rw [hat]; exact he
      have hfin : Hid (bornT t q = (t, 0, er)) := by unfold Hid bornT; rw [hfn, if_pos rfl, if_neg har, hat]
      clear har hat he hcY
      go_upto_region 6 with fail
      have hr0 := range_all hB0
      go_wp2_with (first | (refine wpList_load_as rfl 34 _ rfl (w.heap.size) 0 rfl (thV t uL uC uK uD) _ rfl hr0 Try.rowT Try.sizeT ?_; refine stop_here ?_))
      unfold Hid
      clear hr0
      obtain ⟨W4, hV⟩ : ∃ V, Hid (V = W3.setRow (w.heap.size + 1) (thC t uL uC uK uD).toArray) := ⟨_, rfl⟩
      have fV : Fr (fun k => k = w.heap.size + 1) W3 W4 := by rw [hV.out]; exact (Fr.refl (fun k => k = w.heap.size + 1) W3).setRow (.inl rfl) _
      have hnew : W4.heap[w.heap.size + 1]? = some (.cells (thC t uL uC uK uD).toArray 34 (0, 0)) := by rw [hV.out]; exact setRow_heap _ _ _ _ _ _ hB1
      go_wp2_with (refine wpList_store_all rfl 34 _ _ rfl (w.heap.size + 1) rfl (thV t uL uC uK uD) rfl (thC t uL uC uK uD) rfl (thC zeroT (.slice none 0 0) (.slice none 0 0) (.slice none 0 0) (.slice none 0 0)) 34 hB1 rfl (ht.one) Try.sizeT ?_; rw [← hV.out]; refine stop_here ?_)
      unfold Hid
      clear hV
      replace hB0 := (fV.block _ (heap_lt hB0) (by show ¬ _ = _; omega)).trans hB0
      replace hB1 := hnew
      replace hB2 := (fV.block _ (heap_lt hB2) (by show ¬ _ = _; omega)).trans hB2
      clear hnew
      replace ht := ht.keep (X' := fun b => X b ∨ w.heap.size ≤ b) fV (fun b hb _ e => by have e2 : b = w.heap.size + 1 := e; have := hb.2; omega) (fun b hb _ => .inl hb.1)
      replace nW : Nw w W4 := Fr.trans nW fV (fun k hk => .inr (by omega))
      clear fV
      go_wp2
      refine bodyPost_ret (results_cellTT rfl _ (w.heap.size + 1) _ (thV t uL uC uK uD) rfl rfl (range_all hB1) Try.rowT Try.sizeT) rfl ?_
      exact ⟨_, _, _, _, by rw [hfin.out]; rfl, by rw [hfin.out]; exact ht, nW⟩
  · have hfe := fresh_err hf
    have hfin : Hid (bornT t q = (t, 0, 125)) := by unfold Hid bornT; rw [if_neg hf, hfe]
    rw [hfe] at hfc
    clear hf hfe
    go_enter Try.func21, Try.ntmps21
    go_upto_region 1 with (first | (refine wpList_box_agg rfl 34 _ rfl (thV t uL uC uK uD) _ rfl rfl ?_) | (refine wpList_alloc_agg rfl 34 rfl _ Try.zeroTh ?_; rw [← hW.out]))
    clear hW
    have hcon : Hid _ := hfc.out W (nw_refl _)
    have hr0 := range_all hB0
    go_wp2_with (first | (refine wpList_load_as rfl 34 _ rfl (w.heap.size) 0 rfl (thV t uL uC uK uD) _ rfl hr0 Try.rowT Try.sizeT ?_) | (go_at_call 12; refine Calls.mono hcon.out ?_; rintro e W1 ⟨rfl, n1⟩; refine stop_here ?_))
    unfold Hid
    clear hcon hr0 hfc
    replace hB0 := (n1.block _ (heap_lt hB0) (fun h => h)).trans hB0
    replace hB1 := (n1.block _ (heap_lt hB1) (fun h => h)).trans hB1
    replace ht := ht.nw n1
    replace nW := nw_trans nW n1
    go_upto_region 3 with fail
    have hr0 := range_all hB0
    go_wp2_with (first | (refine wpList_load_as rfl 34 _ rfl (w.heap.size) 0 rfl (thV t uL uC uK uD) _ rfl hr0 Try.rowT Try.sizeT ?_; refine stop_here ?_))
    unfold Hid
    clear hr0
    obtain ⟨W2, hV⟩ : ∃ V, Hid (V = W1.setRow (w.heap.size + 1) (thC t uL uC uK uD).toArray) := ⟨_, rfl⟩
    have fV : Fr (fun k => k = w.heap.size + 1) W1 W2 := by rw [hV.out]; exact (Fr.refl (fun k => k = w.heap.size + 1) W1).setRow (.inl rfl) _
    have hnew : W2.heap[w.heap.size + 1]? = some (.cells (thC t uL uC uK uD).toArray 34 (0, 0)) := by rw [hV.out]; exact setRow_heap _ _ _ _ _ _ hB1
    go_wp2_with (refine wpList_store_all rfl 34 _ _ rfl (w.heap.size + 1) rfl (thV t uL uC uK uD) rfl (thC t uL uC uK uD) rfl (thC zeroT (.slice none 0 0) (.slice none 0 0) (.slice none 0 0) (.slice none 0 0)) 34 hB1 rfl (ht.one) Try.sizeT ?_; rw [← hV.out]; refine stop_here ?_)
    unfold Hid
    clear hV
    replace hB0 := (fV.block _ (heap_lt hB0) (by show ¬ _ = _; omega)).trans hB0
    replace hB1 := hnew
    clear hnew
    replace ht := ht.keep (X' := fun b => X b ∨ w.heap.size ≤ b) fV (fun b hb _ e => by have e2 : b = w.heap.size + 1 := e; have := hb.2; omega) (fun b hb _ => .inl hb.1)
    replace nW : Nw w W2 := Fr.trans nW fV (fun k hk => .inr (by omega))
    clear fV
    go_wp2
    refine bodyPost_ret (results_cellTT rfl _ (w.heap.size + 1) _ (thV t uL uC uK uD) rfl rfl (range_all hB1) Try.rowT Try.sizeT) rfl ?_
    exact ⟨_, _, _, _, by rw [hfin.out]; rfl, by rw [hfin.out]; exact ht, nW⟩
end Go.Proofs.Ytppfcdnhmieejaa
