/-
  The program's Drop and Born.
-/
import Derived.Test.YtppfcdnhmieejaaDrAS
namespace Go.Proofs.Ytppfcdnhmieejaa
set_option linter.unusedVariables false
set_option linter.unusedSimpArgs false
set_option maxRecDepth 20000
open Go.RowKit

theorem results_cellTT {P : Program} {W : World} {fn : Func} {p u t : Tmp} {ty : TypeId} (h : fn.results = #[.cell p ty, .tmp u, .tmp t]) (tmps : Array Value) (g : Nat) (cs : List Value) (v : Value) (hv : v = .agg cs.toArray)
    (hp : tmps.getD p undef = .pointer (some ⟨g, 0, none⟩)) (hc : W.rangeAt g 0 cs) (hu : (P.underlying ty).map TypeDesc.isRow = some true) (hi : (P.info? ty).map (·.size) = some cs.length) :
    (results fn tmps).run P W = .ok (.tuple #[v, tmps.getD u undef, tmps.getD t undef]) W := by
  subst hv
  have hp' : tmps[p]?.getD undef = .pointer (some ⟨g, 0, none⟩) := by simpa using hp
  cases hd : P.underlying ty with
  | none => simp [hd] at hu
  | some d => simp [results, h, hp', asAddr, run_loadVar_mid W g 0 ty cs d hc hd (by simpa [hd] using hu) hi]

/-- What Born answers: the directory, in memory of its own, the name, the error. -/
def BoP (r : Th × Int × Int) (w : World) (e : Ending) (w' : World) : Prop := ∃ u1 u2 u3 u4, e = .returned (.tuple #[thV r.1 u1 u2 u3 u4, .int .u64 r.2.1, .int .i64 r.2.2]) ∧ ThAt (fun b => w.heap.size ≤ b) w' r.1 u1 u2 u3 u4 ∧ Nw w w'

set_option maxRecDepth 100000 in
set_option maxHeartbeats 6400000 in
theorem c_drop {X : Nat → Prop} {t : Th} {uL uC uK uD : Value} (id : Int) (w : World) (h : ThAt X w t uL uC uK uD) (hd : DirT t) :
    Calls Try.prog 22 #[thV t uL uC uK uD, .int .u64 id] w (ChP (dropT t id).1 (dropT t id).2 w) := by
  obtain ⟨l1, l2, l3, l4⟩ := dir_sizes hd
  obtain ⟨W, hW⟩ : ∃ W, Hid (W = (w.alloc (.cells (thC t uL uC uK uD).toArray 34)).alloc (.cells (thC zeroT (.slice none 0 0) (.slice none 0 0) (.slice none 0 0) (.slice none 0 0)).toArray 34)) := ⟨_, rfl⟩
  have nW : Nw w W := by rw [hW.out]; exact nw_alloc (nw_alloc (nw_refl w) _) _
  have hB0 : W.heap[w.heap.size]? = some (.cells (thC t uL uC uK uD).toArray 34 (0, 0)) := by rw [hW.out]; exact heap_alloc2_old w _ _
  have hB1 : W.heap[w.heap.size + 1]? = some (.cells (thC zeroT (.slice none 0 0) (.slice none 0 0) (.slice none 0 0) (.slice none 0 0)).toArray 34 (0, 0)) := by rw [hW.out]; exact heap_alloc2_new w _ _
  have ht := (h.mono (X' := fun b => b < w.heap.size) (fun b _ hb => hb)).nw nW
  have hlk := hd.ok.lk
  have h16 : t.links.length ≤ 1000 := by have := hd.ok.len; omega
  replace hd : Hid _ := hd
  clear h
  have hN : w.heap.size + 2 ≤ W.heap.size := by have := heap_lt hB1; omega
  go_enter Try.func22, Try.ntmps22
  go_upto_region 1 with (first | (refine wpList_box_agg rfl 34 _ rfl (thV t uL uC uK uD) _ rfl rfl ?_) | (refine wpList_alloc_agg rfl 34 rfl _ Try.zeroTh ?_; rw [← hW.out]))
  clear hW
  have hcon : Hid _ := c_tcopy W ht l1 l2 l3 l4
  have hr0 := range_all hB0
  go_wp2_with (first | (refine wpList_load_as rfl 34 _ rfl (w.heap.size) 0 rfl (thV t uL uC uK uD) _ rfl hr0 Try.rowT Try.sizeT ?_) | (go_at_call 29; refine Calls.mono hcon.out ?_; rintro e W1 ⟨u1, u2, u3, u4, rfl, hc, n1⟩; refine stop_here ?_))
  unfold Hid
  clear hcon hr0 ht l1 l2 l3 l4
  replace hB0 := (n1.block _ (heap_lt hB0) (fun h => h)).trans hB0
  replace hB1 := (n1.block _ (heap_lt hB1) (fun h => h)).trans hB1
  replace nW := nw_trans nW n1
  replace hc := hc.mono hN
  obtain ⟨W2, hV⟩ : ∃ V, Hid (V = W1.setRow (w.heap.size) (thC t u1 u2 u3 u4).toArray) := ⟨_, rfl⟩
  have fV : Fr (fun k => k = w.heap.size) W1 W2 := by rw [hV.out]; exact (Fr.refl (fun k => k = w.heap.size) W1).setRow (.inl rfl) _
  have hnew : W2.heap[w.heap.size]? = some (.cells (thC t u1 u2 u3 u4).toArray 34 (0, 0)) := by rw [hV.out]; exact setRow_heap _ _ _ _ _ _ hB0
  go_wp2_with (refine wpList_store_all rfl 34 _ _ rfl (w.heap.size) rfl (thV t u1 u2 u3 u4) rfl (thC t u1 u2 u3 u4) rfl (thC t uL uC uK uD) 34 hB0 rfl (hc.at.one) Try.sizeT ?_; rw [← hV.out]; refine stop_here ?_)
  unfold Hid
  clear hV
  replace hB0 := hnew
  replace hB1 := (fV.block _ (heap_lt hB1) (by show ¬ _ = _; omega)).trans hB1
  clear hnew
  replace hc := hc.fr fV (fun k hk => by omega)
  replace nW : Nw w W2 := Fr.trans nW fV (fun k hk => .inr (by omega))
  clear fV
  go_upto_region 2 with fail
  have hcon : Hid _ := c_place id W2 hc.at hlk h16
  have hr0 := range_all hB0
  go_wp2_with (first | (refine wpList_load_as rfl 34 _ rfl (w.heap.size) 0 rfl (thV t u1 u2 u3 u4) _ rfl hr0 Try.rowT Try.sizeT ?_) | (go_at_call 27; refine Calls.mono hcon.out ?_; rintro e W3 ⟨rfl, n3⟩; refine stop_here ?_))
  unfold Hid
  clear hcon hr0
  replace hB0 := (n3.block _ (heap_lt hB0) (fun h => h)).trans hB0
  replace hB1 := (n3.block _ (heap_lt hB1) (fun h => h)).trans hB1
  replace hc := hc.nw n3
  replace nW := nw_trans nW n3
  go_upto_region 3 with fail
  cases hh : hasB t.links id with
  | false =>
    have hfin : Hid ((dropT t id) = (t, 124)) := by unfold Hid dropT; rw [if_neg (by rw [hh]; exact Bool.noConfusion)]
    clear hh
    go_upto_region 4 with fail
    have hr0 := range_all hB0
    go_wp2_with (first | (refine wpList_load_as rfl 34 _ rfl (w.heap.size) 0 rfl (thV t u1 u2 u3 u4) _ rfl hr0 Try.rowT Try.sizeT ?_; refine stop_here ?_))
    unfold Hid
    clear hr0
    obtain ⟨W4, hV⟩ : ∃ V, Hid (V = W3.setRow (w.heap.size + 1) (thC t u1 u2 u3 u4).toArray) := ⟨_, rfl⟩
    have fV : Fr (fun k => k = w.heap.size + 1) W3 W4 := by rw [hV.out]; exact (Fr.refl (fun k => k = w.heap.size + 1) W3).setRow (.inl rfl) _
    have hnew : W4.heap[w.heap.size + 1]? = some (.cells (thC t u1 u2 u3 u4).toArray 34 (0, 0)) := by rw [hV.out]; exact setRow_heap _ _ _ _ _ _ hB1
    refine wpList_store_all rfl 34 _ _ rfl (w.heap.size + 1) rfl (thV t u1 u2 u3 u4) rfl (thC t u1 u2 u3 u4) rfl (thC zeroT (.slice none 0 0) (.slice none 0 0) (.slice none 0 0) (.slice none 0 0)) 34 hB1 rfl (hc.at.one) Try.sizeT ?_
    rw [← hV.out]
    clear hV
    replace hB0 := (fV.block _ (heap_lt hB0) (by show ¬ _ = _; omega)).trans hB0
    replace hB1 := hnew
    clear hnew
    replace hc := hc.fr fV (fun k hk => by omega)
    replace nW : Nw w W4 := Fr.trans nW fV (fun k hk => .inr (by omega))
    clear fV
    go_wp2
    refine bodyPost_ret (results_cell2 rfl _ (w.heap.size + 1) _ (thV t u1 u2 u3 u4) rfl rfl (range_all hB1) Try.rowT Try.sizeT) rfl ?_
    exact ⟨_, _, _, _, by rw [hfin.out]; rfl, by rw [hfin.out]; exact hc.at.mono (fun b hb _ => by have hb2 : _ ≤ b := hb; show w.heap.size ≤ b; omega), nW⟩
  | true =>
    have hfin : Hid ((dropT t id) = ({ t with links := rmL t.links id }, 0)) := by unfold Hid dropT; rw [if_pos hh]
    obtain ⟨hp, -⟩ := (has_iff hlk id).1 hh
    clear hh
    obtain ⟨ka, kc, hku⟩ := owns_form hc.k
    subst hku
    go_upto_region 5 with fail
    have a8 : W3.cell? ⟨w.heap.size, 8, none⟩ = some (.slice ka t.links.length kc) := cell_blk hB0 rfl
    have hcon : Hid _ := c_deleteL W3 hc.k hp h16
    have hwr : IntKind.i64.wrap ((posL t.links id : Int) + 1) = (posL t.links id : Int) + 1 := by rw [IntKind.wrap_i64]; omega
    go_wp2_with (first | (go_at_call 31; refine Calls.mono hcon.out ?_; rintro e W4 ⟨u, rfl, hk, fI⟩; refine stop_here ?_))
    unfold Hid
    clear hcon a8 hwr
    have hgap : ∀ k, (Value.slice ka t.links.length kc).ownBlock = some k → w.heap.size + 2 ≤ k := fun k hk => by have := (hc.k.lt k hk).1; omega
    have ht2 := cop_links hc fI hk
    replace hB0 := (fI.block _ (heap_lt hB0) (fun h => by have := hgap _ h; omega)).trans hB0
    replace hB1 := (fI.block _ (heap_lt hB1) (fun h => by have := hgap _ h; omega)).trans hB1
    replace nW : Nw w W4 := Fr.trans nW fI (fun k hk => .inr (by have := hgap k hk; omega))
    obtain ⟨va, vc, hkv, -⟩ := hk.form
    subst hkv
    clear hk fI hgap
    generalize hnl : (t.links.take (posL t.links id) ++ t.links.drop (posL t.links id + 1)).length = nl at *
    replace hnl : Hid _ := hnl
    have g8 : W4.cell? ⟨w.heap.size, 8, none⟩ = some (.slice ka t.links.length kc) := cell_blk hB0 rfl
    have gf : ∀ k, W4.frozen? ⟨w.heap.size, k, none⟩ = false := fun k => free_blk hB0
    obtain ⟨W5, hV⟩ : ∃ V, Hid (V = W4.setCell ⟨w.heap.size, 8, none⟩ (.slice va nl vc)) := ⟨_, rfl⟩
    have fV : Fr (fun k => k = w.heap.size) W4 W5 := by rw [hV.out]; exact (Fr.refl (fun k => k = w.heap.size) W4).setCell (p := ⟨w.heap.size, 8, none⟩) (.inl rfl) _
    have hnew : W5.heap[w.heap.size]? = some (.cells (thC ({ t with links := rmL t.links id } : Th) u1 u2 (.slice va nl vc) u4).toArray 34 (0, 0)) := by rw [hV.out, blk_setCell hB0]; rfl
    go_upto_region 6 with fail
    rw [← hV.out]
    clear hV g8 gf hB0
    have hB0 := hnew
    replace hB1 := (fV.block _ (heap_lt hB1) (by show ¬ _ = _; omega)).trans hB1
    clear hnew
    replace ht2 : ThAt (fun b => w.heap.size + 2 ≤ b) W5 ({ t with links := rmL t.links id } : Th) u1 u2 (.slice va nl vc) u4 := ht2.keep fV (fun b hb _ e => by have hb2 : w.heap.size + 2 ≤ b := hb; have e2 : b = w.heap.size := e; omega) (fun b hb _ => hb)
    replace nW : Nw w W5 := Fr.trans nW fV (fun k hk => .inr (by omega))
    clear fV hc
    have hr0 := range_all hB0
    go_wp2_with (first | (refine wpList_load_as rfl 34 _ rfl (w.heap.size) 0 rfl (thV ({ t with links := rmL t.links id } : Th) u1 u2 (.slice va nl vc) u4) _ rfl hr0 Try.rowT Try.sizeT ?_; refine stop_here ?_))
    unfold Hid
    clear hr0
    obtain ⟨W6, hV⟩ : ∃ V, Hid (V = W5.setRow (w.heap.size + 1) (thC ({ t with links := rmL t.links id } : Th) u1 u2 (.slice va nl vc) u4).toArray) := ⟨_, rfl⟩
    have fV : Fr (fun k => k = w.heap.size + 1) W5 W6 := by rw [hV.out]; exact (Fr.refl (fun k => k = w.heap.size + 1) W5).setRow (.inl rfl) _
    have hnew : W6.heap[w.heap.size + 1]? = some (.cells (thC ({ t with links := rmL t.links id } : Th) u1 u2 (.slice va nl vc) u4).toArray 34 (0, 0)) := by rw [hV.out]; exact setRow_heap _ _ _ _ _ _ hB1
    refine wpList_store_all rfl 34 _ _ rfl (w.heap.size + 1) rfl (thV ({ t with links := rmL t.links id } : Th) u1 u2 (.slice va nl vc) u4) rfl (thC ({ t with links := rmL t.links id } : Th) u1 u2 (.slice va nl vc) u4) rfl (thC zeroT (.slice none 0 0) (.slice none 0 0) (.slice none 0 0) (.slice none 0 0)) 34 hB1 rfl (ht2.one) Try.sizeT ?_
    rw [← hV.out]
    clear hV
    replace hB0 := (fV.block _ (heap_lt hB0) (by show ¬ _ = _; omega)).trans hB0
    replace hB1 := hnew
    clear hnew
    replace ht2 := ht2.keep (X' := fun b => w.heap.size ≤ b) fV (fun b hb _ e => by have hb2 : w.heap.size + 2 ≤ b := hb; have e2 : b = w.heap.size + 1 := e; omega) (fun b hb _ => by have hb2 : w.heap.size + 2 ≤ b := hb; show w.heap.size ≤ b; omega)
    replace nW : Nw w W6 := Fr.trans nW fV (fun k hk => .inr (by omega))
    clear fV
    go_wp2
    refine bodyPost_ret (results_cell2 rfl _ (w.heap.size + 1) _ (thV ({ t with links := rmL t.links id } : Th) u1 u2 (.slice va nl vc) u4) rfl rfl (range_all hB1) Try.rowT Try.sizeT) rfl ?_
    exact ⟨_, _, _, _, by rw [hfin.out]; rfl, by rw [hfin.out]; exact ht2, nW⟩

set_option maxRecDepth 100000 in
set_option maxHeartbeats 6400000 in
theorem c_born {X : Nat → Prop} {t : Th} {uL uC uK uD : Value} (q : Int) (w : World) (h : ThAt X w t uL uC uK uD) (hd : DirT t) (hq0 : -9223372036854775808 ≤ q) (hq1 : q ≤ 9223372036854775807) :
    Calls Try.prog 20 #[thV t uL uC uK uD, .int .i64 q] w (BoP (bornT t q) w) := by
  obtain ⟨l1, l2, l3, l4⟩ := dir_sizes hd
  obtain ⟨W, hW⟩ : ∃ W, Hid (W = (w.alloc (.cells (thC t uL uC uK uD).toArray 34)).alloc (.cells (thC zeroT (.slice none 0 0) (.slice none 0 0) (.slice none 0 0) (.slice none 0 0)).toArray 34)) := ⟨_, rfl⟩
  have nW : Nw w W := by rw [hW.out]; exact nw_alloc (nw_alloc (nw_refl w) _) _
  have hB0 : W.heap[w.heap.size]? = some (.cells (thC t uL uC uK uD).toArray 34 (0, 0)) := by rw [hW.out]; exact heap_alloc2_old w _ _
  have hB1 : W.heap[w.heap.size + 1]? = some (.cells (thC zeroT (.slice none 0 0) (.slice none 0 0) (.slice none 0 0) (.slice none 0 0)).toArray 34 (0, 0)) := by rw [hW.out]; exact heap_alloc2_new w _ _
  have ht := (h.mono (X' := fun b => b < w.heap.size) (fun b _ hb => hb)).nw nW
  have hid := hd.right.id
  have hnx := hd.ok.next
  unfold idOk at hid
  replace hd : Hid _ := hd
  clear h
  have hN : w.heap.size + 2 ≤ W.heap.size := by have := heap_lt hB1; omega
  have hfc : Hid _ := fun w' (n : Nw W w') => c_fresh w' (ht.nw n) (by omega) hnx
  replace hid : Hid _ := hid
  replace hnx : Hid _ := hnx
  by_cases hf : (freshT t).2 = 0
  · obtain ⟨f1, f2, f3, f4⟩ := fresh_ok hd.out hf
    obtain ⟨n, hfn⟩ : ∃ n, freshT t = (n, 0) := ⟨(freshT t).1, Prod.ext rfl hf⟩
    rw [hfn] at f3 f4 hfc
    have f4 : idOk n := f4
    clear f3 hf
    replace f1 : Hid _ := f1
    replace f2 : Hid _ := f2
    replace f4 : Hid _ := f4
    obtain ⟨⟨t2, er⟩, hat⟩ : ∃ x, addT t n q = x := ⟨_, rfl⟩
    have hac : Hid _ := fun w' (n' : Nw W w') => c_add n q w' (ht.nw n') hd.out hq0 hq1
    rw [hat] at hac
    go_enter Try.func20, Try.ntmps20
    go_upto_region 1 with (first | (refine wpList_box_agg rfl 34 _ rfl (thV t uL uC uK uD) _ rfl rfl ?_) | (refine wpList_alloc_agg rfl 34 rfl _ Try.zeroTh ?_; rw [← hW.out]))
    clear hW
    have hcon : Hid _ := hfc.out W (nw_refl _)
    have hr0 := range_all hB0
    go_wp2_with (first | (refine wpList_load_as rfl 34 _ rfl (w.heap.size) 0 rfl (thV t uL uC uK uD) _ rfl hr0 Try.rowT Try.sizeT ?_) | (go_at_call 11; refine Calls.mono hcon.out ?_; rintro e W1 ⟨rfl, n1⟩; refine stop_here ?_))
    unfold Hid
    clear hcon hr0 hfc
    replace hB0 := (n1.block _ (heap_lt hB0) (fun h => h)).trans hB0
    replace hB1 := (n1.block _ (heap_lt hB1) (fun h => h)).trans hB1
    replace ht := ht.nw n1
    replace nW := nw_trans nW n1
    go_upto_region 4 with fail
    unfold ChP at hac
    have hcon : Hid _ := hac.out W1 n1
    have hr0 := range_all hB0
    go_wp2_with (first | (refine wpList_load_as rfl 34 _ rfl (w.heap.size) 0 rfl (thV t uL uC uK uD) _ rfl hr0 Try.rowT Try.sizeT ?_) | (go_at_call 18; refine Calls.mono hcon.out ?_; rintro e W2 ⟨u1, u2, u3, u4, rfl, hc, n2⟩; refine stop_here ?_))
    unfold Hid
    clear hcon hr0 hac ht
    replace hB0 := (n2.block _ (heap_lt hB0) (fun h => h)).trans hB0
    replace hB1 := (n2.block _ (heap_lt hB1) (fun h => h)).trans hB1
    replace nW := nw_trans nW n2
    replace hc := hc.mono (X' := fun b => w.heap.size + 2 ≤ b) (fun b hb _ => by have hb2 : _ ≤ b := hb; have := n1.size; show _ ≤ b; omega)
    obtain ⟨W3, hV⟩ : ∃ V, Hid (V = W2.setRow (w.heap.size) (thC t2 u1 u2 u3 u4).toArray) := ⟨_, rfl⟩
    have fV : Fr (fun k => k = w.heap.size) W2 W3 := by rw [hV.out]; exact (Fr.refl (fun k => k = w.heap.size) W2).setRow (.inl rfl) _
    have hnew : W3.heap[w.heap.size]? = some (.cells (thC t2 u1 u2 u3 u4).toArray 34 (0, 0)) := by rw [hV.out]; exact setRow_heap _ _ _ _ _ _ hB0
    go_wp2_with (refine wpList_store_all rfl 34 _ _ rfl (w.heap.size) rfl (thV t2 u1 u2 u3 u4) rfl (thC t2 u1 u2 u3 u4) rfl (thC t uL uC uK uD) 34 hB0 rfl (hc.one) Try.sizeT ?_; rw [← hV.out]; refine stop_here ?_)
    unfold Hid
    clear hV
    replace hB0 := hnew
    replace hB1 := (fV.block _ (heap_lt hB1) (by show ¬ _ = _; omega)).trans hB1
    clear hnew
    replace hc : ThAt (fun b => w.heap.size + 2 ≤ b) W3 t2 u1 u2 u3 u4 := hc.keep fV (fun b hb _ e => by have hb2 : w.heap.size + 2 ≤ b := hb; have e2 : b = w.heap.size := e; omega) (fun b hb _ => hb)
    replace nW : Nw w W3 := Fr.trans nW fV (fun k hk => .inr (by omega))
    clear fV
    go_upto_region 5 with fail
    by_cases he : er = 0
    · have hbe : (er != 0) = false := by simp [he]
      have har : (addT t n q).2 = 0 := by rw [hat]; exact he
      obtain ⟨_, _, a3, _⟩ := add_right hd.out f4.out har
      rw [hat] at a3
      have hnx2 : Hid (t2.next = t.next) := by unfold Hid; rw [show t2 = _ from a3]
      have hfin : Hid (bornT t q = ({ t2 with next := t2.next + 1 }, n, 0)) := by unfold Hid bornT; rw [hfn, if_pos rfl, if_pos har, hat, hnx2.out]
      have hwr : IntKind.i64.wrap (t2.next + 1) = t2.next + 1 := by have := hnx.out; have := f1.out; have := hnx2.out; unfold btw at *; rw [IntKind.wrap_i64]; omega
      clear a3 har hat he
      go_upto_region 7 with fail
      have g7 : W3.cell? ⟨w.heap.size, 7, none⟩ = some (.int .i64 t2.next) := cell_blk hB0 rfl
      have gf : ∀ k, W3.frozen? ⟨w.heap.size, k, none⟩ = false := fun k => free_blk hB0
      obtain ⟨W4, hV⟩ : ∃ V, Hid (V = W3.setCell ⟨w.heap.size, 7, none⟩ (.int .i64 (t2.next + 1))) := ⟨_, rfl⟩
      have fV : Fr (fun k => k = w.heap.size) W3 W4 := by rw [hV.out]; exact (Fr.refl (fun k => k = w.heap.size) W3).setCell (p := ⟨w.heap.size, 7, none⟩) (.inl rfl) _
      have hnew : W4.heap[w.heap.size]? = some (.cells (thC ({ t2 with next := t2.next + 1 } : Th) u1 u2 u3 u4).toArray 34 (0, 0)) := by rw [hV.out, blk_setCell hB0]; rfl
      go_upto_region 8 with fail
      rw [← hV.out]
      clear hV g7 gf hB0
      have hB0 := hnew
      replace hB1 := (fV.block _ (heap_lt hB1) (by show ¬ _ = _; omega)).trans hB1
      clear hnew
      replace hc : ThAt (fun b => w.heap.size + 2 ≤ b) W4 t2 u1 u2 u3 u4 := hc.keep fV (fun b hb _ e => by have hb2 : w.heap.size + 2 ≤ b := hb; have e2 : b = w.heap.size := e; omega) (fun b hb _ => hb)
      replace hc : ThAt (fun b => w.heap.size + 2 ≤ b) W4 ({ t2 with next := t2.next + 1 } : Th) u1 u2 u3 u4 := ⟨hc.l, hc.c, hc.k, hc.d⟩
      replace nW : Nw w W4 := Fr.trans nW fV (fun k hk => .inr (by omega))
      clear fV
      have hr0 := range_all hB0
      go_wp2_with (first | (refine wpList_load_as rfl 34 _ rfl (w.heap.size) 0 rfl (thV ({ t2 with next := t2.next + 1 } : Th) u1 u2 u3 u4) _ rfl hr0 Try.rowT Try.sizeT ?_; refine stop_here ?_))
      unfold Hid
      clear hr0
      obtain ⟨W5, hV⟩ : ∃ V, Hid (V = W4.setRow (w.heap.size + 1) (thC ({ t2 with next := t2.next + 1 } : Th) u1 u2 u3 u4).toArray) := ⟨_, rfl⟩
      have fV : Fr (fun k => k = w.heap.size + 1) W4 W5 := by rw [hV.out]; exact (Fr.refl (fun k => k = w.heap.size + 1) W4).setRow (.inl rfl) _
      have hnew : W5.heap[w.heap.size + 1]? = some (.cells (thC ({ t2 with next := t2.next + 1 } : Th) u1 u2 u3 u4).toArray 34 (0, 0)) := by rw [hV.out]; exact setRow_heap _ _ _ _ _ _ hB1
      go_wp2_with (refine wpList_store_all rfl 34 _ _ rfl (w.heap.size + 1) rfl (thV ({ t2 with next := t2.next + 1 } : Th) u1 u2 u3 u4) rfl (thC ({ t2 with next := t2.next + 1 } : Th) u1 u2 u3 u4) rfl (thC zeroT (.slice none 0 0) (.slice none 0 0) (.slice none 0 0) (.slice none 0 0)) 34 hB1 rfl (hc.one) Try.sizeT ?_; rw [← hV.out]; refine stop_here ?_)
      unfold Hid
      clear hV
      replace hB0 := (fV.block _ (heap_lt hB0) (by show ¬ _ = _; omega)).trans hB0
      replace hB1 := hnew
      clear hnew
      replace hc := hc.keep (X' := fun b => w.heap.size ≤ b) fV (fun b hb _ e => by have hb2 : w.heap.size + 2 ≤ b := hb; have e2 : b = w.heap.size + 1 := e; omega) (fun b hb _ => by have hb2 : w.heap.size + 2 ≤ b := hb; show w.heap.size ≤ b; omega)
      replace nW : Nw w W5 := Fr.trans nW fV (fun k hk => .inr (by omega))
      clear fV
      go_wp2
      refine bodyPost_ret (results_cellTT rfl _ (w.heap.size + 1) _ (thV ({ t2 with next := t2.next + 1 } : Th) u1 u2 u3 u4) rfl rfl (range_all hB1) Try.rowT Try.sizeT) rfl ?_
      exact ⟨_, _, _, _, by rw [hfin.out]; rfl, by rw [hfin.out]; exact hc, nW⟩
    · have hbe : (er != 0) = true := by simpa using he
      have har : ¬ (addT t n q).2 = 0 := by rw [hat]; exact he
      have ht2 : t2 = t := by have := add_err har; rw [hat] at this; exact this
      rw [ht2] at hc hB0
      have hfin : Hid (bornT t q = (t, 0, er)) := by unfold Hid bornT; rw [hfn, if_pos rfl, if_neg har, hat]
      clear har hat he ht2
      go_upto_region 6 with fail
      have hr0 := range_all hB0
      go_wp2_with (first | (refine wpList_load_as rfl 34 _ rfl (w.heap.size) 0 rfl (thV t u1 u2 u3 u4) _ rfl hr0 Try.rowT Try.sizeT ?_; refine stop_here ?_))
      unfold Hid
      clear hr0
      obtain ⟨W4, hV⟩ : ∃ V, Hid (V = W3.setRow (w.heap.size + 1) (thC t u1 u2 u3 u4).toArray) := ⟨_, rfl⟩
      have fV : Fr (fun k => k = w.heap.size + 1) W3 W4 := by rw [hV.out]; exact (Fr.refl (fun k => k = w.heap.size + 1) W3).setRow (.inl rfl) _
      have hnew : W4.heap[w.heap.size + 1]? = some (.cells (thC t u1 u2 u3 u4).toArray 34 (0, 0)) := by rw [hV.out]; exact setRow_heap _ _ _ _ _ _ hB1
      go_wp2_with (refine wpList_store_all rfl 34 _ _ rfl (w.heap.size + 1) rfl (thV t u1 u2 u3 u4) rfl (thC t u1 u2 u3 u4) rfl (thC zeroT (.slice none 0 0) (.slice none 0 0) (.slice none 0 0) (.slice none 0 0)) 34 hB1 rfl (hc.one) Try.sizeT ?_; rw [← hV.out]; refine stop_here ?_)
      unfold Hid
      clear hV
      replace hB0 := (fV.block _ (heap_lt hB0) (by show ¬ _ = _; omega)).trans hB0
      replace hB1 := hnew
      clear hnew
      replace hc := hc.keep (X' := fun b => w.heap.size ≤ b) fV (fun b hb _ e => by have hb2 : w.heap.size + 2 ≤ b := hb; have e2 : b = w.heap.size + 1 := e; omega) (fun b hb _ => by have hb2 : w.heap.size + 2 ≤ b := hb; show w.heap.size ≤ b; omega)
      replace nW : Nw w W4 := Fr.trans nW fV (fun k hk => .inr (by omega))
      clear fV
      go_wp2
      refine bodyPost_ret (results_cellTT rfl _ (w.heap.size + 1) _ (thV t u1 u2 u3 u4) rfl rfl (range_all hB1) Try.rowT Try.sizeT) rfl ?_
      exact ⟨_, _, _, _, by rw [hfin.out]; rfl, by rw [hfin.out]; exact hc, nW⟩
  · have hfe := fresh_err hf
    have hfin : Hid (bornT t q = (t, 0, 125)) := by unfold Hid bornT; rw [if_neg hf, hfe]
    rw [hfe] at hfc
    clear hf hfe
    go_enter Try.func20, Try.ntmps20
    go_upto_region 1 with (first | (refine wpList_box_agg rfl 34 _ rfl (thV t uL uC uK uD) _ rfl rfl ?_) | (refine wpList_alloc_agg rfl 34 rfl _ Try.zeroTh ?_; rw [← hW.out]))
    clear hW
    have hcon : Hid _ := hfc.out W (nw_refl _)
    have hr0 := range_all hB0
    go_wp2_with (first | (refine wpList_load_as rfl 34 _ rfl (w.heap.size) 0 rfl (thV t uL uC uK uD) _ rfl hr0 Try.rowT Try.sizeT ?_) | (go_at_call 11; refine Calls.mono hcon.out ?_; rintro e W1 ⟨rfl, n1⟩; refine stop_here ?_))
    unfold Hid
    clear hcon hr0 hfc
    replace hB0 := (n1.block _ (heap_lt hB0) (fun h => h)).trans hB0
    replace hB1 := (n1.block _ (heap_lt hB1) (fun h => h)).trans hB1
    replace ht := ht.nw n1
    replace nW := nw_trans nW n1
    go_upto_region 3 with fail
    have hcon : Hid _ := c_tcopy W1 ht l1 l2 l3 l4
    have hr0 := range_all hB0
    go_wp2_with (first | (refine wpList_load_as rfl 34 _ rfl (w.heap.size) 0 rfl (thV t uL uC uK uD) _ rfl hr0 Try.rowT Try.sizeT ?_) | (go_at_call 29; refine Calls.mono hcon.out ?_; rintro e W2 ⟨u1, u2, u3, u4, rfl, hc0, n2⟩; refine stop_here ?_))
    unfold Hid
    clear hcon hr0 l1 l2 l3 l4
    replace hB0 := (n2.block _ (heap_lt hB0) (fun h => h)).trans hB0
    replace hB1 := (n2.block _ (heap_lt hB1) (fun h => h)).trans hB1
    replace ht := ht.nw n2
    replace nW := nw_trans nW n2
    have hc := hc0.at.mono (X' := fun b => w.heap.size + 2 ≤ b) (fun b hb _ => by have hb2 : _ ≤ b := hb; have := n1.size; show _ ≤ b; omega)
    clear hc0 ht
    obtain ⟨W3, hV⟩ : ∃ V, Hid (V = W2.setRow (w.heap.size + 1) (thC t u1 u2 u3 u4).toArray) := ⟨_, rfl⟩
    have fV : Fr (fun k => k = w.heap.size + 1) W2 W3 := by rw [hV.out]; exact (Fr.refl (fun k => k = w.heap.size + 1) W2).setRow (.inl rfl) _
    have hnew : W3.heap[w.heap.size + 1]? = some (.cells (thC t u1 u2 u3 u4).toArray 34 (0, 0)) := by rw [hV.out]; exact setRow_heap _ _ _ _ _ _ hB1
    go_wp2_with (refine wpList_store_all rfl 34 _ _ rfl (w.heap.size + 1) rfl (thV t u1 u2 u3 u4) rfl (thC t u1 u2 u3 u4) rfl (thC zeroT (.slice none 0 0) (.slice none 0 0) (.slice none 0 0) (.slice none 0 0)) 34 hB1 rfl (hc.one) Try.sizeT ?_; rw [← hV.out]; refine stop_here ?_)
    unfold Hid
    clear hV
    replace hB0 := (fV.block _ (heap_lt hB0) (by show ¬ _ = _; omega)).trans hB0
    replace hB1 := hnew
    clear hnew
    replace hc := hc.keep (X' := fun b => w.heap.size ≤ b) fV (fun b hb _ e => by have hb2 : w.heap.size + 2 ≤ b := hb; have e2 : b = w.heap.size + 1 := e; omega) (fun b hb _ => by have hb2 : w.heap.size + 2 ≤ b := hb; show w.heap.size ≤ b; omega)
    replace nW : Nw w W3 := Fr.trans nW fV (fun k hk => .inr (by omega))
    clear fV
    go_wp2
    refine bodyPost_ret (results_cellTT rfl _ (w.heap.size + 1) _ (thV t u1 u2 u3 u4) rfl rfl (range_all hB1) Try.rowT Try.sizeT) rfl ?_
    exact ⟨_, _, _, _, by rw [hfin.out]; rfl, by rw [hfin.out]; exact hc, nW⟩
end Go.Proofs.Ytppfcdnhmieejaa
