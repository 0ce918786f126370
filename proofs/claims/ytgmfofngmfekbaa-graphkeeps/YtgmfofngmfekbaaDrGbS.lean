/-
  DrR, DrR2: in one text.
-/
import Derived.Test.YtgmfofngmfekbaaDrGaS
namespace Go.Proofs.Ytgmfofngmfekbaa
set_option linter.unusedVariables false
set_option linter.unusedSimpArgs false
set_option maxRecDepth 20000
open Go.RowKit

/-- What the document's change answers. -/
def RcP (X:Nat→Prop) (t:Th) (err:Int) (w:World) (e:Ending) (w':World):Prop:=∃ u1 u2 u3 u4,e = .returned (.tuple #[thV t u1 u2 u3 u4,.int .i64 err])∧ThAt (fun b=>X b∨w.heap.size ≤ b) w' t u1 u2 u3 u4∧Nw w w'

/-- An own row with one link more. -/
theorem row_more {S:Nat} {w9:World} {v:Value} {m:Nat} {es:List Cat} (x y:Int) (h:w9.ownsRow S 54 2 v (m + 1) (ccells es ++ [.int .u64 x,.int .i64 y])):w9.ownsRow S 54 2 v (m + 1) (ccells (es ++ [(x,y)])):=by
 rw [ccells_append,ccells_one]
 exact h

theorem csl_of_rowS {w:World} {S m:Nat} {v:Value} {es:List Cat} (h:w.ownsRow S 54 2 v m (ccells es)):CSl (fun b=>S ≤ b) w v es:=by
 have h1:=h.1
 rw [ccells_length] at h1
 have:m = es.length:=by omega
 subst this
 exact csl_of_own h

end Go.Proofs.Ytgmfofngmfekbaa

namespace Go.Proofs.Ytgmfofngmfekbaa
set_option linter.unusedVariables false
set_option linter.unusedSimpArgs false
set_option maxRecDepth 20000
open Go.RowKit

set_option maxRecDepth 100000 in
set_option maxHeartbeats 6400000 in
theorem c_rdrop {X:Nat→Prop} {t:Th} {uL uC uK uD:Value} (id:Int) (w:World) (h:ThAt X w t uL uC uK uD) (hd:DirT t) :
  Calls Try.prog 50 #[thV t uL uC uK uD,.int .u64 id] w (RcP X (dropT t id).1 (dropT t id).2 w):=by
 obtain ⟨ka,kc,hku,hk1,hk2⟩:=h.k.form
 subst hku
 obtain ⟨W,hW⟩:∃ W,Hid (W = (w.alloc (.cells (thC t uL uC (.slice ka t.links.length kc) uD).toArray 34)).alloc (.cells (thC zeroT (.slice none 0 0) (.slice none 0 0) (.slice none 0 0) (.slice none 0 0)).toArray 34)):=⟨_,rfl⟩
 have nW:Nw w W:=by rw [hW.out];exact nw_alloc (nw_alloc (nw_refl w) _) _
 have hB0:W.heap[w.heap.size]? = some (.cells (thC t uL uC (.slice ka t.links.length kc) uD).toArray 34 (0,0)):=by rw [hW.out];exact heap_alloc2_old w _ _
 have hB1:W.heap[w.heap.size + 1]? = some (.cells (thC zeroT (.slice none 0 0) (.slice none 0 0) (.slice none 0 0) (.slice none 0 0)).toArray 34 (0,0)):=by rw [hW.out];exact heap_alloc2_new w _ _
 have ht:=(h.mono (X':=fun b=>X b∧b < w.heap.size) (fun b hx hb=>⟨hx,hb⟩)).nw nW
 have hlk:=hd.ok.lk
 have h16:t.links.length ≤ 16:=hd.ok.len
 replace hd:Hid _:=hd
 clear h
 have hN:w.heap.size + 2 ≤ W.heap.size:=by have:=heap_lt hB1;omega
 go_enter Try.func50,Try.ntmps50
 go_upto_region 1 with (first | (refine wpList_box_agg rfl 34 _ rfl (thV t uL uC (.slice ka t.links.length kc) uD) _ rfl rfl ?_) | (refine wpList_alloc_agg rfl 34 rfl _ Try.zeroTh ?_;rw [← hW.out]))
 clear hW
 have hcon:Hid _:=c_rhas id W ht
 have hr0:=range_all hB0
 go_wp2_with (first | (refine wpList_load_as rfl 34 _ rfl (w.heap.size) 0 rfl (thV t uL uC (.slice ka t.links.length kc) uD) _ rfl hr0 Try.rowT Try.sizeT ?_) | (go_at_call 43;refine Calls.mono hcon.out ?_;rintro e W1 ⟨rfl,n1⟩;refine stop_here ?_))
 unfold Hid
 clear hcon hr0
 replace hB0:=(n1.block _ (heap_lt hB0) (fun h=>h)).trans hB0
 replace hB1:=(n1.block _ (heap_lt hB1) (fun h=>h)).trans hB1
 replace ht:=ht.nw n1
 replace nW:=nw_trans nW n1
 cases hh:hasB t.links id with
 | false =>
  have hfin:Hid ((dropT t id) = (t,124)):=by unfold Hid dropT;rw [if_neg (by rw [hh];exact Bool.noConfusion)]
  clear hh
  go_upto_region 2 with fail
  have hr0:=range_all hB0
  go_wp2_with (first | (refine wpList_load_as rfl 34 _ rfl (w.heap.size) 0 rfl (thV t uL uC (.slice ka t.links.length kc) uD) _ rfl hr0 Try.rowT Try.sizeT ?_;refine stop_here ?_))
  unfold Hid
  clear hr0
  obtain ⟨W2,hV⟩:∃ V,Hid (V = W1.setRow (w.heap.size + 1) (thC t uL uC (.slice ka t.links.length kc) uD).toArray):=⟨_,rfl⟩
  have fV:Fr (fun k=>k = w.heap.size + 1) W1 W2:=by rw [hV.out];exact (Fr.refl (fun k=>k = w.heap.size + 1) W1).setRow (.inl rfl) _
  have hnew:W2.heap[w.heap.size + 1]? = some (.cells (thC t uL uC (.slice ka t.links.length kc) uD).toArray 34 (0,0)):=by rw [hV.out];exact setRow_heap _ _ _ _ _ _ hB1
  refine wpList_store_all rfl 34 _ _ rfl (w.heap.size + 1) rfl (thV t uL uC (.slice ka t.links.length kc) uD) rfl (thC t uL uC (.slice ka t.links.length kc) uD) rfl (thC zeroT (.slice none 0 0) (.slice none 0 0) (.slice none 0 0) (.slice none 0 0)) 34 hB1 rfl (ht.one) Try.sizeT ?_
  rw [← hV.out]
  clear hV
  replace hB0:=(fV.block _ (heap_lt hB0) (by show ¬ _ = _;omega)).trans hB0
  replace hB1:=hnew
  clear hnew
  replace ht:=ht.keep (X':=fun b=>X b∨w.heap.size ≤ b) fV (fun b hb _ e=>by have hb2:b < w.heap.size:=hb.2;have e2:b = w.heap.size + 1:=e;omega) (fun b hb _=>.inl hb.1)
  replace nW:Nw w W2:=Fr.trans nW fV (fun k hk=>.inr (by omega))
  clear fV
  go_wp2
  refine bodyPost_ret (results_cell2 rfl _ (w.heap.size + 1) _ (thV t uL uC (.slice ka t.links.length kc) uD) rfl rfl (range_all hB1) Try.rowT Try.sizeT) rfl ?_
  exact ⟨_,_,_,_,by rw [hfin.out];rfl,by rw [hfin.out];exact ht,nW⟩
 | true =>
  have hfin:Hid ((dropT t id) = ({ t with links:=rmL t.links id },0)):=by unfold Hid dropT;rw [if_pos hh]
  obtain ⟨hp,hpe⟩:=(has_iff hlk id).1 hh
  have hflt:Hid (t.links.filter (fun c=>c.1 != id) = rmL t.links id):=rm_filter hlk hp hpe
  clear hh hp hpe
  go_upto_region 3 with fail
  obtain ⟨i0,hi0,hz0,hs0,hb0⟩:=info_parts3 Try.infoLk
  obtain ⟨S,hS⟩:∃ S,Hid (S = W1.heap.size):=⟨_,rfl⟩
  have hNS:w.heap.size + 2 ≤ S:=by have:=heap_lt hB1;rw [hS.out];omega
  have hrow0:(W1.alloc (.cells #[] 54)).ownsRow S 54 2 (.slice (some ⟨W1.heap.size,0,none⟩) 0 0) 0 (ccells ((t.links.take 0).filter (fun c=>c.1 != id))):=by rw [hS.out];exact ⟨rfl,.inr ⟨W1.heap.size,0,#[],rfl,Nat.le_refl _,heap_alloc_new W1 _,Nat.le_refl _,Nat.zero_le _,rfl,rfl⟩⟩
  have n0:Nw W1 (W1.alloc (.cells #[] 54)):=nw_alloc (nw_refl _) _
  go_wp2_with (refine wpList_buildSlice0 rfl 27 54 rfl Try.underlying27 (by kernel_rfl) ?_;refine stop_here ?_)
  unfold Hid
  obtain ⟨Y,hY⟩:∃ Y,Hid (Y = W1.alloc (.cells #[] 54)):=⟨_,rfl⟩
  rw [← hY.out] at hrow0 n0
  rw [← hY.out]
  clear hY
  have a8:Y.cell? ⟨w.heap.size,8,none⟩ = some (.slice ka t.links.length kc):=cell_blk ((n0.block _ (heap_lt hB0) (fun h=>h)).trans hB0) rfl
  go_wp2
  clear a8
  go_loopw [6,18] (fun uv kv wr=>∃ (k m:Nat) (u:Value),k ≤ t.links.length∧uv = u∧kv = .int .i64 k∧wr.ownsRow S 54 2 u m (ccells ((t.links.take k).filter (fun c=>c.1 != id)))∧m ≤ k∧Nw W1 wr) (fun _ kv _=>t.links.length - (intOf kv).toNat)
  case atStart=>exact ⟨0,0,_,Nat.zero_le _,rfl,rfl,hrow0,Nat.zero_le _,n0⟩
  case round =>
   clear hrow0 n0
   obtain ⟨k,m,uv,hk,rfl,rfl,hrow,hmk,hw⟩:=hrel
   obtain ⟨oa,oc,rfl⟩:=owns_form hrow
   by_cases hlt:k < t.links.length
   ·obtain ⟨p0,off,hka,_,d1,d2⟩:=(ht.k.nw hw).get k hlt
    subst hka
    have e1:Hid ((t.links.take (k + 1)).filter (fun c=>c.1 != id) = (t.links.take k).filter (fun c=>c.1 != id) ++ (if (t.links[k].1 != id) = true then [t.links[k]] else [])):=by unfold Hid;rw [List.take_succ_eq_append_getElem hlt,List.filter_append,List.filter_cons,List.filter_nil]
    generalize t.links[k] = c at *
    obtain ⟨Y2,hY2⟩:∃ Y2,Hid (Y2 = wr.alloc (.cells #[.int .u64 c.1,.int .i64 c.2] 54)):=⟨_,rfl⟩
    have n2:Nw wr Y2:=by rw [hY2.out];exact nw_alloc (nw_refl _) _
    have hC:Y2.heap[wr.heap.size]? = some (.cells #[.int .u64 c.1,.int .i64 c.2] 54 (0,0)):=by rw [hY2.out];exact heap_alloc_new _ _
    go_upto_region 7 with fail
    rw [← hY2.out]
    clear hY2 d1 d2
    replace hrow:=owns_nw hrow n2
    replace hw:=nw_trans hw n2
    generalize hB:wr.heap.size = B at *
    clear hB n2
    have c0:Y2.cell? ⟨B,0,none⟩ = some (.int .u64 c.1):=cell_blk hC rfl
    have c1:Y2.cell? ⟨B,1,none⟩ = some (.int .i64 c.2):=cell_blk hC rfl
    cases hc:(c.1 != id) with
    | true =>
     have ha:Hid ((t.links.take (k + 1)).filter (fun c=>c.1 != id) = (t.links.take k).filter (fun c=>c.1 != id) ++ [c]):=by unfold Hid;rw [e1.out,hc];rfl
     clear e1
     generalize (t.links.take k).filter (fun c=>c.1 != id) = es at *
     have hrA:=World.ownsRow.alloc hrow (.cells #[.int .u64 c.1,.int .i64 c.2] 54)
     have hsl:=sl_lit Y2 #[.int .u64 c.1,.int .i64 c.2] 54 1 (by omega)
     go_wp2_with (at_builtin;refine wpList_append_sl _ rfl _ _ 27 rfl S 54 i0 _ 2 16 Try.underlying27 hi0 hz0 hs0 hb0 rfl (by decide) _ _ _ rfl hrA _ _ 1 _ rfl hsl rfl ?d1 ?d2 ?d3 ?d4 ?_)
     case d1=>first | (intro u hu;simp at hu;rcases hu with rfl | rfl <;> rfl) | simp [Value.oneCell']
     case d2=>unfold maxLen;omega
     case d3=>omega
     case d4=>have:=hw.size;have:=hS.out;simp;omega
     intro v9 w9 hown9 hgrow9 hat9
     have m9:Nw W1 w9:=Fr.grown (nw_alloc hw _) hgrow9 (fun q hq=>.inr (by have:=(hrow.lt q hq).1;have:=hS.out;omega))
     have hrow2:=row_more c.1 c.2 hown9
     obtain ⟨a9,cp9,rfl⟩:=owns_form hown9
     replace hrow2:Hid _:=hrow2
     clear hown9 hgrow9 hat9 hrA hsl c0 c1 hC hrow
     go_wp2
     go_roundw
     case rel=>exact ⟨k + 1,_,_,by omega,rfl,by go_num,by rw [ha.out];exact hrow2.out,by omega,m9⟩
     case measure=>simp [intOf];omega
    | false =>
     have ha:Hid ((t.links.take (k + 1)).filter (fun c=>c.1 != id) = (t.links.take k).filter (fun c=>c.1 != id)):=by unfold Hid;rw [e1.out,hc];simp
     clear e1 hC
     replace hrow:Hid _:=hrow
     replace hw:Hid _:=hw
     go_wp2
     go_roundw
     case rel=>exact ⟨k + 1,_,_,by omega,rfl,by go_num,by rw [ha.out];exact hrow.out,by omega,hw.out⟩
     case measure=>simp [intOf];omega
   ·have hkn:k = t.links.length:=by omega
    rw [hkn,List.take_length,hflt.out] at hrow
    replace hkn:Hid _:=hkn
    have hkk:=csl_of_rowS hrow
    replace hrow:Hid _:=hrow
    have ht2:ThAt (fun b=>(X b∧b < w.heap.size)∨S ≤ b) wr { t with links:=rmL t.links id } uL uC (.slice oa m oc) uD:=⟨(ht.l.nw hw).mono (fun b hb _=>.inl hb),(ht.c.nw hw).mono (fun b hb _=>.inl hb),hkk.mono (fun b hb _=>.inr hb),(ht.d.nw hw).mono (fun b hb _=>.inl hb)⟩
    replace hB0:=(hw.block _ (heap_lt hB0) (fun h=>h)).trans hB0
    replace hB1:=(hw.block _ (heap_lt hB1) (fun h=>h)).trans hB1
    replace nW:=nw_trans nW hw
    have g8:wr.cell? ⟨w.heap.size,8,none⟩ = some (.slice ka t.links.length kc):=cell_blk hB0 rfl
    have gf:∀ k,wr.frozen? ⟨w.heap.size,k,none⟩ = false:=fun k=>free_blk hB0
    obtain ⟨W2,hV⟩:∃ V,Hid (V = wr.setCell ⟨w.heap.size,8,none⟩ (.slice oa m oc)):=⟨_,rfl⟩
    have fV:Fr (fun k=>k = w.heap.size) wr W2:=by rw [hV.out];exact (Fr.refl (fun k=>k = w.heap.size) wr).setCell (p:=⟨w.heap.size,8,none⟩) (.inl rfl) _
    have hnew:W2.heap[w.heap.size]? = some (.cells (thC ({ t with links:=rmL t.links id }:Th) uL uC (.slice oa m oc) uD).toArray 34 (0,0)):=by rw [hV.out,blk_setCell hB0];rfl
    go_upto_region 11 with fail
    rw [← hV.out]
    clear hV g8 gf hB0
    have hB0:=hnew
    replace hB1:=(fV.block _ (heap_lt hB1) (by show ¬ _ = _;omega)).trans hB1
    clear hnew
    replace ht2:=ht2.keep (X':=fun b=>(X b∧b < w.heap.size)∨S ≤ b) fV (fun b hb _ e=>by have hb2:(X b∧b < w.heap.size)∨S ≤ b:=hb;have e2:b = w.heap.size:=e;omega) (fun b hb _=>hb)
    replace nW:Nw w W2:=Fr.trans nW fV (fun k hk=>.inr (by omega))
    clear fV
    have hr0:=range_all hB0
    go_wp2_with (first | (refine wpList_load_as rfl 34 _ rfl (w.heap.size) 0 rfl (thV ({ t with links:=rmL t.links id }:Th) uL uC (.slice oa m oc) uD) _ rfl hr0 Try.rowT Try.sizeT ?_;refine stop_here ?_))
    unfold Hid
    clear hr0
    obtain ⟨W3,hV⟩:∃ V,Hid (V = W2.setRow (w.heap.size + 1) (thC ({ t with links:=rmL t.links id }:Th) uL uC (.slice oa m oc) uD).toArray):=⟨_,rfl⟩
    have fV:Fr (fun k=>k = w.heap.size + 1) W2 W3:=by rw [hV.out];exact (Fr.refl (fun k=>k = w.heap.size + 1) W2).setRow (.inl rfl) _
    have hnew:W3.heap[w.heap.size + 1]? = some (.cells (thC ({ t with links:=rmL t.links id }:Th) uL uC (.slice oa m oc) uD).toArray 34 (0,0)):=by rw [hV.out];exact setRow_heap _ _ _ _ _ _ hB1
    refine wpList_store_all rfl 34 _ _ rfl (w.heap.size + 1) rfl (thV ({ t with links:=rmL t.links id }:Th) uL uC (.slice oa m oc) uD) rfl (thC ({ t with links:=rmL t.links id }:Th) uL uC (.slice oa m oc) uD) rfl (thC zeroT (.slice none 0 0) (.slice none 0 0) (.slice none 0 0) (.slice none 0 0)) 34 hB1 rfl (ht2.one) Try.sizeT ?_
    rw [← hV.out]
    clear hV
    replace hB0:=(fV.block _ (heap_lt hB0) (by show ¬ _ = _;omega)).trans hB0
    replace hB1:=hnew
    clear hnew
    replace ht2:=ht2.keep (X':=fun b=>X b∨w.heap.size ≤ b) fV (fun b hb _ e=>by have hb2:(X b∧b < w.heap.size)∨S ≤ b:=hb;have e2:b = w.heap.size + 1:=e;omega) (fun b hb _=>by have hb2:(X b∧b < w.heap.size)∨S ≤ b:=hb;rcases hb2 with h | h;exact .inl h.1;exact .inr (by omega))
    replace nW:Nw w W3:=Fr.trans nW fV (fun k hk=>.inr (by omega))
    clear fV
    go_wp2
    refine bodyPost_ret (results_cell2 rfl _ (w.heap.size + 1) _ (thV ({ t with links:=rmL t.links id }:Th) uL uC (.slice oa m oc) uD) rfl rfl (range_all hB1) Try.rowT Try.sizeT) rfl ?_
    exact ⟨_,_,_,_,by rw [hfin.out];rfl,by rw [hfin.out];exact ht2,nW⟩

end Go.Proofs.Ytgmfofngmfekbaa
