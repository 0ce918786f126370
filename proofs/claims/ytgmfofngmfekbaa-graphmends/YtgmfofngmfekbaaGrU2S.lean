/-
  The document's Mend.
-/
import Derived.Test.YtgmfofngmfekbaaGrGsS
import Derived.Test.YtgmfofngmfekbaaGrGeS
import Derived.Test.YtgmfofngmfekbaaLibS
namespace Go.Proofs.Ytgmfofngmfekbaa
set_option linter.unusedVariables false
set_option linter.unusedSimpArgs false
set_option maxRecDepth 20000
open Go.RowKit

/-- The block of a row that begins with these bools. -/
def BoolT (w:World) (g:Nat) (bs:List Bool) (tl:List Value):Prop:=w.heap[g]? = some (.cells (bs.map Value.bool ++ tl).toArray 4 (0,0))
theorem BoolT.fr {w w':World} {g:Nat} {bs:List Bool} {tl:List Value} (h:BoolT w g bs tl) {S:Nat→Prop} (n:Fr S w w') (hS:¬ S g):BoolT w' g bs tl:=(n.block g (heap_lt h) hS).trans h
theorem BoolT.nw {w w':World} {g:Nat} {bs:List Bool} {tl:List Value} (h:BoolT w g bs tl) (n:Nw w w'):BoolT w' g bs tl:=h.fr n (fun h=>h)
theorem BoolT.get {w:World} {g:Nat} {bs:List Bool} {tl:List Value} (h:BoolT w g bs tl) {i:Nat} (hi:i < bs.length):w.cell? ⟨g,i,none⟩ = some (.bool (bs.getD i false)):=cell_blk h (by
 rw [List.getElem?_toArray,List.getElem?_append_left (by rw [List.length_map];exact hi),List.getElem?_map,List.getElem?_eq_getElem hi,List.getD_eq_getElem?_getD,List.getElem?_eq_getElem hi]
 rfl)
theorem BoolT.set {w:World} {g:Nat} {bs:List Bool} {tl:List Value} (h:BoolT w g bs tl) {i:Nat} (hi:i < bs.length) (b:Bool):BoolT (w.setCell ⟨g,i,none⟩ (.bool b)) g (bs.set i b) tl:=by
 have h1:=blk_setCell (i:=i) (v:=.bool b) h
 unfold BoolT
 rw [h1]
 congr 2
 apply Array.toList_inj.1
 rw [Array.toList_setIfInBounds,List.set_append_left _ _ (by rw [List.length_map];exact hi),List.map_set]
theorem bool_row {S:Nat} {w:World} {v:Value} {bs:List Bool} (h:w.ownsRow S 4 1 v bs.length (bs.map Value.bool)) (hne:0 < bs.length):∃ g cap tl,v = .slice (some ⟨g,0,none⟩) bs.length cap∧S ≤ g∧BoolT w g bs tl:=by
 obtain ⟨hl,h1 | ⟨g,cap,cur,hv,h2,h3,h4,h5,h6,h7⟩⟩:=h
 ·have:=h1.2;omega
 ·refine ⟨g,cap,cur.toList.drop (bs.length * 1),hv,h2,?_⟩
  unfold BoolT
  rw [← h7,List.take_append_drop,Array.toArray_toList]
  exact h3
theorem seed_step (k:Nat):seedB (k + 1) = seedB k ++ [(k:Int) == 0]:=by
 unfold seedB
 rw [List.range_succ,List.map_append]
 congr 1
 simp only [List.map_cons,List.map_nil,List.cons.injEq,and_true]
 rw [Bool.eq_iff_iff,beq_iff_eq,beq_iff_eq]
 omega
theorem pick_step (p:Cat→Bool) (ls:List Cat) {j:Nat} (h:j < ls.length):(ls.take (j + 1)).filter p = (ls.take j).filter p ++ (if p ls[j] = true then [ls[j]] else []):=by
 rw [List.take_succ_eq_append_getElem h,List.filter_append]
 congr 1
 simp only [List.filter_cons,List.filter_nil]
theorem key_given {a b:List TC} (h:a.map keyT = b.map keyT) (d:Int):givenX a d = givenX b d:=by
 have e:∀ l:List TC,l.map kT = (l.map keyT).map (fun p=>cT { zeroT with id:=p.1,kind:=p.2.1,quota:=p.2.2 }):=fun l=>by rw [List.map_map];rfl
 rw [← given_map kT_keep a,← given_map kT_keep b,e,e,h]
theorem mixR_key (os:List TC) (j:Nat):(mixR os j).map keyT = os.map keyT:=by
 unfold mixR
 have e:(keyT ∘ raiseF os) = keyT:=by
  funext x
  show keyT (raiseF os x) = keyT x
  unfold keyT
  rw [(raise_keep os).id,(raise_keep os).kind,(raise_keep os).quota]
 rw [List.map_append,List.map_map,e,← List.map_append,List.take_append_drop]
theorem raise_no {os:List TC} {x:TC} (h:¬ (x.t.kind = 1∧x.t.next < (givenX os x.t.id:Int))):raiseF os x = x:=by unfold raiseF;rw [if_neg h]
theorem raise_yes {os:List TC} {x:TC} (h:x.t.kind = 1∧x.t.next < (givenX os x.t.id:Int)):(raiseF os x).t.next = (givenX os x.t.id:Int):=by unfold raiseF;rw [if_pos h]
theorem mixR_stay {os:List TC} {j:Nat} (h:j < os.length) (hr:raiseF os os[j] = os[j]):mixR os (j + 1) = mixR os j:=by
 obtain ⟨h1,h2⟩:=mixR_at h
 rw [← mixR_step h,hr,← h2,List.set_getElem_self]
theorem mark_stay {R:Nat→Nat→Bool} {i j:Nat} {s:List Bool} (h:¬ ((markI R i j s).getD i false = true∧R i j = true)):markI R i (j + 1) s = markI R i j s:=by
 show (if ((markI R i j s).getD i false && R i j) = true then (markI R i j s).set j true else markI R i j s) = _
 rw [if_neg (by rw [Bool.and_eq_true];exact h)]
theorem mark_set {R:Nat→Nat→Bool} {i j:Nat} {s:List Bool} (h:(markI R i j s).getD i false = true) (hr:R i j = true):markI R i (j + 1) s = (markI R i j s).set j true:=by
 show (if ((markI R i j s).getD i false && R i j) = true then (markI R i j s).set j true else markI R i j s) = _
 rw [if_pos (by rw [h,hr];rfl)]

set_option maxRecDepth 100000 in
set_option maxHeartbeats 25600000 in
theorem c_rgmend {X Y:Nat→Prop} {v:Value} {xs:List TC} (w:World) (h:TSl X Y w v xs) (hM:MendX xs) (hlen:xs.length ≤ 100000) :
  Calls Try.prog 27 #[v] w fun e w'=>∃ u zs,e = .returned u∧TSl (fun _=>True) (fun _=>True) w' u zs∧zs.map (·.t) = (mendX xs).map (·.t)∧Nw w w':=by
 replace h:=h.mono (X':=fun b=>b < w.heap.size) (Y':=fun b=>b < w.heap.size) (fun _ _ hl=>hl) (fun _ _ hl=>hl)
 replace hM:Hid _:=hM
 obtain ⟨ao,cap,rfl,hc1,hc2⟩:=h.form
 obtain ⟨N,hN⟩:∃ N,xs.length = N:=⟨_,rfl⟩
 rw [hN] at h hc1 hlen ⊢
 replace hN:Hid _:=hN
 replace h:Hid _:=h
 obtain ⟨S,hS⟩:∃ S,Hid (S = w.heap.size):=⟨_,rfl⟩
 have hrow0:=grow_new w (fun _=>True)
 have n0:Nw w (w.alloc (.cells #[] 34)):=nw_alloc (nw_refl _) _
 obtain ⟨Y,hY⟩:∃ Y,Hid (Y = w.alloc (.cells #[] 34)):=⟨_,rfl⟩
 rw [← hY.out,← hS.out] at hrow0
 rw [← hY.out] at n0
 go_enter Try.func27,Try.ntmps27
 go_wp2_with (refine wpList_buildSlice0 rfl 22 34 rfl Try.underTs Try.sizeSome ?_;rw [← hY.out];refine stop_here ?_)
 unfold Hid
 clear hY
 rw [← hS.out]
 go_wp2
 go_loopw [3,23] (fun uv kv wr=>∃ (k:Nat) (cs:List TC),k ≤ N∧kv = .int .i64 k∧GRow S (fun _=>True) wr uv cs∧Hid (cs.map (·.t) = ((xs.take k).map (cutF xs)).map (·.t))∧Nw w wr) (fun _ kv _=>N - (intOf kv).toNat)
 case atStart=>exact ⟨0,[],Nat.zero_le _,rfl,hrow0,rfl,n0⟩
 case round =>
  clear hrow0 n0
  obtain ⟨k,cs,hk,rfl,hrow,hcs,nW⟩:=hrel
  obtain ⟨oa,oc,e1⟩:=hrow.form
  subst e1
  have hcl:cs.length = k:=by have h9:=congrArg List.length hcs.out;have h8:=hN.out;simp at h9;omega
  by_cases hltN:k < N
  ·obtain ⟨m,hyl⟩:∃ m,cs.length = m:=⟨_,rfl⟩
   rw [hyl] at hrow hcl ⊢
   have hkl:Hid (m ≤ 1000000):=by unfold Hid;omega
   replace hcl:Hid _:=hcl
   replace hyl:Hid _:=hyl
   obtain ⟨R1,hR1⟩:∃ R,R = wr:=⟨_,rfl⟩
   subst hR1
   have hlt:k < xs.length:=by have:=hN.out;omega
   have hst:Hid (((xs.take (k + 1)).map (cutF xs)).map (·.t) = ((xs.take k).map (cutF xs)).map (·.t) ++ [(cutF xs xs[k]).t]):=by unfold Hid;rw [List.take_succ_eq_append_getElem hlt,List.map_append,List.map_append];rfl
   have hrx:Hid (RightT xs[k].t):=hM.out.each k hlt
   have hs:=h.out.nw nW
   have nO:Hid _:=nW
   have hw1:Hid (w.heap.size ≤ R1.heap.size):=Fr.size nW
   clear nW
   have nW:=nw_refl R1
   have hob:Hid (∀ b,(Value.slice oa m oc).ownBlock = some b→S ≤ b∧b < R1.heap.size):=fun b hb=>hrow.own.lt b hb
   have hRA:Hid (∀ s:World,s = R1→s.heap.size ≤ R1.heap.size):=fun s hs=>by subst hs;exact Nat.le_refl _
   obtain ⟨q1,off1,hva,_,hrr,hat1⟩:=(hs).get k hlt
   first | subst hva | (simp only [Option.some.injEq,Addr.mk.injEq,and_true] at hva;obtain ⟨rfl,rfl⟩:=hva)
   generalize xs[k] = x at *
   unfold tcC at hrr
   obtain ⟨Y1,hY⟩:∃ Y,Hid (Y = R1.alloc (.cells (thC zeroT (.slice none 0 0) (.slice none 0 0) (.slice none 0 0) (.slice none 0 0)).toArray 34)):=⟨_,rfl⟩
   have hV1:Y1.heap[R1.heap.size]? = some (.cells (thC zeroT (.slice none 0 0) (.slice none 0 0) (.slice none 0 0) (.slice none 0 0)).toArray 34 (0,0)):=by rw [hY.out];exact heap_alloc_new _ _
   obtain ⟨V1,hV⟩:∃ V,Hid (V = Y1.setRow R1.heap.size (thC x.t x.l x.c x.k x.d).toArray):=⟨_,rfl⟩
   have nV1:Nw R1 V1:=by rw [hV.out,hY.out];exact Fr.setRow (nw_alloc (nw_refl _) _) (.inr (Nat.le_refl _)) _
   have hnew:V1.heap[R1.heap.size]? = some (.cells (thC x.t x.l x.c x.k x.d).toArray 34 (0,0)):=by rw [hV.out];exact setRow_heap _ _ _ _ _ _ hV1
   go_wp2_with (first | (refine wpList_load_as rfl 34 _ rfl q1 (off1 + k * 26) rfl (thV x.t x.l x.c x.k x.d) _ rfl hrr Try.rowT Try.sizeT ?_) | (refine wpList_alloc_agg rfl 34 rfl _ Try.zeroTh ?_;rw [← hY.out];refine stop_here ?_))
   unfold Hid
   refine wpList_store_all rfl 34 _ _ rfl (R1.heap.size) rfl (thV x.t x.l x.c x.k x.d) rfl (thC x.t x.l x.c x.k x.d) rfl (thC zeroT (.slice none 0 0) (.slice none 0 0) (.slice none 0 0) (.slice none 0 0)) 34 hV1 rfl (ThAt.one hat1) Try.sizeT ?_
   rw [← hV.out]
   clear hV hY hV1 hrr
   replace nW:=nw_trans nW nV1
   replace hat1:=hat1.nw nV1
   have hV1:=hnew
   clear hnew
   have hlA1:R1.heap.size < V1.heap.size:=heap_lt hV1
   generalize R1.heap.size = A1 at *
   clear hs
   obtain ⟨ka,kc,hku,_,_⟩:=hat1.k.form
   replace hku:Hid _:=hku
   have hat2:ThAt (fun b=>b < w.heap.size) V1 x.t x.l x.c (.slice ka x.t.links.length kc) x.d:=by rw [← hku.out];exact hat1
   rw [hku.out] at hV1
   clear hat1 hku
   obtain ⟨L,hL⟩:∃ L,x.t.links.length = L:=⟨_,rfl⟩
   have hL6:Hid (L ≤ 16):=by have:=right_len hrx.out;unfold Hid;omega
   rw [hL] at hat2 hV1
   replace hL:Hid _:=hL
   obtain ⟨S2,hS2⟩:∃ S,Hid (S = V1.heap.size):=⟨_,rfl⟩
   obtain ⟨Z,hZ⟩:∃ Z,Hid (Z = V1.alloc (.cells #[] 54)):=⟨_,rfl⟩
   have nZ:Nw V1 Z:=by rw [hZ.out];exact nw_alloc (nw_refl _) _
   have hlk0:Z.ownsRow S2 54 2 (.slice (some ⟨V1.heap.size,0,none⟩) 0 0) 0 (ccells []):=by rw [hS2.out,hZ.out];exact ⟨rfl,.inr ⟨V1.heap.size,0,#[],rfl,Nat.le_refl _,heap_alloc_new V1 _,Nat.le_refl _,Nat.zero_le _,rfl,rfl⟩⟩
   have hA2:Hid (A1 < S2):=by unfold Hid;rw [hS2.out];exact hlA1
   obtain ⟨i0,hi0,hz0,hs0,hb0⟩:=info_parts3 Try.infoLk
   have c8:Z.cell? ⟨A1,8,none⟩ = some (.slice ka L kc):=cell_blk ((nZ.block _ (heap_lt hV1) (fun h=>h)).trans hV1) rfl
   go_wp2_with (refine wpList_buildSlice0 rfl 27 54 rfl Try.underlying27 (by kernel_rfl) ?_;rw [← hZ.out];refine stop_here ?_)
   unfold Hid
   clear hZ
   rw [← hS2.out] at hlk0 ⊢
   go_wp2
   clear c8
   go_loopw [6,31] (fun lv jv wr=>∃ j:Nat,j ≤ L∧jv = .int .i64 j∧wr.ownsRow S2 54 2 lv ((x.t.links.take j).filter (fun c=>fitsX xs x.t.id c)).length (ccells ((x.t.links.take j).filter (fun c=>fitsX xs x.t.id c)))∧Nw V1 wr) (fun _ jv _=>L - (intOf jv).toNat)
   case atStart=>exact ⟨0,Nat.zero_le _,rfl,hlk0,nZ⟩
   case round =>
    clear hlk0 nZ
    obtain ⟨j,hj,rfl,hlk,nV⟩:=hrel
    obtain ⟨la,lc,e2⟩:=owns_form hlk
    subst e2
    by_cases hltL:j < L
    ·have hjl:j < x.t.links.length:=by have:=hL.out;omega
     have hst2:Hid _:=pick_step (fun c=>fitsX xs x.t.id c) x.t.links hjl
     have hcr:=right_links hrx.out _ (List.getElem_mem hjl)
     obtain ⟨q2,off2,hva2,_,b1,b2⟩:=(hat2.k.nw nV).get j hjl
     subst hva2
     have hfl:((x.t.links.take j).filter (fun c=>fitsX xs x.t.id c)).length ≤ j:=Nat.le_trans (List.length_filter_le _ _) (by rw [List.length_take];omega)
     generalize x.t.links[j] = c at *
     clear hjl
     generalize (x.t.links.take j).filter (fun c=>fitsX xs x.t.id c) = es at *
     generalize hG:(x.t.links.take (j + 1)).filter (fun c=>fitsX xs x.t.id c) = es2 at *
     replace hG:Hid _:=hG
     obtain ⟨Y2,hY2⟩:∃ Y,Hid (Y = wr.alloc (.cells #[.int .u64 c.1,.int .i64 c.2] 54)):=⟨_,rfl⟩
     have n2:Nw wr Y2:=by rw [hY2.out];exact nw_alloc (nw_refl _) _
     have hC:Y2.heap[wr.heap.size]? = some (.cells #[.int .u64 c.1,.int .i64 c.2] 54 (0,0)):=by rw [hY2.out];exact heap_alloc_new _ _
     go_upto_region 9 with fail
     rw [← hY2.out]
     clear hY2 b1 b2
     generalize wr.heap.size = B at *
     have nV2:=nw_trans nV n2
     replace hlk:=owns_nw hlk n2
     clear nV n2
     have c0:Y2.cell? ⟨B,0,none⟩ = some (.int .u64 c.1):=cell_blk hC rfl
     have c1:Y2.cell? ⟨B,1,none⟩ = some (.int .i64 c.2):=cell_blk hC rfl
     have hV1b:=(nV2.block _ (heap_lt hV1) (fun h=>h)).trans hV1
     have hr1:=range_all hV1b
     have hsY:=h.out.nw (nw_trans nO.out (nw_trans nW nV2))
     have hcf:Hid _:=c_rfits c Y2 hsY (hat2.nw nV2) ⟨by have:=hcr.1;omega,by have:=hcr.2;omega⟩
     clear hsY hcr
     go_wp2_with (first | (refine wpList_load_as rfl 34 _ rfl (A1) 0 rfl (thV x.t x.l x.c (.slice (some ⟨q2,off2,none⟩) L kc) x.d) _ rfl hr1 Try.rowT Try.sizeT ?_) | (go_at_call 36;refine Calls.mono hcf.out ?_;rintro e Y3 ⟨rfl,n3⟩;refine stop_here ?_))
     unfold Hid
     clear hcf hr1 hV1b c0 c1
     replace hC:=(n3.block _ (heap_lt hC) (fun h=>h)).trans hC
     have nV3:=nw_trans nV2 n3
     replace hlk:=owns_nw hlk n3
     clear nV2 n3
     have c0:Y3.cell? ⟨B,0,none⟩ = some (.int .u64 c.1):=cell_blk hC rfl
     have c1:Y3.cell? ⟨B,1,none⟩ = some (.int .i64 c.2):=cell_blk hC rfl
     clear hC
     obtain ⟨F,hF⟩:∃ F,fitsX xs x.t.id c = F:=⟨_,rfl⟩
     rw [hF] at hst2 ⊢
     clear hF
     cases F with
     | true =>
      have ha:Hid (es2 = es ++ [c]):=by unfold Hid;rw [hst2.out,if_pos rfl]
      clear hst2
      have hrA:=World.ownsRow.alloc hlk (.cells #[.int .u64 c.1,.int .i64 c.2] 54)
      have hsl:=sl_lit Y3 #[.int .u64 c.1,.int .i64 c.2] 54 1 (by omega)
      go_wp2_with (at_builtin;refine wpList_append_sl _ rfl _ _ 27 rfl S2 54 i0 _ 2 16 Try.underlying27 hi0 hz0 hs0 hb0 rfl (by decide) _ _ _ rfl hrA _ _ 1 _ rfl hsl rfl ?d1 ?d2 ?d3 ?d4 ?_)
      case d1=>first | (intro u hu;simp at hu;rcases hu with rfl | rfl <;> rfl) | simp [Value.oneCell']
      case d2=>have:=hL6.out;unfold maxLen;omega
      case d3=>have:=hL6.out;omega
      case d4=>have:=nV3.size;have:=hS2.out;first | omega | (simp;omega)
      intro v9 w9 hown9 hgrow9 hat9
      have m9:Hid (Nw V1 w9):=Fr.grown (nw_alloc nV3 _) hgrow9 (fun q hq=>.inr (by have:=(hlk.lt q hq).1;have:=hS2.out;omega))
      have hrow2:=row_more c.1 c.2 hown9
      obtain ⟨a9,cp9,e9⟩:=owns_form hown9
      subst e9
      have hrow3:Hid (w9.ownsRow S2 54 2 (.slice a9 (es.length + 1) cp9) es2.length (ccells es2)):=by unfold Hid;rw [ha.out,List.length_append];exact hrow2
      clear hrow2 hown9 hgrow9 hat9 hrA hsl c0 c1 hlk nV3
      have h6:=hL6.out
      go_wp2
      go_roundw
      case rel=>exact ⟨j + 1,by omega,by go_num,by rw [hG.out];exact hrow3.out,m9.out⟩
      case measure=>simp [intOf];omega
     | false =>
      have ha:Hid (es2 = es):=by unfold Hid;rw [hst2.out,if_neg Bool.noConfusion,List.append_nil]
      clear hst2 c0 c1
      replace hlk:Hid _:=hlk
      have h6:=hL6.out
      go_wp2
      go_roundw
      case rel=>exact ⟨j + 1,by omega,by go_num,by rw [hG.out,ha.out];exact hlk.out,nV3⟩
      case measure=>simp [intOf];omega
    ·obtain rfl:j = L:=by omega
     have hfull:(x.t.links.take j).filter (fun c=>fitsX xs x.t.id c) = (cutF xs x).t.links:=by rw [← hL.out,List.take_length];rfl
     rw [hfull] at hlk ⊢
     clear hfull
     obtain ⟨fl,hfl⟩:∃ fl,(cutF xs x).t.links = fl:=⟨_,rfl⟩
     have hcut:Hid ((cutF xs x).t = ({ x.t with links:=fl }:Th)):=by unfold Hid;rw [← hfl];rfl
     rw [hfl] at hlk ⊢
     clear hfl
     obtain ⟨K,hK⟩:∃ K,fl.length = K:=⟨_,rfl⟩
     have hkk:=csl_of_rowS hlk
     rw [hK] at hkk ⊢
     replace hK:Hid _:=hK
     clear hlk
     have hV1w:=(nV.block _ (heap_lt hV1) (fun h=>h)).trans hV1
     have c8:wr.cell? ⟨A1,8,none⟩ = some (.slice ka j kc):=cell_blk hV1w rfl
     have hfz:∀ i,wr.frozen? ⟨A1,i,none⟩ = false:=fun i=>free_blk hV1w
     obtain ⟨W9,hW9⟩:∃ U,Hid (U = wr.setCell ⟨A1,8,none⟩ (.slice la K lc)):=⟨_,rfl⟩
     have f9:Fr (fun b=>b = A1) wr W9:=by rw [hW9.out];exact Fr.setCell (p:=⟨A1,8,none⟩) (Fr.refl (fun b=>b = A1) wr) (.inl rfl) _
     have hV9:W9.heap[A1]? = some (.cells (thC ({ x.t with links:=fl }:Th) x.l x.c (.slice la K lc) x.d).toArray 34 (0,0)):=by rw [hW9.out,blk_setCell hV1w];rfl
     have n19:Nw R1 W9:=Fr.trans (nw_trans nW nV) f9 (fun b hb=>.inr (by have hb2:b = A1:=hb;have:=hRA.out R1 rfl;omega))
     have hrowW:=hrow.nw n19
     have hnw:=nw_trans nO.out n19
     have hc1:∀ b,b < w.heap.size→b ≠ A1∧¬ (Value.slice oa m oc).ownBlock = some b:=fun b hb=>⟨by have:=hw1.out;omega,fun e=>by have:=(hob.out b e).1;have:=hS.out;omega⟩
     have hatw:=hat2.nw nV
     have hyA:TC.At (fun b=>True∧¬ (Value.slice oa m oc).ownBlock = some b) W9 ⟨{ x.t with links:=fl },x.l,x.c,.slice la K lc,x.d⟩:=⟨hatw.l.keep f9 (fun b hb _=>(hc1 b hb).1) (fun b hb _=>⟨trivial,(hc1 b hb).2⟩),hatw.c.keep f9 (fun b hb _=>(hc1 b hb).1) (fun b hb _=>⟨trivial,(hc1 b hb).2⟩),hkk.keep f9 (fun b hb _ e=>by have e2:b = A1:=e;have hb2:S2 ≤ b:=hb;have:=hA2.out;omega) (fun b hb _=>⟨trivial,fun e=>by have:=(hob.out b e).2;have hb2:S2 ≤ b:=hb;have:=hA2.out;omega⟩),hatw.d.keep f9 (fun b hb _=>(hc1 b hb).1) (fun b hb _=>⟨trivial,(hc1 b hb).2⟩)⟩
     clear hatw hc1 hkk f9 hV1w hV1 hat2 hrow n19 nV nW
     go_upto_region 13 with fail
     rw [← hW9.out]
     clear hW9 c8 hfz
     replace hyl:=hyl.out
     obtain ⟨i0,hi0,hz0,hs0,hb0⟩:=info_parts3 Try.infoTb
     obtain ⟨cs,hcs⟩:∃ cs,(thC ({ x.t with links:=fl }:Th) x.l x.c (.slice la K lc) x.d) = cs:=⟨_,rfl⟩
     obtain ⟨vv,hvv⟩:∃ vv,(thV ({ x.t with links:=fl }:Th) x.l x.c (.slice la K lc) x.d) = vv:=⟨_,rfl⟩
     have hv2:vv = .agg cs.toArray:=by rw [← hvv,← hcs];rfl
     have h26:cs.length = 26:=by rw [← hcs];rfl
     have hone:∀ v ∈ cs,v.oneCell' = true:=by rw [← hcs];exact tc_one hyA
     have hrA:=owns_nw (GRow.own hrowW) (nw_alloc (nw_refl W9) (.cells cs.toArray 34))
     have hsl:=sl_lit W9 cs.toArray 34 1 (by omega)
     rw [List.toList_toArray] at hsl
     have hz26:(Try.prog.info? 34).map (·.size) = some cs.length:=by rw [h26];exact Try.sizeT
     have hp26:0 < cs.length:=by omega
     have hq26:cs.length ≤ 1000000:=by omega
     have hl26:cs.length = 1 * 26:=by omega
     have hrl:W9.rangeAt A1 0 cs:=by rw [← hcs];exact range_all hV9
     replace hvv:Hid _:=hvv
     replace hcs:Hid _:=hcs
     go_wp2_with (first | (refine wpList_load_as rfl 34 _ rfl (A1) 0 rfl vv cs hv2 hrl Try.rowT hz26 ?_) | (refine wpList_buildSlice1 rfl 22 34 _ rfl vv rfl cs hv2 Try.underTs hz26 Try.zeroSome hp26 hq26 ?_) | (at_builtin;refine wpList_append_sl _ rfl _ _ 22 rfl S 34 i0 _ 26 272 Try.underTs hi0 hz0 hs0 hb0 rfl (by decide) _ _ _ rfl hrA _ _ 1 _ rfl hsl hl26 ?d1p ?d2p ?d3p ?d4p ?_))
     case d1p=>exact hone
     case d2p=>have:=hkl.out;unfold maxLen;omega
     case d3p=>have:=hkl.out;omega
     case d4p=>have h9:=hnw.size;have h8:=hS.out;first | (rw [alloc_size];omega) | omega
     intro v9 w9 hown9 hgrow9 hat9
     have hcs2:=hcs.out
     subst hcs2
     have hvv2:=hvv.out
     subst hvv2
     have hrow9:=GRow.push (y:=⟨{ x.t with links:=fl },x.l,x.c,.slice la K lc,x.d⟩) (v9:=v9) (w9:=w9) hrowW hyA (by rw [hyl];exact hown9) hgrow9 hat9
     have m9:Nw w w9:=GRow.fr hrowW hnw (by have:=hS.out;omega) hgrow9
     obtain ⟨a9,cp9,rfl⟩:=owns_form hown9
     clear hown9 hgrow9 hat9 hrA hsl hone hz26 hp26 hq26 hl26 h26 hv2 hvv hcs hi0 hz0 hs0 hb0 hrl
     have hcs9:Hid ((cs ++ [(⟨{ x.t with links:=fl },x.l,x.c,.slice la K lc,x.d⟩:TC)]).map (·.t) = ((xs.take (k + 1)).map (cutF xs)).map (·.t)):=by unfold Hid;rw [hst.out,List.map_append,hcs.out,hcut.out];rfl
     clear hst hcs hcut hyA hrowW hnw hV9 hyl
     replace hrow9:Hid _:=hrow9
     replace m9:Hid _:=m9
     go_wp2
     go_roundw
     case rel=>exact ⟨k + 1,_,by omega,by go_num,hrow9.out,hcs9,m9.out⟩
     case measure=>simp [intOf];omega
  ·obtain rfl:k = N:=by omega
   have hcc:Hid (cs.map (·.t) = (cutX xs).map (·.t)):=by unfold Hid;rw [hcs.out,← hN.out,List.take_length];rfl
   obtain ⟨W0,hW0⟩:∃ R,R = wr:=⟨_,rfl⟩
   subst hW0
   have hs:=hrow.sl.mono (X':=fun _=>True) (Y':=fun _=>True) (fun _ _ _=>trivial) (fun _ _ _=>trivial)
   rw [hcl] at hs ⊢
   replace hcl:Hid _:=hcl
   have nO:Hid _:=nW
   clear nW hcs hrow h hS
   obtain ⟨i0,hi0,hz0,hs0,hb0⟩:=info_parts3 Try.infoBl
   obtain ⟨S3,hS3⟩:∃ S,Hid (S = W0.heap.size):=⟨_,rfl⟩
   obtain ⟨Z,hZ⟩:∃ Z,Hid (Z = W0.alloc (.cells #[] 4)):=⟨_,rfl⟩
   have nZ:Nw W0 Z:=by rw [hZ.out];exact nw_alloc (nw_refl _) _
   have hin0:Z.ownsRow S3 4 1 (.slice (some ⟨W0.heap.size,0,none⟩) 0 0) 0 (([]:List Bool).map Value.bool):=by rw [hS3.out,hZ.out];exact ⟨rfl,.inr ⟨W0.heap.size,0,#[],rfl,Nat.le_refl _,heap_alloc_new W0 _,Nat.le_refl _,Nat.zero_le _,rfl,rfl⟩⟩
   go_wp2_with (refine wpList_buildSlice0 rfl 77 4 rfl Try.underBl (by kernel_rfl) ?_;rw [← hZ.out];refine stop_here ?_)
   unfold Hid
   clear hZ
   rw [← hS3.out] at hin0 ⊢
   go_wp2
   go_loopw [9,54] (fun bv jv wr=>∃ j:Nat,j ≤ k∧jv = .int .i64 j∧wr.ownsRow S3 4 1 bv j ((seedB j).map Value.bool)∧Nw W0 wr) (fun _ jv _=>k - (intOf jv).toNat)
   case atStart=>exact ⟨0,Nat.zero_le _,rfl,hin0,nZ⟩
   case round =>
    clear hin0 nZ
    obtain ⟨j,hj,rfl,hin,nV⟩:=hrel
    obtain ⟨ba,bc,e1⟩:=owns_form hin
    subst e1
    by_cases hltL:j < k
    ·have hst:Hid _:=seed_step j
     obtain ⟨F,hF⟩:∃ F,((j:Int) == 0) = F:=⟨_,rfl⟩
     rw [hF] at hst
     have hrA:=World.ownsRow.alloc hin (.cells #[.bool F] 4)
     have hsl:=sl_lit wr #[.bool F] 4 1 (by omega)
     go_wp2_with (at_builtin;refine wpList_append_sl _ rfl _ _ 77 rfl S3 4 i0 _ 1 1 Try.underBl hi0 hz0 hs0 hb0 rfl (by decide) _ _ _ rfl hrA _ _ 1 _ rfl hsl rfl ?d1 ?d2 ?d3 ?d4 ?_)
     case d1=>first | rfl | (intro u hu;simp at hu;subst hu;rfl)
     case d2=>unfold maxLen;omega
     case d3=>omega
     case d4=>have:=nV.size;have:=hS3.out;first | omega | (rw [alloc_size];omega) | (simp;omega)
     intro v9 w9 hown9 hgrow9 hat9
     have m9:Hid (Nw W0 w9):=Fr.grown (nw_alloc nV _) hgrow9 (fun q hq=>.inr (by have:=(hin.lt q hq).1;have:=hS3.out;omega))
     obtain ⟨a9,cp9,e9⟩:=owns_form hown9
     subst e9
     have hrow3:Hid (w9.ownsRow S3 4 1 (.slice a9 (j + 1) cp9) (j + 1) ((seedB (j + 1)).map Value.bool)):=by unfold Hid;rw [hst.out,List.map_append];exact hown9
     clear hown9 hgrow9 hat9 hrA hsl hin hF hst nV
     go_wp2
     go_roundw
     case rel=>exact ⟨j + 1,by omega,by go_num,hrow3.out,m9.out⟩
     case measure=>simp [intOf];omega
    ·obtain rfl:j = k:=by omega
     have hj0:0 < j:=by have:=hM.out.ne;have:=hN.out;omega
     have hin2:wr.ownsRow S3 4 1 (.slice ba j bc) (seedB j).length ((seedB j).map Value.bool):=by rw [seed_len];exact hin
     obtain ⟨gI,cI,tI,e2,hgI,hBI⟩:=bool_row hin2 (by rw [seed_len];exact hj0)
     rw [seed_len] at e2
     simp only [Value.slice.injEq,true_and] at e2
     obtain ⟨e3,e4⟩:=e2
     subst e3
     subst e4
     clear hin hin2
     have hgW:Hid (W0.heap.size ≤ gI):=by have:=hS3.out;unfold Hid;omega
     clear hS3 hgI hi0 hz0 hs0 hb0
     obtain ⟨s0,hs0⟩:∃ s,Hid (seedB j = s):=⟨_,rfl⟩
     rw [hs0.out] at hBI
     have hsl0:Hid (s0.length = j):=by unfold Hid;rw [← hs0.out,seed_len]
     go_wp2
     go_loopw [65] (fun rv wr=>∃ r:Nat,r ≤ j∧rv = .int .i64 r∧BoolT wr gI (markN (heldB cs) j s0 r) tI∧Nw W0 wr) (fun rv _=>j - (intOf rv).toNat)
     case atStart=>exact ⟨0,Nat.zero_le _,rfl,hBI,nV⟩
     case round =>
      clear hBI nV
      obtain ⟨r,hr,rfl,hBI,nV⟩:=hrel
      by_cases hlr:r < j
      ·obtain ⟨s1,hs1⟩:∃ s,Hid (markN (heldB cs) j s0 r = s):=⟨_,rfl⟩
       have hnx:Hid (markN (heldB cs) j s0 (r + 1) = markR (heldB cs) j j s1):=by unfold Hid;rw [← hs1.out];rfl
       have hl1:Hid (s1.length = j):=by unfold Hid;rw [← hs1.out,markN_len];exact hsl0.out
       rw [hs1.out] at hBI
       clear hs1
       go_wp2
       go_loopw [69] (fun iv wr=>∃ i:Nat,i ≤ j∧iv = .int .i64 i∧BoolT wr gI (markR (heldB cs) j i s1) tI∧Nw W0 wr) (fun iv _=>j - (intOf iv).toNat)
       case atStart=>exact ⟨0,Nat.zero_le _,rfl,hBI,nV⟩
       case round =>
        clear hBI nV
        obtain ⟨i,hi,rfl,hBI,nV⟩:=hrel
        by_cases hli:i < j
        ·obtain ⟨s2,hs2⟩:∃ s,Hid (markR (heldB cs) j i s1 = s):=⟨_,rfl⟩
         have hnx2:Hid (markR (heldB cs) j (i + 1) s1 = markI (heldB cs) i j s2):=by unfold Hid;rw [← hs2.out];rfl
         have hl2:Hid (s2.length = j):=by unfold Hid;rw [← hs2.out,markR_len];exact hl1.out
         rw [hs2.out] at hBI
         clear hs2
         obtain ⟨R5,hR5⟩:∃ R,R = wr:=⟨_,rfl⟩
         subst hR5
         have hlt:i < cs.length:=by have:=hcl.out;omega
         have hsR:=hs.nw nV
         have nQ:Hid _:=nV
         have hgR:Hid (gI < R5.heap.size):=heap_lt hBI
         clear nV
         have nW:=nw_refl R5
         have hxi:Hid (∀ x,x = cs[i]→cs[i]? = some x):=fun x hx=>by rw [hx];exact List.getElem?_eq_getElem hlt
         obtain ⟨q1,off1,hva,_,hrr,hat1⟩:=(hsR).get i hlt
         first | subst hva | (simp only [Option.some.injEq,Addr.mk.injEq,and_true] at hva;obtain ⟨rfl,rfl⟩:=hva)
         generalize cs[i] = x at *
         unfold tcC at hrr
         obtain ⟨Y1,hY⟩:∃ Y,Hid (Y = R5.alloc (.cells (thC zeroT (.slice none 0 0) (.slice none 0 0) (.slice none 0 0) (.slice none 0 0)).toArray 34)):=⟨_,rfl⟩
         have hV1:Y1.heap[R5.heap.size]? = some (.cells (thC zeroT (.slice none 0 0) (.slice none 0 0) (.slice none 0 0) (.slice none 0 0)).toArray 34 (0,0)):=by rw [hY.out];exact heap_alloc_new _ _
         obtain ⟨V1,hV⟩:∃ V,Hid (V = Y1.setRow R5.heap.size (thC x.t x.l x.c x.k x.d).toArray):=⟨_,rfl⟩
         have nV1:Nw R5 V1:=by rw [hV.out,hY.out];exact Fr.setRow (nw_alloc (nw_refl _) _) (.inr (Nat.le_refl _)) _
         have hnew:V1.heap[R5.heap.size]? = some (.cells (thC x.t x.l x.c x.k x.d).toArray 34 (0,0)):=by rw [hV.out];exact setRow_heap _ _ _ _ _ _ hV1
         go_wp2_with (first | (refine wpList_load_as rfl 34 _ rfl q1 (off1 + i * 26) rfl (thV x.t x.l x.c x.k x.d) _ rfl hrr Try.rowT Try.sizeT ?_) | (refine wpList_alloc_agg rfl 34 rfl _ Try.zeroTh ?_;rw [← hY.out];refine stop_here ?_))
         unfold Hid
         go_wp2_with (refine wpList_store_all rfl 34 _ _ rfl (R5.heap.size) rfl (thV x.t x.l x.c x.k x.d) rfl (thC x.t x.l x.c x.k x.d) rfl (thC zeroT (.slice none 0 0) (.slice none 0 0) (.slice none 0 0) (.slice none 0 0)) 34 hV1 rfl (ThAt.one hat1) Try.sizeT ?_;rw [← hV.out];refine stop_here ?_)
         unfold Hid
         clear hV hY hV1 hrr
         replace hBI:=hBI.nw nV1
         replace nW:=nw_trans nW nV1
         replace hat1:=hat1.nw nV1
         have hV1:=hnew
         clear hnew
         have hlA1:R5.heap.size < V1.heap.size:=heap_lt hV1
         generalize R5.heap.size = A1 at *
         clear hsR hlt
         replace hxi:=hxi.out x rfl
         replace hxi:Hid _:=hxi
         go_wp2
         go_loopw [76] (fun mv wr=>∃ m:Nat,m ≤ j∧mv = .int .i64 m∧BoolT wr gI (markI (heldB cs) i m s2) tI∧Fr (fun b=>b = gI) V1 wr) (fun mv _=>j - (intOf mv).toNat)
         case atStart=>exact ⟨0,Nat.zero_le _,rfl,hBI,Fr.refl _ _⟩
         case round =>
          clear hBI
          obtain ⟨m,hm,rfl,hBI,f5⟩:=hrel
          have nV6:Nw W0 wr:=Fr.trans (nw_trans nQ.out nW) f5 (fun b hb=>.inr (by have hb2:b = gI:=hb;have:=hgW.out;omega))
          by_cases hlm:m < j
          ·have hl3:(markI (heldB cs) i m s2).length = j:=by rw [markI_len];exact hl2.out
           have hstay:Hid _:=@mark_stay (heldB cs) i m s2
           have hsett:Hid _:=@mark_set (heldB cs) i m s2
           have hlt:m < cs.length:=by have:=hcl.out;omega
           have hheld:Hid (∀ y,y = cs[m]→heldB cs i m = hasB x.t.links y.t.id):=fun y hy=>by
            unfold heldB
            rw [hxi.out,List.getElem?_eq_getElem hlt,hy]
           generalize hG:markI (heldB cs) i (m + 1) s2 = ms2 at *
           replace hG:Hid _:=hG
           generalize markI (heldB cs) i m s2 = ms at *
           have hsR:=hs.nw nV6
           have hV1w:=(f5.block _ (heap_lt hV1) (by show ¬ A1 = gI;have:=hgR.out;omega)).trans hV1
           have nW2:=nw_refl wr
           have nWk:Hid _:=nW
           clear nW
           have nW:=nW2
           clear nW2
           obtain ⟨q2,off2,hva,_,hrr,hat2⟩:=(hsR).get m hlt
           first | subst hva | (simp only [Option.some.injEq,Addr.mk.injEq,and_true] at hva;obtain ⟨rfl,rfl⟩:=hva)
           generalize cs[m] = y at *
           unfold tcC at hrr
           obtain ⟨Y2,hY⟩:∃ Y,Hid (Y = wr.alloc (.cells (thC zeroT (.slice none 0 0) (.slice none 0 0) (.slice none 0 0) (.slice none 0 0)).toArray 34)):=⟨_,rfl⟩
           have hV2:Y2.heap[wr.heap.size]? = some (.cells (thC zeroT (.slice none 0 0) (.slice none 0 0) (.slice none 0 0) (.slice none 0 0)).toArray 34 (0,0)):=by rw [hY.out];exact heap_alloc_new _ _
           obtain ⟨V2,hV⟩:∃ V,Hid (V = Y2.setRow wr.heap.size (thC y.t y.l y.c y.k y.d).toArray):=⟨_,rfl⟩
           have nV2:Nw wr V2:=by rw [hV.out,hY.out];exact Fr.setRow (nw_alloc (nw_refl _) _) (.inr (Nat.le_refl _)) _
           have hnew:V2.heap[wr.heap.size]? = some (.cells (thC y.t y.l y.c y.k y.d).toArray 34 (0,0)):=by rw [hV.out];exact setRow_heap _ _ _ _ _ _ hV2
           go_wp2_with (first | (refine wpList_load_as rfl 34 _ rfl q1 (off1 + m * 26) rfl (thV y.t y.l y.c y.k y.d) _ rfl hrr Try.rowT Try.sizeT ?_) | (refine wpList_alloc_agg rfl 34 rfl _ Try.zeroTh ?_;rw [← hY.out];refine stop_here ?_))
           unfold Hid
           go_wp2_with (refine wpList_store_all rfl 34 _ _ rfl (wr.heap.size) rfl (thV y.t y.l y.c y.k y.d) rfl (thC y.t y.l y.c y.k y.d) rfl (thC zeroT (.slice none 0 0) (.slice none 0 0) (.slice none 0 0) (.slice none 0 0)) 34 hV2 rfl (ThAt.one hat2) Try.sizeT ?_;rw [← hV.out];refine stop_here ?_)
           unfold Hid
           clear hV hY hV2 hrr
           have hl2_0:=heap_lt hV1w
           replace hV1w:=(nV2.block _ (heap_lt hV1w) (fun h=>h)).trans hV1w
           replace hBI:=hBI.nw nV2
           replace nW:=nw_trans nW nV2
           replace hat2:=hat2.nw nV2
           have hV2:=hnew
           clear hnew
           have hlA2:wr.heap.size < V2.heap.size:=heap_lt hV2
           generalize wr.heap.size = A2 at *
           clear hsR hlt
           replace hheld:=hheld.out y rfl
           rw [hheld] at hstay hsett
           clear hheld
           have c0:V2.cell? ⟨A2,0,none⟩ = some (.int .u64 y.t.id):=cell_blk hV2 rfl
           have cI:V2.cell? ⟨gI,i,none⟩ = some (.bool (ms.getD i false)):=hBI.get (by omega)
           have hsx:=(hs.nw nV6).nw nW
           have hix:∃ hi9:i < cs.length,cs[i] = x:=List.getElem?_eq_some_iff.1 hxi.out
           obtain ⟨hi9,hix2⟩:=hix
           have hatx:x.At (fun _=>True) V2:=by have h9:=hsx.a _ (List.getElem_mem hi9);rw [hix2] at h9;exact h9
           clear hsx hix2 hi9
           go_upto_region 29 with fail
           cases hmi:ms.getD i false with
           | false =>
            have hms:Hid (ms2 = ms):=hstay.out (fun h=>by rw [hmi] at h;exact Bool.noConfusion h.1)
            rw [hmi] at cI
            clear hstay hsett hatx hV1w hV2 hat2
            have f6:Fr (fun b=>b = gI) V1 V2:=Fr.trans f5 nW (fun b hb=>hb.elim)
            replace hBI:Hid _:=hBI
            clear hmi
            go_wp2
            go_roundw
            case rel=>exact ⟨m + 1,by omega,by go_num,by rw [hG.out,hms.out];exact hBI.out,f6⟩
            case measure=>simp [intOf];omega
           | true =>
            replace hsett:=hsett.out hmi
            rw [hmi] at cI
            replace hmi:Hid _:=hmi
            replace hsett:Hid _:=hsett
            have hcon:Hid _:=c_rhas y.t.id V2 hatx
            have hr0:=range_all hV1w
            go_wp2_with (first | (refine wpList_load_as rfl 34 _ rfl (A1) 0 rfl (thV x.t x.l x.c x.k x.d) _ rfl hr0 Try.rowT Try.sizeT ?_) | (go_at_call 43;refine Calls.mono hcon.out ?_;rintro e W3 ⟨rfl,n3⟩;refine stop_here ?_))
            unfold Hid
            clear hcon hr0
            replace hV1w:=(n3.block _ (heap_lt hV1w) (fun h=>h)).trans hV1w
            replace hV2:=(n3.block _ (heap_lt hV2) (fun h=>h)).trans hV2
            replace hBI:=hBI.nw n3
            replace nW:=nw_trans nW n3
            clear c0 cI hatx hV1w hV2 hat2
            cases hhb:hasB x.t.links y.t.id with
            | false =>
             have hms:Hid (ms2 = ms):=hstay.out (fun h=>by rw [hhb] at h;exact Bool.noConfusion h.2)
             clear hstay hsett
             have f6:Fr (fun b=>b = gI) V1 W3:=Fr.trans f5 nW (fun b hb=>hb.elim)
             replace hhb:Hid _:=hhb
             replace hBI:Hid _:=hBI
             go_wp2
             go_roundw
             case rel=>exact ⟨m + 1,by omega,by go_num,by rw [hG.out,hms.out];exact hBI.out,f6⟩
             case measure=>simp [intOf];omega
            | true =>
             have hms:Hid (ms2 = ms.set m true):=hsett.out hhb
             clear hstay hsett
             replace hhb:Hid _:=hhb
             obtain ⟨W9,hW9⟩:∃ U,Hid (U = W3.setCell ⟨gI,m,none⟩ (.bool true)):=⟨_,rfl⟩
             have hBI9:BoolT W9 gI ms2 tI:=by rw [hms.out,hW9.out];exact hBI.set (by omega) true
             have f9:Fr (fun b=>b = gI) W3 W9:=by rw [hW9.out];exact Fr.setCell (p:=⟨gI,m,none⟩) (Fr.refl (fun b=>b = gI) W3) (.inl rfl) _
             have f6:Fr (fun b=>b = gI) V1 W9:=Fr.trans (Fr.trans f5 nW (fun b hb=>hb.elim)) f9 (fun b hb=>.inl hb)
             have cm:W3.cell? ⟨gI,m,none⟩ = some (.bool (ms.getD m false)):=hBI.get (by omega)
             have hfz:W3.frozen? ⟨gI,m,none⟩ = false:=free_blk hBI
             clear f9 hBI nW
             go_wp2
             rw [← hW9.out]
             clear hW9 cm hfz
             go_roundw
             case rel=>exact ⟨m + 1,by omega,by go_num,by rw [hG.out];exact hBI9,f6⟩
             case measure=>simp [intOf];omega
          ·obtain rfl:m = j:=by omega
           rw [← hnx2.out] at hBI
           clear f5 hV1 hat1
           go_wp2
           go_roundw
           case rel=>exact ⟨i + 1,by omega,by go_num,hBI,nV6⟩
           case measure=>simp [intOf];omega
        ·obtain rfl:i = j:=by omega
         rw [← hnx.out] at hBI
         go_wp2
         go_roundw
         case rel=>exact ⟨r + 1,by omega,by go_num,hBI,nV⟩
         case measure=>simp [intOf];omega
      ·obtain rfl:r = j:=by omega
       have hmk:markN (heldB cs) r s0 r = marksX cs:=by rw [← hs0.out];unfold marksX;rw [hcl.out]
       rw [hmk] at hBI
       clear hmk hs0 hsl0
       obtain ⟨h1,_,h3,hkz,ho0⟩:=mend_mid hM.out hcc.out
       have hro:Hid (∀ y ∈ outX cs (marksX cs),RightT y.t):=fun y hy=>h3 y ((out_sub _ _).mem hy)
       replace hkz:Hid _:=hkz
       clear h1 h3
       have hml:Hid ((marksX cs).length = r):=by unfold Hid;rw [marks_len];exact hcl.out
       have hfO:Hid (outT cs (marksX cs) cs.length = outX cs (marksX cs)):=outT_all (marks_len cs)
       generalize marksX cs = ms at *
       obtain ⟨R7,hR7⟩:∃ R,R = wr:=⟨_,rfl⟩
       subst hR7
       have hs7:=hs.nw nV
       have nP:Hid _:=nw_trans nO.out nV
       clear nV hs
       obtain ⟨S,hS⟩:∃ S,Hid (S = R7.heap.size):=⟨_,rfl⟩
       have hrow0:=grow_new R7 (fun b=>b < S)
       have n0:Nw R7 (R7.alloc (.cells #[] 34)):=nw_alloc (nw_refl _) _
       obtain ⟨Y,hY⟩:∃ Y,Hid (Y = R7.alloc (.cells #[] 34)):=⟨_,rfl⟩
       rw [← hY.out,← hS.out] at hrow0
       rw [← hY.out] at n0
       go_wp2_with (refine wpList_buildSlice0 rfl 22 34 rfl Try.underTs Try.sizeSome ?_;rw [← hY.out];refine stop_here ?_)
       unfold Hid
       clear hY
       rw [← hS.out]
       go_wp2
       have hlb:=hs7.mono (X':=fun _=>True) (Y':=fun b=>b < S) (fun _ _ _=>trivial) (fun b _ hb=>by rw [hS.out];exact hb)
       go_loopw [15,100] (fun uv kv wr=>∃ k:Nat,k ≤ r∧kv = .int .i64 k∧GRow S (fun b=>b < S) wr uv (outT cs ms k)∧Nw R7 wr) (fun _ kv _=>r - (intOf kv).toNat)
       case atStart=>exact ⟨0,Nat.zero_le _,rfl,by rw [outT_zero];exact hrow0,n0⟩
       case round =>
        clear hrow0 n0
        obtain ⟨k,hk,rfl,hrow,nW⟩:=hrel
        obtain ⟨ua,uc,e2⟩:=hrow.form
        subst e2
        by_cases hltL:k < r
        ·have hlt:k < cs.length:=by have:=hcl.out;omega
         have hlm:k < ms.length:=by have:=hml.out;omega
         have hst:=outT_step hlt hlm
         have hkm:=outT_len cs ms k
         have hgd:ms.getD k false = ms[k]:=by rw [List.getD_eq_getElem?_getD,List.getElem?_eq_getElem hlm];rfl
         have cI:=(hBI.nw nW).get hlm
         rw [hgd] at cI
         clear hgd
         generalize ms[k] = F at *
         generalize outT cs ms k = ys at *
         generalize hG:outT cs ms (k + 1) = ys2 at *
         replace hG:Hid _:=hG
         replace hst:Hid _:=hst
         obtain ⟨m,hyl⟩:∃ m,ys.length = m:=⟨_,rfl⟩
         rw [hyl] at hrow hkm ⊢
         have hs0:=hlb.nw nW
         obtain ⟨q2,off2,hva,_,hrr,hat2⟩:=(hs0).get k hlt
         first | subst hva | (simp only [Option.some.injEq,Addr.mk.injEq,and_true] at hva;obtain ⟨rfl,rfl⟩:=hva)
         generalize cs[k] = x at *
         unfold tcC at hrr
         obtain ⟨Y2,hY⟩:∃ Y,Hid (Y = wr.alloc (.cells (thC zeroT (.slice none 0 0) (.slice none 0 0) (.slice none 0 0) (.slice none 0 0)).toArray 34)):=⟨_,rfl⟩
         have hV2:Y2.heap[wr.heap.size]? = some (.cells (thC zeroT (.slice none 0 0) (.slice none 0 0) (.slice none 0 0) (.slice none 0 0)).toArray 34 (0,0)):=by rw [hY.out];exact heap_alloc_new _ _
         obtain ⟨V1,hV⟩:∃ V,Hid (V = Y2.setRow wr.heap.size (thC x.t x.l x.c x.k x.d).toArray):=⟨_,rfl⟩
         have nV1:Nw wr V1:=by rw [hV.out,hY.out];exact Fr.setRow (nw_alloc (nw_refl _) _) (.inr (Nat.le_refl _)) _
         have hnew:V1.heap[wr.heap.size]? = some (.cells (thC x.t x.l x.c x.k x.d).toArray 34 (0,0)):=by rw [hV.out];exact setRow_heap _ _ _ _ _ _ hV2
         go_wp2_with (first | (refine wpList_load_as rfl 34 _ rfl q2 (off2 + k * 26) rfl (thV x.t x.l x.c x.k x.d) _ rfl hrr Try.rowT Try.sizeT ?_) | (refine wpList_alloc_agg rfl 34 rfl _ Try.zeroTh ?_;rw [← hY.out];refine stop_here ?_))
         unfold Hid
         go_wp2_with (refine wpList_store_all rfl 34 _ _ rfl (wr.heap.size) rfl (thV x.t x.l x.c x.k x.d) rfl (thC x.t x.l x.c x.k x.d) rfl (thC zeroT (.slice none 0 0) (.slice none 0 0) (.slice none 0 0) (.slice none 0 0)) 34 hV2 rfl (ThAt.one hat2) Try.sizeT ?_;rw [← hV.out];refine stop_here ?_)
         unfold Hid
         clear hV hY hV2 hrr
         replace hrow:=hrow.nw nV1
         replace cI:=(World.cell?_of_block (nV1.block _ (World.block_lt_of_cell? _ _ cI) (fun h=>h))).trans cI
         replace nW:=nw_trans nW nV1
         replace hat2:=hat2.nw nV1
         have hV2:=hnew
         clear hnew
         have hlA2:wr.heap.size < V1.heap.size:=heap_lt hV2
         generalize wr.heap.size = A2 at *
         clear hs0 hlt hlm
         have hkl:Hid (m ≤ 1000000):=by unfold Hid;omega
         cases F with
         | true =>
          have hst2:Hid (ys2 = ys ++ [x]):=by unfold Hid;rw [hst.out,if_pos rfl]
          clear hst
          have hyA:=GRow.old hrow (Nat.le_refl S) hat2
          obtain ⟨i0,hi0,hz0,hs0,hb0⟩:=info_parts3 Try.infoTb
          obtain ⟨cs,hcs⟩:∃ cs,(thC x.t x.l x.c x.k x.d) = cs:=⟨_,rfl⟩
          obtain ⟨vv,hvv⟩:∃ vv,(thV x.t x.l x.c x.k x.d) = vv:=⟨_,rfl⟩
          have hv2:vv = .agg cs.toArray:=by rw [← hvv,← hcs];rfl
          have h26:cs.length = 26:=by rw [← hcs];rfl
          have hone:∀ v ∈ cs,v.oneCell' = true:=by rw [← hcs];exact tc_one hyA
          have hrA:=owns_nw (GRow.own hrow) (nw_alloc (nw_refl V1) (.cells cs.toArray 34))
          have hsl:=sl_lit V1 cs.toArray 34 1 (by omega)
          rw [List.toList_toArray] at hsl
          have hz26:(Try.prog.info? 34).map (·.size) = some cs.length:=by rw [h26];exact Try.sizeT
          have hp26:0 < cs.length:=by omega
          have hq26:cs.length ≤ 1000000:=by omega
          have hl26:cs.length = 1 * 26:=by omega
          have hrl:V1.rangeAt A2 0 cs:=by rw [← hcs];exact range_all hV2
          replace hvv:Hid _:=hvv
          replace hcs:Hid _:=hcs
          go_wp2_with (first | (refine wpList_load_as rfl 34 _ rfl (A2) 0 rfl vv cs hv2 hrl Try.rowT hz26 ?_) | (refine wpList_buildSlice1 rfl 22 34 _ rfl vv rfl cs hv2 Try.underTs hz26 Try.zeroSome hp26 hq26 ?_) | (at_builtin;refine wpList_append_sl _ rfl _ _ 22 rfl S 34 i0 _ 26 272 Try.underTs hi0 hz0 hs0 hb0 rfl (by decide) _ _ _ rfl hrA _ _ 1 _ rfl hsl hl26 ?d1q ?d2q ?d3q ?d4q ?_))
          case d1q=>exact hone
          case d2q=>have:=hkl.out;unfold maxLen;omega
          case d3q=>have:=hkl.out;omega
          case d4q=>have h9:=nW.size;have h8:=hS.out;first | (rw [alloc_size];omega) | omega
          intro v9 w9 hown9 hgrow9 hat9
          have hcs2:=hcs.out
          subst hcs2
          have hvv2:=hvv.out
          subst hvv2
          have hrow9:=GRow.push (y:=x) (v9:=v9) (w9:=w9) hrow hyA (by rw [hyl];exact hown9) hgrow9 hat9
          have m9:Nw R7 w9:=GRow.fr hrow nW (by have:=hS.out;omega) hgrow9
          obtain ⟨a9,cp9,rfl⟩:=owns_form hown9
          clear hown9 hgrow9 hat9 hrA hsl hone hz26 hp26 hq26 hl26 h26 hv2 hvv hcs hi0 hz0 hs0 hb0 hrl
          rw [← hst2.out] at hrow9
          replace hrow9:Hid _:=hrow9
          replace m9:Hid _:=m9
          clear hst2 hyA hV2 hat2 hrow nW cI
          go_wp2
          go_roundw
          case rel=>exact ⟨k + 1,by omega,by go_num,by rw [hG.out];exact hrow9.out,m9.out⟩
          case measure=>simp [intOf];omega
         | false =>
          have hst2:Hid (ys2 = ys):=by unfold Hid;rw [hst.out,if_neg Bool.noConfusion,List.append_nil]
          clear hst hat2 hV2
          rw [← hst2.out] at hrow
          replace hrow:Hid _:=hrow
          go_wp2
          go_roundw
          case rel=>exact ⟨k + 1,by omega,by go_num,by rw [hG.out];exact hrow.out,nW⟩
          case measure=>simp [intOf];omega
        ·obtain rfl:k = r:=by omega
         have hall:outT cs ms k = outX cs ms:=by have:=hfO.out;rw [hcl.out] at this;exact this
         rw [hall] at hrow ⊢
         clear hall hfO hBI hlb hs7
         generalize outX cs ms = os at *
         obtain ⟨g2,cp2,tl,e2,hS2,hl2,hc9,hR,hat⟩:=hrow.row ho0
         simp only [Value.slice.injEq,true_and] at e2
         obtain ⟨e3,e4⟩:=e2
         subst e3
         replace e4:=e4.symm
         subst e4
         have hol:os.length ≤ 100000:=by have h1:=same_len hkz.out;have h2:=(out_sub (cutX xs) (marksX (cutX xs))).length_le;unfold keptX at h1;have h3:(cutX xs).length = xs.length:=List.length_map ..;have:=hN.out;omega
         obtain ⟨M,hMo⟩:∃ M,os.length = M:=⟨_,rfl⟩
         rw [hMo] at hl2 hol ⊢
         replace hMo:Hid _:=hMo
         have hg2w:Hid (w.heap.size ≤ g2):=by have:=Fr.size nP.out;have:=hS.out;unfold Hid;omega
         replace hat:∀ y ∈ os,y.At (fun b=>b ≠ g2) wr:=fun y hy=>(hat y hy).mono (fun b hb _=>hb.2)
         replace nW:=nw_trans nP.out nW
         clear hrow nP hS hS2 hml nO hgW ho0
         rw [← mixR_zero os] at hR
         go_wp2
         go_loopw [116] (fun kv wr=>∃ j:Nat,j ≤ M∧kv = .int .i64 j∧RowT wr g2 (mixR os j) tl∧(∀ y ∈ os,y.At (fun b=>b ≠ g2) wr)∧Nw w wr) (fun kv _=>M - (intOf kv).toNat)
         case atStart=>exact ⟨0,Nat.zero_le _,rfl,hR,hat,nW⟩
         case round =>
          clear hR hat nW
          obtain ⟨j,hj,rfl,hR,hat,nW⟩:=hrel
          by_cases hltM:j < M
          ·have hlo:j < os.length:=by have:=hMo.out;omega
           obtain ⟨hlm,hme⟩:=mixR_at hlo
           have hrr:=hR.range hlm
           rw [hme] at hrr
           have hat1:=hat _ (List.getElem_mem hlo)
           have hrx:Hid (RightT os[j].t):=hro.out _ (List.getElem_mem hlo)
           have hset:Hid (∀ V,RowT V g2 (mixR os j) tl→RowT (V.setCell ⟨g2,j * 26 + 7,none⟩ (.int .i64 (raiseF os os[j]).t.next)) g2 (mixR os (j + 1)) tl):=fun V hV=>by rw [← mixR_step hlo];exact hV.setc (by decide) hlm (by rw [hme];exact raise_cells os _)
           have hstay:Hid (raiseF os os[j] = os[j]→mixR os (j + 1) = mixR os j):=mixR_stay hlo
           have hc7:Hid (∀ V,RowT V g2 (mixR os j) tl→V.cell? ⟨g2,j * 26 + 7,none⟩ = some (.int .i64 os[j].t.next)):=fun V hV=>hV.cell hlm (by rw [hme];rfl)
           have hgv:Hid (∀ d,givenX (mixR os j) d = givenX os d):=fun d=>key_given (mixR_key os j) d
           have hid9:Hid (∀ y ∈ mixR os j,0 ≤ y.t.id∧y.t.id < 18446744073709551616):=mixR_mem (fun y hy=>by have h1:=(hro.out y hy).id;exact ⟨by have:=h1.1;omega,by have:=h1.2;omega⟩) (fun y hy=>by have h1:=(hro.out y hy).id;rw [(raise_keep os).id];exact ⟨by have:=h1.1;omega,by have:=h1.2;omega⟩)
           have hmr:Hid (∀ V,(∀ y ∈ os,y.At (fun b=>b ≠ g2) V)→∀ y ∈ mixR os j,y.At (fun b=>b ≠ g2) V):=fun V hV=>mixR_mem hV (fun y hy=>raise_at (hV y hy))
           have hml:Hid ((mixR os j).length = M):=by unfold Hid;rw [mixR_len (by omega)];exact hMo.out
           clear hlm hme
           replace hat:Hid _:=hat
           have hwr:=nw_refl wr
           generalize hGx:os[j] = x at *
           clear hGx
           have hgA:Hid (g2 < wr.heap.size):=heap_lt hR
           unfold tcC at hrr
           obtain ⟨Y1,hY⟩:∃ Y,Hid (Y = wr.alloc (.cells (thC zeroT (.slice none 0 0) (.slice none 0 0) (.slice none 0 0) (.slice none 0 0)).toArray 34)):=⟨_,rfl⟩
           have hV1:Y1.heap[wr.heap.size]? = some (.cells (thC zeroT (.slice none 0 0) (.slice none 0 0) (.slice none 0 0) (.slice none 0 0)).toArray 34 (0,0)):=by rw [hY.out];exact heap_alloc_new _ _
           obtain ⟨V1,hV⟩:∃ V,Hid (V = Y1.setRow wr.heap.size (thC x.t x.l x.c x.k x.d).toArray):=⟨_,rfl⟩
           have nV1:Nw wr V1:=by rw [hV.out,hY.out];exact Fr.setRow (nw_alloc (nw_refl _) _) (.inr (Nat.le_refl _)) _
           have hnew:V1.heap[wr.heap.size]? = some (.cells (thC x.t x.l x.c x.k x.d).toArray 34 (0,0)):=by rw [hV.out];exact setRow_heap _ _ _ _ _ _ hV1
           go_wp2_with (first | (refine wpList_load_as rfl 34 _ rfl g2 (j * 26) rfl (thV x.t x.l x.c x.k x.d) _ rfl hrr Try.rowT Try.sizeT ?_) | (refine wpList_alloc_agg rfl 34 rfl _ Try.zeroTh ?_;rw [← hY.out];refine stop_here ?_))
           unfold Hid
           go_wp2_with (refine wpList_store_all rfl 34 _ _ rfl (wr.heap.size) rfl (thV x.t x.l x.c x.k x.d) rfl (thC x.t x.l x.c x.k x.d) rfl (thC zeroT (.slice none 0 0) (.slice none 0 0) (.slice none 0 0) (.slice none 0 0)) 34 hV1 rfl (ThAt.one hat1) Try.sizeT ?_;rw [← hV.out];refine stop_here ?_)
           unfold Hid
           clear hV hY hV1 hrr
           replace hR:=hR.nw nV1
           replace hwr:=nw_trans hwr nV1
           replace nW:=nw_trans nW nV1
           replace hat1:=hat1.nw nV1
           have hV1:=hnew
           clear hnew
           have hlA1:wr.heap.size < V1.heap.size:=heap_lt hV1
           generalize wr.heap.size = A1 at *
           clear hat1 hlo
           have hnd:Nw V1 V1.drew:=Fr.drew (Fr.refl _ V1)
           have hS:(fun w':World=>w'.heap[A1]? = some (.cells (thC x.t x.l x.c x.k x.d).toArray 34 (0,0))) V1.drew:=(hnd.block _ (heap_lt hV1) (fun h=>h)).trans hV1
           have hsl:TSl (fun b=>b = g2) (fun b=>b ≠ g2) V1.drew (.slice (some ⟨g2,0,none⟩) M cp2) (mixR os j):=by have h1:=RowT.tsl (cap:=cp2) (hR.nw hnd) (by rw [hml.out];exact hl2) hc9 (hmr.out V1.drew (fun y hy=>(hat.out y hy).nw (nw_trans hwr hnd)));rw [hml.out] at h1;exact h1
           go_upto_region 44 with fail
           by_cases hkd:x.t.kind = 1
           ·have hkb:(x.t.kind == 1) = true:=by simp [hkd]
            have hcg:Hid _:=c_rgiven x.t.id V1.drew hsl hid9.out
            rw [hgv.out] at hcg
            obtain ⟨G,hGe⟩:∃ G,givenX os x.t.id = G:=⟨_,rfl⟩
            rw [hGe] at hcg
            replace hGe:Hid _:=hGe
            replace hkd:Hid _:=hkd
            clear hsl
            refine wp_region_ord [] 11 [(0,true),(1,true),(2,true),(3,true),(4,true),(5,true),(8,true),(6,true),(9,true),(7,false),(10,true)] (fun w':World=>w'.heap[A1]? = some (.cells (thC x.t x.l x.c x.k x.d).toArray 34 (0,0))) (by kernel_rfl) (by kernel_rfl) ?_
            refine ord_quietL _ ?_ rfl hS rfl ?_ ?_
            rotate_left
            ·rintro w' r1;go_simp;rfl
            simp only [pL,List.set]
            refine ord_quietL _ ?_ rfl hS rfl ?_ ?_
            rotate_left
            ·rintro w' r1;have g0:w'.cell? ⟨A1,1,none⟩ = some (.int .i64 x.t.kind):=cell_blk r1 rfl;go_simp;rfl
            simp only [pL,List.set]
            refine ord_quietL _ (.bool true) rfl hS rfl ?_ ?_
            ·rintro w' r1;have e9:(x.t.kind == 1) = true:=hkb;go_simp;first | rfl | (rw [e9]) | (simp only [e9]) | skip
            simp only [pL,List.set]
            refine ord_quietL _ ?_ rfl hS rfl ?_ ?_
            rotate_left
            ·rintro w' r1;go_simp;rfl
            simp only [pL,List.set]
            refine ord_quietL _ ?_ rfl hS rfl ?_ ?_
            rotate_left
            ·rintro w' r1;go_simp;rfl
            simp only [pL,List.set]
            refine ord_quietL _ ?_ rfl hS rfl ?_ ?_
            rotate_left
            ·rintro w' r1;go_simp;rfl
            simp only [pL,List.set]
            refine ord_quietL _ ?_ rfl hS rfl ?_ ?_
            rotate_left
            ·rintro w' r1;go_simp;rfl
            simp only [pL,List.set]
            refine ord_quietL _ ?_ rfl hS rfl ?_ ?_
            rotate_left
            ·rintro w' r1;have g0:w'.cell? ⟨A1,0,none⟩ = some (.int .u64 x.t.id):=cell_blk r1 rfl;go_simp;rfl
            simp only [pL,List.set]
            refine ord_quietL _ ?_ rfl hS rfl ?_ ?_
            rotate_left
            ·rintro w' r1;have g0:w'.cell? ⟨A1,7,none⟩ = some (.int .i64 x.t.next):=cell_blk r1 rfl;go_simp;rfl
            simp only [pL,List.set]
            refine ord_actL _ rfl (fun K1 hK1=>?_)
            go_wp2_with (go_at_call 37;refine Calls.mono hcg.out ?_;rintro e W4 ⟨rfl,n4⟩)
            have hS4:=(n4.block _ (heap_lt hS) (fun h=>h)).trans hS
            refine hK1 _ _ hS4 ?_
            clear hK1 K1 hcg hS
            have hS:(fun w':World=>w'.heap[A1]? = some (.cells (thC x.t x.l x.c x.k x.d).toArray 34 (0,0))) W4:=hS4
            refine ord_quietL _ ?_ rfl hS rfl ?_ ?_
            rotate_left
            ·rintro w' r1;go_simp;rfl
            simp only [pL,List.set]
            refine ord_tail ?_
            have n5:=nw_trans hnd n4
            replace hR:=hR.nw n5
            replace hwr:=nw_trans hwr n5
            replace nW:=nw_trans nW n5
            clear n5 n4 hnd hV1 hS4
            by_cases hgn:x.t.next < (G:Int)
            ·have hgb:decide (x.t.next < (G:Int)) = true:=decide_eq_true hgn
             have hrn:(raiseF os x).t.next = (G:Int):=by rw [← hGe.out];exact raise_yes ⟨hkd.out,by rw [hGe.out];exact hgn⟩
             rw [hrn] at hset
             clear hrn hstay
             replace hgn:Hid _:=hgn
             have hV4:Hid (W4.heap[A1]? = some (.cells (thC x.t x.l x.c x.k x.d).toArray 34 (0,0))):=hS
             clear hS
             go_upto_region 45 with fail
             clear hgb
             have hsl:TSl (fun b=>b = g2) (fun b=>b ≠ g2) W4 (.slice (some ⟨g2,0,none⟩) M cp2) (mixR os j):=by have h1:=RowT.tsl (cap:=cp2) (hR.nw (nw_refl W4)) (by rw [hml.out];exact hl2) hc9 (hmr.out W4 (fun y hy=>(hat.out y hy).nw (nw_trans hwr (nw_refl W4))));rw [hml.out] at h1;exact h1
             have hcg:Hid _:=c_rgiven x.t.id W4 hsl hid9.out
             rw [hgv.out,hGe.out] at hcg
             clear hsl
             have c0:W4.cell? ⟨A1,0,none⟩ = some (.int .u64 x.t.id):=cell_blk hV4.out rfl
             go_wp2_with (go_at_call 37;refine Calls.mono hcg.out ?_;rintro e W6 ⟨rfl,n6⟩;refine stop_here ?_)
             unfold Hid
             clear hcg c0 hV4
             replace hR:=hR.nw n6
             replace hwr:=nw_trans hwr n6
             replace nW:=nw_trans nW n6
             clear n6
             have c7:=hc7.out _ hR
             have hfz:W6.frozen? ⟨g2,j * 26 + 7,none⟩ = false:=free_blk hR
             obtain ⟨W9,hW9⟩:∃ U,Hid (U = W6.setCell ⟨g2,j * 26 + 7,none⟩ (.int .i64 (G:Int))):=⟨_,rfl⟩
             have f9:Fr (fun b=>b = g2) W6 W9:=by rw [hW9.out];exact Fr.setCell (p:=⟨g2,j * 26 + 7,none⟩) (Fr.refl (fun b=>b = g2) W6) (.inl rfl) _
             have hR9:RowT W9 g2 (mixR os (j + 1)) tl:=by rw [hW9.out];exact hset.out _ hR
             have hat9:Hid (∀ y ∈ os,y.At (fun b=>b ≠ g2) W9):=fun y hy=>((hat.out y hy).nw hwr).keep f9 (fun b hb _ e=>hb e) (fun b hb _=>hb)
             have n9:Nw w W9:=Fr.trans nW f9 (fun b hb=>.inr (by have hb2:b = g2:=hb;have:=hg2w.out;omega))
             clear hR f9 hset hat hwr nW hmr hc7
             go_wp2
             rw [← hW9.out]
             clear hW9 c7 hfz
             go_roundw
             case rel=>exact ⟨j + 1,by omega,by go_num,hR9,hat9.out,n9⟩
             case measure=>simp [intOf];omega
            ·have hgb:decide (x.t.next < (G:Int)) = false:=decide_eq_false hgn
             have hms:mixR os (j + 1) = mixR os j:=hstay.out (raise_no (fun e=>hgn (by have h9:=e.2;rw [hGe.out] at h9;exact h9)))
             rw [← hms] at hR
             have hat9:Hid (∀ y ∈ os,y.At (fun b=>b ≠ g2) W4):=fun y hy=>(hat.out y hy).nw hwr
             clear hms hset hstay hat hwr hmr hc7
             replace hR:Hid _:=hR
             clear hS
             replace hgn:Hid _:=hgn
             go_wp2
             go_roundw
             case rel=>exact ⟨j + 1,by omega,by go_num,hR.out,hat9.out,nW⟩
             case measure=>simp [intOf];omega
           ·have hkb:(x.t.kind == 1) = false:=by simp [hkd]
            clear hsl
            refine wp_region_ord [] 11 [(0,true),(1,true),(2,true),(3,true),(4,true),(5,true),(8,true),(6,true),(9,true),(7,false),(10,true)] (fun w':World=>w'.heap[A1]? = some (.cells (thC x.t x.l x.c x.k x.d).toArray 34 (0,0))) (by kernel_rfl) (by kernel_rfl) ?_
            refine ord_quietL _ ?_ rfl hS rfl ?_ ?_
            rotate_left
            ·rintro w' r1;go_simp;rfl
            simp only [pL,List.set]
            refine ord_quietL _ ?_ rfl hS rfl ?_ ?_
            rotate_left
            ·rintro w' r1;have g0:w'.cell? ⟨A1,1,none⟩ = some (.int .i64 x.t.kind):=cell_blk r1 rfl;go_simp;rfl
            simp only [pL,List.set]
            refine ord_quietL _ (.bool false) rfl hS rfl ?_ ?_
            ·rintro w' r1;have e9:(x.t.kind == 1) = false:=hkb;go_simp;first | rfl | (rw [e9]) | (simp only [e9]) | skip
            simp only [pL,List.set]
            refine ord_quietL _ ?_ rfl hS rfl ?_ ?_
            rotate_left
            ·rintro w' r1;go_simp;rfl
            simp only [pL,List.set]
            refine ord_skipL _ rfl hS rfl ?_
            simp only [pL,List.set]
            refine ord_skipL _ rfl hS rfl ?_
            simp only [pL,List.set]
            refine ord_skipL _ rfl hS rfl ?_
            simp only [pL,List.set]
            refine ord_skipL _ rfl hS rfl ?_
            simp only [pL,List.set]
            refine ord_skipL _ rfl hS rfl ?_
            simp only [pL,List.set]
            refine ord_actL _ rfl (fun K1 hK1=>?_)
            go_wp2
            refine hK1 _ _ hS ?_
            clear hK1 K1
            refine ord_skipL _ rfl hS rfl ?_
            simp only [pL,List.set]
            refine ord_tail ?_
            replace hR:=hR.nw hnd
            replace hwr:=nw_trans hwr hnd
            replace nW:=nw_trans nW hnd
            clear hnd hV1 hS
            have hms:mixR os (j + 1) = mixR os j:=hstay.out (raise_no (fun e=>hkd e.1))
            rw [← hms] at hR
            have hat9:Hid (∀ y ∈ os,y.At (fun b=>b ≠ g2) V1.drew):=fun y hy=>(hat.out y hy).nw hwr
            clear hms hset hstay hat hwr hmr hc7
            replace hR:Hid _:=hR
            replace hkd:Hid _:=hkd
            go_wp2
            go_roundw
            case rel=>exact ⟨j + 1,by omega,by go_num,hR.out,hat9.out,nW⟩
            case measure=>simp [intOf];omega
          ·obtain rfl:j = M:=by omega
           have hall:mixR os j = raiseX os:=by rw [← hMo.out];exact mixR_all os
           rw [hall] at hR
           have hrl:(raiseX os).length = j:=by unfold raiseX;rw [List.length_map];exact hMo.out
           have hsl:=hR.tsl (cap:=cp2) (Y:=fun _=>True) (by rw [hrl];exact hl2) hc9 (fun y hy=>by obtain ⟨x,hx,rfl⟩:=List.mem_map.1 hy;exact raise_at ((hat x hx).mono (fun _ _ _=>trivial)))
           rw [hrl] at hsl
           have hz:Hid (TSl (fun _=>True) (fun _=>True) wr (.slice (some ⟨g2,0,none⟩) j cp2) (raiseX os)):=hsl.mono (fun _ _ _=>trivial) (fun _ _ _=>trivial)
           have hfin:Hid ((raiseX os).map (·.t) = (mendX xs).map (·.t)):=same_raise hkz.out
           clear hsl hrl hall hR hat
           go_wp2
           go_ret
           exact ⟨_,rfl,raiseX os,hz.out,hfin.out,nW⟩

end Go.Proofs.Ytgmfofngmfekbaa
