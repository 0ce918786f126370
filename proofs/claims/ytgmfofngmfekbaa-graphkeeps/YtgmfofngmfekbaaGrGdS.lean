/-
  GrR5, GrR6: in one text.
-/
import Derived.Test.YtgmfofngmfekbaaGrGcS
import Derived.Test.YtgmfofngmfekbaaThC4S
namespace Go.Proofs.Ytgmfofngmfekbaa
set_option linter.unusedVariables false
set_option linter.unusedSimpArgs false
set_option maxRecDepth 20000
open Go.RowKit

theorem same_tcs {xs ys:List TC} (h:xs.map (·.t) = ys.map (·.t)):xs.length = ys.length:=by simpa using congrArg List.length h

set_option maxRecDepth 100000 in
set_option maxHeartbeats 2000000 in
theorem c_rgcopy {X Y:Nat→Prop} {v:Value} {xs:List TC} (w:World) (h:TSl X Y w v xs) (hok:∀ x ∈ xs,TLen x.t) (hlen:xs.length ≤ 1000000) :
  Calls Try.prog 9 #[v] w fun e w'=>∃ u ys,e = .returned u∧TSl (fun b=>w.heap.size ≤ b) (fun b=>w.heap.size ≤ b) w' u ys∧ys.map (·.t) = xs.map (·.t)∧Nw w w':=by
 obtain ⟨ao,cap,rfl,hc1,hc2⟩:=h.form
 obtain ⟨N,hN⟩:∃ N,xs.length = N:=⟨_,rfl⟩
 rw [hN] at h hc1 hlen ⊢
 replace hN:Hid _:=hN
 replace hok:Hid _:=hok
 obtain ⟨S,hS⟩:∃ S,Hid (S = w.heap.size):=⟨_,rfl⟩
 have hrow0:=grow_new w (fun b=>w.heap.size ≤ b)
 have n0:Nw w (w.alloc (.cells #[] 34)):=nw_alloc (nw_refl _) _
 obtain ⟨Y,hY⟩:∃ Y,Hid (Y = w.alloc (.cells #[] 34)):=⟨_,rfl⟩
 rw [← hY.out,← hS.out] at hrow0
 rw [← hY.out] at n0
 go_enter Try.func9,Try.ntmps9
 go_wp2_with (refine wpList_buildSlice0 rfl 22 34 rfl Try.underTs Try.sizeSome ?_;rw [← hY.out];refine stop_here ?_)
 unfold Hid
 clear hY
 rw [← hS.out]
 go_wp2
 go_loopw [3,9] (fun uv kv wr=>∃ (k:Nat) (u:Value) (ys:List TC),k ≤ N∧uv = u∧kv = .int .i64 k∧GRow S (fun b=>S ≤ b) wr u ys∧Hid (ys.map (·.t) = (xs.take k).map (·.t))∧Nw w wr) (fun _ kv _=>N - (intOf kv).toNat)
 case atStart=>exact ⟨0,_,[],Nat.zero_le _,rfl,rfl,hrow0,rfl,n0⟩
 case round =>
  clear hrow0 n0
  obtain ⟨k,u,ys,hk,rfl,rfl,hrow,hys,hw⟩:=hrel
  obtain ⟨oa,oc,rfl⟩:=hrow.form
  have hyl:ys.length = k:=by have h9:=congrArg List.length hys.out;have h8:=hN.out;simp at h9;omega
  rw [hyl] at hrow
  have hs:=h.nw hw
  by_cases hltN:k < N
  ·have hlt:k < xs.length:=by rw [hN.out];exact hltN
   have hst:Hid ((xs.take (k + 1)).map (·.t) = (xs.take k).map (·.t) ++ [xs[k].t]):=by unfold Hid;rw [List.take_succ_eq_append_getElem hlt,List.map_append];rfl
   have hokk:Hid (TLen xs[k].t):=hok.out _ (List.getElem_mem hlt)
   have nW:Nw wr wr:=nw_refl _
   obtain ⟨q1,off1,hva,_,hrr,hat1⟩:=(hs).get k hlt
   first | subst hva | (simp only [Option.some.injEq,Addr.mk.injEq,and_true] at hva;obtain ⟨rfl,rfl⟩:=hva)
   generalize xs[k] = x at *
   unfold tcC at hrr
   obtain ⟨Y1,hY⟩:∃ Y,Hid (Y = wr.alloc (.cells (thC zeroT (.slice none 0 0) (.slice none 0 0) (.slice none 0 0) (.slice none 0 0)).toArray 34)):=⟨_,rfl⟩
   have hV1:Y1.heap[wr.heap.size]? = some (.cells (thC zeroT (.slice none 0 0) (.slice none 0 0) (.slice none 0 0) (.slice none 0 0)).toArray 34 (0,0)):=by rw [hY.out];exact heap_alloc_new _ _
   obtain ⟨V1,hV⟩:∃ V,Hid (V = Y1.setRow wr.heap.size (thC x.t x.l x.c x.k x.d).toArray):=⟨_,rfl⟩
   have nV1:Nw wr V1:=by rw [hV.out,hY.out];exact Fr.setRow (nw_alloc (nw_refl _) _) (.inr (Nat.le_refl _)) _
   have hnew:V1.heap[wr.heap.size]? = some (.cells (thC x.t x.l x.c x.k x.d).toArray 34 (0,0)):=by rw [hV.out];exact setRow_heap _ _ _ _ _ _ hV1
   go_wp2_with (first | (refine wpList_load_as rfl 34 _ rfl q1 (off1 + k * 26) rfl (thV x.t x.l x.c x.k x.d) _ rfl hrr Try.rowT Try.sizeT ?_) | (refine wpList_alloc_agg rfl 34 rfl _ Try.zeroTh ?_;rw [← hY.out];refine stop_here ?_))
   unfold Hid
   refine wpList_store_all rfl 34 _ _ rfl (wr.heap.size) rfl (thV x.t x.l x.c x.k x.d) rfl (thC x.t x.l x.c x.k x.d) rfl (thC zeroT (.slice none 0 0) (.slice none 0 0) (.slice none 0 0) (.slice none 0 0)) 34 hV1 rfl (ThAt.one hat1) Try.sizeT ?_
   rw [← hV.out]
   clear hV hY hV1 hrr
   replace hw:=nw_trans hw nV1
   replace hrow:=hrow.nw nV1
   replace nW:=nw_trans nW nV1
   replace hat1:=hat1.nw nV1
   have hV1:=hnew
   clear hnew
   have hlA1:wr.heap.size < V1.heap.size:=heap_lt hV1
   generalize wr.heap.size = A1 at *
   clear hs hlt
   have hob:∀ b,(Value.slice oa k oc).ownBlock = some b→b < V1.heap.size:=fun b hb=>(hrow.own.lt b hb).2
   have hSV:S ≤ V1.heap.size:=by have h9:=hw.size;have h8:=hS.out;omega
   replace hob:Hid _:=hob
   replace hSV:Hid _:=hSV
   have hcon:Hid _:=c_rtcopy V1 hat1 hokk.out.l1 hokk.out.l2 hokk.out.l3 hokk.out.l4
   have hr0:=range_all hV1
   go_wp2_with (first | (refine wpList_load_as rfl 34 _ rfl (A1) 0 rfl (thV x.t x.l x.c x.k x.d) _ rfl hr0 Try.rowT Try.sizeT ?_) | (go_at_call 29;refine Calls.mono hcon.out ?_;rintro e W2 ⟨o1,o2,o3,o4,rfl,hc,n2⟩;refine stop_here ?_))
   unfold Hid
   clear hcon hr0
   replace hV1:=(n2.block _ (heap_lt hV1) (fun h=>h)).trans hV1
   replace hw:=nw_trans hw n2
   replace hrow:=hrow.nw n2
   replace nW:=nw_trans nW n2
   clear hat1 hV1 hokk
   have hnw:=hw
   have hkl:Hid (ys.length ≤ 1000000):=by unfold Hid;omega
   have hyA:TC.At (fun b=>S ≤ b∧¬ (Value.slice oa k oc).ownBlock = some b) W2 ⟨x.t,o1,o2,o3,o4⟩:=ThAt.mono hc (fun b hb _=>⟨Nat.le_trans hSV.out hb,fun e=>by have h9:=hob.out b e;have h8:_ ≤ b:=hb;omega⟩)
   clear hob hSV
   obtain ⟨i0,hi0,hz0,hs0,hb0⟩:=info_parts3 Try.infoTb
   obtain ⟨cs,hcs⟩:∃ cs,(thC x.t o1 o2 o3 o4) = cs:=⟨_,rfl⟩
   obtain ⟨vv,hvv⟩:∃ vv,(thV x.t o1 o2 o3 o4) = vv:=⟨_,rfl⟩
   have hv2:vv = .agg cs.toArray:=by rw [← hvv,← hcs];rfl
   have h26:cs.length = 26:=by rw [← hcs];rfl
   have hone:∀ v ∈ cs,v.oneCell' = true:=by rw [← hcs];exact tc_one hyA
   have hrA:=owns_nw (GRow.own hrow) (nw_alloc (nw_refl W2) (.cells cs.toArray 34))
   have hsl:=sl_lit W2 cs.toArray 34 1 (by omega)
   rw [List.toList_toArray] at hsl
   have hz26:(Try.prog.info? 34).map (·.size) = some cs.length:=by rw [h26];exact Try.sizeT
   have hp26:0 < cs.length:=by omega
   have hq26:cs.length ≤ 1000000:=by omega
   have hl26:cs.length = 1 * 26:=by omega
   rw [hvv]
   replace hvv:Hid _:=hvv
   replace hcs:Hid _:=hcs
   go_wp2_with (first | (refine wpList_buildSlice1 rfl 22 34 _ rfl vv rfl cs hv2 Try.underTs hz26 Try.zeroSome hp26 hq26 ?_) | (at_builtin;refine wpList_append_sl _ rfl _ _ 22 rfl S 34 i0 _ 26 272 Try.underTs hi0 hz0 hs0 hb0 rfl (by decide) _ _ _ rfl hrA _ _ 1 _ rfl hsl hl26 ?d1 ?d2 ?d3 ?d4 ?_))
   case d1=>exact hone
   case d2=>have:=hkl.out;unfold maxLen;omega
   case d3=>have:=hkl.out;omega
   case d4=>have h9:=hnw.size;have h8:=hS.out;first | (rw [alloc_size];omega) | omega
   intro v9 w9 hown9 hgrow9 hat9
   have hcs2:=hcs.out
   subst hcs2
   have hvv2:=hvv.out
   subst hvv2
   have hrow9:=GRow.push (y:=⟨x.t,o1,o2,o3,o4⟩) (v9:=v9) (w9:=w9) hrow hyA (by rw [hyl];exact hown9) hgrow9 hat9
   have m9:Nw w w9:=GRow.fr hrow hnw (by have:=hS.out;omega) hgrow9
   obtain ⟨a9,cp9,rfl⟩:=owns_form hown9
   clear hown9 hgrow9 hat9 hrA hsl hone hz26 hp26 hq26 hl26 h26 hv2 hvv hcs hi0 hz0 hs0 hb0
   have hys2:Hid ((ys ++ [(⟨x.t,o1,o2,o3,o4⟩:TC)]).map (·.t) = (xs.take (k + 1)).map (·.t)):=by unfold Hid;rw [hst.out,List.map_append,hys.out];rfl
   clear hst hys hrow hyA hc hnw hw nW
   replace hrow9:Hid _:=hrow9
   replace m9:Hid _:=m9
   go_wp2
   go_roundw
   case rel=>exact ⟨k + 1,_,_,by omega,rfl,by go_num,hrow9.out,hys2,m9.out⟩
   case measure=>simp [intOf];omega
  ·have hkn:k = N:=by omega
   have hans:Hid (ys.map (·.t) = xs.map (·.t)):=by unfold Hid;rw [hys.out,hkn,← hN.out,List.take_length]
   have hsl:=hrow.sl
   have hcl:∀ b,(Value.slice oa k oc).ownBlock = some b→w.heap.size ≤ b:=fun b hb=>by have h9:=(hrow.own.lt b hb).1;have:=hS.out;omega
   replace hsl:=hsl.mono (X':=fun b=>w.heap.size ≤ b) (Y':=fun b=>w.heap.size ≤ b) (fun b hb _=>hcl b hb) (fun b hb _=>by have h9:=hb.1;have:=hS.out;omega)
   rw [hkn] at hsl
   replace hsl:Hid _:=hsl
   clear hys hrow hcl hs
   rw [hkn]
   go_wp2
   go_ret
   exact ⟨_,rfl,ys,hsl.out,hans.out,hw⟩
end Go.Proofs.Ytgmfofngmfekbaa

namespace Go.Proofs.Ytgmfofngmfekbaa
set_option linter.unusedVariables false
set_option linter.unusedSimpArgs false
set_option maxRecDepth 20000
open Go.RowKit

/-- One round of Put. -/
def pstep (t:TC) (s:List TC × Bool) (x:TC):List TC × Bool :=
 let s1:=if s.2 = false∧t.t.id ≤ x.t.id then (s.1 ++ [t],true) else s
 if x.t.id = t.t.id then s1 else (s1.1 ++ [x],s1.2)
/-- The things with that one. -/
def putX (xs:List TC) (t:TC):List TC :=
 let s:=xs.foldl (pstep t) ([],false)
 if s.2 = true then s.1 else s.1 ++ [t]
theorem pfold_take {t:TC} {xs:List TC} {k:Nat} (h:k < xs.length):(xs.take (k + 1)).foldl (pstep t) ([],false) = pstep t ((xs.take k).foldl (pstep t) ([],false)) xs[k]:=by
 rw [List.take_succ_eq_append_getElem h,List.foldl_append]
 rfl
theorem pstep_A {t x:TC} {ys:List TC} (h:t.t.id ≤ x.t.id) (n:¬ x.t.id = t.t.id):pstep t (ys,false) x = (ys ++ [t] ++ [x],true):=by unfold pstep;simp [h,n]
theorem pstep_Ae {t x:TC} {ys:List TC} (n:x.t.id = t.t.id):pstep t (ys,false) x = (ys ++ [t],true):=by unfold pstep;simp [n]
theorem pstep_B {t x:TC} {ys:List TC} (n:¬ x.t.id = t.t.id):pstep t (ys,true) x = (ys ++ [x],true):=by unfold pstep;simp [n]
theorem pstep_Be {t x:TC} {ys:List TC} (n:x.t.id = t.t.id):pstep t (ys,true) x = (ys,true):=by unfold pstep;simp [n]
theorem pstep_C {t x:TC} {ys:List TC} (h:¬ t.t.id ≤ x.t.id):pstep t (ys,false) x = (ys ++ [x],false):=by unfold pstep;simp [h];omega

set_option maxRecDepth 100000 in
set_option maxHeartbeats 4000000 in
theorem c_rgput {X Y Z:Nat→Prop} {v:Value} {xs:List TC} {t:Th} {uL uC uK uD:Value} (w:World) (h:TSl X Y w v xs) (ht:ThAt Z w t uL uC uK uD) (hlen:xs.length ≤ 100000) :
  Calls Try.prog 21 #[v,(thV t uL uC uK uD)] w fun e w'=>∃ u,e = .returned u∧TSl (fun b=>w.heap.size ≤ b) (fun b=>b < w.heap.size) w' u (putX xs ⟨t,uL,uC,uK,uD⟩)∧Nw w w':=by
 obtain ⟨ao,cap,rfl,hc1,hc2⟩:=h.form
 obtain ⟨N,hN⟩:∃ N,xs.length = N:=⟨_,rfl⟩
 rw [hN] at h hc1 hlen
 replace hN:Hid _:=hN
 replace h:=h.below
 have ht0:TC.At (fun b=>b < w.heap.size) w ⟨t,uL,uC,uK,uD⟩:=ThAt.mono ht (fun _ _ hl=>hl)
 clear ht
 rw [hN.out]
 obtain ⟨W,hW⟩:∃ W,Hid (W = w.alloc (.cells (thC t uL uC uK uD).toArray 34)):=⟨_,rfl⟩
 have nW:Nw w W:=by rw [hW.out];exact nw_alloc (nw_refl w) _
 have hB0:W.heap[w.heap.size]? = some (.cells (thC t uL uC uK uD).toArray 34 (0,0)):=by rw [hW.out];exact heap_alloc_new w _
 replace h:=h.nw nW
 replace ht0:=ht0.nw nW
 have hwW:w.heap.size < W.heap.size:=heap_lt hB0
 obtain ⟨S,hS⟩:∃ S,Hid (S = W.heap.size):=⟨_,rfl⟩
 obtain ⟨B,hB⟩:∃ B,Hid (B = w.heap.size):=⟨_,rfl⟩
 rw [← hB.out] at h ht0 hB0
 have hBS:B < S:=by rw [hB.out,hS.out];exact hwW
 clear hwW
 have hrow0:=grow_new W (fun b=>b < B)
 have n0:Nw W (W.alloc (.cells #[] 34)):=nw_alloc (nw_refl _) _
 obtain ⟨Y,hY⟩:∃ Y,Hid (Y = W.alloc (.cells #[] 34)):=⟨_,rfl⟩
 rw [← hY.out,← hS.out] at hrow0
 rw [← hY.out] at n0
 go_enter Try.func21,Try.ntmps21
 go_wp2_with (refine wpList_box_agg rfl 34 _ rfl (thV t uL uC uK uD) _ rfl rfl ?_;rw [← hW.out];refine stop_here ?_)
 unfold Hid
 rw [← hB.out]
 go_wp2_with (refine wpList_buildSlice0 rfl 22 34 rfl Try.underTs Try.sizeSome ?_;rw [← hY.out];refine stop_here ?_)
 unfold Hid
 clear hY hW
 rw [← hS.out]
 go_wp2
 go_loopw [5,6,12] (fun uv dv kv wr=>∃ (k:Nat) (u:Value) (ys:List TC) (d:Bool),k ≤ N∧uv = u∧dv = .bool d∧kv = .int .i64 k∧GRow S (fun b=>b < B) wr u ys∧Hid ((xs.take k).foldl (pstep ⟨t,uL,uC,uK,uD⟩) ([],false) = (ys,d))∧ys.length ≤ 2 * k∧Nw W wr) (fun _ _ kv _=>N - (intOf kv).toNat)
 case atStart=>exact ⟨0,_,[],false,Nat.zero_le _,rfl,rfl,rfl,hrow0,rfl,Nat.zero_le _,n0⟩
 case round =>
  clear hrow0 n0
  obtain ⟨k,u,ys,d,hk,rfl,rfl,rfl,hrow,hfd,hyk,hw⟩:=hrel
  obtain ⟨oa,oc,rfl⟩:=hrow.form
  obtain ⟨m,hyl⟩:∃ m,ys.length = m:=⟨_,rfl⟩
  rw [hyl] at hrow hyk ⊢
  have hs:=h.nw hw
  have hB1:=(hw.block _ (heap_lt hB0) (fun h=>h)).trans hB0
  have ht1:=ht0.nw hw
  by_cases hltN:k < N
  ·have hlt:k < xs.length:=by rw [hN.out];exact hltN
   have hst:=pfold_take (t:=⟨t,uL,uC,uK,uD⟩) hlt
   rw [hfd.out] at hst
   replace hst:Hid _:=hst
   have hob:∀ b,(Value.slice oa m oc).ownBlock = some b→S ≤ b∧b < wr.heap.size:=fun b hb=>⟨(hrow.own.lt b hb).1,(hrow.own.lt b hb).2⟩
   replace hob:Hid _:=hob
   have nW2:Nw wr wr:=nw_refl _
   have nW3:=nW
   have nW:=nW2
   obtain ⟨q1,off1,hva,_,hrr,hat1⟩:=(hs).get k hlt
   first | subst hva | (simp only [Option.some.injEq,Addr.mk.injEq,and_true] at hva;obtain ⟨rfl,rfl⟩:=hva)
   generalize xs[k] = x at *
   unfold tcC at hrr
   obtain ⟨Y1,hY⟩:∃ Y,Hid (Y = wr.alloc (.cells (thC zeroT (.slice none 0 0) (.slice none 0 0) (.slice none 0 0) (.slice none 0 0)).toArray 34)):=⟨_,rfl⟩
   have hV1:Y1.heap[wr.heap.size]? = some (.cells (thC zeroT (.slice none 0 0) (.slice none 0 0) (.slice none 0 0) (.slice none 0 0)).toArray 34 (0,0)):=by rw [hY.out];exact heap_alloc_new _ _
   obtain ⟨V1,hV⟩:∃ V,Hid (V = Y1.setRow wr.heap.size (thC x.t x.l x.c x.k x.d).toArray):=⟨_,rfl⟩
   have nV1:Nw wr V1:=by rw [hV.out,hY.out];exact Fr.setRow (nw_alloc (nw_refl _) _) (.inr (Nat.le_refl _)) _
   have hnew:V1.heap[wr.heap.size]? = some (.cells (thC x.t x.l x.c x.k x.d).toArray 34 (0,0)):=by rw [hV.out];exact setRow_heap _ _ _ _ _ _ hV1
   go_wp2_with (first | (refine wpList_load_as rfl 34 _ rfl q1 (off1 + k * 26) rfl (thV x.t x.l x.c x.k x.d) _ rfl hrr Try.rowT Try.sizeT ?_) | (refine wpList_alloc_agg rfl 34 rfl _ Try.zeroTh ?_;rw [← hY.out];refine stop_here ?_))
   unfold Hid
   refine wpList_store_all rfl 34 _ _ rfl (wr.heap.size) rfl (thV x.t x.l x.c x.k x.d) rfl (thC x.t x.l x.c x.k x.d) rfl (thC zeroT (.slice none 0 0) (.slice none 0 0) (.slice none 0 0) (.slice none 0 0)) 34 hV1 rfl (ThAt.one hat1) Try.sizeT ?_
   rw [← hV.out]
   clear hV hY hV1 hrr
   have hl1_0:=heap_lt hB1
   replace hB1:=(nV1.block _ (heap_lt hB1) (fun h=>h)).trans hB1
   replace hw:=nw_trans hw nV1
   replace hrow:=hrow.nw nV1
   replace ht1:=ht1.nw nV1
   replace nW:=nw_trans nW nV1
   replace hat1:=hat1.nw nV1
   have hV1:=hnew
   clear hnew
   have hlA1:wr.heap.size < V1.heap.size:=heap_lt hV1
   generalize wr.heap.size = A1 at *
   clear hs
   replace hlt:Hid _:=hlt
   have hkl:Hid (m ≤ 1000000):=by unfold Hid;omega
   have hkl2:Hid (m + 1 ≤ 1000000):=by unfold Hid;omega
   clear nW h ht0 hB0 nV1
   have hnw:=hw
   clear hw
   cases d with
   | true =>
    clear ht1
    by_cases he:x.t.id = t.id
    ·have hbe:(x.t.id != t.id) = false:=by simp [he]
     have c0:V1.cell? ⟨A1,0,none⟩ = some (.int .u64 x.t.id):=cell_blk hV1 rfl
     have c1:V1.cell? ⟨B,0,none⟩ = some (.int .u64 t.id):=cell_blk hB1 rfl
     clear hB1 hV1 hat1 hob
     have he2:Hid (x.t.id = t.id):=he
     clear he
     have hfd2:Hid ((xs.take (k + 1)).foldl (pstep ⟨t,uL,uC,uK,uD⟩) ([],false) = (ys,true)):=by unfold Hid;rw [hst.out];exact pstep_Be he2.out
     replace hrow:Hid _:=hrow
     replace hnw:Hid _:=hnw
     clear hst
     go_wp2
     go_roundw
     case rel=>exact ⟨k + 1,_,ys,true,by omega,rfl,rfl,by go_num,hrow.out,hfd2,by first | omega | (simp;omega),hnw.out⟩
     case measure=>simp [intOf];omega
    ·have hbe:(x.t.id != t.id) = true:=by simpa using he
     have c0:V1.cell? ⟨A1,0,none⟩ = some (.int .u64 x.t.id):=cell_blk hV1 rfl
     have c1:V1.cell? ⟨B,0,none⟩ = some (.int .u64 t.id):=cell_blk hB1 rfl
     have he2:Hid (¬ x.t.id = t.id):=he
     clear he
     have hyA:=GRow.old hrow (Nat.le_of_lt hBS) hat1
     obtain ⟨i0,hi0,hz0,hs0,hb0⟩:=info_parts3 Try.infoTb
     obtain ⟨cs,hcs⟩:∃ cs,(thC x.t x.l x.c x.k x.d) = cs:=⟨_,rfl⟩
     obtain ⟨vv,hvv⟩:∃ vv,(thV x.t x.l x.c x.k x.d) = vv:=⟨_,rfl⟩
     have hv2:vv = .agg cs.toArray:=by rw [← hvv,← hcs];rfl
     have h26:cs.length = 26:=by rw [← hcs];rfl
     have hone:∀ v ∈ cs,v.oneCell' = true:=by rw [← hcs];exact tc_one hyA
     have hrA:=owns_nw (GRow.own hrow) (nw_alloc (nw_refl V1) (.cells cs.toArray 34))
     have hsl:=sl_lit V1 cs.toArray 34 1 (by omega)
     rw [List.toList_toArray] at hsl
     have hz26:(Try.prog.info? 34).map (·.size) = some cs.length:=by rw [h26];exact Try.sizeT
     have hp26:0 < cs.length:=by omega
     have hq26:cs.length ≤ 1000000:=by omega
     have hl26:cs.length = 1 * 26:=by omega
     have hrl:V1.rangeAt A1 0 cs:=by rw [← hcs];exact range_all hV1
     replace hvv:Hid _:=hvv
     replace hcs:Hid _:=hcs
     go_wp2_with (first | (refine wpList_load_as rfl 34 _ rfl (A1) 0 rfl vv cs hv2 hrl Try.rowT hz26 ?_) | (refine wpList_buildSlice1 rfl 22 34 _ rfl vv rfl cs hv2 Try.underTs hz26 Try.zeroSome hp26 hq26 ?_) | (at_builtin;refine wpList_append_sl _ rfl _ _ 22 rfl S 34 i0 _ 26 272 Try.underTs hi0 hz0 hs0 hb0 rfl (by decide) _ _ _ rfl hrA _ _ 1 _ rfl hsl hl26 ?d1 ?d2 ?d3 ?d4 ?_))
     case d1=>exact hone
     case d2=>have:=hkl.out;unfold maxLen;omega
     case d3=>have:=hkl.out;omega
     case d4=>have h9:=hnw.size;have h8:=hS.out;first | (rw [alloc_size];omega) | omega
     intro v9 w9 hown9 hgrow9 hat9
     have hcs2:=hcs.out
     subst hcs2
     have hvv2:=hvv.out
     subst hvv2
     have hrow9:=GRow.push (y:=x) (v9:=v9) (w9:=w9) hrow hyA (by rw [hyl];exact hown9) hgrow9 hat9
     have m9:Nw W w9:=GRow.fr hrow hnw (by have:=hS.out;omega) hgrow9
     obtain ⟨a9,cp9,rfl⟩:=owns_form hown9
     clear hown9 hgrow9 hat9 hrA hsl hone hz26 hp26 hq26 hl26 h26 hv2 hvv hcs hi0 hz0 hs0 hb0 hrl
     clear hB1 hV1 hat1 hob hyA hrow hnw c0 c1
     have hfd2:Hid ((xs.take (k + 1)).foldl (pstep ⟨t,uL,uC,uK,uD⟩) ([],false) = (ys ++ [x],true)):=by unfold Hid;rw [hst.out];exact pstep_B he2.out
     replace hrow9:Hid _:=hrow9
     replace m9:Hid _:=m9
     clear hst
     go_wp2
     go_roundw
     case rel=>exact ⟨k + 1,_,ys ++ [x],true,by omega,rfl,rfl,by go_num,hrow9.out,hfd2,by first | omega | (simp;omega),m9.out⟩
     case measure=>simp [intOf];omega
   | false =>
    by_cases hle:t.id ≤ x.t.id
    ·have hbl:decide (t.id ≤ x.t.id) = true:=decide_eq_true hle
     have c0:V1.cell? ⟨A1,0,none⟩ = some (.int .u64 x.t.id):=cell_blk hV1 rfl
     have c1:V1.cell? ⟨B,0,none⟩ = some (.int .u64 t.id):=cell_blk hB1 rfl
     have hle2:Hid (t.id ≤ x.t.id):=hle
     have hyA:=GRow.old hrow (Nat.le_of_lt hBS) ht1
     obtain ⟨i0,hi0,hz0,hs0,hb0⟩:=info_parts3 Try.infoTb
     obtain ⟨cs,hcs⟩:∃ cs,(thC t uL uC uK uD) = cs:=⟨_,rfl⟩
     obtain ⟨vv,hvv⟩:∃ vv,(thV t uL uC uK uD) = vv:=⟨_,rfl⟩
     have hv2:vv = .agg cs.toArray:=by rw [← hvv,← hcs];rfl
     have h26:cs.length = 26:=by rw [← hcs];rfl
     have hone:∀ v ∈ cs,v.oneCell' = true:=by rw [← hcs];exact tc_one hyA
     have hrA:=owns_nw (GRow.own hrow) (nw_alloc (nw_refl V1) (.cells cs.toArray 34))
     have hsl:=sl_lit V1 cs.toArray 34 1 (by omega)
     rw [List.toList_toArray] at hsl
     have hz26:(Try.prog.info? 34).map (·.size) = some cs.length:=by rw [h26];exact Try.sizeT
     have hp26:0 < cs.length:=by omega
     have hq26:cs.length ≤ 1000000:=by omega
     have hl26:cs.length = 1 * 26:=by omega
     have hrl:V1.rangeAt B 0 cs:=by rw [← hcs];exact range_all hB1
     replace hvv:Hid _:=hvv
     replace hcs:Hid _:=hcs
     go_wp2_with (first | (refine wpList_load_as rfl 34 _ rfl (B) 0 rfl vv cs hv2 hrl Try.rowT hz26 ?_) | (refine wpList_buildSlice1 rfl 22 34 _ rfl vv rfl cs hv2 Try.underTs hz26 Try.zeroSome hp26 hq26 ?_) | (at_builtin;refine wpList_append_sl _ rfl _ _ 22 rfl S 34 i0 _ 26 272 Try.underTs hi0 hz0 hs0 hb0 rfl (by decide) _ _ _ rfl hrA _ _ 1 _ rfl hsl hl26 ?d1 ?d2 ?d3 ?d4 ?_))
     case d1=>exact hone
     case d2=>have:=hkl.out;unfold maxLen;omega
     case d3=>have:=hkl.out;omega
     case d4=>have h9:=hnw.size;have h8:=hS.out;first | (rw [alloc_size];omega) | omega
     intro v9 w9 hown9 hgrow9 hat9
     have hcs2:=hcs.out
     subst hcs2
     have hvv2:=hvv.out
     subst hvv2
     have hrow9:=GRow.push (y:=⟨t,uL,uC,uK,uD⟩) (v9:=v9) (w9:=w9) hrow hyA (by rw [hyl];exact hown9) hgrow9 hat9
     have m9:Nw W w9:=GRow.fr hrow hnw (by have:=hS.out;omega) hgrow9
     replace hB1:=push_blk hrow hB1 (fun e=>by have h9:=(hob.out B e).1;omega) hgrow9
     replace hV1:=push_blk hrow hV1 (fun e=>by have h9:=(hob.out A1 e).2;omega) hgrow9
     replace hat1:=push_old hrow (Nat.le_of_lt hBS) hat1 hgrow9
     clear hob
     obtain ⟨a9,cp9,rfl⟩:=owns_form hown9
     clear hown9 hgrow9 hat9 hrA hsl hone hz26 hp26 hq26 hl26 h26 hv2 hvv hcs hi0 hz0 hs0 hb0 hrl
     clear hyA c0 c1 ht1 hnw hrow
     have hyl8:(ys ++ [(⟨t,uL,uC,uK,uD⟩:TC)]).length = m + 1:=by rw [List.length_append,hyl];rfl
     by_cases he:x.t.id = t.id
     ·have hbe:(x.t.id != t.id) = false:=by simp [he]
      have c0:w9.cell? ⟨A1,0,none⟩ = some (.int .u64 x.t.id):=cell_blk hV1 rfl
      have c1:w9.cell? ⟨B,0,none⟩ = some (.int .u64 t.id):=cell_blk hB1 rfl
      clear hB1 hV1 hat1
      have he2:Hid (x.t.id = t.id):=he
      clear he hle
      have hfd2:Hid ((xs.take (k + 1)).foldl (pstep ⟨t,uL,uC,uK,uD⟩) ([],false) = (ys ++ [⟨t,uL,uC,uK,uD⟩],true)):=by unfold Hid;rw [hst.out];exact pstep_Ae he2.out
      replace hrow9:Hid _:=hrow9
      replace m9:Hid _:=m9
      clear hst
      go_wp2
      go_roundw
      case rel=>exact ⟨k + 1,_,ys ++ [⟨t,uL,uC,uK,uD⟩],true,by omega,rfl,rfl,by go_num,hrow9.out,hfd2,by first | omega | (simp;omega),m9.out⟩
      case measure=>simp [intOf];omega
     ·have hbe:(x.t.id != t.id) = true:=by simpa using he
      have c0:w9.cell? ⟨A1,0,none⟩ = some (.int .u64 x.t.id):=cell_blk hV1 rfl
      have c1:w9.cell? ⟨B,0,none⟩ = some (.int .u64 t.id):=cell_blk hB1 rfl
      have he2:Hid (¬ x.t.id = t.id):=he
      clear he hle
      obtain ⟨zs,hzs⟩:∃ zs,ys ++ [(⟨t,uL,uC,uK,uD⟩:TC)] = zs:=⟨_,rfl⟩
      rw [hzs] at hrow9 hyl8
      replace hzs:Hid _:=hzs
      have hyA:=GRow.old hrow9 (Nat.le_of_lt hBS) hat1
      obtain ⟨i0,hi0,hz0,hs0,hb0⟩:=info_parts3 Try.infoTb
      obtain ⟨cs,hcs⟩:∃ cs,(thC x.t x.l x.c x.k x.d) = cs:=⟨_,rfl⟩
      obtain ⟨vv,hvv⟩:∃ vv,(thV x.t x.l x.c x.k x.d) = vv:=⟨_,rfl⟩
      have hv2:vv = .agg cs.toArray:=by rw [← hvv,← hcs];rfl
      have h26:cs.length = 26:=by rw [← hcs];rfl
      have hone:∀ v ∈ cs,v.oneCell' = true:=by rw [← hcs];exact tc_one hyA
      have hrA:=owns_nw (GRow.own hrow9) (nw_alloc (nw_refl w9) (.cells cs.toArray 34))
      have hsl:=sl_lit w9 cs.toArray 34 1 (by omega)
      rw [List.toList_toArray] at hsl
      have hz26:(Try.prog.info? 34).map (·.size) = some cs.length:=by rw [h26];exact Try.sizeT
      have hp26:0 < cs.length:=by omega
      have hq26:cs.length ≤ 1000000:=by omega
      have hl26:cs.length = 1 * 26:=by omega
      have hrl:w9.rangeAt A1 0 cs:=by rw [← hcs];exact range_all hV1
      replace hvv:Hid _:=hvv
      replace hcs:Hid _:=hcs
      go_wp2_with (first | (refine wpList_load_as rfl 34 _ rfl (A1) 0 rfl vv cs hv2 hrl Try.rowT hz26 ?_) | (refine wpList_buildSlice1 rfl 22 34 _ rfl vv rfl cs hv2 Try.underTs hz26 Try.zeroSome hp26 hq26 ?_) | (at_builtin;refine wpList_append_sl _ rfl _ _ 22 rfl S 34 i0 _ 26 272 Try.underTs hi0 hz0 hs0 hb0 rfl (by decide) _ _ _ rfl hrA _ _ 1 _ rfl hsl hl26 ?d1e ?d2e ?d3e ?d4e ?_))
      case d1e=>exact hone
      case d2e=>have:=hkl2.out;unfold maxLen;omega
      case d3e=>have:=hkl2.out;omega
      case d4e=>have h9:=m9.size;have h8:=hS.out;first | (rw [alloc_size];omega) | omega
      intro v8 w8 hown9 hgrow9 hat9
      have hcs2:=hcs.out
      subst hcs2
      have hvv2:=hvv.out
      subst hvv2
      have hrow8:=GRow.push (y:=x) (v9:=v8) (w9:=w8) hrow9 hyA (by rw [hyl8];exact hown9) hgrow9 hat9
      have m8:Nw W w8:=GRow.fr hrow9 m9 (by have:=hS.out;omega) hgrow9
      obtain ⟨a8,cp8,rfl⟩:=owns_form hown9
      clear hown9 hgrow9 hat9 hrA hsl hone hz26 hp26 hq26 hl26 h26 hv2 hvv hcs hi0 hz0 hs0 hb0 hrl
      clear hB1 hV1 hat1 hyA hrow9 m9 c0 c1
      have hfd2:Hid ((xs.take (k + 1)).foldl (pstep ⟨t,uL,uC,uK,uD⟩) ([],false) = (zs ++ [x],true)):=by unfold Hid;rw [hst.out];exact by rw [← hzs.out];exact pstep_A hle2.out he2.out
      replace hrow8:Hid _:=hrow8
      replace m8:Hid _:=m8
      clear hst
      go_wp2
      go_roundw
      case rel=>exact ⟨k + 1,_,zs ++ [x],true,by omega,rfl,rfl,by go_num,hrow8.out,hfd2,by first | omega | (simp;omega),m8.out⟩
      case measure=>simp [intOf];omega
    ·have hbl:decide (t.id ≤ x.t.id) = false:=decide_eq_false hle
     have hbe:(x.t.id != t.id) = true:=by simp;omega
     have c0:V1.cell? ⟨A1,0,none⟩ = some (.int .u64 x.t.id):=cell_blk hV1 rfl
     have c1:V1.cell? ⟨B,0,none⟩ = some (.int .u64 t.id):=cell_blk hB1 rfl
     have hle2:Hid (¬ t.id ≤ x.t.id):=hle
     clear hle ht1
     have hyA:=GRow.old hrow (Nat.le_of_lt hBS) hat1
     obtain ⟨i0,hi0,hz0,hs0,hb0⟩:=info_parts3 Try.infoTb
     obtain ⟨cs,hcs⟩:∃ cs,(thC x.t x.l x.c x.k x.d) = cs:=⟨_,rfl⟩
     obtain ⟨vv,hvv⟩:∃ vv,(thV x.t x.l x.c x.k x.d) = vv:=⟨_,rfl⟩
     have hv2:vv = .agg cs.toArray:=by rw [← hvv,← hcs];rfl
     have h26:cs.length = 26:=by rw [← hcs];rfl
     have hone:∀ v ∈ cs,v.oneCell' = true:=by rw [← hcs];exact tc_one hyA
     have hrA:=owns_nw (GRow.own hrow) (nw_alloc (nw_refl V1) (.cells cs.toArray 34))
     have hsl:=sl_lit V1 cs.toArray 34 1 (by omega)
     rw [List.toList_toArray] at hsl
     have hz26:(Try.prog.info? 34).map (·.size) = some cs.length:=by rw [h26];exact Try.sizeT
     have hp26:0 < cs.length:=by omega
     have hq26:cs.length ≤ 1000000:=by omega
     have hl26:cs.length = 1 * 26:=by omega
     have hrl:V1.rangeAt A1 0 cs:=by rw [← hcs];exact range_all hV1
     replace hvv:Hid _:=hvv
     replace hcs:Hid _:=hcs
     go_wp2_with (first | (refine wpList_load_as rfl 34 _ rfl (A1) 0 rfl vv cs hv2 hrl Try.rowT hz26 ?_) | (refine wpList_buildSlice1 rfl 22 34 _ rfl vv rfl cs hv2 Try.underTs hz26 Try.zeroSome hp26 hq26 ?_) | (at_builtin;refine wpList_append_sl _ rfl _ _ 22 rfl S 34 i0 _ 26 272 Try.underTs hi0 hz0 hs0 hb0 rfl (by decide) _ _ _ rfl hrA _ _ 1 _ rfl hsl hl26 ?d1f ?d2f ?d3f ?d4f ?_))
     case d1f=>exact hone
     case d2f=>have:=hkl.out;unfold maxLen;omega
     case d3f=>have:=hkl.out;omega
     case d4f=>have h9:=hnw.size;have h8:=hS.out;first | (rw [alloc_size];omega) | omega
     intro v9 w9 hown9 hgrow9 hat9
     have hcs2:=hcs.out
     subst hcs2
     have hvv2:=hvv.out
     subst hvv2
     have hrow9:=GRow.push (y:=x) (v9:=v9) (w9:=w9) hrow hyA (by rw [hyl];exact hown9) hgrow9 hat9
     have m9:Nw W w9:=GRow.fr hrow hnw (by have:=hS.out;omega) hgrow9
     obtain ⟨a9,cp9,rfl⟩:=owns_form hown9
     clear hown9 hgrow9 hat9 hrA hsl hone hz26 hp26 hq26 hl26 h26 hv2 hvv hcs hi0 hz0 hs0 hb0 hrl
     clear hB1 hV1 hat1 hob hyA hrow hnw c0 c1
     have hfd2:Hid ((xs.take (k + 1)).foldl (pstep ⟨t,uL,uC,uK,uD⟩) ([],false) = (ys ++ [x],false)):=by unfold Hid;rw [hst.out];exact pstep_C (by first | exact hle2.out | exact Int.not_le.2 hle2.out)
     replace hrow9:Hid _:=hrow9
     replace m9:Hid _:=m9
     clear hst
     go_wp2
     go_roundw
     case rel=>exact ⟨k + 1,_,ys ++ [x],false,by omega,rfl,rfl,by go_num,hrow9.out,hfd2,by first | omega | (simp;omega),m9.out⟩
     case measure=>simp [intOf];omega
  ·have hkn:k = N:=by omega
   have hfull:Hid (xs.foldl (pstep ⟨t,uL,uC,uK,uD⟩) ([],false) = (ys,d)):=by unfold Hid;rw [← hfd.out,hkn,← hN.out,List.take_length]
   have hwB:=hB.out
   have hkl:Hid (m ≤ 1000000):=by unfold Hid;omega
   clear hfd hs h
   cases d with
   | true =>
    clear hB1 ht1
    have hsl:TSl (fun b=>w.heap.size ≤ b) (fun b=>b < w.heap.size) _ _ (ys):=hrow.sl.mono (fun b hb _=>by have h9:=(hrow.own.lt b hb).1;omega) (fun b hb _=>by have h9:=hb.1;omega)
    have hput:Hid (putX xs ⟨t,uL,uC,uK,uD⟩ = ys):=by unfold Hid putX;rw [hfull.out];rfl
    have hfin:Nw w _:=nw_trans nW hw
    replace hfin:Hid _:=hfin
    replace hsl:Hid _:=hsl
    clear hrow hw hfull
    go_wp2
    go_ret
    rw [hput.out]
    exact ⟨_,rfl,hsl.out,hfin.out⟩
   | false =>
    have hnw:=hw
    have hyA:=GRow.old hrow (Nat.le_of_lt hBS) ht1
    obtain ⟨i0,hi0,hz0,hs0,hb0⟩:=info_parts3 Try.infoTb
    obtain ⟨cs,hcs⟩:∃ cs,(thC t uL uC uK uD) = cs:=⟨_,rfl⟩
    obtain ⟨vv,hvv⟩:∃ vv,(thV t uL uC uK uD) = vv:=⟨_,rfl⟩
    have hv2:vv = .agg cs.toArray:=by rw [← hvv,← hcs];rfl
    have h26:cs.length = 26:=by rw [← hcs];rfl
    have hone:∀ v ∈ cs,v.oneCell' = true:=by rw [← hcs];exact tc_one hyA
    have hrA:=owns_nw (GRow.own hrow) (nw_alloc (nw_refl wr) (.cells cs.toArray 34))
    have hsl:=sl_lit wr cs.toArray 34 1 (by omega)
    rw [List.toList_toArray] at hsl
    have hz26:(Try.prog.info? 34).map (·.size) = some cs.length:=by rw [h26];exact Try.sizeT
    have hp26:0 < cs.length:=by omega
    have hq26:cs.length ≤ 1000000:=by omega
    have hl26:cs.length = 1 * 26:=by omega
    have hrl:wr.rangeAt B 0 cs:=by rw [← hcs];exact range_all hB1
    replace hvv:Hid _:=hvv
    replace hcs:Hid _:=hcs
    go_wp2_with (first | (refine wpList_load_as rfl 34 _ rfl (B) 0 rfl vv cs hv2 hrl Try.rowT hz26 ?_) | (refine wpList_buildSlice1 rfl 22 34 _ rfl vv rfl cs hv2 Try.underTs hz26 Try.zeroSome hp26 hq26 ?_) | (at_builtin;refine wpList_append_sl _ rfl _ _ 22 rfl S 34 i0 _ 26 272 Try.underTs hi0 hz0 hs0 hb0 rfl (by decide) _ _ _ rfl hrA _ _ 1 _ rfl hsl hl26 ?d1g ?d2g ?d3g ?d4g ?_))
    case d1g=>exact hone
    case d2g=>have:=hkl.out;unfold maxLen;omega
    case d3g=>have:=hkl.out;omega
    case d4g=>have h9:=hnw.size;have h8:=hS.out;first | (rw [alloc_size];omega) | omega
    intro v9 w9 hown9 hgrow9 hat9
    have hcs2:=hcs.out
    subst hcs2
    have hvv2:=hvv.out
    subst hvv2
    have hrow9:=GRow.push (y:=⟨t,uL,uC,uK,uD⟩) (v9:=v9) (w9:=w9) hrow hyA (by rw [hyl];exact hown9) hgrow9 hat9
    have m9:Nw W w9:=GRow.fr hrow hnw (by have:=hS.out;omega) hgrow9
    obtain ⟨a9,cp9,rfl⟩:=owns_form hown9
    clear hown9 hgrow9 hat9 hrA hsl hone hz26 hp26 hq26 hl26 h26 hv2 hvv hcs hi0 hz0 hs0 hb0 hrl
    clear hyA hB1 ht1 hrow hnw hw
    have hsl:TSl (fun b=>w.heap.size ≤ b) (fun b=>b < w.heap.size) _ _ (ys ++ [⟨t,uL,uC,uK,uD⟩]):=hrow9.sl.mono (fun b hb _=>by have h9:=(hrow9.own.lt b hb).1;omega) (fun b hb _=>by have h9:=hb.1;omega)
    have hput:Hid (putX xs ⟨t,uL,uC,uK,uD⟩ = ys ++ [⟨t,uL,uC,uK,uD⟩]):=by unfold Hid putX;rw [hfull.out];rfl
    have hfin:Nw w _:=nw_trans nW m9
    replace hfin:Hid _:=hfin
    replace hsl:Hid _:=hsl
    clear hrow9 m9 hfull
    go_wp2
    go_ret
    rw [hput.out]
    exact ⟨_,rfl,hsl.out,hfin.out⟩
end Go.Proofs.Ytgmfofngmfekbaa
