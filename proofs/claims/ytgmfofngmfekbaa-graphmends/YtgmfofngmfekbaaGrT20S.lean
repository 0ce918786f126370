/-
  Mend.
-/
import Derived.Test.YtgmfofngmfekbaaGrGsS
import Derived.Test.YtgmfofngmfekbaaLibS
namespace Go.Proofs.Ytgmfofngmfekbaa
set_option linter.unusedVariables false
set_option linter.unusedSimpArgs false
set_option maxRecDepth 20000
open Go.RowKit

set_option maxHeartbeats 1600000 in
theorem c_gmend1 {X Y:Nat→Prop} {xs:List TC} {g n p q:Nat} {t:Th} {u1 u2 u3 u4:Value} (c:Cat) (w:World) (hP:w.heap[p]? = some (.cells #[rowV g n] 22 (0,0))) (hA:w.heap[q]? = some (.cells (thC t u1 u2 u3 u4).toArray 34 (0,0)))
  (h:TSl X Y w (rowV g n) xs) (hp:PwX xs) (hn:xs.length ≤ 1000000) (hl:0 ≤ c.1∧c.1 < 18446744073709551616) :
  Calls Try.prog 52 #[.agg #[.int .u64 c.1,.int .i64 c.2],.pointer (some ⟨p,0,none⟩),.pointer (some ⟨q,0,none⟩)] w fun e w'=>e = .returned (.bool (!fitsX xs t.id c))∧Nw w w':=by
 obtain ⟨W,hW⟩:∃ W,Hid (W = w.alloc (.cells #[.int .u64 c.1,.int .i64 c.2] 54)):=⟨_,rfl⟩
 have nW:Nw w W:=by rw [hW.out];exact nw_alloc (nw_refl w) _
 have hB:W.heap[w.heap.size]? = some (.cells #[.int .u64 c.1,.int .i64 c.2] 54 (0,0)):=by rw [hW.out];exact heap_alloc_new w _
 replace hP:=(nW.block _ (heap_lt hP) (fun h=>h)).trans hP
 replace hA:=(nW.block _ (heap_lt hA) (fun h=>h)).trans hA
 have cP:W.cell? ⟨p,0,none⟩ = some (rowV g n):=cell_blk hP rfl
 have cA:W.cell? ⟨q,0,none⟩ = some (.int .u64 t.id):=cell_blk hA rfl
 have b0:W.cell? ⟨w.heap.size,0,none⟩ = some (.int .u64 c.1):=cell_blk hB rfl
 have b1:W.cell? ⟨w.heap.size,1,none⟩ = some (.int .i64 c.2):=cell_blk hB rfl
 have hcm:Hid _:=c_gmay t.id c W (h.nw nW) hp hn hl
 clear h hP hA hB
 go_enter Try.func52,Try.ntmps52
 go_upto_region 1 with fail
 rw [← hW.out]
 clear hW
 go_wp2_with (go_at_call 53;refine Calls.mono hcm.out ?_;rintro e w1 ⟨rfl,n1⟩;refine stop_here ?_)
 unfold Hid
 clear hcm b0 b1 cP cA
 cases hB:fitsX xs t.id c <;> (go_wp2;go_ret;exact ⟨by first | rfl | (rw [hB];rfl),nw_trans nW n1⟩)

set_option maxRecDepth 100000 in
set_option maxHeartbeats 12800000 in
theorem c_gmend {X Y:Nat→Prop} {v:Value} {xs:List TC} (w:World) (h:TSl X Y w v xs) (hM:MendX xs) (hok:∀ x ∈ xs,TLen x.t) (hn:xs.length ≤ 100000) :
  Calls Try.prog 26 #[v] w fun e w'=>∃ u zs,e = .returned u∧TSl (fun _=>True) (fun _=>True) w' u zs∧zs.map (·.t) = (mendX xs).map (·.t)∧Nw w w':=by
 have hpx:Hid (PwX xs):=rise_pw hM.rise
 obtain ⟨ao,cap,rfl,hc1,hc2⟩:=h.form
 obtain ⟨N,hN⟩:∃ N,xs.length = N:=⟨_,rfl⟩
 replace hM:Hid _:=hM
 obtain ⟨W,hW⟩:∃ W,Hid (W = w.alloc (.cells #[.slice ao xs.length cap] 22)):=⟨_,rfl⟩
 have nW:Nw w W:=by rw [hW.out];exact nw_alloc (nw_refl w) _
 have hP:W.heap[w.heap.size]? = some (.cells #[.slice ao xs.length cap] 22 (0,0)):=by rw [hW.out];exact heap_alloc_new w _
 obtain ⟨g,hg⟩:∃ g,Hid (g = W.heap.size):=⟨_,rfl⟩
 have hPg:w.heap.size < g:=by rw [hg.out];exact heap_lt hP
 have hcp:Hid _:=c_gcopies9 W hg (h.nw nW) hok (by omega)
 clear h hok
 rw [hN] at hW hP hcp hc1 hn ⊢
 replace hN:Hid _:=hN
 have c0:W.cell? ⟨w.heap.size,0,none⟩ = some (.slice ao N cap):=cell_blk hP rfl
 go_enter Try.func26,Try.ntmps26
 go_upto_region 1 with fail
 rw [← hW.out]
 clear hW
 obtain ⟨P,hPe⟩:∃ P,P = w.heap.size:=⟨_,rfl⟩
 rw [← hPe] at hPg hP c0 ⊢
 replace hPe:Hid _:=hPe
 go_wp2_with (go_at_call 44;refine Calls.mono hcp.out ?_;rintro e w1 ⟨ys,rfl,hR,hL,hyt,n1⟩;refine stop_here ?_)
 unfold Hid
 clear hcp c0
 replace hP:=(n1.block _ (heap_lt hP) (fun h=>h)).trans hP
 have c0:w1.cell? ⟨P,0,none⟩ = some (.slice ao N cap):=cell_blk hP rfl
 have hfz:w1.frozen? ⟨P,0,none⟩ = false:=free_blk hP
 obtain ⟨W2,hW2⟩:∃ V,Hid (V = w1.setCell ⟨P,0,none⟩ (rowV g N)):=⟨_,rfl⟩
 have f2:Fr (fun b=>b = P) w1 W2:=by rw [hW2.out];exact Fr.setCell (p:=⟨P,0,none⟩) (Fr.refl (fun b=>b = P) w1) (.inl rfl) _
 have hP2:W2.heap[P]? = some (.cells #[rowV g N] 22 (0,0)):=by rw [hW2.out];exact blk_setCell hP
 have hR2:RowT W2 g ys []:=(rowT_of hR).fr f2 (by show ¬ g = P;omega)
 have hMP:MPart g w1.heap.size 0 (g + 1) ys W2:=MPart.fr (w:=w1) ⟨Nat.lt_succ_self g,fun i hi h0=>absurd h0 (Nat.not_lt_zero _),hL⟩ f2 (fun b hb=>by have hb2:b = P:=hb;omega)
 have hHi:w1.heap.size ≤ W2.heap.size:=Fr.size f2
 have nW2:Nw w W2:=Fr.trans (nw_trans nW n1) f2 (fun b hb=>.inr (by have hb2:b = P:=hb;have:=hPe.out;omega))
 have hys:Hid (ys.map (·.t) = (mixX xs 0).map (·.t)):=by rw [mix_zero];exact hyt
 clear hR hL hP f2 hyt
 generalize w1.heap.size = Hi at *
 go_upto_region 2 with fail
 rw [← hW2.out]
 clear hW2 c0 hfz nW n1
 have c0:W2.cell? ⟨P,0,none⟩ = some (rowV g N):=cell_blk hP2 rfl
 go_wp2
 clear c0
 go_loopw [11] (fun kv wr=>∃ (k m:Nat) (zs:List TC),k ≤ N∧kv = .int .i64 k∧RowT wr g zs []∧MPart g Hi k m zs wr∧Hid (zs.map (·.t) = (mixX xs k).map (·.t))∧wr.heap[P]? = some (.cells #[rowV g N] 22 (0,0))∧Hi ≤ wr.heap.size∧Nw w wr) (fun kv _=>N - (intOf kv).toNat)
 case atStart=>exact ⟨0,g + 1,ys,Nat.zero_le _,rfl,hR2,hMP,hys,hP2,hHi,nW2⟩
 case round =>
  clear hR2 hMP hys hP2 hHi nW2
  obtain ⟨k,m,zs,hk,rfl,hR,hMP,hzs,hP,hHi,nW⟩:=hrel
  have hzl:zs.length = N:=by have h1:=same_len hzs.out;rw [mix_len (by have:=hN.out;omega),hN.out] at h1;exact h1
  have hs:=hR.tsl (cap:=N) (by omega) (by omega) hMP.all
  rw [hzl] at hs
  by_cases hltN:k < N
  ·have hlt:k < zs.length:=by omega
   have hrr:=hR.range hlt
   have hat1:=hMP.all _ (List.getElem_mem hlt)
   obtain ⟨m2,hmr⟩:=mround hzl hN.out hlt (by omega) hpx.out hM.out hR hMP hzs.out
   replace hmr:Hid _:=hmr
   clear hR hMP hzs
   have hwr:=nw_refl wr
   replace hzl:Hid _:=hzl
   generalize zs[k] = x at *
   unfold tcC at hrr
   obtain ⟨Y1,hY⟩:∃ Y,Hid (Y = wr.alloc (.cells (thC zeroT (.slice none 0 0) (.slice none 0 0) (.slice none 0 0) (.slice none 0 0)).toArray 34)):=⟨_,rfl⟩
   have hV1:Y1.heap[wr.heap.size]? = some (.cells (thC zeroT (.slice none 0 0) (.slice none 0 0) (.slice none 0 0) (.slice none 0 0)).toArray 34 (0,0)):=by rw [hY.out];exact heap_alloc_new _ _
   obtain ⟨V1,hV⟩:∃ V,Hid (V = Y1.setRow wr.heap.size (thC x.t x.l x.c x.k x.d).toArray):=⟨_,rfl⟩
   have nV1:Nw wr V1:=by rw [hV.out,hY.out];exact Fr.setRow (nw_alloc (nw_refl _) _) (.inr (Nat.le_refl _)) _
   have hnew:V1.heap[wr.heap.size]? = some (.cells (thC x.t x.l x.c x.k x.d).toArray 34 (0,0)):=by rw [hV.out];exact setRow_heap _ _ _ _ _ _ hV1
   go_wp2_with (first | (refine wpList_load_as rfl 34 _ rfl g (k * 26) rfl (thV x.t x.l x.c x.k x.d) _ rfl hrr Try.rowT Try.sizeT ?_) | (refine wpList_alloc_agg rfl 34 rfl _ Try.zeroTh ?_;rw [← hY.out];refine stop_here ?_))
   unfold Hid
   go_wp2_with (refine wpList_store_all rfl 34 _ _ rfl (wr.heap.size) rfl (thV x.t x.l x.c x.k x.d) rfl (thC x.t x.l x.c x.k x.d) rfl (thC zeroT (.slice none 0 0) (.slice none 0 0) (.slice none 0 0) (.slice none 0 0)) 34 hV1 rfl (ThAt.one hat1) Try.sizeT ?_;rw [← hV.out];refine stop_here ?_)
   unfold Hid
   clear hV hY hV1 hrr
   replace hwr:=nw_trans hwr nV1
   replace hP:=(nV1.block _ (heap_lt hP) (fun h=>h)).trans hP
   replace nW:=nw_trans nW nV1
   replace hat1:=hat1.nw nV1
   have hV1:=hnew
   clear hnew
   have hlA1:wr.heap.size < V1.heap.size:=heap_lt hV1
   generalize wr.heap.size = A1 at *
   have hHA:Hi ≤ A1:=by first | exact hHi | omega
   clear hs hat1
   have hnd:Nw V1 V1.drew:=Fr.drew (Fr.refl _ V1)
   have hwd:=nw_trans hwr hnd
   have hPd:V1.drew.heap[P]? = some (.cells #[rowV g N] 22 (0,0)):=(hnd.block _ (heap_lt hP) (fun h=>h)).trans hP
   have hAd:V1.drew.heap[A1]? = some (.cells (thC x.t x.l x.c x.k x.d).toArray 34 (0,0)):=(hnd.block _ (heap_lt hV1) (fun h=>h)).trans hV1
   have hcop:=hmr.out.cop
   have hob:Hid (∀ b,x.k.ownBlock = some b→g < b∧b < A1):=fun b hb=>by have h1:=(hcop.c.k.lt b hb).1;have h2:=hcop.hk b hb;have h3:=hmr.out.ge;have h4:=hmr.out.hi;omega
   have hcd:Hid _:=c_delK (fun c=>!fitsX xs x.t.id c) P A1 V1.drew (hcop.fr hwd (fun b hb=>hb.elim)) (fun w1 ls c f hv hc=>by
    have h1:=c_gmend1 c w1 ((f.block _ (heap_lt hPd) (fun e=>by have:=(hob.out P e).1;omega)).trans hPd) ((f.block _ (heap_lt hAd) (fun e=>by have:=(hob.out A1 e).2;omega)).trans hAd) (hmr.out.clo _ w1 ls hwd f hv) (hmr.out.pw ls x.k) (by have:=hzl.out;rw [List.length_set];omega) (hmr.out.links c hc)
    rw [hmr.out.fit] at h1
    exact h1)
   clear hcop
   have hS:(fun w':World=>w'.heap[P]? = some (.cells #[rowV g N] 22 (0,0))∧w'.heap[A1]? = some (.cells (thC x.t x.l x.c x.k x.d).toArray 34 (0,0))) V1.drew:=⟨hPd,hAd⟩
   clear hP hV1
   go_upto_region 5 with fail
   refine wp_region_ord [] 8 [(0,true),(1,true),(2,true),(3,true),(4,true),(5,false),(6,true),(7,true)] (fun w':World=>w'.heap[P]? = some (.cells #[rowV g N] 22 (0,0))∧w'.heap[A1]? = some (.cells (thC x.t x.l x.c x.k x.d).toArray 34 (0,0))) (by kernel_rfl) (by kernel_rfl) ?_
   refine ord_quietL _ ?_ rfl hS rfl ?_ ?_
   rotate_left
   ·rintro w' ⟨r1,r2⟩;have g0:w'.cell? ⟨P,0,none⟩ = some (rowV g N):=cell_blk r1 rfl;go_simp;rfl
   simp only [pL,List.set]
   refine ord_quietL _ ?_ rfl hS rfl ?_ ?_
   rotate_left
   ·rintro w' ⟨r1,r2⟩;go_simp;rfl
   simp only [pL,List.set]
   refine ord_quietL _ ?_ rfl hS rfl ?_ ?_
   rotate_left
   ·rintro w' ⟨r1,r2⟩;go_simp;rfl
   simp only [pL,List.set]
   refine ord_quietL _ ?_ rfl hS rfl ?_ ?_
   rotate_left
   ·rintro w' ⟨r1,r2⟩;have g0:w'.cell? ⟨A1,8,none⟩ = some (x.k):=cell_blk r2 rfl;go_simp;rfl
   simp only [pL,List.set]
   refine ord_quietL _ ?_ rfl hS rfl ?_ ?_
   rotate_left
   ·rintro w' ⟨r1,r2⟩;go_simp;rfl
   simp only [pL,List.set]
   refine ord_actL _ rfl (fun K1 hK1=>?_)
   go_wp2_with (go_at_call 51;refine Calls.mono hcd.out ?_;rintro e W4 ⟨v4,rfl,hv4,f4⟩)
   have hP4:=(f4.block _ (heap_lt hPd) (fun e=>by have:=(hob.out P e).1;omega)).trans hPd
   have hA4:=(f4.block _ (heap_lt hAd) (fun e=>by have:=(hob.out A1 e).2;omega)).trans hAd
   refine hK1 _ _ ⟨hP4,hA4⟩ ?_
   clear hK1 K1 hS hcd
   have hS:(fun w':World=>w'.heap[P]? = some (.cells #[rowV g N] 22 (0,0))∧w'.heap[A1]? = some (.cells (thC x.t x.l x.c x.k x.d).toArray 34 (0,0))) W4:=⟨hP4,hA4⟩
   obtain ⟨ls5,hls5⟩:∃ l,Hid (x.t.links.filter (fun c=>!(!fitsX xs x.t.id c)) = l):=⟨_,rfl⟩
   replace hv4:CSl (fun b=>m ≤ b∧b < m2) W4 v4 ls5:=by rw [← hls5.out];exact hv4
   obtain ⟨ka,kc,e4,_,_⟩:=hv4.form
   subst e4
   refine ord_quietL _ ?_ rfl hS rfl ?_ ?_
   rotate_left
   ·rintro w' ⟨r1,r2⟩;go_simp;rfl
   simp only [pL,List.set]
   refine ord_quietL _ ?_ rfl hS rfl ?_ ?_
   rotate_left
   ·rintro w' ⟨r1,r2⟩;go_simp;rfl
   simp only [pL,List.set]
   refine ord_tail ?_
   obtain ⟨c8,hfz⟩:=hmr.out.cell _ W4 hwd f4
   obtain ⟨W5,hW5⟩:∃ U,Hid (U = W4.setCell ⟨g,k * 26 + 8,none⟩ (.slice ka ls5.length kc)):=⟨_,rfl⟩
   obtain ⟨zs5,hzs5⟩:∃ z,Hid (zs.set k (linkT x ls5 (.slice ka ls5.length kc)) = z):=⟨_,rfl⟩
   have f5:Fr (fun b=>b = g) W4 W5:=by rw [hW5.out];exact Fr.setCell (p:=⟨g,k * 26 + 8,none⟩) (Fr.refl (fun b=>b = g) W4) (.inl rfl) _
   have hR5:RowT W5 g zs5 []:=by rw [hW5.out,← hzs5.out];exact hmr.out.row _ W4 _ ls5 hwd f4
   have hM5:MPart g Hi (k + 1) m2 zs5 W5:=by rw [← hzs5.out];exact (hmr.out.step _ W4 _ ls5 hwd f4 hv4).fr f5 (fun b hb=>Nat.le_of_eq hb)
   have hx5:Hid (zs5.map (·.t) = (mixX xs (k + 1)).map (·.t)):=by unfold Hid;rw [← hzs5.out,← hls5.out];exact hmr.out.mix _
   clear hzs5 hls5
   have hP5:=(f5.block _ (heap_lt hP4) (by show ¬ P = g;omega)).trans hP4
   have n5:Nw w W5:=Fr.trans (Fr.trans (nw_trans nW hnd) f4 (fun b hb=>.inr (by have:=(hob.out b hb).1;have:=hPe.out;omega))) f5 (fun b hb=>.inr (by have hb2:b = g:=hb;have:=hPe.out;omega))
   have hH5:Hi ≤ W5.heap.size:=by have h1:=Fr.size hnd;have h2:=Fr.size f4;have h3:=Fr.size f5;have h4:=Fr.size hwr;omega
   clear f5 f4 hv4 hP4 hA4 hS hPd hAd hob hmr hwd hnd
   skip
   go_wp2
   rw [← hW5.out]
   clear hW5 c8 hfz
   go_roundw
   case rel=>exact ⟨k + 1,m2,zs5,by omega,by go_num,hR5,hM5,hx5,hP5,hH5,n5⟩
   case measure=>simp [intOf];omega
  ·obtain rfl:k = N:=by omega
   have hzc:zs.map (·.t) = (cutX xs).map (·.t):=by have h1:=hzs.out;rw [← hN.out,mix_all] at h1;exact h1
   obtain ⟨hpz,⟨h0,hid⟩,hrz,hkz,ho0⟩:=mend_mid hM.out hzc
   have hcp:Hid _:=c_gparted wr hs hpz h0 hid (fun z hz=>right_len (hrz z hz)) (by omega)
   have hro:Hid (∀ y ∈ outX zs (marksX zs),RightT y.t):=fun y hy=>hrz y ((out_sub _ _).mem hy)
   have hpo:Hid (PwX (outX zs (marksX zs))):=hpz.sublist (out_sub _ _)
   have hol:(outX zs (marksX zs)).length ≤ k:=by rw [← hzl];exact (out_sub _ _).length_le
   generalize outX zs (marksX zs) = os at *
   replace hkz:Hid _:=hkz
   clear hzc hpz hid hrz hs hR hMP hzs
   clear h0 hzl
   have c0:wr.cell? ⟨P,0,none⟩ = some (rowV g k):=cell_blk hP rfl
   go_wp2_with (go_at_call 49;refine Calls.mono hcp.out ?_;rintro e w3 ⟨u,gv,rfl,hrow,_,n3⟩;refine stop_here ?_)
   unfold Hid
   clear hcp c0
   obtain ⟨g2,cp2,tl,e2,hS2,hl2,hc9,hR2,hat2⟩:=hrow.row ho0
   subst e2
   clear hrow
   have hPw:=heap_lt hP
   replace hP:=(n3.block _ (heap_lt hP) (fun h=>h)).trans hP
   have c0:w3.cell? ⟨P,0,none⟩ = some (rowV g k):=cell_blk hP rfl
   have hfz:w3.frozen? ⟨P,0,none⟩ = false:=free_blk hP
   obtain ⟨M,hMo⟩:∃ M,os.length = M:=⟨_,rfl⟩
   rw [hMo] at hl2 hol ⊢
   replace hMo:Hid _:=hMo
   obtain ⟨W5,hW5⟩:∃ V,Hid (V = w3.setCell ⟨P,0,none⟩ (.slice (some ⟨g2,0,none⟩) M cp2)):=⟨_,rfl⟩
   have f5:Fr (fun b=>b = P) w3 W5:=by rw [hW5.out];exact Fr.setCell (p:=⟨P,0,none⟩) (Fr.refl (fun b=>b = P) w3) (.inl rfl) _
   have hP5:W5.heap[P]? = some (.cells #[.slice (some ⟨g2,0,none⟩) M cp2] 22 (0,0)):=by rw [hW5.out];exact blk_setCell hP
   have hR5:RowT W5 g2 os tl:=hR2.fr f5 (by show ¬ g2 = P;omega)
   have nW5:Nw w W5:=Fr.trans (nw_trans nW n3) f5 (fun b hb=>.inr (by have hb2:b = P:=hb;have:=hPe.out;omega))
   have hg2w:w.heap.size ≤ g2:=by have:=nW.size;omega
   have hat5:∀ y ∈ os,y.At (fun b=>b ≠ g2) W5:=fun y hy=>(hat2 y hy).keep f5 (fun b hb _ e=>by have e2:b = P:=e;have:=hb.1.1.1;omega) (fun b hb _=>hb.2)
   have hs5:=hR5.tsl (cap:=cp2) (by rw [hMo.out];exact hl2) hc9 hat5
   rw [hMo.out] at hs5
   have hg2P:P < g2:=by omega
   clear hR2 hat2 hP f5
   obtain ⟨gR,hgR⟩:∃ g,Hid (g = W5.heap.size):=⟨_,rfl⟩
   have hcr:Hid _:=c_grests W5 hs5 hpo.out (fun x hx=>by have h1:=(hro.out x hx).id;exact ⟨by have:=h1.1;omega,by have:=h1.2;omega⟩) (by have:=hMo.out;omega)
   rw [hMo.out,← hgR.out] at hcr
   clear hs5
   go_upto_region 8 with fail
   rw [← hW5.out]
   clear hW5 c0 hfz
   have c0:W5.cell? ⟨P,0,none⟩ = some (.slice (some ⟨g2,0,none⟩) M cp2):=cell_blk hP5 rfl
   go_wp2_with (go_at_call 54;refine Calls.mono hcr.out ?_;rintro e w6 ⟨rfl,hI,n6⟩;refine stop_here ?_)
   unfold Hid
   clear hcr c0
   replace hP5:=(n6.block _ (heap_lt hP5) (fun h=>h)).trans hP5
   have hg2R:g2 < gR:=by rw [hgR.out];exact heap_lt hR5
   replace hR5:=hR5.nw n6
   replace hat5:∀ y ∈ os,y.At (fun b=>b ≠ g2) w6:=fun y hy=>(hat5 y hy).nw n6
   replace nW5:=nw_trans nW5 n6
   clear n6 n3 nW
   rw [← mixR_zero os] at hR5
   go_wp2
   go_loopw [33] (fun kv wr=>∃ j:Nat,j ≤ M∧kv = .int .i64 j∧RowT wr g2 (mixR os j) tl∧(∀ y ∈ os,y.At (fun b=>b ≠ g2) wr)∧IntB wr gR (os.map (restF os))∧wr.heap[P]? = some (.cells #[.slice (some ⟨g2,0,none⟩) M cp2] 22 (0,0))∧Nw w wr) (fun kv _=>M - (intOf kv).toNat)
   case atStart=>exact ⟨0,Nat.zero_le _,rfl,hR5,hat5,hI,hP5,nW5⟩
   case round =>
    clear hR5 hat5 hI hP5 nW5
    obtain ⟨j,hj,rfl,hR,hat,hI,hP,nW⟩:=hrel
    by_cases hltM:j < M
    ·have hlo:j < os.length:=by have:=hMo.out;omega
     have hm2:=mixR_at hlo
     obtain ⟨hlm,hme⟩:=hm2
     have hst:Hid _:=mixR_step hlo
     have hmx2:Hid _:=raise_max (os:=os) (hro.out _ (List.getElem_mem hlo))
     have hcx:Hid (tcC (raiseF os os[j]) = (tcC (mixR os j)[j]).set 7 (.int .i64 (raiseF os os[j]).t.next)):=by unfold Hid;rw [hme];exact raise_cells os _
     have c7:wr.cell? ⟨g2,j * 26 + 7,none⟩ = some (.int .i64 os[j].t.next):=hR.cell hlm (by rw [hme];rfl)
     have cR:wr.cell? ⟨gR,j,none⟩ = some (.int .i64 (restF os os[j])):=by have h1:=hI.get (i:=j) (by rw [List.length_map];exact hlo);rw [List.getElem_map] at h1;exact h1
     have hset:Hid (∀ V,RowT V g2 (mixR os j) tl→RowT (V.setCell ⟨g2,j * 26 + 7,none⟩ (.int .i64 (raiseF os os[j]).t.next)) g2 (mixR os (j + 1)) tl):=fun V hV=>by rw [← hst.out];exact hV.setc (by decide) hlm hcx.out
     clear hcx hme hlm hst
     obtain ⟨mx,hmx⟩:∃ m,(raiseF os os[j]).t.next = m:=⟨_,rfl⟩
     rw [hmx] at hset hmx2
     clear hmx
     generalize restF os os[j] = rs at *
     generalize os[j].t.next = nx at *
     clear hlo
     go_upto_region 11 with fail
     clear cR
     have hnd:Nw wr wr.drew:=Fr.drew (Fr.refl _ wr)
     have hS:(fun w':World=>w'.heap[P]? = some (.cells #[.slice (some ⟨g2,0,none⟩) M cp2] 22 (0,0))∧w'.cell? ⟨g2,j * 26 + 7,none⟩ = some (.int .i64 nx)) wr.drew:=⟨(hnd.block _ (heap_lt hP) (fun h=>h)).trans hP,c7⟩
     refine wp_region_ord [] 11 [(0,true),(1,true),(2,true),(3,true),(4,true),(5,true),(6,true),(7,true),(8,true),(9,true),(10,true)] (fun w':World=>w'.heap[P]? = some (.cells #[.slice (some ⟨g2,0,none⟩) M cp2] 22 (0,0))∧w'.cell? ⟨g2,j * 26 + 7,none⟩ = some (.int .i64 nx)) (by kernel_rfl) (by kernel_rfl) ?_
     refine ord_quietL _ ?_ rfl hS rfl ?_ ?_
     rotate_left
     ·rintro w' ⟨r1,r2⟩;have g0:w'.cell? ⟨P,0,none⟩ = some (.slice (some ⟨g2,0,none⟩) M cp2):=cell_blk r1 rfl;go_simp;rfl
     simp only [pL,List.set]
     refine ord_quietL _ ?_ rfl hS rfl ?_ ?_
     rotate_left
     ·rintro w' ⟨r1,r2⟩;go_simp;rfl
     simp only [pL,List.set]
     refine ord_quietL _ ?_ rfl hS rfl ?_ ?_
     rotate_left
     ·rintro w' ⟨r1,r2⟩;have g0:w'.cell? ⟨P,0,none⟩ = some (.slice (some ⟨g2,0,none⟩) M cp2):=cell_blk r1 rfl;go_simp;rfl
     simp only [pL,List.set]
     refine ord_quietL _ ?_ rfl hS rfl ?_ ?_
     rotate_left
     ·rintro w' ⟨r1,r2⟩;go_simp;rfl
     simp only [pL,List.set]
     refine ord_quietL _ ?_ rfl hS rfl ?_ ?_
     rotate_left
     ·rintro w' ⟨r1,r2⟩;go_simp;rfl
     simp only [pL,List.set]
     refine ord_quietL _ ?_ rfl hS rfl ?_ ?_
     rotate_left
     ·rintro w' ⟨r1,r2⟩;go_simp;rfl
     simp only [pL,List.set]
     refine ord_quietL _ ?_ rfl hS rfl ?_ ?_
     rotate_left
     ·rintro w' ⟨r1,r2⟩;go_simp;rfl
     simp only [pL,List.set]
     refine ord_quietL _ ?_ rfl hS rfl ?_ ?_
     rotate_left
     ·rintro w' ⟨r1,r2⟩;go_simp;rfl
     simp only [pL,List.set]
     refine ord_quietL _ (.int .i64 mx) rfl hS rfl ?_ ?_
     ·rintro w' ⟨r1,r2⟩;rw [hmx2.out];go_simp
     simp only [pL,List.set]
     refine ord_quietL _ ?_ rfl hS rfl ?_ ?_
     rotate_left
     ·rintro w' ⟨r1,r2⟩;go_simp;rfl
     simp only [pL,List.set]
     refine ord_quietL _ ?_ rfl hS rfl ?_ ?_
     rotate_left
     ·rintro w' ⟨r1,r2⟩;go_simp;rfl
     simp only [pL,List.set]
     refine ord_tail ?_
     have hRd:=hR.nw hnd
     have hfz:wr.drew.frozen? ⟨g2,j * 26 + 7,none⟩ = false:=free_blk hRd
     have c9:wr.drew.cell? ⟨g2,j * 26 + 7,none⟩ = some (.int .i64 nx):=c7
     obtain ⟨W9,hW9⟩:∃ U,Hid (U = (wr.setCell ⟨g2,j * 26 + 7,none⟩ (.int .i64 mx)).drew):=⟨_,rfl⟩
     have f9:Fr (fun b=>b = g2) wr W9:=by rw [hW9.out];exact Fr.drew (Fr.setCell (p:=⟨g2,j * 26 + 7,none⟩) (Fr.refl (fun b=>b = g2) wr) (.inl rfl) _)
     have hR9:RowT W9 g2 (mixR os (j + 1)) tl:=by rw [hW9.out];exact hset.out wr hR
     have hat9:∀ y ∈ os,y.At (fun b=>b ≠ g2) W9:=fun y hy=>(hat y hy).keep f9 (fun b hb _ e=>hb e) (fun b hb _=>hb)
     have hI9:=hI.fr f9 (by show ¬ gR = g2;omega)
     have hP9:=(f9.block _ (heap_lt hP) (by show ¬ P = g2;omega)).trans hP
     have n9:Nw w W9:=Fr.trans nW f9 (fun b hb=>.inr (by have hb2:b = g2:=hb;omega))
     clear hS hR hRd hset hmx2 c7 hat hI hP nW f9 hnd
     replace hat9:Hid _:=hat9
     go_wp2
     rw [← hW9.out]
     clear hW9 c9 hfz
     go_roundw
     case rel=>exact ⟨j + 1,by omega,by go_num,hR9,hat9.out,hI9,hP9,n9⟩
     case measure=>simp [intOf];omega
    ·obtain rfl:j = M:=by omega
     have hall:mixR os j = raiseX os:=by rw [← hMo.out];exact mixR_all os
     rw [hall] at hR
     have hrl:(raiseX os).length = j:=by unfold raiseX;rw [List.length_map];exact hMo.out
     have hsl:=hR.tsl (cap:=cp2) (Y:=fun _=>True) (by rw [hrl];exact hl2) hc9 (fun y hy=>by obtain ⟨x,hx,rfl⟩:=List.mem_map.1 hy;exact raise_at ((hat x hx).mono (fun _ _ _=>trivial)))
     rw [hrl] at hsl
     have hz:Hid (TSl (fun _=>True) (fun _=>True) wr (.slice (some ⟨g2,0,none⟩) j cp2) (raiseX os)):=hsl.mono (fun _ _ _=>trivial) (fun _ _ _=>trivial)
     have hfin:Hid ((raiseX os).map (·.t) = (mendX xs).map (·.t)):=same_raise hkz.out
     have c0:wr.cell? ⟨P,0,none⟩ = some (.slice (some ⟨g2,0,none⟩) j cp2):=cell_blk hP rfl
     clear hsl hrl hall hR hat hI hP
     go_wp2
     go_ret
     exact ⟨_,rfl,raiseX os,hz.out,hfin.out,nW⟩

end Go.Proofs.Ytgmfofngmfekbaa
