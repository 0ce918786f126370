/-
  Right: the thing with no more than its kind has.
-/
import Derived.Test.YtgmfofngmfekbaaThGgS
import Derived.Test.YtgmfofngmfekbaaThGdS
namespace Go.Proofs.Ytgmfofngmfekbaa
set_option linter.unusedVariables false
set_option linter.unusedSimpArgs false
set_option maxRecDepth 20000
open Go.RowKit

set_option maxHeartbeats 6400000 in
theorem c_ofKind {X:Nat→Prop} {t:Th} {uL uC uK uD:Value} (w:World) (h:ThAt X w t uL uC uK uD) :
  Calls Try.prog 86 #[thV t uL uC uK uD] w fun e w'=>∃ vL vC vK vD,e = .returned (thV (ofK t) vL vC vK vD)∧ThAt (fun b=>b < w.heap.size) w' (ofK t) vL vC vK vD∧Nw w w':=by
 obtain ⟨la,lc,rfl,hl1,hl2⟩:=h.l.form
 obtain ⟨ca,cc,rfl,hc1,hc2⟩:=h.c.form
 obtain ⟨ka,kc,rfl,hk1',hk2'⟩:=h.k.form
 obtain ⟨da,dc,rfl,hd1,hd2⟩:=h.d.form
 obtain ⟨W,hW⟩:∃ W,Hid (W = (w.alloc (.cells (thC t (.slice la t.cats.length lc) (.slice ca t.ccats.length cc) (.slice ka t.links.length kc) (.slice da t.data.length dc)).toArray 34)).alloc (.cells (thC zeroT (.slice none 0 0) (.slice none 0 0) (.slice none 0 0) (.slice none 0 0)).toArray 34)):=⟨_,rfl⟩
 have nW:Nw w W:=by rw [hW.out];exact nw_alloc (nw_alloc (nw_refl w) _) _
 have hA:W.heap[w.heap.size]? = some (.cells (thC t (.slice la t.cats.length lc) (.slice ca t.ccats.length cc) (.slice ka t.links.length kc) (.slice da t.data.length dc)).toArray 34 (0,0)):=by rw [hW.out];exact heap_alloc2_old w _ _
 have hZ:W.heap[w.heap.size + 1]? = some (.cells (thC zeroT (.slice none 0 0) (.slice none 0 0) (.slice none 0 0) (.slice none 0 0)).toArray 34 (0,0)):=by rw [hW.out];exact heap_alloc2_new w _ _
 have hN2:W.heap.size = w.heap.size + 1 + 1:=by rw [hW.out];simp
 have ht:=(h.mono (X':=fun b=>b < w.heap.size) (fun b _ hb=>hb)).nw nW
 clear h
 obtain ⟨W3,hW3⟩:∃ W3,Hid (W3 = W.alloc (.cells (thC zeroT (.slice none 0 0) (.slice none 0 0) (.slice none 0 0) (.slice none 0 0)).toArray 34)):=⟨_,rfl⟩
 have n3:Nw W W3:=by rw [hW3.out];exact nw_alloc (nw_refl W) _
 have hB3:W3.heap[w.heap.size + 1 + 1]? = some (.cells (thC zeroT (.slice none 0 0) (.slice none 0 0) (.slice none 0 0) (.slice none 0 0)).toArray 34 (0,0)):=by rw [← hN2,hW3.out];exact heap_alloc_new W _
 obtain ⟨V,hV0⟩:∃ V,Hid (V = W3.setRow (w.heap.size + 1 + 1) (thC (baseT t) (.slice la t.cats.length lc) (.slice none 0 0) (.slice none 0 0) (.slice none 0 0)).toArray):=⟨_,rfl⟩
 have nV:Hid (Nw W V):=by unfold Hid;rw [hV0.out];exact Fr.setRow n3 (.inr (by omega)) _
 have hB:V.heap[w.heap.size + 1 + 1]? = some (.cells (thC (baseT t) (.slice la t.cats.length lc) (.slice none 0 0) (.slice none 0 0) (.slice none 0 0)).toArray 34 (0,0)):=by rw [hV0.out];exact setRow_heap _ _ _ _ _ _ hB3
 have hAV:=(nV.out.block _ (heap_lt hA) (fun h=>h)).trans hA
 have hZV:=(nV.out.block _ (heap_lt hZ) (fun h=>h)).trans hZ
 have htV:=ht.nw nV.out
 replace nW:Hid (Nw w W):=nW
 go_enter Try.func86,Try.ntmps86
 go_upto_region 1 with (first | (refine wpList_box_agg rfl 34 _ rfl (thV t (.slice la t.cats.length lc) (.slice ca t.ccats.length cc) (.slice ka t.links.length kc) (.slice da t.data.length dc)) _ rfl rfl ?_) | (refine wpList_alloc_agg rfl 34 rfl _ Try.zeroTh ?_;rw [← hW.out]))
 clear hW
 refine wp_region_list ?_
 simp only [List.toList_toArray,List.append_eq,List.cons_append,List.nil_append]
 refine nd_quiet ?_ rfl ?_ ?_
 rotate_left
 ·go_simp;rfl
 simp only [pL,List.set]
 refine nd_quiet ?_ rfl ?_ ?_
 rotate_left
 ·have g0:W.cell? ⟨w.heap.size,0,none⟩ = some (.int .u64 t.id):=cell_blk hA rfl;go_simp;rfl
 simp only [pL,List.set]
 refine nd_quiet ?_ rfl ?_ ?_
 rotate_left
 ·go_simp;rfl
 simp only [pL,List.set]
 refine nd_quiet ?_ rfl ?_ ?_
 rotate_left
 ·have g0:W.cell? ⟨w.heap.size,1,none⟩ = some (.int .i64 t.kind):=cell_blk hA rfl;go_simp;rfl
 simp only [pL,List.set]
 refine nd_quiet ?_ rfl ?_ ?_
 rotate_left
 ·go_simp;rfl
 simp only [pL,List.set]
 refine nd_quiet ?_ rfl ?_ ?_
 rotate_left
 ·have g0:W.cell? ⟨w.heap.size,2,none⟩ = some (.int .i64 t.df):=cell_blk hA rfl;have g1:W.cell? ⟨w.heap.size,3,none⟩ = some (.slice la t.cats.length lc):=cell_blk hA rfl;go_simp;rfl
 simp only [pL,List.set]
 refine nd_quiet ?_ rfl ?_ ?_
 rotate_left
 ·go_simp;rfl
 simp only [pL,List.set]
 refine nd_quiet ?_ rfl ?_ ?_
 rotate_left
 ·have g0:W.cell? ⟨w.heap.size,6,none⟩ = some (.int .i64 t.quota):=cell_blk hA rfl;go_simp;rfl
 simp only [pL,List.set]
 refine wpList_build_as rfl 34 _ rfl (thV (baseT t) (.slice la t.cats.length lc) (.slice none 0 0) (.slice none 0 0) (.slice none 0 0)) (thC (baseT t) (.slice la t.cats.length lc) (.slice none 0 0) (.slice none 0 0) (.slice none 0 0)).toArray rfl ?z ?_
 case z =>
  simp only [List.map_cons,List.map_nil,Act.eval]
  exact builtTh t _ _ _ _ rfl
 simp only [pL,List.set]
 refine wpList_alloc_agg rfl 34 rfl _ Try.zeroTh ?_
 rw [← hW3.out,hN2]
 simp only [pL,List.set]
 refine wpList_store_all rfl 34 _ _ rfl (w.heap.size + 1 + 1) rfl (thV (baseT t) (.slice la t.cats.length lc) (.slice none 0 0) (.slice none 0 0) (.slice none 0 0)) rfl (thC (baseT t) (.slice la t.cats.length lc) (.slice none 0 0) (.slice none 0 0) (.slice none 0 0)) rfl (thC zeroT (.slice none 0 0) (.slice none 0 0) (.slice none 0 0) (.slice none 0 0)) 34 hB3 rfl (th_one _ _ _ _ _ rfl rfl rfl rfl) Try.sizeT ?_
 rw [← hV0.out]
 clear hW3 hB3 hV0
 replace hA:=hAV
 replace hZ:=hZV
 replace ht:=htV
 clear hAV hZV htV
 have a1:V.cell? ⟨w.heap.size,1,none⟩ = some (.int .i64 t.kind):=cell_blk hA rfl
 go_upto_region 3 with fail
 clear a1
 by_cases hk1:t.kind = 1
 ·have bk1:(t.kind == 1) = true:=by simp [hk1]
  replace hk1:Hid (t.kind = 1):=hk1
  go_upto_region 4 with fail
  have hSof:∀ w',Fr (fun k=>k = w.heap.size + 1 + 1) V w'→(fun w':World=>Fr (fun k=>k = w.heap.size + 1 + 1) V w'∧w'.heap[w.heap.size]? = some (.cells (thC t (.slice la t.cats.length lc) (.slice ca t.ccats.length cc) (.slice ka t.links.length kc) (.slice da t.data.length dc)).toArray 34 (0,0))) w':=fun w' hw=>⟨hw,(hw.block _ (heap_lt hA) (by omega)).trans hA⟩
  have hW0:Fr (fun k=>k = w.heap.size + 1 + 1) V V.drew:=Fr.drew (Fr.refl _ V)
  have hS:=hSof _ hW0
  replace hSof:Hid _:=hSof
  have hBd:V.drew.heap[w.heap.size + 1 + 1]? = _:=hB
  refine wp_region_ord [] 7 [(0,true),(2,true),(1,true),(3,true),(4,true),(5,false),(6,true)] (fun w':World=>Fr (fun k=>k = w.heap.size + 1 + 1) V w'∧w'.heap[w.heap.size]? = some (.cells (thC t (.slice la t.cats.length lc) (.slice ca t.ccats.length cc) (.slice ka t.links.length kc) (.slice da t.data.length dc)).toArray 34 (0,0))) (by kernel_rfl) (by kernel_rfl) ?_
  generalize V.drew = Vd at *
  refine ord_quietL _ ?_ rfl hS rfl ?_ ?_
  rotate_left
  ·rintro w' ⟨hn,rhA⟩;go_simp;rfl
  simp only [pL,List.set]
  refine ord_quietL _ ?_ rfl hS rfl ?_ ?_
  rotate_left
  ·rintro w' ⟨hn,rhA⟩;go_simp;rfl
  simp only [pL,List.set]
  refine ord_quietL _ ?_ rfl hS rfl ?_ ?_
  rotate_left
  ·rintro w' ⟨hn,rhA⟩;have g0:w'.cell? ⟨w.heap.size,7,none⟩ = some (.int .i64 t.next):=cell_blk rhA rfl;go_simp;rfl
  simp only [pL,List.set]
  refine ord_quietL _ ?_ rfl hS rfl ?_ ?_
  rotate_left
  ·rintro w' ⟨hn,rhA⟩;have g0:w'.cell? ⟨w.heap.size,8,none⟩ = some (.slice ka t.links.length kc):=cell_blk rhA rfl;go_simp;rfl
  simp only [pL,List.set]
  refine ord_quietL _ ?_ rfl hS rfl ?_ ?_
  rotate_left
  ·rintro w' ⟨hn,rhA⟩;go_simp;rfl
  simp only [pL,List.set]
  refine ord_actL _ rfl (fun K1 hK1=>?_)
  have gf:∀ k,Vd.frozen? ⟨w.heap.size + 1 + 1,k,none⟩ = false:=fun k=>free_blk hBd
  have c0:Vd.cell? ⟨w.heap.size + 1 + 1,7,none⟩ = some (.int .i64 0):=cell_blk hBd rfl
  obtain ⟨V1,hV⟩:∃ Vn,Hid (Vn = (Vd.setCell ⟨w.heap.size + 1 + 1,7,none⟩ (.int .i64 t.next))):=⟨_,rfl⟩
  have mV1:Fr (fun k=>k = w.heap.size + 1 + 1) V V1:=by rw [hV.out];exact (hW0.setCell (p:=⟨w.heap.size + 1 + 1,7,none⟩) (.inl rfl) _)
  have hBV1:V1.heap[w.heap.size + 1 + 1]? = some (.cells ((thC (baseT t) (.slice la t.cats.length lc) (.slice none 0 0) (.slice none 0 0) (.slice none 0 0)).set 7 (.int .i64 t.next)).toArray 34 (0,0)):=by rw [hV.out,(blk_setCell hBd)];simp only [List.setIfInBounds_toArray]
  go_wp2
  rw [← hV.out]
  clear gf c0
  refine hK1 _ _ (hSof.out _ mV1) ?_
  clear hK1 K1 hS hV
  have hS:=hSof.out _ mV1
  refine ord_quietL _ ?_ rfl hS rfl ?_ ?_
  rotate_left
  ·rintro w' ⟨hn,rhA⟩;go_simp;rfl
  simp only [pL,List.set]
  refine ord_tail ?_
  simp only [List.drop_succ_cons,List.drop_zero]
  have gf:∀ k,V1.frozen? ⟨w.heap.size + 1 + 1,k,none⟩ = false:=fun k=>free_blk hBV1
  have c0:V1.cell? ⟨w.heap.size + 1 + 1,8,none⟩ = some (.slice none 0 0):=cell_blk hBV1 rfl
  obtain ⟨V2,hV⟩:∃ Vn,Hid (Vn = (V1.setCell ⟨w.heap.size + 1 + 1,8,none⟩ (.slice ka t.links.length kc))):=⟨_,rfl⟩
  have mV2:Fr (fun k=>k = w.heap.size + 1 + 1) V V2:=by rw [hV.out];exact (mV1.setCell (p:=⟨w.heap.size + 1 + 1,8,none⟩) (.inl rfl) _)
  have hBV2:V2.heap[w.heap.size + 1 + 1]? = some (.cells (((thC (baseT t) (.slice la t.cats.length lc) (.slice none 0 0) (.slice none 0 0) (.slice none 0 0)).set 7 (.int .i64 t.next)).set 8 (.slice ka t.links.length kc)).toArray 34 (0,0)):=by rw [hV.out,(blk_setCell hBV1)];simp only [List.setIfInBounds_toArray]
  go_upto_region 13 with fail
  rw [← hV.out]
  have hXe:(((thC (baseT t) (.slice la t.cats.length lc) (.slice none 0 0) (.slice none 0 0) (.slice none 0 0)).set 7 (.int .i64 t.next)).set 8 (.slice ka t.links.length kc)) = (thC (ofK t) (.slice la t.cats.length lc) (.slice none 0 0) (.slice ka t.links.length kc) (.slice none 0 0)):=(by rw [ofk1 t hk1.out];rfl)
  have hBe:V2.heap[w.heap.size + 1 + 1]? = some (.cells (thC (ofK t) (.slice la t.cats.length lc) (.slice none 0 0) (.slice ka t.links.length kc) (.slice none 0 0)).toArray 34 (0,0)):=by rw [← hXe];exact hBV2
  clear hXe
  have hZe:V2.heap[w.heap.size + 1]? = some (.cells (thC zeroT (.slice none 0 0) (.slice none 0 0) (.slice none 0 0) (.slice none 0 0)).toArray 34 (0,0)):=(mV2.block _ (heap_lt hZ) (by omega)).trans hZ
  have hr0:V2.rangeAt (w.heap.size + 1 + 1) 0 (thC (ofK t) (.slice la t.cats.length lc) (.slice none 0 0) (.slice ka t.links.length kc) (.slice none 0 0)):=range_all hBe
  have hfin:Hid ((V2.setRow (w.heap.size + 1) (thC (ofK t) (.slice la t.cats.length lc) (.slice none 0 0) (.slice ka t.links.length kc) (.slice none 0 0)).toArray).rangeAt (w.heap.size + 1) 0 (thC (ofK t) (.slice la t.cats.length lc) (.slice none 0 0) (.slice ka t.links.length kc) (.slice none 0 0))∧Fr (fun k=>k = w.heap.size + 1) V2 (V2.setRow (w.heap.size + 1) (thC (ofK t) (.slice la t.cats.length lc) (.slice none 0 0) (.slice ka t.links.length kc) (.slice none 0 0)).toArray)):=⟨range_all (setRow_heap _ _ _ _ _ _ hZe),(Fr.refl (fun k=>k = w.heap.size + 1) V2).setRow (.inl rfl) _⟩
  have hme:=mV2
  skip
  go_wp2_with (refine wpList_load_as ?_ 34 _ rfl (w.heap.size + 1 + 1) 0 rfl (thV (ofK t) (.slice la t.cats.length lc) (.slice none 0 0) (.slice ka t.links.length kc) (.slice none 0 0)) _ rfl hr0 Try.rowT Try.sizeT ?_;exact rfl;refine stop_here ?_)
  unfold Hid
  refine wpList_store_all rfl 34 _ _ rfl (w.heap.size + 1) rfl (thV (ofK t) (.slice la t.cats.length lc) (.slice none 0 0) (.slice ka t.links.length kc) (.slice none 0 0)) rfl (thC (ofK t) (.slice la t.cats.length lc) (.slice none 0 0) (.slice ka t.links.length kc) (.slice none 0 0)) rfl (thC zeroT (.slice none 0 0) (.slice none 0 0) (.slice none 0 0) (.slice none 0 0)) 34 hZe rfl (th_one _ _ _ _ _ rfl rfl rfl rfl) Try.sizeT ?_
  go_wp2
  refine bodyPost_ret (results_cell1 rfl _ (w.heap.size + 1) _ (thV (ofK t) (.slice la t.cats.length lc) (.slice none 0 0) (.slice ka t.links.length kc) (.slice none 0 0)) rfl rfl hfin.out.1 Try.rowT Try.sizeT) rfl ?_
  refine ⟨_,_,_,_,rfl,?_,Fr.trans (Fr.trans (nw_trans nW.out nV.out) hme (fun k hk=>.inr (by omega))) hfin.out.2 (fun k hk=>.inr (by omega))⟩
  have hth:ThAt (fun b=>b < w.heap.size) (V2.setRow (w.heap.size + 1) (thC (ofK t) (.slice la t.cats.length lc) (.slice none 0 0) (.slice ka t.links.length kc) (.slice none 0 0)).toArray) t (.slice la t.cats.length lc) (.slice ca t.ccats.length cc) (.slice ka t.links.length kc) (.slice da t.data.length dc):=(ht.keep (X':=fun b=>b < w.heap.size) hme (fun b hb _ e=>by have h9:b < w.heap.size:=hb;omega) (fun b hb _=>hb)).keep hfin.out.2 (fun b hb _ e=>by have h9:b < w.heap.size:=hb;omega) (fun b hb _=>hb)
  exact (by rw [ofk1 t hk1.out];exact ⟨hth.l,csl_nil _ _,hth.k,bsl_nil _ _⟩:ThAt _ _ (ofK t) _ _ _ _)
 ·have bk1:(t.kind == 1) = false:=by simp [hk1]
  replace hk1:Hid (¬ t.kind = 1):=hk1
  by_cases hk2:t.kind = 2
  ·have bk2:(t.kind == 2) = true:=by simp [hk2]
   replace hk2:Hid (t.kind = 2):=hk2
   go_upto_region 6 with fail
   have hSof:∀ w',Fr (fun k=>k = w.heap.size + 1 + 1) V w'→(fun w':World=>Fr (fun k=>k = w.heap.size + 1 + 1) V w'∧w'.heap[w.heap.size]? = some (.cells (thC t (.slice la t.cats.length lc) (.slice ca t.ccats.length cc) (.slice ka t.links.length kc) (.slice da t.data.length dc)).toArray 34 (0,0))) w':=fun w' hw=>⟨hw,(hw.block _ (heap_lt hA) (by omega)).trans hA⟩
   have hW0:Fr (fun k=>k = w.heap.size + 1 + 1) V V.drew:=Fr.drew (Fr.refl _ V)
   have hS:=hSof _ hW0
   replace hSof:Hid _:=hSof
   have hBd:V.drew.heap[w.heap.size + 1 + 1]? = _:=hB
   refine wp_region_ord [] 19 [(0,true),(2,true),(4,true),(6,true),(8,true),(1,true),(3,true),(5,true),(7,true),(9,true),(10,true),(11,false),(12,true),(13,false),(14,true),(15,false),(16,true),(17,false),(18,true)] (fun w':World=>Fr (fun k=>k = w.heap.size + 1 + 1) V w'∧w'.heap[w.heap.size]? = some (.cells (thC t (.slice la t.cats.length lc) (.slice ca t.ccats.length cc) (.slice ka t.links.length kc) (.slice da t.data.length dc)).toArray 34 (0,0))) (by kernel_rfl) (by kernel_rfl) ?_
   generalize V.drew = Vd at *
   refine ord_quietL _ ?_ rfl hS rfl ?_ ?_
   rotate_left
   ·rintro w' ⟨hn,rhA⟩;go_simp;rfl
   simp only [pL,List.set]
   refine ord_quietL _ ?_ rfl hS rfl ?_ ?_
   rotate_left
   ·rintro w' ⟨hn,rhA⟩;go_simp;rfl
   simp only [pL,List.set]
   refine ord_quietL _ ?_ rfl hS rfl ?_ ?_
   rotate_left
   ·rintro w' ⟨hn,rhA⟩;go_simp;rfl
   simp only [pL,List.set]
   refine ord_quietL _ ?_ rfl hS rfl ?_ ?_
   rotate_left
   ·rintro w' ⟨hn,rhA⟩;go_simp;rfl
   simp only [pL,List.set]
   refine ord_quietL _ ?_ rfl hS rfl ?_ ?_
   rotate_left
   ·rintro w' ⟨hn,rhA⟩;go_simp;rfl
   simp only [pL,List.set]
   refine ord_quietL _ ?_ rfl hS rfl ?_ ?_
   rotate_left
   ·rintro w' ⟨hn,rhA⟩;have g0:w'.cell? ⟨w.heap.size,4,none⟩ = some (.int .i64 t.cdf):=cell_blk rhA rfl;have g1:w'.cell? ⟨w.heap.size,5,none⟩ = some (.slice ca t.ccats.length cc):=cell_blk rhA rfl;go_simp;rfl
   simp only [pL,List.set]
   refine ord_quietL _ ?_ rfl hS rfl ?_ ?_
   rotate_left
   ·rintro w' ⟨hn,rhA⟩;refine (run_load_rg _ w' rfl (w.heap.size) rfl rhA).trans ?_;rfl
   simp only [pL,List.set]
   refine ord_quietL _ ?_ rfl hS rfl ?_ ?_
   rotate_left
   ·rintro w' ⟨hn,rhA⟩;have g0:w'.cell? ⟨w.heap.size,14,none⟩ = some (.int .i64 t.minted):=cell_blk rhA rfl;go_simp;rfl
   simp only [pL,List.set]
   refine ord_quietL _ ?_ rfl hS rfl ?_ ?_
   rotate_left
   ·rintro w' ⟨hn,rhA⟩;have g0:w'.cell? ⟨w.heap.size,15,none⟩ = some (.int .i64 t.boot):=cell_blk rhA rfl;go_simp;rfl
   simp only [pL,List.set]
   refine ord_quietL _ ?_ rfl hS rfl ?_ ?_
   rotate_left
   ·rintro w' ⟨hn,rhA⟩;have g0:w'.cell? ⟨w.heap.size,16,none⟩ = some (.bool t.halted):=cell_blk rhA rfl;go_simp;rfl
   simp only [pL,List.set]
   refine ord_quietL _ ?_ rfl hS rfl ?_ ?_
   rotate_left
   ·rintro w' ⟨hn,rhA⟩;go_simp;rfl
   simp only [pL,List.set]
   refine ord_actL _ rfl (fun K1 hK1=>?_)
   have gf:∀ k,Vd.frozen? ⟨w.heap.size + 1 + 1,k,none⟩ = false:=fun k=>free_blk hBd
   have c0:Vd.cell? ⟨w.heap.size + 1 + 1,4,none⟩ = some (.int .i64 0):=cell_blk hBd rfl
   have c1:Vd.cell? ⟨w.heap.size + 1 + 1,5,none⟩ = some (.slice none 0 0):=cell_blk hBd rfl
   obtain ⟨V1,hV⟩:∃ Vn,Hid (Vn = ((Vd.setCell ⟨w.heap.size + 1 + 1,4,none⟩ (.int .i64 t.cdf)).setCell ⟨w.heap.size + 1 + 1,5,none⟩ (.slice ca t.ccats.length cc))):=⟨_,rfl⟩
   have mV1:Fr (fun k=>k = w.heap.size + 1 + 1) V V1:=by rw [hV.out];exact ((hW0.setCell (p:=⟨w.heap.size + 1 + 1,4,none⟩) (.inl rfl) _).setCell (p:=⟨w.heap.size + 1 + 1,5,none⟩) (.inl rfl) _)
   have hBV1:V1.heap[w.heap.size + 1 + 1]? = some (.cells (((thC (baseT t) (.slice la t.cats.length lc) (.slice none 0 0) (.slice none 0 0) (.slice none 0 0)).set 4 (.int .i64 t.cdf)).set 5 (.slice ca t.ccats.length cc)).toArray 34 (0,0)):=by rw [hV.out,(blk_setCell (blk_setCell hBd))];simp only [List.setIfInBounds_toArray]
   go_wp2
   rw [← hV.out]
   clear gf c0 c1
   refine hK1 _ _ (hSof.out _ mV1) ?_
   clear hK1 K1 hS hV
   have hS:=hSof.out _ mV1
   refine ord_quietL _ ?_ rfl hS rfl ?_ ?_
   rotate_left
   ·rintro w' ⟨hn,rhA⟩;go_simp;rfl
   simp only [pL,List.set]
   refine ord_actL _ rfl (fun K1 hK1=>?_)
   have fzV2:=hBV1
   obtain ⟨V2,hV⟩:∃ Vn,Hid (Vn = V1.setRow (w.heap.size + 1 + 1) (splice (((thC (baseT t) (.slice la t.cats.length lc) (.slice none 0 0) (.slice none 0 0) (.slice none 0 0)).set 4 (.int .i64 t.cdf)).set 5 (.slice ca t.ccats.length cc)) 10 (rgC t)).toArray):=⟨_,rfl⟩
   have mV2:Fr (fun k=>k = w.heap.size + 1 + 1) V V2:=by rw [hV.out];exact mV1.setRow (.inl rfl) _
   have hBV2:V2.heap[w.heap.size + 1 + 1]? = some (.cells (splice (((thC (baseT t) (.slice la t.cats.length lc) (.slice none 0 0) (.slice none 0 0) (.slice none 0 0)).set 4 (.int .i64 t.cdf)).set 5 (.slice ca t.ccats.length cc)) 10 (rgC t)).toArray 34 (0,0)):=by rw [hV.out];exact setRow_heap _ _ _ _ _ _ hBV1
   refine wpList_store_as rfl 29 _ _ rfl (w.heap.size + 1 + 1) 10 rfl (rgV t) rfl (rgC t) rfl (((thC (baseT t) (.slice la t.cats.length lc) (.slice none 0 0) (.slice none 0 0) (.slice none 0 0)).set 4 (.int .i64 t.cdf)).set 5 (.slice ca t.ccats.length cc)) 34 hBV1 (by simp [thC,rgC]) (by simp [rgC,Value.oneCell']) Try.size4 ?_
   rw [← hV.out]
   go_wp2
   refine hK1 _ _ (hSof.out _ mV2) ?_
   clear hK1 K1 hS hV
   have hS:=hSof.out _ mV2
   refine ord_quietL _ ?_ rfl hS rfl ?_ ?_
   rotate_left
   ·rintro w' ⟨hn,rhA⟩;go_simp;rfl
   simp only [pL,List.set]
   refine ord_actL _ rfl (fun K1 hK1=>?_)
   have gf:∀ k,V2.frozen? ⟨w.heap.size + 1 + 1,k,none⟩ = false:=fun k=>free_blk hBV2
   have c0:V2.cell? ⟨w.heap.size + 1 + 1,14,none⟩ = some (.int .i64 0):=cell_blk hBV2 rfl
   obtain ⟨V3,hV⟩:∃ Vn,Hid (Vn = (V2.setCell ⟨w.heap.size + 1 + 1,14,none⟩ (.int .i64 t.minted))):=⟨_,rfl⟩
   have mV3:Fr (fun k=>k = w.heap.size + 1 + 1) V V3:=by rw [hV.out];exact (mV2.setCell (p:=⟨w.heap.size + 1 + 1,14,none⟩) (.inl rfl) _)
   have hBV3:V3.heap[w.heap.size + 1 + 1]? = some (.cells ((splice (((thC (baseT t) (.slice la t.cats.length lc) (.slice none 0 0) (.slice none 0 0) (.slice none 0 0)).set 4 (.int .i64 t.cdf)).set 5 (.slice ca t.ccats.length cc)) 10 (rgC t)).set 14 (.int .i64 t.minted)).toArray 34 (0,0)):=by rw [hV.out,(blk_setCell hBV2)];simp only [List.setIfInBounds_toArray]
   go_wp2
   rw [← hV.out]
   clear gf c0
   refine hK1 _ _ (hSof.out _ mV3) ?_
   clear hK1 K1 hS hV
   have hS:=hSof.out _ mV3
   refine ord_quietL _ ?_ rfl hS rfl ?_ ?_
   rotate_left
   ·rintro w' ⟨hn,rhA⟩;go_simp;rfl
   simp only [pL,List.set]
   refine ord_actL _ rfl (fun K1 hK1=>?_)
   have gf:∀ k,V3.frozen? ⟨w.heap.size + 1 + 1,k,none⟩ = false:=fun k=>free_blk hBV3
   have c0:V3.cell? ⟨w.heap.size + 1 + 1,15,none⟩ = some (.int .i64 0):=cell_blk hBV3 rfl
   obtain ⟨V4,hV⟩:∃ Vn,Hid (Vn = (V3.setCell ⟨w.heap.size + 1 + 1,15,none⟩ (.int .i64 t.boot))):=⟨_,rfl⟩
   have mV4:Fr (fun k=>k = w.heap.size + 1 + 1) V V4:=by rw [hV.out];exact (mV3.setCell (p:=⟨w.heap.size + 1 + 1,15,none⟩) (.inl rfl) _)
   have hBV4:V4.heap[w.heap.size + 1 + 1]? = some (.cells (((splice (((thC (baseT t) (.slice la t.cats.length lc) (.slice none 0 0) (.slice none 0 0) (.slice none 0 0)).set 4 (.int .i64 t.cdf)).set 5 (.slice ca t.ccats.length cc)) 10 (rgC t)).set 14 (.int .i64 t.minted)).set 15 (.int .i64 t.boot)).toArray 34 (0,0)):=by rw [hV.out,(blk_setCell hBV3)];simp only [List.setIfInBounds_toArray]
   go_wp2
   rw [← hV.out]
   clear gf c0
   refine hK1 _ _ (hSof.out _ mV4) ?_
   clear hK1 K1 hS hV
   have hS:=hSof.out _ mV4
   refine ord_quietL _ ?_ rfl hS rfl ?_ ?_
   rotate_left
   ·rintro w' ⟨hn,rhA⟩;go_simp;rfl
   simp only [pL,List.set]
   refine ord_tail ?_
   simp only [List.drop_succ_cons,List.drop_zero]
   have gf:∀ k,V4.frozen? ⟨w.heap.size + 1 + 1,k,none⟩ = false:=fun k=>free_blk hBV4
   have c0:V4.cell? ⟨w.heap.size + 1 + 1,16,none⟩ = some (.bool false):=cell_blk hBV4 rfl
   obtain ⟨V5,hV⟩:∃ Vn,Hid (Vn = (V4.setCell ⟨w.heap.size + 1 + 1,16,none⟩ (.bool t.halted))):=⟨_,rfl⟩
   have mV5:Fr (fun k=>k = w.heap.size + 1 + 1) V V5:=by rw [hV.out];exact (mV4.setCell (p:=⟨w.heap.size + 1 + 1,16,none⟩) (.inl rfl) _)
   have hBV5:V5.heap[w.heap.size + 1 + 1]? = some (.cells ((((splice (((thC (baseT t) (.slice la t.cats.length lc) (.slice none 0 0) (.slice none 0 0) (.slice none 0 0)).set 4 (.int .i64 t.cdf)).set 5 (.slice ca t.ccats.length cc)) 10 (rgC t)).set 14 (.int .i64 t.minted)).set 15 (.int .i64 t.boot)).set 16 (.bool t.halted)).toArray 34 (0,0)):=by rw [hV.out,(blk_setCell hBV4)];simp only [List.setIfInBounds_toArray]
   go_upto_region 13 with fail
   rw [← hV.out]
   have hXe:((((splice (((thC (baseT t) (.slice la t.cats.length lc) (.slice none 0 0) (.slice none 0 0) (.slice none 0 0)).set 4 (.int .i64 t.cdf)).set 5 (.slice ca t.ccats.length cc)) 10 (rgC t)).set 14 (.int .i64 t.minted)).set 15 (.int .i64 t.boot)).set 16 (.bool t.halted)) = (thC (ofK t) (.slice la t.cats.length lc) (.slice ca t.ccats.length cc) (.slice none 0 0) (.slice none 0 0)):=(by rw [ofk2 t hk1.out hk2.out];rfl)
   have hBe:V5.heap[w.heap.size + 1 + 1]? = some (.cells (thC (ofK t) (.slice la t.cats.length lc) (.slice ca t.ccats.length cc) (.slice none 0 0) (.slice none 0 0)).toArray 34 (0,0)):=by rw [← hXe];exact hBV5
   clear hXe
   have hZe:V5.heap[w.heap.size + 1]? = some (.cells (thC zeroT (.slice none 0 0) (.slice none 0 0) (.slice none 0 0) (.slice none 0 0)).toArray 34 (0,0)):=(mV5.block _ (heap_lt hZ) (by omega)).trans hZ
   have hr0:V5.rangeAt (w.heap.size + 1 + 1) 0 (thC (ofK t) (.slice la t.cats.length lc) (.slice ca t.ccats.length cc) (.slice none 0 0) (.slice none 0 0)):=range_all hBe
   have hfin:Hid ((V5.setRow (w.heap.size + 1) (thC (ofK t) (.slice la t.cats.length lc) (.slice ca t.ccats.length cc) (.slice none 0 0) (.slice none 0 0)).toArray).rangeAt (w.heap.size + 1) 0 (thC (ofK t) (.slice la t.cats.length lc) (.slice ca t.ccats.length cc) (.slice none 0 0) (.slice none 0 0))∧Fr (fun k=>k = w.heap.size + 1) V5 (V5.setRow (w.heap.size + 1) (thC (ofK t) (.slice la t.cats.length lc) (.slice ca t.ccats.length cc) (.slice none 0 0) (.slice none 0 0)).toArray)):=⟨range_all (setRow_heap _ _ _ _ _ _ hZe),(Fr.refl (fun k=>k = w.heap.size + 1) V5).setRow (.inl rfl) _⟩
   have hme:=mV5
   skip
   go_wp2_with (refine wpList_load_as ?_ 34 _ rfl (w.heap.size + 1 + 1) 0 rfl (thV (ofK t) (.slice la t.cats.length lc) (.slice ca t.ccats.length cc) (.slice none 0 0) (.slice none 0 0)) _ rfl hr0 Try.rowT Try.sizeT ?_;exact rfl;refine stop_here ?_)
   unfold Hid
   refine wpList_store_all rfl 34 _ _ rfl (w.heap.size + 1) rfl (thV (ofK t) (.slice la t.cats.length lc) (.slice ca t.ccats.length cc) (.slice none 0 0) (.slice none 0 0)) rfl (thC (ofK t) (.slice la t.cats.length lc) (.slice ca t.ccats.length cc) (.slice none 0 0) (.slice none 0 0)) rfl (thC zeroT (.slice none 0 0) (.slice none 0 0) (.slice none 0 0) (.slice none 0 0)) 34 hZe rfl (th_one _ _ _ _ _ rfl rfl rfl rfl) Try.sizeT ?_
   go_wp2
   refine bodyPost_ret (results_cell1 rfl _ (w.heap.size + 1) _ (thV (ofK t) (.slice la t.cats.length lc) (.slice ca t.ccats.length cc) (.slice none 0 0) (.slice none 0 0)) rfl rfl hfin.out.1 Try.rowT Try.sizeT) rfl ?_
   refine ⟨_,_,_,_,rfl,?_,Fr.trans (Fr.trans (nw_trans nW.out nV.out) hme (fun k hk=>.inr (by omega))) hfin.out.2 (fun k hk=>.inr (by omega))⟩
   have hth:ThAt (fun b=>b < w.heap.size) (V5.setRow (w.heap.size + 1) (thC (ofK t) (.slice la t.cats.length lc) (.slice ca t.ccats.length cc) (.slice none 0 0) (.slice none 0 0)).toArray) t (.slice la t.cats.length lc) (.slice ca t.ccats.length cc) (.slice ka t.links.length kc) (.slice da t.data.length dc):=(ht.keep (X':=fun b=>b < w.heap.size) hme (fun b hb _ e=>by have h9:b < w.heap.size:=hb;omega) (fun b hb _=>hb)).keep hfin.out.2 (fun b hb _ e=>by have h9:b < w.heap.size:=hb;omega) (fun b hb _=>hb)
   exact (by rw [ofk2 t hk1.out hk2.out];exact ⟨hth.l,hth.c,csl_nil _ _,bsl_nil _ _⟩:ThAt _ _ (ofK t) _ _ _ _)
  ·have bk2:(t.kind == 2) = false:=by simp [hk2]
   replace hk2:Hid (¬ t.kind = 2):=hk2
   by_cases hk3:t.kind = 3
   ·have bk3:(t.kind == 3) = true:=by simp [hk3]
    replace hk3:Hid (t.kind = 3):=hk3
    go_upto_region 8 with fail
    have hSof:∀ w',Fr (fun k=>k = w.heap.size + 1 + 1) V w'→(fun w':World=>Fr (fun k=>k = w.heap.size + 1 + 1) V w'∧w'.heap[w.heap.size]? = some (.cells (thC t (.slice la t.cats.length lc) (.slice ca t.ccats.length cc) (.slice ka t.links.length kc) (.slice da t.data.length dc)).toArray 34 (0,0))) w':=fun w' hw=>⟨hw,(hw.block _ (heap_lt hA) (by omega)).trans hA⟩
    have hW0:Fr (fun k=>k = w.heap.size + 1 + 1) V V.drew:=Fr.drew (Fr.refl _ V)
    have hS:=hSof _ hW0
    replace hSof:Hid _:=hSof
    have hBd:V.drew.heap[w.heap.size + 1 + 1]? = _:=hB
    refine wp_region_ord [] 7 [(0,true),(2,true),(1,true),(3,true),(4,true),(5,false),(6,true)] (fun w':World=>Fr (fun k=>k = w.heap.size + 1 + 1) V w'∧w'.heap[w.heap.size]? = some (.cells (thC t (.slice la t.cats.length lc) (.slice ca t.ccats.length cc) (.slice ka t.links.length kc) (.slice da t.data.length dc)).toArray 34 (0,0))) (by kernel_rfl) (by kernel_rfl) ?_
    generalize V.drew = Vd at *
    refine ord_quietL _ ?_ rfl hS rfl ?_ ?_
    rotate_left
    ·rintro w' ⟨hn,rhA⟩;go_simp;rfl
    simp only [pL,List.set]
    refine ord_quietL _ ?_ rfl hS rfl ?_ ?_
    rotate_left
    ·rintro w' ⟨hn,rhA⟩;go_simp;rfl
    simp only [pL,List.set]
    refine ord_quietL _ ?_ rfl hS rfl ?_ ?_
    rotate_left
    ·rintro w' ⟨hn,rhA⟩;have g0:w'.cell? ⟨w.heap.size,4,none⟩ = some (.int .i64 t.cdf):=cell_blk rhA rfl;have g1:w'.cell? ⟨w.heap.size,5,none⟩ = some (.slice ca t.ccats.length cc):=cell_blk rhA rfl;go_simp;rfl
    simp only [pL,List.set]
    refine ord_quietL _ ?_ rfl hS rfl ?_ ?_
    rotate_left
    ·rintro w' ⟨hn,rhA⟩;have g0:w'.cell? ⟨w.heap.size,17,none⟩ = some (.int .u64 t.value):=cell_blk rhA rfl;go_simp;rfl
    simp only [pL,List.set]
    refine ord_quietL _ ?_ rfl hS rfl ?_ ?_
    rotate_left
    ·rintro w' ⟨hn,rhA⟩;go_simp;rfl
    simp only [pL,List.set]
    refine ord_actL _ rfl (fun K1 hK1=>?_)
    have gf:∀ k,Vd.frozen? ⟨w.heap.size + 1 + 1,k,none⟩ = false:=fun k=>free_blk hBd
    have c0:Vd.cell? ⟨w.heap.size + 1 + 1,4,none⟩ = some (.int .i64 0):=cell_blk hBd rfl
    have c1:Vd.cell? ⟨w.heap.size + 1 + 1,5,none⟩ = some (.slice none 0 0):=cell_blk hBd rfl
    obtain ⟨V1,hV⟩:∃ Vn,Hid (Vn = ((Vd.setCell ⟨w.heap.size + 1 + 1,4,none⟩ (.int .i64 t.cdf)).setCell ⟨w.heap.size + 1 + 1,5,none⟩ (.slice ca t.ccats.length cc))):=⟨_,rfl⟩
    have mV1:Fr (fun k=>k = w.heap.size + 1 + 1) V V1:=by rw [hV.out];exact ((hW0.setCell (p:=⟨w.heap.size + 1 + 1,4,none⟩) (.inl rfl) _).setCell (p:=⟨w.heap.size + 1 + 1,5,none⟩) (.inl rfl) _)
    have hBV1:V1.heap[w.heap.size + 1 + 1]? = some (.cells (((thC (baseT t) (.slice la t.cats.length lc) (.slice none 0 0) (.slice none 0 0) (.slice none 0 0)).set 4 (.int .i64 t.cdf)).set 5 (.slice ca t.ccats.length cc)).toArray 34 (0,0)):=by rw [hV.out,(blk_setCell (blk_setCell hBd))];simp only [List.setIfInBounds_toArray]
    go_wp2
    rw [← hV.out]
    clear gf c0 c1
    refine hK1 _ _ (hSof.out _ mV1) ?_
    clear hK1 K1 hS hV
    have hS:=hSof.out _ mV1
    refine ord_quietL _ ?_ rfl hS rfl ?_ ?_
    rotate_left
    ·rintro w' ⟨hn,rhA⟩;go_simp;rfl
    simp only [pL,List.set]
    refine ord_tail ?_
    simp only [List.drop_succ_cons,List.drop_zero]
    have gf:∀ k,V1.frozen? ⟨w.heap.size + 1 + 1,k,none⟩ = false:=fun k=>free_blk hBV1
    have c0:V1.cell? ⟨w.heap.size + 1 + 1,17,none⟩ = some (.int .u64 0):=cell_blk hBV1 rfl
    obtain ⟨V2,hV⟩:∃ Vn,Hid (Vn = (V1.setCell ⟨w.heap.size + 1 + 1,17,none⟩ (.int .u64 t.value))):=⟨_,rfl⟩
    have mV2:Fr (fun k=>k = w.heap.size + 1 + 1) V V2:=by rw [hV.out];exact (mV1.setCell (p:=⟨w.heap.size + 1 + 1,17,none⟩) (.inl rfl) _)
    have hBV2:V2.heap[w.heap.size + 1 + 1]? = some (.cells ((((thC (baseT t) (.slice la t.cats.length lc) (.slice none 0 0) (.slice none 0 0) (.slice none 0 0)).set 4 (.int .i64 t.cdf)).set 5 (.slice ca t.ccats.length cc)).set 17 (.int .u64 t.value)).toArray 34 (0,0)):=by rw [hV.out,(blk_setCell hBV1)];simp only [List.setIfInBounds_toArray]
    go_upto_region 13 with fail
    rw [← hV.out]
    have hXe:((((thC (baseT t) (.slice la t.cats.length lc) (.slice none 0 0) (.slice none 0 0) (.slice none 0 0)).set 4 (.int .i64 t.cdf)).set 5 (.slice ca t.ccats.length cc)).set 17 (.int .u64 t.value)) = (thC (ofK t) (.slice la t.cats.length lc) (.slice ca t.ccats.length cc) (.slice none 0 0) (.slice none 0 0)):=(by rw [ofk3 t hk1.out hk2.out hk3.out];rfl)
    have hBe:V2.heap[w.heap.size + 1 + 1]? = some (.cells (thC (ofK t) (.slice la t.cats.length lc) (.slice ca t.ccats.length cc) (.slice none 0 0) (.slice none 0 0)).toArray 34 (0,0)):=by rw [← hXe];exact hBV2
    clear hXe
    have hZe:V2.heap[w.heap.size + 1]? = some (.cells (thC zeroT (.slice none 0 0) (.slice none 0 0) (.slice none 0 0) (.slice none 0 0)).toArray 34 (0,0)):=(mV2.block _ (heap_lt hZ) (by omega)).trans hZ
    have hr0:V2.rangeAt (w.heap.size + 1 + 1) 0 (thC (ofK t) (.slice la t.cats.length lc) (.slice ca t.ccats.length cc) (.slice none 0 0) (.slice none 0 0)):=range_all hBe
    have hfin:Hid ((V2.setRow (w.heap.size + 1) (thC (ofK t) (.slice la t.cats.length lc) (.slice ca t.ccats.length cc) (.slice none 0 0) (.slice none 0 0)).toArray).rangeAt (w.heap.size + 1) 0 (thC (ofK t) (.slice la t.cats.length lc) (.slice ca t.ccats.length cc) (.slice none 0 0) (.slice none 0 0))∧Fr (fun k=>k = w.heap.size + 1) V2 (V2.setRow (w.heap.size + 1) (thC (ofK t) (.slice la t.cats.length lc) (.slice ca t.ccats.length cc) (.slice none 0 0) (.slice none 0 0)).toArray)):=⟨range_all (setRow_heap _ _ _ _ _ _ hZe),(Fr.refl (fun k=>k = w.heap.size + 1) V2).setRow (.inl rfl) _⟩
    have hme:=mV2
    skip
    go_wp2_with (refine wpList_load_as ?_ 34 _ rfl (w.heap.size + 1 + 1) 0 rfl (thV (ofK t) (.slice la t.cats.length lc) (.slice ca t.ccats.length cc) (.slice none 0 0) (.slice none 0 0)) _ rfl hr0 Try.rowT Try.sizeT ?_;exact rfl;refine stop_here ?_)
    unfold Hid
    refine wpList_store_all rfl 34 _ _ rfl (w.heap.size + 1) rfl (thV (ofK t) (.slice la t.cats.length lc) (.slice ca t.ccats.length cc) (.slice none 0 0) (.slice none 0 0)) rfl (thC (ofK t) (.slice la t.cats.length lc) (.slice ca t.ccats.length cc) (.slice none 0 0) (.slice none 0 0)) rfl (thC zeroT (.slice none 0 0) (.slice none 0 0) (.slice none 0 0) (.slice none 0 0)) 34 hZe rfl (th_one _ _ _ _ _ rfl rfl rfl rfl) Try.sizeT ?_
    go_wp2
    refine bodyPost_ret (results_cell1 rfl _ (w.heap.size + 1) _ (thV (ofK t) (.slice la t.cats.length lc) (.slice ca t.ccats.length cc) (.slice none 0 0) (.slice none 0 0)) rfl rfl hfin.out.1 Try.rowT Try.sizeT) rfl ?_
    refine ⟨_,_,_,_,rfl,?_,Fr.trans (Fr.trans (nw_trans nW.out nV.out) hme (fun k hk=>.inr (by omega))) hfin.out.2 (fun k hk=>.inr (by omega))⟩
    have hth:ThAt (fun b=>b < w.heap.size) (V2.setRow (w.heap.size + 1) (thC (ofK t) (.slice la t.cats.length lc) (.slice ca t.ccats.length cc) (.slice none 0 0) (.slice none 0 0)).toArray) t (.slice la t.cats.length lc) (.slice ca t.ccats.length cc) (.slice ka t.links.length kc) (.slice da t.data.length dc):=(ht.keep (X':=fun b=>b < w.heap.size) hme (fun b hb _ e=>by have h9:b < w.heap.size:=hb;omega) (fun b hb _=>hb)).keep hfin.out.2 (fun b hb _ e=>by have h9:b < w.heap.size:=hb;omega) (fun b hb _=>hb)
    exact (by rw [ofk3 t hk1.out hk2.out hk3.out];exact ⟨hth.l,hth.c,csl_nil _ _,bsl_nil _ _⟩:ThAt _ _ (ofK t) _ _ _ _)
   ·have bk3:(t.kind == 3) = false:=by simp [hk3]
    replace hk3:Hid (¬ t.kind = 3):=hk3
    by_cases hk4:t.kind = 4
    ·have bk4:(t.kind == 4) = true:=by simp [hk4]
     replace hk4:Hid (t.kind = 4):=hk4
     go_upto_region 10 with fail
     have g9:V.cell? ⟨w.heap.size,9,none⟩ = some (.slice da t.data.length dc):=cell_blk hA rfl
     have c9:V.cell? ⟨w.heap.size + 1 + 1,9,none⟩ = some (.slice none 0 0):=cell_blk hB rfl
     have gf:∀ k,V.frozen? ⟨w.heap.size + 1 + 1,k,none⟩ = false:=fun k=>free_blk hB
     obtain ⟨V1,hV⟩:∃ Vn,Hid (Vn = V.setCell ⟨w.heap.size + 1 + 1,9,none⟩ (.slice da t.data.length dc)):=⟨_,rfl⟩
     have mV1:Fr (fun k=>k = w.heap.size + 1 + 1) V V1:=by rw [hV.out];exact (Fr.refl (fun k=>k = w.heap.size + 1 + 1) V).setCell (p:=⟨w.heap.size + 1 + 1,9,none⟩) (.inl rfl) _
     have hBV1:V1.heap[w.heap.size + 1 + 1]? = some (.cells ((thC (baseT t) (.slice la t.cats.length lc) (.slice none 0 0) (.slice none 0 0) (.slice none 0 0)).set 9 (.slice da t.data.length dc)).toArray 34 (0,0)):=by rw [hV.out,(blk_setCell hB)];simp only [List.setIfInBounds_toArray]
     go_upto_region 13 with fail
     rw [← hV.out]
     clear g9 c9 gf
     have hXe:((thC (baseT t) (.slice la t.cats.length lc) (.slice none 0 0) (.slice none 0 0) (.slice none 0 0)).set 9 (.slice da t.data.length dc)) = (thC (ofK t) (.slice la t.cats.length lc) (.slice none 0 0) (.slice none 0 0) (.slice da t.data.length dc)):=(by rw [ofk4 t hk1.out hk2.out hk3.out hk4.out];rfl)
     have hBe:V1.heap[w.heap.size + 1 + 1]? = some (.cells (thC (ofK t) (.slice la t.cats.length lc) (.slice none 0 0) (.slice none 0 0) (.slice da t.data.length dc)).toArray 34 (0,0)):=by rw [← hXe];exact hBV1
     clear hXe
     have hZe:V1.heap[w.heap.size + 1]? = some (.cells (thC zeroT (.slice none 0 0) (.slice none 0 0) (.slice none 0 0) (.slice none 0 0)).toArray 34 (0,0)):=(mV1.block _ (heap_lt hZ) (by omega)).trans hZ
     have hr0:V1.rangeAt (w.heap.size + 1 + 1) 0 (thC (ofK t) (.slice la t.cats.length lc) (.slice none 0 0) (.slice none 0 0) (.slice da t.data.length dc)):=range_all hBe
     have hfin:Hid ((V1.setRow (w.heap.size + 1) (thC (ofK t) (.slice la t.cats.length lc) (.slice none 0 0) (.slice none 0 0) (.slice da t.data.length dc)).toArray).rangeAt (w.heap.size + 1) 0 (thC (ofK t) (.slice la t.cats.length lc) (.slice none 0 0) (.slice none 0 0) (.slice da t.data.length dc))∧Fr (fun k=>k = w.heap.size + 1) V1 (V1.setRow (w.heap.size + 1) (thC (ofK t) (.slice la t.cats.length lc) (.slice none 0 0) (.slice none 0 0) (.slice da t.data.length dc)).toArray)):=⟨range_all (setRow_heap _ _ _ _ _ _ hZe),(Fr.refl (fun k=>k = w.heap.size + 1) V1).setRow (.inl rfl) _⟩
     have hme:=mV1
     skip
     go_wp2_with (refine wpList_load_as ?_ 34 _ rfl (w.heap.size + 1 + 1) 0 rfl (thV (ofK t) (.slice la t.cats.length lc) (.slice none 0 0) (.slice none 0 0) (.slice da t.data.length dc)) _ rfl hr0 Try.rowT Try.sizeT ?_;exact rfl;refine stop_here ?_)
     unfold Hid
     refine wpList_store_all rfl 34 _ _ rfl (w.heap.size + 1) rfl (thV (ofK t) (.slice la t.cats.length lc) (.slice none 0 0) (.slice none 0 0) (.slice da t.data.length dc)) rfl (thC (ofK t) (.slice la t.cats.length lc) (.slice none 0 0) (.slice none 0 0) (.slice da t.data.length dc)) rfl (thC zeroT (.slice none 0 0) (.slice none 0 0) (.slice none 0 0) (.slice none 0 0)) 34 hZe rfl (th_one _ _ _ _ _ rfl rfl rfl rfl) Try.sizeT ?_
     go_wp2
     refine bodyPost_ret (results_cell1 rfl _ (w.heap.size + 1) _ (thV (ofK t) (.slice la t.cats.length lc) (.slice none 0 0) (.slice none 0 0) (.slice da t.data.length dc)) rfl rfl hfin.out.1 Try.rowT Try.sizeT) rfl ?_
     refine ⟨_,_,_,_,rfl,?_,Fr.trans (Fr.trans (nw_trans nW.out nV.out) hme (fun k hk=>.inr (by omega))) hfin.out.2 (fun k hk=>.inr (by omega))⟩
     have hth:ThAt (fun b=>b < w.heap.size) (V1.setRow (w.heap.size + 1) (thC (ofK t) (.slice la t.cats.length lc) (.slice none 0 0) (.slice none 0 0) (.slice da t.data.length dc)).toArray) t (.slice la t.cats.length lc) (.slice ca t.ccats.length cc) (.slice ka t.links.length kc) (.slice da t.data.length dc):=(ht.keep (X':=fun b=>b < w.heap.size) hme (fun b hb _ e=>by have h9:b < w.heap.size:=hb;omega) (fun b hb _=>hb)).keep hfin.out.2 (fun b hb _ e=>by have h9:b < w.heap.size:=hb;omega) (fun b hb _=>hb)
     exact (by rw [ofk4 t hk1.out hk2.out hk3.out hk4.out];exact ⟨hth.l,csl_nil _ _,csl_nil _ _,hth.d⟩:ThAt _ _ (ofK t) _ _ _ _)
    ·have bk4:(t.kind == 4) = false:=by simp [hk4]
     replace hk4:Hid (¬ t.kind = 4):=hk4
     by_cases hk5:t.kind = 5
     ·have bk5:(t.kind == 5) = true:=by simp [hk5]
      replace hk5:Hid (t.kind = 5):=hk5
      go_upto_region 12 with fail
      obtain ⟨V1,hV⟩:∃ Vn,Hid (Vn = V.setRow (w.heap.size + 1 + 1) (splice (thC (baseT t) (.slice la t.cats.length lc) (.slice none 0 0) (.slice none 0 0) (.slice none 0 0)) 18 (slC t)).toArray):=⟨_,rfl⟩
      have mV1:Fr (fun k=>k = w.heap.size + 1 + 1) V V1:=by rw [hV.out];exact (Fr.refl (fun k=>k = w.heap.size + 1 + 1) V).setRow (.inl rfl) _
      have hBV1:V1.heap[w.heap.size + 1 + 1]? = some (.cells (splice (thC (baseT t) (.slice la t.cats.length lc) (.slice none 0 0) (.slice none 0 0) (.slice none 0 0)) 18 (slC t)).toArray 34 (0,0)):=by rw [hV.out];exact setRow_heap _ _ _ _ _ _ hB
      refine wp_region_list ?_
      simp only [List.toList_toArray,List.append_eq,List.cons_append,List.nil_append]
      refine nd_quiet ?_ rfl ?_ ?_
      rotate_left
      ·go_simp;rfl
      simp only [pL,List.set]
      refine nd_quiet ?_ rfl ?_ ?_
      rotate_left
      ·refine (run_load_sl _ V rfl (w.heap.size) rfl hA).trans ?_;rfl
      simp only [pL,List.set]
      refine nd_quiet ?_ rfl ?_ ?_
      rotate_left
      ·go_simp;rfl
      simp only [pL,List.set]
      refine wpList_store_as rfl 32 _ _ rfl (w.heap.size + 1 + 1) 18 rfl (slV t) rfl (slC t) rfl (thC (baseT t) (.slice la t.cats.length lc) (.slice none 0 0) (.slice none 0 0) (.slice none 0 0)) 34 hB (by simp [thC,slC]) (by simp [slC,Value.oneCell']) Try.size8 ?_
      rw [← hV.out]
      go_upto_region 13 with fail
      have hXe:(splice (thC (baseT t) (.slice la t.cats.length lc) (.slice none 0 0) (.slice none 0 0) (.slice none 0 0)) 18 (slC t)) = (thC (ofK t) (.slice la t.cats.length lc) (.slice none 0 0) (.slice none 0 0) (.slice none 0 0)):=(by rw [ofk5 t hk1.out hk2.out hk3.out hk4.out hk5.out];rfl)
      have hBe:V1.heap[w.heap.size + 1 + 1]? = some (.cells (thC (ofK t) (.slice la t.cats.length lc) (.slice none 0 0) (.slice none 0 0) (.slice none 0 0)).toArray 34 (0,0)):=by rw [← hXe];exact hBV1
      clear hXe
      have hZe:V1.heap[w.heap.size + 1]? = some (.cells (thC zeroT (.slice none 0 0) (.slice none 0 0) (.slice none 0 0) (.slice none 0 0)).toArray 34 (0,0)):=(mV1.block _ (heap_lt hZ) (by omega)).trans hZ
      have hr0:V1.rangeAt (w.heap.size + 1 + 1) 0 (thC (ofK t) (.slice la t.cats.length lc) (.slice none 0 0) (.slice none 0 0) (.slice none 0 0)):=range_all hBe
      have hfin:Hid ((V1.setRow (w.heap.size + 1) (thC (ofK t) (.slice la t.cats.length lc) (.slice none 0 0) (.slice none 0 0) (.slice none 0 0)).toArray).rangeAt (w.heap.size + 1) 0 (thC (ofK t) (.slice la t.cats.length lc) (.slice none 0 0) (.slice none 0 0) (.slice none 0 0))∧Fr (fun k=>k = w.heap.size + 1) V1 (V1.setRow (w.heap.size + 1) (thC (ofK t) (.slice la t.cats.length lc) (.slice none 0 0) (.slice none 0 0) (.slice none 0 0)).toArray)):=⟨range_all (setRow_heap _ _ _ _ _ _ hZe),(Fr.refl (fun k=>k = w.heap.size + 1) V1).setRow (.inl rfl) _⟩
      have hme:=mV1
      skip
      go_wp2_with (refine wpList_load_as ?_ 34 _ rfl (w.heap.size + 1 + 1) 0 rfl (thV (ofK t) (.slice la t.cats.length lc) (.slice none 0 0) (.slice none 0 0) (.slice none 0 0)) _ rfl hr0 Try.rowT Try.sizeT ?_;exact rfl;refine stop_here ?_)
      unfold Hid
      refine wpList_store_all rfl 34 _ _ rfl (w.heap.size + 1) rfl (thV (ofK t) (.slice la t.cats.length lc) (.slice none 0 0) (.slice none 0 0) (.slice none 0 0)) rfl (thC (ofK t) (.slice la t.cats.length lc) (.slice none 0 0) (.slice none 0 0) (.slice none 0 0)) rfl (thC zeroT (.slice none 0 0) (.slice none 0 0) (.slice none 0 0) (.slice none 0 0)) 34 hZe rfl (th_one _ _ _ _ _ rfl rfl rfl rfl) Try.sizeT ?_
      go_wp2
      refine bodyPost_ret (results_cell1 rfl _ (w.heap.size + 1) _ (thV (ofK t) (.slice la t.cats.length lc) (.slice none 0 0) (.slice none 0 0) (.slice none 0 0)) rfl rfl hfin.out.1 Try.rowT Try.sizeT) rfl ?_
      refine ⟨_,_,_,_,rfl,?_,Fr.trans (Fr.trans (nw_trans nW.out nV.out) hme (fun k hk=>.inr (by omega))) hfin.out.2 (fun k hk=>.inr (by omega))⟩
      have hth:ThAt (fun b=>b < w.heap.size) (V1.setRow (w.heap.size + 1) (thC (ofK t) (.slice la t.cats.length lc) (.slice none 0 0) (.slice none 0 0) (.slice none 0 0)).toArray) t (.slice la t.cats.length lc) (.slice ca t.ccats.length cc) (.slice ka t.links.length kc) (.slice da t.data.length dc):=(ht.keep (X':=fun b=>b < w.heap.size) hme (fun b hb _ e=>by have h9:b < w.heap.size:=hb;omega) (fun b hb _=>hb)).keep hfin.out.2 (fun b hb _ e=>by have h9:b < w.heap.size:=hb;omega) (fun b hb _=>hb)
      exact (by rw [ofk5 t hk1.out hk2.out hk3.out hk4.out hk5.out];exact ⟨hth.l,csl_nil _ _,csl_nil _ _,bsl_nil _ _⟩:ThAt _ _ (ofK t) _ _ _ _)
     ·have bk5:(t.kind == 5) = false:=by simp [hk5]
      replace hk5:Hid (¬ t.kind = 5):=hk5
      go_upto_region 13 with fail
      have hXe:(thC (baseT t) (.slice la t.cats.length lc) (.slice none 0 0) (.slice none 0 0) (.slice none 0 0)) = (thC (ofK t) (.slice la t.cats.length lc) (.slice none 0 0) (.slice none 0 0) (.slice none 0 0)):=(by rw [ofk6 t hk1.out hk2.out hk3.out hk4.out hk5.out ])
      have hBe:V.heap[w.heap.size + 1 + 1]? = some (.cells (thC (ofK t) (.slice la t.cats.length lc) (.slice none 0 0) (.slice none 0 0) (.slice none 0 0)).toArray 34 (0,0)):=by rw [← hXe];exact hB
      clear hXe
      have hZe:V.heap[w.heap.size + 1]? = some (.cells (thC zeroT (.slice none 0 0) (.slice none 0 0) (.slice none 0 0) (.slice none 0 0)).toArray 34 (0,0)):=((Fr.refl (fun k=>k = w.heap.size + 1 + 1) V).block _ (heap_lt hZ) (by omega)).trans hZ
      have hr0:V.rangeAt (w.heap.size + 1 + 1) 0 (thC (ofK t) (.slice la t.cats.length lc) (.slice none 0 0) (.slice none 0 0) (.slice none 0 0)):=range_all hBe
      have hfin:Hid ((V.setRow (w.heap.size + 1) (thC (ofK t) (.slice la t.cats.length lc) (.slice none 0 0) (.slice none 0 0) (.slice none 0 0)).toArray).rangeAt (w.heap.size + 1) 0 (thC (ofK t) (.slice la t.cats.length lc) (.slice none 0 0) (.slice none 0 0) (.slice none 0 0))∧Fr (fun k=>k = w.heap.size + 1) V (V.setRow (w.heap.size + 1) (thC (ofK t) (.slice la t.cats.length lc) (.slice none 0 0) (.slice none 0 0) (.slice none 0 0)).toArray)):=⟨range_all (setRow_heap _ _ _ _ _ _ hZe),(Fr.refl (fun k=>k = w.heap.size + 1) V).setRow (.inl rfl) _⟩
      have hme:=(Fr.refl (fun k=>k = w.heap.size + 1 + 1) V)
      skip
      go_wp2_with (refine wpList_load_as ?_ 34 _ rfl (w.heap.size + 1 + 1) 0 rfl (thV (ofK t) (.slice la t.cats.length lc) (.slice none 0 0) (.slice none 0 0) (.slice none 0 0)) _ rfl hr0 Try.rowT Try.sizeT ?_;exact rfl;refine stop_here ?_)
      unfold Hid
      refine wpList_store_all rfl 34 _ _ rfl (w.heap.size + 1) rfl (thV (ofK t) (.slice la t.cats.length lc) (.slice none 0 0) (.slice none 0 0) (.slice none 0 0)) rfl (thC (ofK t) (.slice la t.cats.length lc) (.slice none 0 0) (.slice none 0 0) (.slice none 0 0)) rfl (thC zeroT (.slice none 0 0) (.slice none 0 0) (.slice none 0 0) (.slice none 0 0)) 34 hZe rfl (th_one _ _ _ _ _ rfl rfl rfl rfl) Try.sizeT ?_
      go_wp2
      refine bodyPost_ret (results_cell1 rfl _ (w.heap.size + 1) _ (thV (ofK t) (.slice la t.cats.length lc) (.slice none 0 0) (.slice none 0 0) (.slice none 0 0)) rfl rfl hfin.out.1 Try.rowT Try.sizeT) rfl ?_
      refine ⟨_,_,_,_,rfl,?_,Fr.trans (Fr.trans (nw_trans nW.out nV.out) hme (fun k hk=>.inr (by omega))) hfin.out.2 (fun k hk=>.inr (by omega))⟩
      have hth:ThAt (fun b=>b < w.heap.size) (V.setRow (w.heap.size + 1) (thC (ofK t) (.slice la t.cats.length lc) (.slice none 0 0) (.slice none 0 0) (.slice none 0 0)).toArray) t (.slice la t.cats.length lc) (.slice ca t.ccats.length cc) (.slice ka t.links.length kc) (.slice da t.data.length dc):=(ht.keep (X':=fun b=>b < w.heap.size) hme (fun b hb _ e=>by have h9:b < w.heap.size:=hb;omega) (fun b hb _=>hb)).keep hfin.out.2 (fun b hb _ e=>by have h9:b < w.heap.size:=hb;omega) (fun b hb _=>hb)
      exact (by rw [ofk6 t hk1.out hk2.out hk3.out hk4.out hk5.out ];exact ⟨hth.l,csl_nil _ _,csl_nil _ _,bsl_nil _ _⟩:ThAt _ _ (ofK t) _ _ _ _)
end Go.Proofs.Ytgmfofngmfekbaa
