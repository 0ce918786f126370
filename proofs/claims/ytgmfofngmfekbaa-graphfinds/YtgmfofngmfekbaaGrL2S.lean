/-
  The walk of GraphFinds.
-/
import Derived.Test.YtgmfofngmfekbaaGrGrS
import Derived.Test.YtgmfofngmfekbaaGrGjS
import Derived.Test.YtgmfofngmfekbaaGrGkS
import Derived.Test.YtgmfofngmfekbaaGrGnS
import Derived.Test.YtgmfofngmfekbaaThC4S
namespace Go.Proofs.Ytgmfofngmfekbaa
set_option linter.unusedVariables false
set_option linter.unusedSimpArgs false
set_option maxRecDepth 20000
open Go.RowKit

set_option maxRecDepth 100000 in
set_option maxHeartbeats 12800000 in
theorem c_lfinds {v:Value} {xs:List TC} {t:Th} {uL uC uK uD:Value} (id:Int) (w:World) (hx:TSl (fun b=>b < w.heap.size) (fun b=>b < w.heap.size) w v xs) (hin:∀ x ∈ xs,TIn x.t) (ht:ThAt (fun b=>b < w.heap.size) w t uL uC uK uD) (htl:TLen t) :
  Calls Try.prog 3 #[v,.int .u64 id,thV t uL uC uK uD] w fun e w'=>e = .returned (.bool true)∧Nw w w':=by
 obtain ⟨W,hW⟩:∃ W,Hid (W = w.alloc (.cells (thC t uL uC uK uD).toArray 34)):=⟨_,rfl⟩
 have nW:Nw w W:=by rw [hW.out];exact nw_alloc (nw_refl w) _
 have hB0:W.heap[w.heap.size]? = some (.cells (thC t uL uC uK uD).toArray 34 (0,0)):=by rw [hW.out];exact heap_alloc_new w _
 replace ht:=ht.nw nW
 replace hx:=hx.nw nW
 obtain ⟨ao,cap,rfl,hc1,hc2⟩:=hx.form
 obtain ⟨N,hN⟩:∃ N,xs.length = N:=⟨_,rfl⟩
 have hNx:Hid (xs.length = N):=hN
 rw [hN] at hx hc1 ⊢
 clear hN
 replace hin:Hid _:=hin
 replace htl:Hid _:=htl
 go_enter Try.func3,Try.ntmps3
 go_upto_region 1 with ((refine wpList_box_agg rfl 34 _ rfl (thV t uL uC uK uD) _ rfl rfl ?_))
 rw [← hW.out]
 clear hW
 have hcon:Hid _:=c_galive W
 go_wp2_with ((go_at_call 8;refine Calls.mono hcon.out ?_;rintro e W1 ⟨rfl,n1⟩;refine stop_here ?_))
 unfold Hid
 clear hcon
 replace hB0:=(n1.block _ (heap_lt hB0) (fun h=>h)).trans hB0
 replace ht:=ht.nw n1
 replace hx:=hx.nw n1
 replace nW:=nw_trans nW n1
 go_upto_region 3 with fail
 by_cases hl:60 < N
 ·have hb1:decide ((60:Int) < (N:Int)) = true:=decide_eq_true (by omega)
  have hb2:decide (60 < N) = true:=decide_eq_true hl
  clear ht hx hB0
  go_wp2
  go_ret
  exact ⟨rfl,nW⟩
 ·have hb1:decide ((60:Int) < (N:Int)) = false:=decide_eq_false (by omega)
  have hb2:decide (60 < N) = false:=decide_eq_false hl
  have hN6:Hid (xs.length ≤ 60):=by have:=hNx.out;unfold Hid;omega
  go_upto_region 5 with fail
  clear hb1 hb2
  have hcon:Hid _:=c_rgcopy W1 hx (fun x hx=>(hin.out x hx).len) (by have:=hN6.out;omega)
  go_wp2_with ((go_at_call 9;refine Calls.mono hcon.out ?_;rintro e W2 ⟨u,ys,rfl,hy,hyx,n2⟩;refine stop_here ?_))
  unfold Hid
  clear hcon
  replace hB0:=(n2.block _ (heap_lt hB0) (fun h=>h)).trans hB0
  replace ht:=ht.nw n2
  replace hx:=hx.nw n2
  replace nW:=nw_trans nW n2
  have hyN:ys.length = N:=(same_len hyx).trans hNx.out
  have hy6:Hid (ys.length ≤ 60):=by have:=hN6.out;have:=hNx.out;unfold Hid;omega
  obtain ⟨bo,bcap,rfl,_,_⟩:=hy.form
  rw [hyN] at hy ⊢
  clear hyN
  have hyt:Hid (∀ z ∈ ys,TLen z.t):=same_mem hyx (fun x hx=>(hin.out x hx).len)
  replace hyx:Hid _:=hyx
  go_upto_region 6 with fail
  have hcon:Hid _:=c_gsound W2 hy (fun z hz=>⟨(hyt.out z hz).l1,(hyt.out z hz).l2⟩) (by have:=hy6.out;omega)
  unfold AnsP at hcon
  go_wp2_with ((go_at_call 10;refine Calls.mono hcon.out ?_;rintro e W3 ⟨r1,rfl,hr1,n3⟩;refine stop_here ?_))
  unfold Hid
  clear hcon
  replace hB0:=(n3.block _ (heap_lt hB0) (fun h=>h)).trans hB0
  replace ht:=ht.nw n3
  replace hx:=hx.nw n3
  replace hy:=hy.nw n3
  replace nW:=nw_trans nW n3
  have hcon:Hid _:=c_rsound W3 hx (fun x hx=>(hin.out x hx).ok) (by have:=hN6.out;omega)
  unfold AnsP at hcon
  go_wp2_with ((go_at_call 11;refine Calls.mono hcon.out ?_;rintro e W4 ⟨r2,rfl,hr2,n4⟩;refine stop_here ?_))
  unfold Hid
  clear hcon
  replace hB0:=(n4.block _ (heap_lt hB0) (fun h=>h)).trans hB0
  replace ht:=ht.nw n4
  replace hx:=hx.nw n4
  replace hy:=hy.nw n4
  replace nW:=nw_trans nW n4
  have hrr:r2 = r1:=by
   have h1:r2 = true↔r1 = true:=⟨fun h=>hr1.2 (same_sound hyx.out (hr2.1 h)),fun h=>hr2.2 (same_sound hyx.out.symm (hr1.1 h))⟩
   cases r1 <;> cases r2 <;> simp_all
  subst hrr
  clear hr1 hr2
  have hneq:(r2 != r2) = false:=by cases r2 <;> rfl
  go_upto_region 8 with fail
  clear hneq
  have hcon:Hid _:=c_rgraph W4 hx
  unfold AnsP at hcon
  go_wp2_with ((go_at_call 12;refine Calls.mono hcon.out ?_;rintro e W5 ⟨r,rfl,hr,n5⟩;refine stop_here ?_))
  unfold Hid
  clear hcon
  replace hB0:=(n5.block _ (heap_lt hB0) (fun h=>h)).trans hB0
  replace ht:=ht.nw n5
  replace hx:=hx.nw n5
  replace hy:=hy.nw n5
  replace nW:=nw_trans nW n5
  cases r with
  | false =>
   clear hr hx hy ht hB0
   go_wp2
   go_ret
   exact ⟨rfl,nW⟩
  | true =>
   have hp:Hid (PwX xs):=rise_pw (hr.1 rfl)
   have hpy:Hid (PwX ys):=same_pw hyx.out hp.out
   clear hr
   go_upto_region 10 with fail
   have hcon:Hid _:=c_gfind id W5 hy hpy.out hyt.out (by have:=hy6.out;omega)
   go_wp2_with ((go_at_call 13;refine Calls.mono hcon.out ?_;rintro e W6 hff;obtain ⟨l1,c1,k1,d1,rfl,hy1,n6⟩:=gfind_one hff;refine stop_here ?_))
   unfold Hid
   clear hcon
   replace hB0:=(n6.block _ (heap_lt hB0) (fun h=>h)).trans hB0
   replace ht:=ht.nw n6
   replace hx:=hx.nw n6
   replace hy:=hy.nw n6
   replace nW:=nw_trans nW n6
   clear hff
   obtain ⟨Y1,hY⟩:∃ Y,Hid (Y = W6.alloc (.cells (thC zeroT (.slice none 0 0) (.slice none 0 0) (.slice none 0 0) (.slice none 0 0)).toArray 34)):=⟨_,rfl⟩
   have hV1:Y1.heap[W6.heap.size]? = some (.cells (thC zeroT (.slice none 0 0) (.slice none 0 0) (.slice none 0 0) (.slice none 0 0)).toArray 34 (0,0)):=by rw [hY.out];exact heap_alloc_new _ _
   obtain ⟨V7,hV⟩:∃ V,Hid (V = Y1.setRow W6.heap.size (thC (fT ys id) l1 c1 k1 d1).toArray):=⟨_,rfl⟩
   have nV7:Nw W6 V7:=by rw [hV.out,hY.out];exact Fr.setRow (nw_alloc (nw_refl _) _) (.inr (Nat.le_refl _)) _
   have hnew:V7.heap[W6.heap.size]? = some (.cells (thC (fT ys id) l1 c1 k1 d1).toArray 34 (0,0)):=by rw [hV.out];exact setRow_heap _ _ _ _ _ _ hV1
   go_wp2_with (refine wpList_alloc_agg rfl 34 rfl _ Try.zeroTh ?_;rw [← hY.out];refine stop_here ?_)
   unfold Hid
   refine wpList_store_all rfl 34 _ _ rfl (W6.heap.size) rfl (thV (fT ys id) l1 c1 k1 d1) rfl (thC (fT ys id) l1 c1 k1 d1) rfl (thC zeroT (.slice none 0 0) (.slice none 0 0) (.slice none 0 0) (.slice none 0 0)) 34 hV1 rfl (hy1.one) Try.sizeT ?_
   rw [← hV.out]
   clear hV hY hV1
   have hl1_0:=heap_lt hB0
   replace hB0:=(nV7.block _ (heap_lt hB0) (fun h=>h)).trans hB0
   replace ht:=ht.nw nV7
   replace hx:=hx.nw nV7
   replace hy:=hy.nw nV7
   replace hy1:=hy1.nw nV7
   replace nW:=nw_trans nW nV7
   have hV1:=hnew
   clear hnew
   generalize W6.heap.size = A1 at *
   go_upto_region 11 with fail
   have hcon:Hid _:=c_rfind id V7 hx
   go_wp2_with ((go_at_call 14;refine Calls.mono hcon.out ?_;rintro e W8 hff;obtain ⟨l2,c2,k2,d2,rfl,hy2,n8⟩:=rfind_one hff;refine stop_here ?_))
   unfold Hid
   clear hcon
   replace hB0:=(n8.block _ (heap_lt hB0) (fun h=>h)).trans hB0
   replace hV1:=(n8.block _ (heap_lt hV1) (fun h=>h)).trans hV1
   replace ht:=ht.nw n8
   replace hx:=hx.nw n8
   replace hy:=hy.nw n8
   replace hy1:=hy1.nw n8
   replace nW:=nw_trans nW n8
   clear hff
   obtain ⟨Y2,hY⟩:∃ Y,Hid (Y = W8.alloc (.cells (thC zeroT (.slice none 0 0) (.slice none 0 0) (.slice none 0 0) (.slice none 0 0)).toArray 34)):=⟨_,rfl⟩
   have hV2:Y2.heap[W8.heap.size]? = some (.cells (thC zeroT (.slice none 0 0) (.slice none 0 0) (.slice none 0 0) (.slice none 0 0)).toArray 34 (0,0)):=by rw [hY.out];exact heap_alloc_new _ _
   obtain ⟨V9,hV⟩:∃ V,Hid (V = Y2.setRow W8.heap.size (thC (fT xs id) l2 c2 k2 d2).toArray):=⟨_,rfl⟩
   have nV9:Nw W8 V9:=by rw [hV.out,hY.out];exact Fr.setRow (nw_alloc (nw_refl _) _) (.inr (Nat.le_refl _)) _
   have hnew:V9.heap[W8.heap.size]? = some (.cells (thC (fT xs id) l2 c2 k2 d2).toArray 34 (0,0)):=by rw [hV.out];exact setRow_heap _ _ _ _ _ _ hV2
   go_wp2_with (refine wpList_alloc_agg rfl 34 rfl _ Try.zeroTh ?_;rw [← hY.out];refine stop_here ?_)
   unfold Hid
   refine wpList_store_all rfl 34 _ _ rfl (W8.heap.size) rfl (thV (fT xs id) l2 c2 k2 d2) rfl (thC (fT xs id) l2 c2 k2 d2) rfl (thC zeroT (.slice none 0 0) (.slice none 0 0) (.slice none 0 0) (.slice none 0 0)) 34 hV2 rfl (hy2.one) Try.sizeT ?_
   rw [← hV.out]
   clear hV hY hV2
   have hl2_0:=heap_lt hB0
   have hl2_1:=heap_lt hV1
   replace hB0:=(nV9.block _ (heap_lt hB0) (fun h=>h)).trans hB0
   replace hV1:=(nV9.block _ (heap_lt hV1) (fun h=>h)).trans hV1
   replace ht:=ht.nw nV9
   replace hx:=hx.nw nV9
   replace hy:=hy.nw nV9
   replace hy1:=hy1.nw nV9
   replace hy2:=hy2.nw nV9
   replace nW:=nw_trans nW nV9
   have hV2:=hnew
   clear hnew
   generalize W8.heap.size = A2 at *
   have hB1:=same_found hyx.out id
   rw [← hB1]
   clear hB1
   generalize foundX ys id = B
   have hneq:(B != B) = false:=by cases B <;> rfl
   go_upto_region 12 with fail
   have hcon:Hid _:=c_rtsame V9 hy1 hy2
   unfold AnsP at hcon
   have hr1:=range_all hV1
   have hr2:=range_all hV2
   go_wp2_with (first | (refine wpList_load_as rfl 34 _ rfl (A1) 0 rfl (thV (fT ys id) l1 c1 k1 d1) _ rfl hr1 Try.rowT Try.sizeT ?_) | (refine wpList_load_as rfl 34 _ rfl (A2) 0 rfl (thV (fT xs id) l2 c2 k2 d2) _ rfl hr2 Try.rowT Try.sizeT ?_) | (go_at_call 15;refine Calls.mono hcon.out ?_;rintro e W10 ⟨r,rfl,hr,n10⟩;refine stop_here ?_))
   unfold Hid
   clear hcon hr1 hr2
   replace hB0:=(n10.block _ (heap_lt hB0) (fun h=>h)).trans hB0
   replace hV1:=(n10.block _ (heap_lt hV1) (fun h=>h)).trans hV1
   replace hV2:=(n10.block _ (heap_lt hV2) (fun h=>h)).trans hV2
   replace ht:=ht.nw n10
   replace hx:=hx.nw n10
   replace hy:=hy.nw n10
   replace hy1:=hy1.nw n10
   replace hy2:=hy2.nw n10
   replace nW:=nw_trans nW n10
   obtain rfl:=hr.2 (same_fT hyx.out id)
   clear hr
   go_upto_region 14 with fail
   clear hneq hV1 hV2 hy1 hy2
   have hcon:Hid _:=c_rmendable W10 hx (fun x hx=>(hin.out x hx).ok)
   unfold AnsP at hcon
   go_wp2_with ((go_at_call 16;refine Calls.mono hcon.out ?_;rintro e W11 ⟨r,rfl,hr,n11⟩;refine stop_here ?_))
   unfold Hid
   clear hcon
   replace hB0:=(n11.block _ (heap_lt hB0) (fun h=>h)).trans hB0
   replace ht:=ht.nw n11
   replace hx:=hx.nw n11
   replace hy:=hy.nw n11
   replace nW:=nw_trans nW n11
   cases r with
   | false =>
    clear hr
    go_upto_region 16 with fail
    replace hpy:Hid _:=hpy
    have hSof:∀ w',Nw W11 w'→(fun w':World=>Nw W11 w'∧w'.heap[w.heap.size]? = some (.cells (thC t uL uC uK uD).toArray 34 (0,0))) w':=fun w' hw=>⟨hw,(hw.block _ (heap_lt hB0) (fun h=>h)).trans hB0⟩
    have hW0:Nw W11 W11.drew:=Fr.drew (Fr.refl _ W11)
    have hS:=hSof _ hW0
    replace ht:=ht.nw hW0
    replace hx:=hx.nw hW0
    replace hy:=hy.nw hW0
    replace hSof:Hid _:=hSof
    refine wp_region_ord [] 17 [(0,true),(1,true),(3,true),(4,true),(2,false),(5,false),(6,false),(7,true),(8,true),(9,true),(10,false),(11,true),(12,true),(13,true),(14,true),(15,false),(16,true)] (fun w':World=>Nw W11 w'∧w'.heap[w.heap.size]? = some (.cells (thC t uL uC uK uD).toArray 34 (0,0))) (by kernel_rfl) (by kernel_rfl) ?_
    refine ord_quietL _ ?_ rfl hS rfl ?_ ?_
    rotate_left
    ·rintro w' ⟨hn,rhB0⟩;go_simp;rfl
    simp only [pL,List.set]
    refine ord_quietL _ ?_ rfl hS rfl ?_ ?_
    rotate_left
    ·rintro w' ⟨hn,rhB0⟩;refine (run_load_th _ w' rfl (w.heap.size) rfl rhB0).trans ?_;rfl
    simp only [pL,List.set]
    refine ord_quietL _ ?_ rfl hS rfl ?_ ?_
    rotate_left
    ·rintro w' ⟨hn,rhB0⟩;go_simp;rfl
    simp only [pL,List.set]
    refine ord_quietL _ ?_ rfl hS rfl ?_ ?_
    rotate_left
    ·rintro w' ⟨hn,rhB0⟩;refine (run_load_th _ w' rfl (w.heap.size) rfl rhB0).trans ?_;rfl
    simp only [pL,List.set]
    refine ord_actL _ rfl (fun K1 hK1=>?_)
    have hcon:Hid _:=c_gput W11.drew hy ht hpy.out hyt.out htl.out (by have:=hy6.out;omega)
    go_wp2_with (go_at_call 20;refine Calls.mono hcon.out ?_;rintro e wk0 ⟨u3,zs,rfl,hz,hzt,qn⟩)
    have m0:=nw_trans hW0 qn
    replace ht:=ht.nw qn
    replace hx:=hx.nw qn
    replace hy:=hy.nw qn
    have hzt2:Hid _:=hzt
    clear hzt
    refine hK1 _ _ (hSof.out _ m0) ?_
    clear hK1 K1 hcon qn hS hW0
    have hS:=hSof.out _ m0
    refine ord_actL _ rfl (fun K1 hK1=>?_)
    have hcon:Hid _:=c_rgput wk0 hx ht (by have:=hN6.out;omega)
    go_wp2_with (go_at_call 21;refine Calls.mono hcon.out ?_;rintro e wk1 ⟨u4,rfl,hz4,qn⟩)
    have m1:=nw_trans m0 qn
    replace ht:=ht.nw qn
    replace hx:=hx.nw qn
    replace hy:=hy.nw qn
    replace hz:=hz.nw qn
    refine hK1 _ _ (hSof.out _ m1) ?_
    clear hK1 K1 hcon qn hS m0
    have hS:=hSof.out _ m1
    refine ord_actL _ rfl (fun K1 hK1=>?_)
    have hcon:Hid _:=c_rgsame wk1 hz hz4
    unfold AnsP at hcon
    go_wp2_with (go_at_call 19;refine Calls.mono hcon.out ?_;rintro e wk2 ⟨r6,rfl,q6,qn⟩)
    have m2:=nw_trans m1 qn
    replace ht:=ht.nw qn
    replace hx:=hx.nw qn
    replace hy:=hy.nw qn
    replace hz:=hz.nw qn
    replace hz4:=hz4.nw qn
    obtain rfl:=q6.2 (hzt2.out.trans (same_put hyx.out hp.out rfl))
    clear q6
    refine hK1 _ _ (hSof.out _ m2) ?_
    clear hK1 K1 hcon qn hS m1 hz hz4
    have hS:=hSof.out _ m2
    refine ord_quietL _ ?_ rfl hS rfl ?_ ?_
    rotate_left
    ·rintro w' ⟨hn,rhB0⟩;go_simp;rfl
    simp only [pL,List.set]
    refine ord_quietL _ ?_ rfl hS rfl ?_ ?_
    rotate_left
    ·rintro w' ⟨hn,rhB0⟩;go_simp;rfl
    simp only [pL,List.set]
    refine ord_quietL _ ?_ rfl hS rfl ?_ ?_
    rotate_left
    ·rintro w' ⟨hn,rhB0⟩;go_simp;rfl
    simp only [pL,List.set]
    refine ord_actL _ rfl (fun K1 hK1=>?_)
    have hcon:Hid _:=c_rgsame wk2 hy hx
    unfold AnsP at hcon
    go_wp2_with (go_at_call 19;refine Calls.mono hcon.out ?_;rintro e wk3 ⟨r7,rfl,q7,qn⟩)
    have m3:=nw_trans m2 qn
    replace ht:=ht.nw qn
    replace hx:=hx.nw qn
    replace hy:=hy.nw qn
    obtain rfl:=q7.2 hyx.out
    clear q7
    refine hK1 _ _ (hSof.out _ m3) ?_
    clear hK1 K1 hcon qn hS m2
    have hS:=hSof.out _ m3
    refine ord_quietL _ ?_ rfl hS rfl ?_ ?_
    rotate_left
    ·rintro w' ⟨hn,rhB0⟩;go_simp;rfl
    simp only [pL,List.set]
    refine ord_quietL _ ?_ rfl hS rfl ?_ ?_
    rotate_left
    ·rintro w' ⟨hn,rhB0⟩;go_simp;rfl
    simp only [pL,List.set]
    refine ord_quietL _ ?_ rfl hS rfl ?_ ?_
    rotate_left
    ·rintro w' ⟨hn,rhB0⟩;go_simp;rfl
    simp only [pL,List.set]
    refine ord_quietL _ ?_ rfl hS rfl ?_ ?_
    rotate_left
    ·rintro w' ⟨hn,rhB0⟩;go_simp;rfl
    simp only [pL,List.set]
    refine ord_actL _ rfl (fun K1 hK1=>?_)
    have hcon:Hid _:=c_gsame wk3 hy hx
    unfold AnsP at hcon
    go_wp2_with (go_at_call 22;refine Calls.mono hcon.out ?_;rintro e wk4 ⟨r8,rfl,q8,qn⟩)
    have m4:=nw_trans m3 qn
    replace ht:=ht.nw qn
    replace hx:=hx.nw qn
    replace hy:=hy.nw qn
    obtain rfl:=q8.2 hyx.out
    clear q8
    refine hK1 _ _ (hSof.out _ m4) ?_
    clear hK1 K1 hcon qn hS m3
    have hS:=hSof.out _ m4
    refine ord_quietL _ ?_ rfl hS rfl ?_ ?_
    rotate_left
    ·rintro w' ⟨hn,rhB0⟩;go_simp;rfl
    simp only [pL,List.set]
    refine ord_tail ?_
    simp only [List.drop_succ_cons,List.drop_zero]
    have hfin:Hid (Nw w wk4):=nw_trans nW m4
    clear hSof hS
    go_wp2
    go_ret
    exact ⟨rfl,hfin.out⟩
   | true =>
    have hM:=hr.1 rfl
    have hnl:Hid (∀ x ∈ xs,x.t.kind ≠ 1→x.t.links = []):=fun x hx=>by obtain ⟨i,hi,rfl⟩:=List.getElem_of_mem hx;exact right_nolinks (hM.each i hi)
    have hny:Hid (∀ x ∈ ys,x.t.kind ≠ 1→x.t.links = []):=same_mem (P:=fun t=>t.kind ≠ 1→t.links = []) hyx.out hnl.out
    clear hM hr
    have hcon:Hid _:=c_grefs id W11 hy hny.out (by have:=hy6.out;omega)
    go_wp2_with ((go_at_call 17;refine Calls.mono hcon.out ?_;rintro e W12 ⟨rfl,n12⟩;refine stop_here ?_))
    unfold Hid
    clear hcon
    replace hB0:=(n12.block _ (heap_lt hB0) (fun h=>h)).trans hB0
    replace ht:=ht.nw n12
    replace hx:=hx.nw n12
    replace hy:=hy.nw n12
    replace nW:=nw_trans nW n12
    have hcon:Hid _:=c_rrefs id W12 hx (by have:=hN6.out;omega)
    go_wp2_with ((go_at_call 18;refine Calls.mono hcon.out ?_;rintro e W13 ⟨rfl,n13⟩;refine stop_here ?_))
    unfold Hid
    clear hcon
    replace hB0:=(n13.block _ (heap_lt hB0) (fun h=>h)).trans hB0
    replace ht:=ht.nw n13
    replace hx:=hx.nw n13
    replace hy:=hy.nw n13
    replace nW:=nw_trans nW n13
    have hrf:=same_refs hyx.out id
    rw [hrf]
    clear hrf hnl hny
    generalize refsX xs id = R
    have hneq:((R:Int) != (R:Int)) = false:=by simp
    go_upto_region 16 with fail
    replace hpy:Hid _:=hpy
    have hSof:∀ w',Nw W13 w'→(fun w':World=>Nw W13 w'∧w'.heap[w.heap.size]? = some (.cells (thC t uL uC uK uD).toArray 34 (0,0))) w':=fun w' hw=>⟨hw,(hw.block _ (heap_lt hB0) (fun h=>h)).trans hB0⟩
    have hW0:Nw W13 W13.drew:=Fr.drew (Fr.refl _ W13)
    have hS:=hSof _ hW0
    replace ht:=ht.nw hW0
    replace hx:=hx.nw hW0
    replace hy:=hy.nw hW0
    replace hSof:Hid _:=hSof
    refine wp_region_ord [] 17 [(0,true),(1,true),(3,true),(4,true),(2,false),(5,false),(6,false),(7,true),(8,true),(9,true),(10,false),(11,true),(12,true),(13,true),(14,true),(15,false),(16,true)] (fun w':World=>Nw W13 w'∧w'.heap[w.heap.size]? = some (.cells (thC t uL uC uK uD).toArray 34 (0,0))) (by kernel_rfl) (by kernel_rfl) ?_
    refine ord_quietL _ ?_ rfl hS rfl ?_ ?_
    rotate_left
    ·rintro w' ⟨hn,rhB0⟩;go_simp;rfl
    simp only [pL,List.set]
    refine ord_quietL _ ?_ rfl hS rfl ?_ ?_
    rotate_left
    ·rintro w' ⟨hn,rhB0⟩;refine (run_load_th _ w' rfl (w.heap.size) rfl rhB0).trans ?_;rfl
    simp only [pL,List.set]
    refine ord_quietL _ ?_ rfl hS rfl ?_ ?_
    rotate_left
    ·rintro w' ⟨hn,rhB0⟩;go_simp;rfl
    simp only [pL,List.set]
    refine ord_quietL _ ?_ rfl hS rfl ?_ ?_
    rotate_left
    ·rintro w' ⟨hn,rhB0⟩;refine (run_load_th _ w' rfl (w.heap.size) rfl rhB0).trans ?_;rfl
    simp only [pL,List.set]
    refine ord_actL _ rfl (fun K1 hK1=>?_)
    have hcon:Hid _:=c_gput W13.drew hy ht hpy.out hyt.out htl.out (by have:=hy6.out;omega)
    go_wp2_with (go_at_call 20;refine Calls.mono hcon.out ?_;rintro e wk0 ⟨u3,zs,rfl,hz,hzt,qn⟩)
    have m0:=nw_trans hW0 qn
    replace ht:=ht.nw qn
    replace hx:=hx.nw qn
    replace hy:=hy.nw qn
    have hzt2:Hid _:=hzt
    clear hzt
    refine hK1 _ _ (hSof.out _ m0) ?_
    clear hK1 K1 hcon qn hS hW0
    have hS:=hSof.out _ m0
    refine ord_actL _ rfl (fun K1 hK1=>?_)
    have hcon:Hid _:=c_rgput wk0 hx ht (by have:=hN6.out;omega)
    go_wp2_with (go_at_call 21;refine Calls.mono hcon.out ?_;rintro e wk1 ⟨u4,rfl,hz4,qn⟩)
    have m1:=nw_trans m0 qn
    replace ht:=ht.nw qn
    replace hx:=hx.nw qn
    replace hy:=hy.nw qn
    replace hz:=hz.nw qn
    refine hK1 _ _ (hSof.out _ m1) ?_
    clear hK1 K1 hcon qn hS m0
    have hS:=hSof.out _ m1
    refine ord_actL _ rfl (fun K1 hK1=>?_)
    have hcon:Hid _:=c_rgsame wk1 hz hz4
    unfold AnsP at hcon
    go_wp2_with (go_at_call 19;refine Calls.mono hcon.out ?_;rintro e wk2 ⟨r6,rfl,q6,qn⟩)
    have m2:=nw_trans m1 qn
    replace ht:=ht.nw qn
    replace hx:=hx.nw qn
    replace hy:=hy.nw qn
    replace hz:=hz.nw qn
    replace hz4:=hz4.nw qn
    obtain rfl:=q6.2 (hzt2.out.trans (same_put hyx.out hp.out rfl))
    clear q6
    refine hK1 _ _ (hSof.out _ m2) ?_
    clear hK1 K1 hcon qn hS m1 hz hz4
    have hS:=hSof.out _ m2
    refine ord_quietL _ ?_ rfl hS rfl ?_ ?_
    rotate_left
    ·rintro w' ⟨hn,rhB0⟩;go_simp;rfl
    simp only [pL,List.set]
    refine ord_quietL _ ?_ rfl hS rfl ?_ ?_
    rotate_left
    ·rintro w' ⟨hn,rhB0⟩;go_simp;rfl
    simp only [pL,List.set]
    refine ord_quietL _ ?_ rfl hS rfl ?_ ?_
    rotate_left
    ·rintro w' ⟨hn,rhB0⟩;go_simp;rfl
    simp only [pL,List.set]
    refine ord_actL _ rfl (fun K1 hK1=>?_)
    have hcon:Hid _:=c_rgsame wk2 hy hx
    unfold AnsP at hcon
    go_wp2_with (go_at_call 19;refine Calls.mono hcon.out ?_;rintro e wk3 ⟨r7,rfl,q7,qn⟩)
    have m3:=nw_trans m2 qn
    replace ht:=ht.nw qn
    replace hx:=hx.nw qn
    replace hy:=hy.nw qn
    obtain rfl:=q7.2 hyx.out
    clear q7
    refine hK1 _ _ (hSof.out _ m3) ?_
    clear hK1 K1 hcon qn hS m2
    have hS:=hSof.out _ m3
    refine ord_quietL _ ?_ rfl hS rfl ?_ ?_
    rotate_left
    ·rintro w' ⟨hn,rhB0⟩;go_simp;rfl
    simp only [pL,List.set]
    refine ord_quietL _ ?_ rfl hS rfl ?_ ?_
    rotate_left
    ·rintro w' ⟨hn,rhB0⟩;go_simp;rfl
    simp only [pL,List.set]
    refine ord_quietL _ ?_ rfl hS rfl ?_ ?_
    rotate_left
    ·rintro w' ⟨hn,rhB0⟩;go_simp;rfl
    simp only [pL,List.set]
    refine ord_quietL _ ?_ rfl hS rfl ?_ ?_
    rotate_left
    ·rintro w' ⟨hn,rhB0⟩;go_simp;rfl
    simp only [pL,List.set]
    refine ord_actL _ rfl (fun K1 hK1=>?_)
    have hcon:Hid _:=c_gsame wk3 hy hx
    unfold AnsP at hcon
    go_wp2_with (go_at_call 22;refine Calls.mono hcon.out ?_;rintro e wk4 ⟨r8,rfl,q8,qn⟩)
    have m4:=nw_trans m3 qn
    replace ht:=ht.nw qn
    replace hx:=hx.nw qn
    replace hy:=hy.nw qn
    obtain rfl:=q8.2 hyx.out
    clear q8
    refine hK1 _ _ (hSof.out _ m4) ?_
    clear hK1 K1 hcon qn hS m3
    have hS:=hSof.out _ m4
    refine ord_quietL _ ?_ rfl hS rfl ?_ ?_
    rotate_left
    ·rintro w' ⟨hn,rhB0⟩;go_simp;rfl
    simp only [pL,List.set]
    refine ord_tail ?_
    simp only [List.drop_succ_cons,List.drop_zero]
    have hfin:Hid (Nw w wk4):=nw_trans nW m4
    clear hSof hS
    go_wp2
    go_ret
    exact ⟨rfl,hfin.out⟩

end Go.Proofs.Ytgmfofngmfekbaa
