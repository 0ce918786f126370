/-
  The walk of GraphPuts.
-/
import Derived.Test.YtgmfofngmfekbaaGrGrS
import Derived.Test.YtgmfofngmfekbaaGrGkS
import Derived.Test.YtgmfofngmfekbaaThC4S
namespace Go.Proofs.Ytgmfofngmfekbaa
set_option linter.unusedVariables false
set_option linter.unusedSimpArgs false
set_option maxRecDepth 20000
open Go.RowKit

set_option maxRecDepth 100000 in
set_option maxHeartbeats 6400000 in
theorem c_lputs {v:Value} {xs:List TC} {t:Th} {uL uC uK uD:Value} (id:Int) (w:World) (hx:TSl (fun b=>b < w.heap.size) (fun b=>b < w.heap.size) w v xs) (hin:∀ x ∈ xs,TIn x.t) (ht:ThAt (fun b=>b < w.heap.size) w t uL uC uK uD) (htl:TLen t) :
  Calls Try.prog 7 #[v,thV t uL uC uK uD,.int .u64 id] w fun e w'=>e = .returned (.bool true)∧Nw w w':=by
 obtain ⟨W,hW⟩:∃ W,Hid (W = w.alloc (.cells (thC t uL uC uK uD).toArray 34)):=⟨_,rfl⟩
 have nW:Nw w W:=by rw [hW.out];exact nw_alloc (nw_refl w) _
 have hB0:W.heap[w.heap.size]? = some (.cells (thC t uL uC uK uD).toArray 34 (0,0)):=by rw [hW.out];exact heap_alloc_new w _
 replace ht:=ht.nw nW
 replace hx:=hx.nw nW
 obtain ⟨ao,cap,rfl,hc1,hc2⟩:=hx.form
 obtain ⟨N,hN⟩:∃ N,xs.length = N:=⟨_,rfl⟩
 have hNx:Hid (xs.length = N):=hN
 rw [hN] at hx hc1 ⊢
 clear hN
 replace hin:Hid _:=hin
 replace htl:Hid _:=htl
 go_enter Try.func7,Try.ntmps7
 go_upto_region 1 with ((refine wpList_box_agg rfl 34 _ rfl (thV t uL uC uK uD) _ rfl rfl ?_))
 rw [← hW.out]
 clear hW
 have hcon:Hid _:=c_galive W
 go_wp2_with ((go_at_call 8;refine Calls.mono hcon.out ?_;rintro e W1 ⟨rfl,n1⟩;refine stop_here ?_))
 unfold Hid
 clear hcon
 replace hB0:=(n1.block _ (heap_lt hB0) (fun h=>h)).trans hB0
 replace ht:=ht.nw n1
 replace hx:=hx.nw n1
 replace nW:=nw_trans nW n1
 go_upto_region 3 with fail
 by_cases hl:60 < N
 ·have hb1:decide ((60:Int) < (N:Int)) = true:=decide_eq_true (by omega)
  have hb2:decide (60 < N) = true:=decide_eq_true hl
  clear ht hx hB0
  go_wp2
  go_ret
  exact ⟨rfl,nW⟩
 ·have hb1:decide ((60:Int) < (N:Int)) = false:=decide_eq_false (by omega)
  have hb2:decide (60 < N) = false:=decide_eq_false hl
  have hcon:Hid _:=c_rgraph W1 hx
  unfold AnsP at hcon
  go_wp2_with ((go_at_call 12;refine Calls.mono hcon.out ?_;rintro e W2 ⟨r,rfl,hr,n2⟩;refine stop_here ?_))
  unfold Hid
  clear hcon
  replace hB0:=(n2.block _ (heap_lt hB0) (fun h=>h)).trans hB0
  replace ht:=ht.nw n2
  replace hx:=hx.nw n2
  replace nW:=nw_trans nW n2
  cases r with
  | false =>
   clear hr hx ht hB0
   go_wp2
   go_ret
   exact ⟨rfl,nW⟩
  | true =>
   have hp:Hid (PwX xs):=rise_pw (hr.1 rfl)
   clear hr hb1 hb2
   go_upto_region 5 with fail
   have hcon:Hid _:=c_gput W2 hx ht hp.out (fun x hx=>(hin.out x hx).len) htl.out (by have:=hNx.out;omega)
   have hr0:=range_all hB0
   go_wp2_with (first | (refine wpList_load_as rfl 34 _ rfl (w.heap.size) 0 rfl (thV t uL uC uK uD) _ rfl hr0 Try.rowT Try.sizeT ?_) | (go_at_call 20;refine Calls.mono hcon.out ?_;rintro e W3 ⟨u,zs,rfl,hz,hzt,n3⟩;refine stop_here ?_))
   unfold Hid
   clear hcon hr0
   replace hB0:=(n3.block _ (heap_lt hB0) (fun h=>h)).trans hB0
   replace ht:=ht.nw n3
   replace hx:=hx.nw n3
   replace nW:=nw_trans nW n3
   obtain ⟨hpz,hzl,q1,q2,q3⟩:=put_told hp.out hzt
   have hzin:Hid (∀ z ∈ zs,TLen z.t):=same_mem hzt (put_all hp.out (fun x hx=>(hin.out x hx).len) htl.out)
   replace hzl:Hid (zs.length ≤ 61):=by have:=hNx.out;unfold Hid;omega
   replace hpz:Hid _:=hpz
   replace q1:Hid _:=q1
   replace q2:Hid _:=q2
   replace q3:Hid _:=q3
   clear hzt
   obtain ⟨bo,bcap,rfl,_,_⟩:=hz.form
   obtain ⟨M,hM⟩:∃ M,zs.length = M:=⟨_,rfl⟩
   rw [hM] at hz hzl ⊢
   replace hM:Hid _:=hM
   go_upto_region 6 with fail
   have c0:W3.cell? ⟨w.heap.size,0,none⟩ = some (.int .u64 t.id):=cell_blk hB0 rfl
   have hcon:Hid _:=c_gfind t.id W3 hz hpz.out hzin.out (by have:=hM.out;have:=hzl.out;omega)
   go_wp2_with ((go_at_call 13;refine Calls.mono hcon.out ?_;rintro e W4 hff;obtain ⟨l1,c1,k1,d1,rfl,hy1,n4⟩:=gfind_one hff;refine stop_here ?_))
   unfold Hid
   clear hcon
   replace hB0:=(n4.block _ (heap_lt hB0) (fun h=>h)).trans hB0
   replace ht:=ht.nw n4
   replace hx:=hx.nw n4
   replace hz:=hz.nw n4
   replace nW:=nw_trans nW n4
   rw [q2.out] at hy1
   rw [q1.out,q2.out]
   clear c0 hff
   obtain ⟨Y1,hY⟩:∃ Y,Hid (Y = W4.alloc (.cells (thC zeroT (.slice none 0 0) (.slice none 0 0) (.slice none 0 0) (.slice none 0 0)).toArray 34)):=⟨_,rfl⟩
   have hV1:Y1.heap[W4.heap.size]? = some (.cells (thC zeroT (.slice none 0 0) (.slice none 0 0) (.slice none 0 0) (.slice none 0 0)).toArray 34 (0,0)):=by rw [hY.out];exact heap_alloc_new _ _
   obtain ⟨V5,hV⟩:∃ V,Hid (V = Y1.setRow W4.heap.size (thC t l1 c1 k1 d1).toArray):=⟨_,rfl⟩
   have nV5:Nw W4 V5:=by rw [hV.out,hY.out];exact Fr.setRow (nw_alloc (nw_refl _) _) (.inr (Nat.le_refl _)) _
   have hnew:V5.heap[W4.heap.size]? = some (.cells (thC t l1 c1 k1 d1).toArray 34 (0,0)):=by rw [hV.out];exact setRow_heap _ _ _ _ _ _ hV1
   go_wp2_with (refine wpList_alloc_agg rfl 34 rfl _ Try.zeroTh ?_;rw [← hY.out];refine stop_here ?_)
   unfold Hid
   refine wpList_store_all rfl 34 _ _ rfl (W4.heap.size) rfl (thV t l1 c1 k1 d1) rfl (thC t l1 c1 k1 d1) rfl (thC zeroT (.slice none 0 0) (.slice none 0 0) (.slice none 0 0) (.slice none 0 0)) 34 hV1 rfl (hy1.one) Try.sizeT ?_
   rw [← hV.out]
   clear hV hY hV1
   have hl1_0:=heap_lt hB0
   replace hB0:=(nV5.block _ (heap_lt hB0) (fun h=>h)).trans hB0
   replace ht:=ht.nw nV5
   replace hx:=hx.nw nV5
   replace hz:=hz.nw nV5
   replace hy1:=hy1.nw nV5
   replace nW:=nw_trans nW nV5
   have hV1:=hnew
   clear hnew
   generalize W4.heap.size = A1 at *
   go_upto_region 7 with fail
   have hcon:Hid _:=c_rtsame V5 hy1 ht
   unfold AnsP at hcon
   have hr0:=range_all hB0
   have hr1:=range_all hV1
   go_wp2_with (first | (refine wpList_load_as rfl 34 _ rfl (w.heap.size) 0 rfl (thV t uL uC uK uD) _ rfl hr0 Try.rowT Try.sizeT ?_) | (refine wpList_load_as rfl 34 _ rfl (A1) 0 rfl (thV t l1 c1 k1 d1) _ rfl hr1 Try.rowT Try.sizeT ?_) | (go_at_call 15;refine Calls.mono hcon.out ?_;rintro e W6 ⟨r,rfl,hr,n6⟩;refine stop_here ?_))
   unfold Hid
   clear hcon hr0 hr1
   replace hB0:=(n6.block _ (heap_lt hB0) (fun h=>h)).trans hB0
   replace hV1:=(n6.block _ (heap_lt hV1) (fun h=>h)).trans hV1
   replace ht:=ht.nw n6
   replace hx:=hx.nw n6
   replace hz:=hz.nw n6
   replace hy1:=hy1.nw n6
   replace nW:=nw_trans nW n6
   obtain rfl:=hr.2 (by trivial)
   clear hr
   have hcon:Hid _:=c_rgraph W6 hz
   unfold AnsP at hcon
   go_wp2_with ((go_at_call 12;refine Calls.mono hcon.out ?_;rintro e W7 ⟨r,rfl,hr,n7⟩;refine stop_here ?_))
   unfold Hid
   clear hcon
   replace hB0:=(n7.block _ (heap_lt hB0) (fun h=>h)).trans hB0
   replace hV1:=(n7.block _ (heap_lt hV1) (fun h=>h)).trans hV1
   replace ht:=ht.nw n7
   replace hx:=hx.nw n7
   replace hz:=hz.nw n7
   replace hy1:=hy1.nw n7
   replace nW:=nw_trans nW n7
   obtain rfl:=hr.2 (pw_rise hpz.out)
   clear hr hV1 hy1
   go_upto_region 9 with fail
   have hcon:Hid _:=c_gfind id W7 hz hpz.out hzin.out (by have:=hM.out;have:=hzl.out;omega)
   go_wp2_with ((go_at_call 13;refine Calls.mono hcon.out ?_;rintro e W8 hff;obtain ⟨l2,c2,k2,d2,rfl,hy2,n8⟩:=gfind_one hff;refine stop_here ?_))
   unfold Hid
   clear hcon
   replace hB0:=(n8.block _ (heap_lt hB0) (fun h=>h)).trans hB0
   replace ht:=ht.nw n8
   replace hx:=hx.nw n8
   replace hz:=hz.nw n8
   replace nW:=nw_trans nW n8
   clear hff
   obtain ⟨Y2,hY⟩:∃ Y,Hid (Y = W8.alloc (.cells (thC zeroT (.slice none 0 0) (.slice none 0 0) (.slice none 0 0) (.slice none 0 0)).toArray 34)):=⟨_,rfl⟩
   have hV2:Y2.heap[W8.heap.size]? = some (.cells (thC zeroT (.slice none 0 0) (.slice none 0 0) (.slice none 0 0) (.slice none 0 0)).toArray 34 (0,0)):=by rw [hY.out];exact heap_alloc_new _ _
   obtain ⟨V9,hV⟩:∃ V,Hid (V = Y2.setRow W8.heap.size (thC (fT zs id) l2 c2 k2 d2).toArray):=⟨_,rfl⟩
   have nV9:Nw W8 V9:=by rw [hV.out,hY.out];exact Fr.setRow (nw_alloc (nw_refl _) _) (.inr (Nat.le_refl _)) _
   have hnew:V9.heap[W8.heap.size]? = some (.cells (thC (fT zs id) l2 c2 k2 d2).toArray 34 (0,0)):=by rw [hV.out];exact setRow_heap _ _ _ _ _ _ hV2
   go_wp2_with (refine wpList_alloc_agg rfl 34 rfl _ Try.zeroTh ?_;rw [← hY.out];refine stop_here ?_)
   unfold Hid
   refine wpList_store_all rfl 34 _ _ rfl (W8.heap.size) rfl (thV (fT zs id) l2 c2 k2 d2) rfl (thC (fT zs id) l2 c2 k2 d2) rfl (thC zeroT (.slice none 0 0) (.slice none 0 0) (.slice none 0 0) (.slice none 0 0)) 34 hV2 rfl (hy2.one) Try.sizeT ?_
   rw [← hV.out]
   clear hV hY hV2
   have hl2_0:=heap_lt hB0
   replace hB0:=(nV9.block _ (heap_lt hB0) (fun h=>h)).trans hB0
   replace ht:=ht.nw nV9
   replace hx:=hx.nw nV9
   replace hz:=hz.nw nV9
   replace hy2:=hy2.nw nV9
   replace nW:=nw_trans nW nV9
   have hV2:=hnew
   clear hnew
   generalize W8.heap.size = A2 at *
   go_upto_region 10 with fail
   have hcon:Hid _:=c_gfind id V9 hx hp.out (fun x hx=>(hin.out x hx).len) (by have:=hNx.out;omega)
   go_wp2_with ((go_at_call 13;refine Calls.mono hcon.out ?_;rintro e W10 hff;obtain ⟨l3,c3,k3,d3,rfl,hy3,n10⟩:=gfind_one hff;refine stop_here ?_))
   unfold Hid
   clear hcon
   replace hB0:=(n10.block _ (heap_lt hB0) (fun h=>h)).trans hB0
   replace hV2:=(n10.block _ (heap_lt hV2) (fun h=>h)).trans hV2
   replace ht:=ht.nw n10
   replace hx:=hx.nw n10
   replace hz:=hz.nw n10
   replace hy2:=hy2.nw n10
   replace nW:=nw_trans nW n10
   clear hff
   obtain ⟨Y3,hY⟩:∃ Y,Hid (Y = W10.alloc (.cells (thC zeroT (.slice none 0 0) (.slice none 0 0) (.slice none 0 0) (.slice none 0 0)).toArray 34)):=⟨_,rfl⟩
   have hV3:Y3.heap[W10.heap.size]? = some (.cells (thC zeroT (.slice none 0 0) (.slice none 0 0) (.slice none 0 0) (.slice none 0 0)).toArray 34 (0,0)):=by rw [hY.out];exact heap_alloc_new _ _
   obtain ⟨V11,hV⟩:∃ V,Hid (V = Y3.setRow W10.heap.size (thC (fT xs id) l3 c3 k3 d3).toArray):=⟨_,rfl⟩
   have nV11:Nw W10 V11:=by rw [hV.out,hY.out];exact Fr.setRow (nw_alloc (nw_refl _) _) (.inr (Nat.le_refl _)) _
   have hnew:V11.heap[W10.heap.size]? = some (.cells (thC (fT xs id) l3 c3 k3 d3).toArray 34 (0,0)):=by rw [hV.out];exact setRow_heap _ _ _ _ _ _ hV3
   go_wp2_with (refine wpList_alloc_agg rfl 34 rfl _ Try.zeroTh ?_;rw [← hY.out];refine stop_here ?_)
   unfold Hid
   refine wpList_store_all rfl 34 _ _ rfl (W10.heap.size) rfl (thV (fT xs id) l3 c3 k3 d3) rfl (thC (fT xs id) l3 c3 k3 d3) rfl (thC zeroT (.slice none 0 0) (.slice none 0 0) (.slice none 0 0) (.slice none 0 0)) 34 hV3 rfl (hy3.one) Try.sizeT ?_
   rw [← hV.out]
   clear hV hY hV3
   have hl3_0:=heap_lt hB0
   have hl3_1:=heap_lt hV2
   replace hB0:=(nV11.block _ (heap_lt hB0) (fun h=>h)).trans hB0
   replace hV2:=(nV11.block _ (heap_lt hV2) (fun h=>h)).trans hV2
   replace ht:=ht.nw nV11
   replace hx:=hx.nw nV11
   replace hz:=hz.nw nV11
   replace hy2:=hy2.nw nV11
   replace hy3:=hy3.nw nV11
   replace nW:=nw_trans nW nV11
   have hV3:=hnew
   clear hnew
   generalize W10.heap.size = A3 at *
   go_upto_region 11 with fail
   have c0:V11.cell? ⟨w.heap.size,0,none⟩ = some (.int .u64 t.id):=cell_blk hB0 rfl
   by_cases hid:id = t.id
   ·have hbi:(id == t.id) = true:=by simp [hid]
    clear hB0 hV2 hV3 hx hz ht hy2 hy3
    generalize foundX zs id = B1
    generalize foundX xs id = B2
    go_wp2
    go_ret
    exact ⟨rfl,nW⟩
   ·have hbi:(id == t.id) = false:=by simpa using hid
    obtain ⟨p1,p2⟩:=q3.out id hid
    rw [p1]
    replace p2:Hid _:=p2
    clear p1
    generalize foundX xs id = B
    cases B
    ·skip
     have hcon:Hid _:=c_rtsame V11 hy2 hy3
     unfold AnsP at hcon
     have hr1:=range_all hV2
     have hr2:=range_all hV3
     go_wp2_with (first | (refine wpList_load_as rfl 34 _ rfl (A2) 0 rfl (thV (fT zs id) l2 c2 k2 d2) _ rfl hr1 Try.rowT Try.sizeT ?_) | (refine wpList_load_as rfl 34 _ rfl (A3) 0 rfl (thV (fT xs id) l3 c3 k3 d3) _ rfl hr2 Try.rowT Try.sizeT ?_) | (go_at_call 15;refine Calls.mono hcon.out ?_;rintro e W12 ⟨r,rfl,hr,n12⟩;refine stop_here ?_))
     unfold Hid
     clear hcon hr1 hr2
     replace hB0:=(n12.block _ (heap_lt hB0) (fun h=>h)).trans hB0
     replace hV2:=(n12.block _ (heap_lt hV2) (fun h=>h)).trans hV2
     replace hV3:=(n12.block _ (heap_lt hV3) (fun h=>h)).trans hV3
     replace ht:=ht.nw n12
     replace hx:=hx.nw n12
     replace hz:=hz.nw n12
     replace hy2:=hy2.nw n12
     replace hy3:=hy3.nw n12
     replace nW:=nw_trans nW n12
     obtain rfl:=hr.2 p2.out
     clear hr
     clear hB0 hV2 hV3 hx hz ht hy2 hy3 c0
     go_wp2
     go_ret
     exact ⟨rfl,nW⟩
    ·skip
     have hcon:Hid _:=c_rtsame V11 hy2 hy3
     unfold AnsP at hcon
     have hr1:=range_all hV2
     have hr2:=range_all hV3
     go_wp2_with (first | (refine wpList_load_as rfl 34 _ rfl (A2) 0 rfl (thV (fT zs id) l2 c2 k2 d2) _ rfl hr1 Try.rowT Try.sizeT ?_) | (refine wpList_load_as rfl 34 _ rfl (A3) 0 rfl (thV (fT xs id) l3 c3 k3 d3) _ rfl hr2 Try.rowT Try.sizeT ?_) | (go_at_call 15;refine Calls.mono hcon.out ?_;rintro e W12 ⟨r,rfl,hr,n12⟩;refine stop_here ?_))
     unfold Hid
     clear hcon hr1 hr2
     replace hB0:=(n12.block _ (heap_lt hB0) (fun h=>h)).trans hB0
     replace hV2:=(n12.block _ (heap_lt hV2) (fun h=>h)).trans hV2
     replace hV3:=(n12.block _ (heap_lt hV3) (fun h=>h)).trans hV3
     replace ht:=ht.nw n12
     replace hx:=hx.nw n12
     replace hz:=hz.nw n12
     replace hy2:=hy2.nw n12
     replace hy3:=hy3.nw n12
     replace nW:=nw_trans nW n12
     obtain rfl:=hr.2 p2.out
     clear hr
     clear hB0 hV2 hV3 hx hz ht hy2 hy3 c0
     go_wp2
     go_ret
     exact ⟨rfl,nW⟩

end Go.Proofs.Ytgmfofngmfekbaa
