/-
  Right: what hangs on its kind.
-/
import Derived.Test.YtgmfofngmfekbaaThR4S
namespace Go.Proofs.Ytgmfofngmfekbaa
set_option linter.unusedVariables false
set_option linter.unusedSimpArgs false
set_option maxRecDepth 20000
open Go.RowKit

theorem c_canN (x:Int) (w:World):Calls Try.prog 102 #[.int .u64 x] w fun e w'=>e = .returned (.int .u64 (Num.canonV x))∧Nw w w':=(Num.c_canon x w).mono (fun e w' h=>⟨h.1,h.2 ▸ nw_refl w⟩)
theorem c_canT (t:Th) (w:World):Calls Try.prog 100 #[rgV t] w fun e w'=>e = .returned (rgV (cnT t))∧Nw w w':=c_canons t.r0 t.r1 t.r2 t.r3 w
theorem c_slT (t:Th) (w:World):Calls Try.prog 104 #[slV t] w fun e w'=>∃ r:Bool,e = .returned (.bool r)∧(r = true↔slOk t.s0 t.s1∧slOk t.s2 t.s3∧slOk t.s4 t.s5∧slOk t.s6 t.s7)∧Nw w w':=c_slots t.s0 t.s1 t.s2 t.s3 t.s4 t.s5 t.s6 t.s7 w

set_option maxHeartbeats 1600000 in
theorem c_pages {X:Nat→Prop} {t:Th} {uL uC uK uD:Value} (w:World) (h:ThAt X w t uL uC uK uD) (Q:Int) (hQ:Q = ((t.data.length / 32:Nat):Int)) :
  Calls Try.prog 103 #[thV t uL uC uK uD] w fun e w'=>e = .returned (.int .i64 Q)∧Nw w w':=by
 replace hQ:Hid _:=hQ
 obtain ⟨da,dc,rfl,hd1,hd2⟩:=h.d.form
 obtain ⟨W,hW⟩:∃ W,Hid (W = w.alloc (.cells (thC t uL uC uK (.slice da t.data.length dc)).toArray 34)):=⟨_,rfl⟩
 have nW:Nw w W:=by rw [hW.out];exact nw_alloc (nw_refl w) _
 have hA:W.heap[w.heap.size]? = some (.cells (thC t uL uC uK (.slice da t.data.length dc)).toArray 34 (0,0)):=by rw [hW.out];exact heap_alloc_new w _
 have a9:W.cell? ⟨w.heap.size,9,none⟩ = some (.slice da t.data.length dc):=cell_blk hA rfl
 have hq:=run_quo32 t.data.length (by omega)
 rw [← hQ.out] at hq
 go_enter Try.func103,Try.ntmps103
 go_upto_region 1 with (refine wpList_box_agg rfl 34 _ rfl (thV t uL uC uK (.slice da t.data.length dc)) _ rfl rfl ?_)
 rw [← hW.out]
 clear hW
 go_wp2
 go_ret
 refine ⟨?_,nW⟩
 show Ending.returned (.int .i64 ((t.data.length:Int) / 32)) = _
 rw [hQ.out]
 simp

set_option maxHeartbeats 6400000 in
theorem c_parts {X:Nat→Prop} {t:Th} {uL uC uK uD:Value} (w:World) (h:ThAt X w t uL uC uK uD) (l2:t.ccats.length ≤ 8796093022208) :
  Calls Try.prog 87 #[thV t uL uC uK uD] w (AnsP (KindOk t) w):=by
 obtain ⟨da,dc,rfl,hd1,hd2⟩:=h.d.form
 obtain ⟨W,hW⟩:∃ W,Hid (W = w.alloc (.cells (thC t uL uC uK (.slice da t.data.length dc)).toArray 34)):=⟨_,rfl⟩
 have nW:Nw w W:=by rw [hW.out];exact nw_alloc (nw_refl w) _
 have hA:W.heap[w.heap.size]? = some (.cells (thC t uL uC uK (.slice da t.data.length dc)).toArray 34 (0,0)):=by rw [hW.out];exact heap_alloc_new w _
 have ht:=h.nw nW
 clear h
 have a1:W.cell? ⟨w.heap.size,1,none⟩ = some (.int .i64 t.kind):=cell_blk hA rfl
 go_enter Try.func87,Try.ntmps87
 go_upto_region 1 with (refine wpList_box_agg rfl 34 _ rfl (thV t uL uC uK (.slice da t.data.length dc)) _ rfl rfl ?_)
 rw [← hW.out]
 clear hW
 by_cases hk1:t.kind = 1
 ·have bk1:(t.kind == 1) = true:=by simp [hk1]
  have hk:Hid (t.kind = 1):=hk1
  clear hk1
  go_upto_region 3 with fail
  clear a1
  have hcon:Hid _:=c_dir W ht
  unfold AnsP at hcon
  go_wp2_with (first | (refine wpList_load_as ?_ 34 _ rfl w.heap.size 0 rfl (thV t uL uC uK (.slice da t.data.length dc)) _ rfl (range_all hA) Try.rowT Try.sizeT ?_;exact rfl) | (go_at_call 98;refine Calls.mono hcon.out ?_;rintro e wk0 ⟨r,rfl,q1,qn⟩;refine stop_here ?_))
  unfold Hid
  go_wp2
  go_ret
  exact ⟨r,rfl,q1.trans (kd1 hk.out).symm,nw_trans nW qn⟩
 ·have bk1:(t.kind == 1) = false:=by simp [hk1]
  replace hk1:Hid (¬ t.kind = 1):=hk1
  by_cases hk2:t.kind = 2
  ·have bk2:(t.kind == 2) = true:=by simp [hk2]
   have hk:Hid (t.kind = 2):=hk2
   clear hk2
   go_upto_region 5 with fail
   clear a1
   have hg4:∀ w x y,(eqGuard .eql 29 x y (rgV t) (rgV (cnT t))).run Try.prog w = .ok () w:=fun w x y=>run_eqGuard_agg w .eql 29 x y _ _ (by kernel_rfl)
   have hr4:=run_eq4 t (cnT t)
   by_cases hq:t.quota = 1
   ·have bq:(t.quota == 1) = true:=by simp [hq]
    replace hq:Hid (t.quota = 1):=hq
    by_cases he:e4 t (cnT t) = true
    ·rw [he] at hr4
     replace he:Hid (e4 t (cnT t) = true):=he
     have hSof:∀ w',Nw W w'→(fun w':World=>Nw W w'∧w'.heap[w.heap.size]? = some (.cells (thC t uL uC uK (.slice da t.data.length dc)).toArray 34 (0,0))) w':=fun w' hw=>⟨hw,(hw.block _ (heap_lt hA) (fun h=>h)).trans hA⟩
     have hW0:Nw W W.drew:=Fr.drew (Fr.refl _ W)
     have hS:=hSof _ hW0
     replace ht:=ht.nw hW0
     replace hSof:Hid _:=hSof
     refine wp_region_ord [] 26 [(0,true),(1,true),(2,true),(3,true),(4,true),(5,true),(6,false),(7,true),(8,true),(9,true),(11,true),(10,true),(12,true),(13,false),(14,true),(15,true),(16,true),(17,true),(18,true),(19,false),(20,true),(21,true),(22,true),(23,true),(24,false),(25,true)] (fun w':World=>Nw W w'∧w'.heap[w.heap.size]? = some (.cells (thC t uL uC uK (.slice da t.data.length dc)).toArray 34 (0,0))) (by kernel_rfl) (by kernel_rfl) ?_
     refine ord_quietL _ ?_ rfl hS rfl ?_ ?_
     rotate_left
     ·rintro w' ⟨hn,rhA⟩;go_simp;rfl
     simp only [pL,List.set]
     refine ord_quietL _ ?_ rfl hS rfl ?_ ?_
     rotate_left
     ·rintro w' ⟨hn,rhA⟩;have g0:w'.cell? ⟨w.heap.size,6,none⟩ = some (.int .i64 t.quota):=cell_blk rhA rfl;go_simp;rfl
     simp only [pL,List.set]
     refine ord_quietL _ ?_ rfl hS rfl ?_ ?_
     rotate_left
     ·rintro w' ⟨hn,rhA⟩;go_simp;rfl
     simp only [pL,List.set]
     refine ord_quietL _ ?_ rfl hS rfl ?_ ?_
     rotate_left
     ·rintro w' ⟨hn,rhA⟩;go_simp;rfl
     simp only [pL,List.set]
     refine ord_quietL _ ?_ rfl hS rfl ?_ ?_
     rotate_left
     ·rintro w' ⟨hn,rhA⟩;go_simp;rfl
     simp only [pL,List.set]
     refine ord_quietL _ ?_ rfl hS rfl ?_ ?_
     rotate_left
     ·rintro w' ⟨hn,rhA⟩;have g0:w'.cell? ⟨w.heap.size,4,none⟩ = some (.int .i64 t.cdf):=cell_blk rhA rfl;have g1:w'.cell? ⟨w.heap.size,5,none⟩ = some (uC):=cell_blk rhA rfl;go_simp;rfl
     simp only [pL,List.set]
     refine ord_actL _ rfl (fun K1 hK1=>?_)
     have hcon:Hid _:=c_clear t.cdf W.drew ht.c (by omega)
     unfold AnsP labV at hcon
     go_wp2_with (go_at_call 99;refine Calls.mono hcon.out ?_;rintro e wk0 ⟨r,rfl,q1,qn⟩)
     have m0:=nw_trans hW0 qn
     replace ht:=ht.nw qn
     cases r with
     | true =>
      have y1:Hid _:=q1.1 rfl
      refine hK1 _ _ (hSof.out _ m0) ?_
      clear hK1 K1 hcon qn hS hW0 q1
      have hS:=hSof.out _ m0
      refine ord_quietL _ ?_ rfl hS rfl ?_ ?_
      rotate_left
      ·rintro w' ⟨hn,rhA⟩;go_simp;rfl
      simp only [pL,List.set]
      refine ord_quietL _ ?_ rfl hS rfl ?_ ?_
      rotate_left
      ·rintro w' ⟨hn,rhA⟩;go_simp;rfl
      simp only [pL,List.set]
      refine ord_quietL _ ?_ rfl hS rfl ?_ ?_
      rotate_left
      ·rintro w' ⟨hn,rhA⟩;go_simp;rfl
      simp only [pL,List.set]
      refine ord_quietL _ ?_ rfl hS rfl ?_ ?_
      rotate_left
      ·rintro w' ⟨hn,rhA⟩;go_simp;rfl
      simp only [pL,List.set]
      refine ord_quietL _ ?_ rfl hS rfl ?_ ?_
      rotate_left
      ·rintro w' ⟨hn,rhA⟩;refine (run_load_rg _ w' rfl (w.heap.size) rfl rhA).trans ?_;rfl
      simp only [pL,List.set]
      refine ord_quietL _ ?_ rfl hS rfl ?_ ?_
      rotate_left
      ·rintro w' ⟨hn,rhA⟩;refine (run_load_rg _ w' rfl (w.heap.size) rfl rhA).trans ?_;rfl
      simp only [pL,List.set]
      refine ord_actL _ rfl (fun K1 hK1=>?_)
      have hcon:Hid _:=c_canT t wk0
      go_wp2_with (go_at_call 100;refine Calls.mono hcon.out ?_;rintro e wk1 ⟨rfl,qn⟩)
      have m1:=nw_trans m0 qn
      replace ht:=ht.nw qn
      refine hK1 _ _ (hSof.out _ m1) ?_
      clear hK1 K1 hcon qn hS m0
      have hS:=hSof.out _ m1
      refine ord_quietL _ ?_ rfl hS rfl ?_ ?_
      rotate_left
      ·rintro w' ⟨hn,rhA⟩;go_simp;rfl
      simp only [pL,List.set]
      refine ord_quietL _ ?_ rfl hS rfl ?_ ?_
      rotate_left
      ·rintro w' ⟨hn,rhA⟩;go_simp;rfl
      simp only [pL,List.set]
      refine ord_quietL _ ?_ rfl hS rfl ?_ ?_
      rotate_left
      ·rintro w' ⟨hn,rhA⟩;go_simp;rfl
      simp only [pL,List.set]
      refine ord_quietL _ ?_ rfl hS rfl ?_ ?_
      rotate_left
      ·rintro w' ⟨hn,rhA⟩;go_simp;rfl
      simp only [pL,List.set]
      refine ord_quietL _ ?_ rfl hS rfl ?_ ?_
      rotate_left
      ·rintro w' ⟨hn,rhA⟩;have g0:w'.cell? ⟨w.heap.size,14,none⟩ = some (.int .i64 t.minted):=cell_blk rhA rfl;go_simp;rfl
      simp only [pL,List.set]
      refine ord_actL _ rfl (fun K1 hK1=>?_)
      have hcon:Hid _:=c_btw 0 t.minted 31 wk1
      unfold AnsP at hcon
      go_wp2_with (go_at_call 101;refine Calls.mono hcon.out ?_;rintro e wk2 ⟨r,rfl,q1,qn⟩)
      have m2:=nw_trans m1 qn
      replace ht:=ht.nw qn
      cases r with
      | true =>
       have y2:Hid (btw 0 t.minted 31):=q1.1 rfl
       refine hK1 _ _ (hSof.out _ m2) ?_
       clear hK1 K1 hcon qn hS m1 q1
       have hS:=hSof.out _ m2
       refine ord_quietL _ ?_ rfl hS rfl ?_ ?_
       rotate_left
       ·rintro w' ⟨hn,rhA⟩;go_simp;rfl
       simp only [pL,List.set]
       refine ord_quietL _ ?_ rfl hS rfl ?_ ?_
       rotate_left
       ·rintro w' ⟨hn,rhA⟩;go_simp;rfl
       simp only [pL,List.set]
       refine ord_quietL _ ?_ rfl hS rfl ?_ ?_
       rotate_left
       ·rintro w' ⟨hn,rhA⟩;go_simp;rfl
       simp only [pL,List.set]
       refine ord_quietL _ ?_ rfl hS rfl ?_ ?_
       rotate_left
       ·rintro w' ⟨hn,rhA⟩;have g0:w'.cell? ⟨w.heap.size,15,none⟩ = some (.int .i64 t.boot):=cell_blk rhA rfl;go_simp;rfl
       simp only [pL,List.set]
       refine ord_actL _ rfl (fun K1 hK1=>?_)
       have hcon:Hid _:=c_btw 0 t.boot 255 wk2
       unfold AnsP at hcon
       go_wp2_with (go_at_call 101;refine Calls.mono hcon.out ?_;rintro e wk3 ⟨r,rfl,q1,qn⟩)
       have m3:=nw_trans m2 qn
       replace ht:=ht.nw qn
       cases r with
       | true =>
        have y3:Hid (btw 0 t.boot 255):=q1.1 rfl
        refine hK1 _ _ (hSof.out _ m3) ?_
        clear hK1 K1 hcon qn hS m2 q1
        have hS:=hSof.out _ m3
        refine ord_quietL _ ?_ rfl hS rfl ?_ ?_
        rotate_left
        ·rintro w' ⟨hn,rhA⟩;go_simp;rfl
        simp only [pL,List.set]
        refine ord_tail ?_
        simp only [List.drop_succ_cons,List.drop_zero]
        have hyes:Hid (KindOk t):=(kd2 hk.out).2 ⟨hq.out,y1.out.1,y1.out.2,(e4_can t).1 he.out,y2.out,y3.out⟩
        go_wp2
        go_ret
        exact ans_yes hyes.out (nw_trans nW m3)
       | false =>
        have hno:Hid (¬ KindOk t):=fun h=>not_of_false q1 (((kd2 hk.out).1 h).boot)
        refine hK1 _ _ (hSof.out _ m3) ?_
        clear hK1 K1 hcon qn hS m2 q1
        have hS:=hSof.out _ m3
        refine ord_quietL _ ?_ rfl hS rfl ?_ ?_
        rotate_left
        ·rintro w' ⟨hn,rhA⟩;go_simp;rfl
        simp only [pL,List.set]
        refine ord_tail ?_
        simp only [List.drop_succ_cons,List.drop_zero]
        go_wp2
        go_ret
        exact ans_no hno.out (nw_trans nW m3)
      | false =>
       have hno:Hid (¬ KindOk t):=fun h=>not_of_false q1 (((kd2 hk.out).1 h).minted)
       refine hK1 _ _ (hSof.out _ m2) ?_
       clear hK1 K1 hcon qn hS m1 q1
       have hS:=hSof.out _ m2
       refine ord_quietL _ ?_ rfl hS rfl ?_ ?_
       rotate_left
       ·rintro w' ⟨hn,rhA⟩;go_simp;rfl
       simp only [pL,List.set]
       refine ord_quietL _ ?_ rfl hS rfl ?_ ?_
       rotate_left
       ·rintro w' ⟨hn,rhA⟩;go_simp;rfl
       simp only [pL,List.set]
       refine ord_skipL _ rfl hS rfl ?_
       simp only [pL,List.set]
       refine ord_skipL _ rfl hS rfl ?_
       simp only [pL,List.set]
       refine ord_actL _ rfl (fun K1 hK1=>?_)
       go_wp2
       refine hK1 _ _ (hSof.out _ m2) ?_
       clear hK1 K1
       refine ord_quietL _ ?_ rfl hS rfl ?_ ?_
       rotate_left
       ·rintro w' ⟨hn,rhA⟩;go_simp;rfl
       simp only [pL,List.set]
       refine ord_tail ?_
       simp only [List.drop_succ_cons,List.drop_zero]
       go_wp2
       go_ret
       exact ans_no hno.out (nw_trans nW m2)
     | false =>
      have hno:Hid (¬ KindOk t):=fun h=>not_of_false q1 ⟨((kd2 hk.out).1 h).rgt,((kd2 hk.out).1 h).pu⟩
      refine hK1 _ _ (hSof.out _ m0) ?_
      clear hK1 K1 hcon qn hS hW0 q1
      have hS:=hSof.out _ m0
      refine ord_quietL _ ?_ rfl hS rfl ?_ ?_
      rotate_left
      ·rintro w' ⟨hn,rhA⟩;go_simp;rfl
      simp only [pL,List.set]
      refine ord_quietL _ ?_ rfl hS rfl ?_ ?_
      rotate_left
      ·rintro w' ⟨hn,rhA⟩;go_simp;rfl
      simp only [pL,List.set]
      refine ord_skipL _ rfl hS rfl ?_
      simp only [pL,List.set]
      refine ord_skipL _ rfl hS rfl ?_
      simp only [pL,List.set]
      refine ord_skipL _ rfl hS rfl ?_
      simp only [pL,List.set]
      refine ord_skipL _ rfl hS rfl ?_
      simp only [pL,List.set]
      refine ord_actL _ rfl (fun K1 hK1=>?_)
      go_wp2
      refine hK1 _ _ (hSof.out _ m0) ?_
      clear hK1 K1
      refine ord_skipL _ rfl hS rfl ?_
      simp only [pL,List.set]
      refine ord_quietL _ ?_ rfl hS rfl ?_ ?_
      rotate_left
      ·rintro w' ⟨hn,rhA⟩;go_simp;rfl
      simp only [pL,List.set]
      refine ord_quietL _ ?_ rfl hS rfl ?_ ?_
      rotate_left
      ·rintro w' ⟨hn,rhA⟩;go_simp;rfl
      simp only [pL,List.set]
      refine ord_skipL _ rfl hS rfl ?_
      simp only [pL,List.set]
      refine ord_skipL _ rfl hS rfl ?_
      simp only [pL,List.set]
      refine ord_actL _ rfl (fun K1 hK1=>?_)
      go_wp2
      refine hK1 _ _ (hSof.out _ m0) ?_
      clear hK1 K1
      refine ord_quietL _ ?_ rfl hS rfl ?_ ?_
      rotate_left
      ·rintro w' ⟨hn,rhA⟩;go_simp;rfl
      simp only [pL,List.set]
      refine ord_quietL _ ?_ rfl hS rfl ?_ ?_
      rotate_left
      ·rintro w' ⟨hn,rhA⟩;go_simp;rfl
      simp only [pL,List.set]
      refine ord_skipL _ rfl hS rfl ?_
      simp only [pL,List.set]
      refine ord_skipL _ rfl hS rfl ?_
      simp only [pL,List.set]
      refine ord_actL _ rfl (fun K1 hK1=>?_)
      go_wp2
      refine hK1 _ _ (hSof.out _ m0) ?_
      clear hK1 K1
      refine ord_quietL _ ?_ rfl hS rfl ?_ ?_
      rotate_left
      ·rintro w' ⟨hn,rhA⟩;go_simp;rfl
      simp only [pL,List.set]
      refine ord_tail ?_
      simp only [List.drop_succ_cons,List.drop_zero]
      go_wp2
      go_ret
      exact ans_no hno.out (nw_trans nW m0)
    ·rw [show e4 t (cnT t) = false by simpa using he] at hr4
     replace he:Hid (¬ e4 t (cnT t) = true):=he
     have hSof:∀ w',Nw W w'→(fun w':World=>Nw W w'∧w'.heap[w.heap.size]? = some (.cells (thC t uL uC uK (.slice da t.data.length dc)).toArray 34 (0,0))) w':=fun w' hw=>⟨hw,(hw.block _ (heap_lt hA) (fun h=>h)).trans hA⟩
     have hW0:Nw W W.drew:=Fr.drew (Fr.refl _ W)
     have hS:=hSof _ hW0
     replace ht:=ht.nw hW0
     replace hSof:Hid _:=hSof
     refine wp_region_ord [] 26 [(0,true),(1,true),(2,true),(3,true),(4,true),(5,true),(6,false),(7,true),(8,true),(9,true),(11,true),(10,true),(12,true),(13,false),(14,true),(15,true),(16,true),(17,true),(18,true),(19,false),(20,true),(21,true),(22,true),(23,true),(24,false),(25,true)] (fun w':World=>Nw W w'∧w'.heap[w.heap.size]? = some (.cells (thC t uL uC uK (.slice da t.data.length dc)).toArray 34 (0,0))) (by kernel_rfl) (by kernel_rfl) ?_
     refine ord_quietL _ ?_ rfl hS rfl ?_ ?_
     rotate_left
     ·rintro w' ⟨hn,rhA⟩;go_simp;rfl
     simp only [pL,List.set]
     refine ord_quietL _ ?_ rfl hS rfl ?_ ?_
     rotate_left
     ·rintro w' ⟨hn,rhA⟩;have g0:w'.cell? ⟨w.heap.size,6,none⟩ = some (.int .i64 t.quota):=cell_blk rhA rfl;go_simp;rfl
     simp only [pL,List.set]
     refine ord_quietL _ ?_ rfl hS rfl ?_ ?_
     rotate_left
     ·rintro w' ⟨hn,rhA⟩;go_simp;rfl
     simp only [pL,List.set]
     refine ord_quietL _ ?_ rfl hS rfl ?_ ?_
     rotate_left
     ·rintro w' ⟨hn,rhA⟩;go_simp;rfl
     simp only [pL,List.set]
     refine ord_quietL _ ?_ rfl hS rfl ?_ ?_
     rotate_left
     ·rintro w' ⟨hn,rhA⟩;go_simp;rfl
     simp only [pL,List.set]
     refine ord_quietL _ ?_ rfl hS rfl ?_ ?_
     rotate_left
     ·rintro w' ⟨hn,rhA⟩;have g0:w'.cell? ⟨w.heap.size,4,none⟩ = some (.int .i64 t.cdf):=cell_blk rhA rfl;have g1:w'.cell? ⟨w.heap.size,5,none⟩ = some (uC):=cell_blk rhA rfl;go_simp;rfl
     simp only [pL,List.set]
     refine ord_actL _ rfl (fun K1 hK1=>?_)
     have hcon:Hid _:=c_clear t.cdf W.drew ht.c (by omega)
     unfold AnsP labV at hcon
     go_wp2_with (go_at_call 99;refine Calls.mono hcon.out ?_;rintro e wk0 ⟨r,rfl,q1,qn⟩)
     have m0:=nw_trans hW0 qn
     replace ht:=ht.nw qn
     cases r with
     | true =>
      have y1:Hid _:=q1.1 rfl
      refine hK1 _ _ (hSof.out _ m0) ?_
      clear hK1 K1 hcon qn hS hW0 q1
      have hS:=hSof.out _ m0
      refine ord_quietL _ ?_ rfl hS rfl ?_ ?_
      rotate_left
      ·rintro w' ⟨hn,rhA⟩;go_simp;rfl
      simp only [pL,List.set]
      refine ord_quietL _ ?_ rfl hS rfl ?_ ?_
      rotate_left
      ·rintro w' ⟨hn,rhA⟩;go_simp;rfl
      simp only [pL,List.set]
      refine ord_quietL _ ?_ rfl hS rfl ?_ ?_
      rotate_left
      ·rintro w' ⟨hn,rhA⟩;go_simp;rfl
      simp only [pL,List.set]
      refine ord_quietL _ ?_ rfl hS rfl ?_ ?_
      rotate_left
      ·rintro w' ⟨hn,rhA⟩;go_simp;rfl
      simp only [pL,List.set]
      refine ord_quietL _ ?_ rfl hS rfl ?_ ?_
      rotate_left
      ·rintro w' ⟨hn,rhA⟩;refine (run_load_rg _ w' rfl (w.heap.size) rfl rhA).trans ?_;rfl
      simp only [pL,List.set]
      refine ord_quietL _ ?_ rfl hS rfl ?_ ?_
      rotate_left
      ·rintro w' ⟨hn,rhA⟩;refine (run_load_rg _ w' rfl (w.heap.size) rfl rhA).trans ?_;rfl
      simp only [pL,List.set]
      refine ord_actL _ rfl (fun K1 hK1=>?_)
      have hcon:Hid _:=c_canT t wk0
      go_wp2_with (go_at_call 100;refine Calls.mono hcon.out ?_;rintro e wk1 ⟨rfl,qn⟩)
      have m1:=nw_trans m0 qn
      replace ht:=ht.nw qn
      refine hK1 _ _ (hSof.out _ m1) ?_
      clear hK1 K1 hcon qn hS m0
      have hS:=hSof.out _ m1
      refine ord_quietL _ ?_ rfl hS rfl ?_ ?_
      rotate_left
      ·rintro w' ⟨hn,rhA⟩;go_simp;rfl
      simp only [pL,List.set]
      refine ord_quietL _ ?_ rfl hS rfl ?_ ?_
      rotate_left
      ·rintro w' ⟨hn,rhA⟩;go_simp;rfl
      simp only [pL,List.set]
      refine ord_quietL _ ?_ rfl hS rfl ?_ ?_
      rotate_left
      ·rintro w' ⟨hn,rhA⟩;go_simp;rfl
      simp only [pL,List.set]
      refine ord_skipL _ rfl hS rfl ?_
      simp only [pL,List.set]
      refine ord_skipL _ rfl hS rfl ?_
      simp only [pL,List.set]
      refine ord_actL _ rfl (fun K1 hK1=>?_)
      go_wp2
      refine hK1 _ _ (hSof.out _ m1) ?_
      clear hK1 K1
      refine ord_quietL _ ?_ rfl hS rfl ?_ ?_
      rotate_left
      ·rintro w' ⟨hn,rhA⟩;go_simp;rfl
      simp only [pL,List.set]
      refine ord_quietL _ ?_ rfl hS rfl ?_ ?_
      rotate_left
      ·rintro w' ⟨hn,rhA⟩;go_simp;rfl
      simp only [pL,List.set]
      refine ord_skipL _ rfl hS rfl ?_
      simp only [pL,List.set]
      refine ord_skipL _ rfl hS rfl ?_
      simp only [pL,List.set]
      refine ord_actL _ rfl (fun K1 hK1=>?_)
      go_wp2
      refine hK1 _ _ (hSof.out _ m1) ?_
      clear hK1 K1
      refine ord_quietL _ ?_ rfl hS rfl ?_ ?_
      rotate_left
      ·rintro w' ⟨hn,rhA⟩;go_simp;rfl
      simp only [pL,List.set]
      refine ord_tail ?_
      simp only [List.drop_succ_cons,List.drop_zero]
      have hno:Hid (¬ KindOk t):=fun h=>he.out ((e4_can t).2 ((kd2 hk.out).1 h).regs)
      go_wp2
      go_ret
      exact ans_no hno.out (nw_trans nW m1)
     | false =>
      have hno:Hid (¬ KindOk t):=fun h=>not_of_false q1 ⟨((kd2 hk.out).1 h).rgt,((kd2 hk.out).1 h).pu⟩
      refine hK1 _ _ (hSof.out _ m0) ?_
      clear hK1 K1 hcon qn hS hW0 q1
      have hS:=hSof.out _ m0
      refine ord_quietL _ ?_ rfl hS rfl ?_ ?_
      rotate_left
      ·rintro w' ⟨hn,rhA⟩;go_simp;rfl
      simp only [pL,List.set]
      refine ord_quietL _ ?_ rfl hS rfl ?_ ?_
      rotate_left
      ·rintro w' ⟨hn,rhA⟩;go_simp;rfl
      simp only [pL,List.set]
      refine ord_skipL _ rfl hS rfl ?_
      simp only [pL,List.set]
      refine ord_skipL _ rfl hS rfl ?_
      simp only [pL,List.set]
      refine ord_skipL _ rfl hS rfl ?_
      simp only [pL,List.set]
      refine ord_skipL _ rfl hS rfl ?_
      simp only [pL,List.set]
      refine ord_actL _ rfl (fun K1 hK1=>?_)
      go_wp2
      refine hK1 _ _ (hSof.out _ m0) ?_
      clear hK1 K1
      refine ord_skipL _ rfl hS rfl ?_
      simp only [pL,List.set]
      refine ord_quietL _ ?_ rfl hS rfl ?_ ?_
      rotate_left
      ·rintro w' ⟨hn,rhA⟩;go_simp;rfl
      simp only [pL,List.set]
      refine ord_quietL _ ?_ rfl hS rfl ?_ ?_
      rotate_left
      ·rintro w' ⟨hn,rhA⟩;go_simp;rfl
      simp only [pL,List.set]
      refine ord_skipL _ rfl hS rfl ?_
      simp only [pL,List.set]
      refine ord_skipL _ rfl hS rfl ?_
      simp only [pL,List.set]
      refine ord_actL _ rfl (fun K1 hK1=>?_)
      go_wp2
      refine hK1 _ _ (hSof.out _ m0) ?_
      clear hK1 K1
      refine ord_quietL _ ?_ rfl hS rfl ?_ ?_
      rotate_left
      ·rintro w' ⟨hn,rhA⟩;go_simp;rfl
      simp only [pL,List.set]
      refine ord_quietL _ ?_ rfl hS rfl ?_ ?_
      rotate_left
      ·rintro w' ⟨hn,rhA⟩;go_simp;rfl
      simp only [pL,List.set]
      refine ord_skipL _ rfl hS rfl ?_
      simp only [pL,List.set]
      refine ord_skipL _ rfl hS rfl ?_
      simp only [pL,List.set]
      refine ord_actL _ rfl (fun K1 hK1=>?_)
      go_wp2
      refine hK1 _ _ (hSof.out _ m0) ?_
      clear hK1 K1
      refine ord_quietL _ ?_ rfl hS rfl ?_ ?_
      rotate_left
      ·rintro w' ⟨hn,rhA⟩;go_simp;rfl
      simp only [pL,List.set]
      refine ord_tail ?_
      simp only [List.drop_succ_cons,List.drop_zero]
      go_wp2
      go_ret
      exact ans_no hno.out (nw_trans nW m0)
   ·have bq:(t.quota == 1) = false:=by simp [hq]
    replace hq:Hid (¬ t.quota = 1):=hq
    have hno:Hid (¬ KindOk t):=fun h=>hq.out ((kd2 hk.out).1 h).quota
    have hSof:∀ w',Nw W w'→(fun w':World=>Nw W w'∧w'.heap[w.heap.size]? = some (.cells (thC t uL uC uK (.slice da t.data.length dc)).toArray 34 (0,0))) w':=fun w' hw=>⟨hw,(hw.block _ (heap_lt hA) (fun h=>h)).trans hA⟩
    have hW0:Nw W W.drew:=Fr.drew (Fr.refl _ W)
    have hS:=hSof _ hW0
    replace ht:=ht.nw hW0
    replace hSof:Hid _:=hSof
    refine wp_region_ord [] 26 [(0,true),(1,true),(2,true),(3,true),(4,true),(5,true),(6,false),(7,true),(8,true),(9,true),(11,true),(10,true),(12,true),(13,false),(14,true),(15,true),(16,true),(17,true),(18,true),(19,false),(20,true),(21,true),(22,true),(23,true),(24,false),(25,true)] (fun w':World=>Nw W w'∧w'.heap[w.heap.size]? = some (.cells (thC t uL uC uK (.slice da t.data.length dc)).toArray 34 (0,0))) (by kernel_rfl) (by kernel_rfl) ?_
    refine ord_quietL _ ?_ rfl hS rfl ?_ ?_
    rotate_left
    ·rintro w' ⟨hn,rhA⟩;go_simp;rfl
    simp only [pL,List.set]
    refine ord_quietL _ ?_ rfl hS rfl ?_ ?_
    rotate_left
    ·rintro w' ⟨hn,rhA⟩;have g0:w'.cell? ⟨w.heap.size,6,none⟩ = some (.int .i64 t.quota):=cell_blk rhA rfl;go_simp;rfl
    simp only [pL,List.set]
    refine ord_quietL _ ?_ rfl hS rfl ?_ ?_
    rotate_left
    ·rintro w' ⟨hn,rhA⟩;go_simp;rfl
    simp only [pL,List.set]
    refine ord_quietL _ ?_ rfl hS rfl ?_ ?_
    rotate_left
    ·rintro w' ⟨hn,rhA⟩;go_simp;rfl
    simp only [pL,List.set]
    refine ord_skipL _ rfl hS rfl ?_
    simp only [pL,List.set]
    refine ord_skipL _ rfl hS rfl ?_
    simp only [pL,List.set]
    refine ord_actL _ rfl (fun K1 hK1=>?_)
    go_wp2
    refine hK1 _ _ (hSof.out _ hW0) ?_
    clear hK1 K1
    refine ord_quietL _ ?_ rfl hS rfl ?_ ?_
    rotate_left
    ·rintro w' ⟨hn,rhA⟩;go_simp;rfl
    simp only [pL,List.set]
    refine ord_quietL _ ?_ rfl hS rfl ?_ ?_
    rotate_left
    ·rintro w' ⟨hn,rhA⟩;go_simp;rfl
    simp only [pL,List.set]
    refine ord_skipL _ rfl hS rfl ?_
    simp only [pL,List.set]
    refine ord_skipL _ rfl hS rfl ?_
    simp only [pL,List.set]
    refine ord_skipL _ rfl hS rfl ?_
    simp only [pL,List.set]
    refine ord_skipL _ rfl hS rfl ?_
    simp only [pL,List.set]
    refine ord_actL _ rfl (fun K1 hK1=>?_)
    go_wp2
    refine hK1 _ _ (hSof.out _ hW0) ?_
    clear hK1 K1
    refine ord_skipL _ rfl hS rfl ?_
    simp only [pL,List.set]
    refine ord_quietL _ ?_ rfl hS rfl ?_ ?_
    rotate_left
    ·rintro w' ⟨hn,rhA⟩;go_simp;rfl
    simp only [pL,List.set]
    refine ord_quietL _ ?_ rfl hS rfl ?_ ?_
    rotate_left
    ·rintro w' ⟨hn,rhA⟩;go_simp;rfl
    simp only [pL,List.set]
    refine ord_skipL _ rfl hS rfl ?_
    simp only [pL,List.set]
    refine ord_skipL _ rfl hS rfl ?_
    simp only [pL,List.set]
    refine ord_actL _ rfl (fun K1 hK1=>?_)
    go_wp2
    refine hK1 _ _ (hSof.out _ hW0) ?_
    clear hK1 K1
    refine ord_quietL _ ?_ rfl hS rfl ?_ ?_
    rotate_left
    ·rintro w' ⟨hn,rhA⟩;go_simp;rfl
    simp only [pL,List.set]
    refine ord_quietL _ ?_ rfl hS rfl ?_ ?_
    rotate_left
    ·rintro w' ⟨hn,rhA⟩;go_simp;rfl
    simp only [pL,List.set]
    refine ord_skipL _ rfl hS rfl ?_
    simp only [pL,List.set]
    refine ord_skipL _ rfl hS rfl ?_
    simp only [pL,List.set]
    refine ord_actL _ rfl (fun K1 hK1=>?_)
    go_wp2
    refine hK1 _ _ (hSof.out _ hW0) ?_
    clear hK1 K1
    refine ord_quietL _ ?_ rfl hS rfl ?_ ?_
    rotate_left
    ·rintro w' ⟨hn,rhA⟩;go_simp;rfl
    simp only [pL,List.set]
    refine ord_tail ?_
    simp only [List.drop_succ_cons,List.drop_zero]
    go_wp2
    go_ret
    exact ans_no hno.out (nw_trans nW hW0)
  ·have bk2:(t.kind == 2) = false:=by simp [hk2]
   replace hk2:Hid (¬ t.kind = 2):=hk2
   by_cases hk3:t.kind = 3
   ·have bk3:(t.kind == 3) = true:=by simp [hk3]
    have hk:Hid (t.kind = 3):=hk3
    clear hk3
    go_upto_region 7 with fail
    clear a1
    by_cases hq:t.quota = 1
    ·have bq:(t.quota == 1) = true:=by simp [hq]
     replace hq:Hid (t.quota = 1):=hq
     by_cases he:can t.value
     ·have be:(t.value == Num.canonV t.value) = true:=by unfold can at he;rw [he];simp
      replace he:Hid (can t.value):=he
      have hSof:∀ w',Nw W w'→(fun w':World=>Nw W w'∧w'.heap[w.heap.size]? = some (.cells (thC t uL uC uK (.slice da t.data.length dc)).toArray 34 (0,0))) w':=fun w' hw=>⟨hw,(hw.block _ (heap_lt hA) (fun h=>h)).trans hA⟩
      have hW0:Nw W W.drew:=Fr.drew (Fr.refl _ W)
      have hS:=hSof _ hW0
      replace ht:=ht.nw hW0
      replace hSof:Hid _:=hSof
      refine wp_region_ord [] 16 [(0,true),(1,true),(2,true),(3,true),(4,true),(5,true),(6,false),(7,true),(8,true),(9,true),(11,true),(10,true),(12,true),(13,false),(14,true),(15,true)] (fun w':World=>Nw W w'∧w'.heap[w.heap.size]? = some (.cells (thC t uL uC uK (.slice da t.data.length dc)).toArray 34 (0,0))) (by kernel_rfl) (by kernel_rfl) ?_
      refine ord_quietL _ ?_ rfl hS rfl ?_ ?_
      rotate_left
      ·rintro w' ⟨hn,rhA⟩;go_simp;rfl
      simp only [pL,List.set]
      refine ord_quietL _ ?_ rfl hS rfl ?_ ?_
      rotate_left
      ·rintro w' ⟨hn,rhA⟩;have g0:w'.cell? ⟨w.heap.size,6,none⟩ = some (.int .i64 t.quota):=cell_blk rhA rfl;go_simp;rfl
      simp only [pL,List.set]
      refine ord_quietL _ ?_ rfl hS rfl ?_ ?_
      rotate_left
      ·rintro w' ⟨hn,rhA⟩;go_simp;rfl
      simp only [pL,List.set]
      refine ord_quietL _ ?_ rfl hS rfl ?_ ?_
      rotate_left
      ·rintro w' ⟨hn,rhA⟩;go_simp;rfl
      simp only [pL,List.set]
      refine ord_quietL _ ?_ rfl hS rfl ?_ ?_
      rotate_left
      ·rintro w' ⟨hn,rhA⟩;go_simp;rfl
      simp only [pL,List.set]
      refine ord_quietL _ ?_ rfl hS rfl ?_ ?_
      rotate_left
      ·rintro w' ⟨hn,rhA⟩;have g0:w'.cell? ⟨w.heap.size,4,none⟩ = some (.int .i64 t.cdf):=cell_blk rhA rfl;have g1:w'.cell? ⟨w.heap.size,5,none⟩ = some (uC):=cell_blk rhA rfl;go_simp;rfl
      simp only [pL,List.set]
      refine ord_actL _ rfl (fun K1 hK1=>?_)
      have hcon:Hid _:=c_clear t.cdf W.drew ht.c (by omega)
      unfold AnsP labV at hcon
      go_wp2_with (go_at_call 99;refine Calls.mono hcon.out ?_;rintro e wk0 ⟨r,rfl,q1,qn⟩)
      have m0:=nw_trans hW0 qn
      replace ht:=ht.nw qn
      cases r with
      | true =>
       have y1:Hid _:=q1.1 rfl
       refine hK1 _ _ (hSof.out _ m0) ?_
       clear hK1 K1 hcon qn hS hW0 q1
       have hS:=hSof.out _ m0
       refine ord_quietL _ ?_ rfl hS rfl ?_ ?_
       rotate_left
       ·rintro w' ⟨hn,rhA⟩;go_simp;rfl
       simp only [pL,List.set]
       refine ord_quietL _ ?_ rfl hS rfl ?_ ?_
       rotate_left
       ·rintro w' ⟨hn,rhA⟩;go_simp;rfl
       simp only [pL,List.set]
       refine ord_quietL _ ?_ rfl hS rfl ?_ ?_
       rotate_left
       ·rintro w' ⟨hn,rhA⟩;go_simp;rfl
       simp only [pL,List.set]
       refine ord_quietL _ ?_ rfl hS rfl ?_ ?_
       rotate_left
       ·rintro w' ⟨hn,rhA⟩;go_simp;rfl
       simp only [pL,List.set]
       refine ord_quietL _ ?_ rfl hS rfl ?_ ?_
       rotate_left
       ·rintro w' ⟨hn,rhA⟩;have g0:w'.cell? ⟨w.heap.size,17,none⟩ = some (.int .u64 t.value):=cell_blk rhA rfl;go_simp;rfl
       simp only [pL,List.set]
       refine ord_quietL _ ?_ rfl hS rfl ?_ ?_
       rotate_left
       ·rintro w' ⟨hn,rhA⟩;have g0:w'.cell? ⟨w.heap.size,17,none⟩ = some (.int .u64 t.value):=cell_blk rhA rfl;go_simp;rfl
       simp only [pL,List.set]
       refine ord_actL _ rfl (fun K1 hK1=>?_)
       have hcon:Hid _:=c_canN t.value wk0
       go_wp2_with (go_at_call 102;refine Calls.mono hcon.out ?_;rintro e wk1 ⟨rfl,qn⟩)
       have m1:=nw_trans m0 qn
       replace ht:=ht.nw qn
       refine hK1 _ _ (hSof.out _ m1) ?_
       clear hK1 K1 hcon qn hS m0
       have hS:=hSof.out _ m1
       refine ord_quietL _ ?_ rfl hS rfl ?_ ?_
       rotate_left
       ·rintro w' ⟨hn,rhA⟩;go_simp;rfl
       simp only [pL,List.set]
       refine ord_quietL _ ?_ rfl hS rfl ?_ ?_
       rotate_left
       ·rintro w' ⟨hn,rhA⟩;go_simp;rfl
       simp only [pL,List.set]
       refine ord_tail ?_
       simp only [List.drop_succ_cons,List.drop_zero]
       have hyes:Hid (KindOk t):=(kd3 hk.out).2 ⟨hq.out,y1.out.1,y1.out.2,he.out⟩
       go_wp2
       go_ret
       exact ans_yes hyes.out (nw_trans nW m1)
      | false =>
       have hno:Hid (¬ KindOk t):=fun h=>not_of_false q1 ⟨((kd3 hk.out).1 h).rgt,((kd3 hk.out).1 h).pu⟩
       refine hK1 _ _ (hSof.out _ m0) ?_
       clear hK1 K1 hcon qn hS hW0 q1
       have hS:=hSof.out _ m0
       refine ord_quietL _ ?_ rfl hS rfl ?_ ?_
       rotate_left
       ·rintro w' ⟨hn,rhA⟩;go_simp;rfl
       simp only [pL,List.set]
       refine ord_quietL _ ?_ rfl hS rfl ?_ ?_
       rotate_left
       ·rintro w' ⟨hn,rhA⟩;go_simp;rfl
       simp only [pL,List.set]
       refine ord_skipL _ rfl hS rfl ?_
       simp only [pL,List.set]
       refine ord_skipL _ rfl hS rfl ?_
       simp only [pL,List.set]
       refine ord_skipL _ rfl hS rfl ?_
       simp only [pL,List.set]
       refine ord_skipL _ rfl hS rfl ?_
       simp only [pL,List.set]
       refine ord_actL _ rfl (fun K1 hK1=>?_)
       go_wp2
       refine hK1 _ _ (hSof.out _ m0) ?_
       clear hK1 K1
       refine ord_skipL _ rfl hS rfl ?_
       simp only [pL,List.set]
       refine ord_quietL _ ?_ rfl hS rfl ?_ ?_
       rotate_left
       ·rintro w' ⟨hn,rhA⟩;go_simp;rfl
       simp only [pL,List.set]
       refine ord_tail ?_
       simp only [List.drop_succ_cons,List.drop_zero]
       go_wp2
       go_ret
       exact ans_no hno.out (nw_trans nW m0)
     ·have be:(t.value == Num.canonV t.value) = false:=by unfold can at he;simp;exact fun e=>he e.symm
      replace he:Hid (¬ can t.value):=he
      have hSof:∀ w',Nw W w'→(fun w':World=>Nw W w'∧w'.heap[w.heap.size]? = some (.cells (thC t uL uC uK (.slice da t.data.length dc)).toArray 34 (0,0))) w':=fun w' hw=>⟨hw,(hw.block _ (heap_lt hA) (fun h=>h)).trans hA⟩
      have hW0:Nw W W.drew:=Fr.drew (Fr.refl _ W)
      have hS:=hSof _ hW0
      replace ht:=ht.nw hW0
      replace hSof:Hid _:=hSof
      refine wp_region_ord [] 16 [(0,true),(1,true),(2,true),(3,true),(4,true),(5,true),(6,false),(7,true),(8,true),(9,true),(11,true),(10,true),(12,true),(13,false),(14,true),(15,true)] (fun w':World=>Nw W w'∧w'.heap[w.heap.size]? = some (.cells (thC t uL uC uK (.slice da t.data.length dc)).toArray 34 (0,0))) (by kernel_rfl) (by kernel_rfl) ?_
      refine ord_quietL _ ?_ rfl hS rfl ?_ ?_
      rotate_left
      ·rintro w' ⟨hn,rhA⟩;go_simp;rfl
      simp only [pL,List.set]
      refine ord_quietL _ ?_ rfl hS rfl ?_ ?_
      rotate_left
      ·rintro w' ⟨hn,rhA⟩;have g0:w'.cell? ⟨w.heap.size,6,none⟩ = some (.int .i64 t.quota):=cell_blk rhA rfl;go_simp;rfl
      simp only [pL,List.set]
      refine ord_quietL _ ?_ rfl hS rfl ?_ ?_
      rotate_left
      ·rintro w' ⟨hn,rhA⟩;go_simp;rfl
      simp only [pL,List.set]
      refine ord_quietL _ ?_ rfl hS rfl ?_ ?_
      rotate_left
      ·rintro w' ⟨hn,rhA⟩;go_simp;rfl
      simp only [pL,List.set]
      refine ord_quietL _ ?_ rfl hS rfl ?_ ?_
      rotate_left
      ·rintro w' ⟨hn,rhA⟩;go_simp;rfl
      simp only [pL,List.set]
      refine ord_quietL _ ?_ rfl hS rfl ?_ ?_
      rotate_left
      ·rintro w' ⟨hn,rhA⟩;have g0:w'.cell? ⟨w.heap.size,4,none⟩ = some (.int .i64 t.cdf):=cell_blk rhA rfl;have g1:w'.cell? ⟨w.heap.size,5,none⟩ = some (uC):=cell_blk rhA rfl;go_simp;rfl
      simp only [pL,List.set]
      refine ord_actL _ rfl (fun K1 hK1=>?_)
      have hcon:Hid _:=c_clear t.cdf W.drew ht.c (by omega)
      unfold AnsP labV at hcon
      go_wp2_with (go_at_call 99;refine Calls.mono hcon.out ?_;rintro e wk0 ⟨r,rfl,q1,qn⟩)
      have m0:=nw_trans hW0 qn
      replace ht:=ht.nw qn
      cases r with
      | true =>
       have y1:Hid _:=q1.1 rfl
       refine hK1 _ _ (hSof.out _ m0) ?_
       clear hK1 K1 hcon qn hS hW0 q1
       have hS:=hSof.out _ m0
       refine ord_quietL _ ?_ rfl hS rfl ?_ ?_
       rotate_left
       ·rintro w' ⟨hn,rhA⟩;go_simp;rfl
       simp only [pL,List.set]
       refine ord_quietL _ ?_ rfl hS rfl ?_ ?_
       rotate_left
       ·rintro w' ⟨hn,rhA⟩;go_simp;rfl
       simp only [pL,List.set]
       refine ord_quietL _ ?_ rfl hS rfl ?_ ?_
       rotate_left
       ·rintro w' ⟨hn,rhA⟩;go_simp;rfl
       simp only [pL,List.set]
       refine ord_quietL _ ?_ rfl hS rfl ?_ ?_
       rotate_left
       ·rintro w' ⟨hn,rhA⟩;go_simp;rfl
       simp only [pL,List.set]
       refine ord_quietL _ ?_ rfl hS rfl ?_ ?_
       rotate_left
       ·rintro w' ⟨hn,rhA⟩;have g0:w'.cell? ⟨w.heap.size,17,none⟩ = some (.int .u64 t.value):=cell_blk rhA rfl;go_simp;rfl
       simp only [pL,List.set]
       refine ord_quietL _ ?_ rfl hS rfl ?_ ?_
       rotate_left
       ·rintro w' ⟨hn,rhA⟩;have g0:w'.cell? ⟨w.heap.size,17,none⟩ = some (.int .u64 t.value):=cell_blk rhA rfl;go_simp;rfl
       simp only [pL,List.set]
       refine ord_actL _ rfl (fun K1 hK1=>?_)
       have hcon:Hid _:=c_canN t.value wk0
       go_wp2_with (go_at_call 102;refine Calls.mono hcon.out ?_;rintro e wk1 ⟨rfl,qn⟩)
       have m1:=nw_trans m0 qn
       replace ht:=ht.nw qn
       refine hK1 _ _ (hSof.out _ m1) ?_
       clear hK1 K1 hcon qn hS m0
       have hS:=hSof.out _ m1
       refine ord_quietL _ ?_ rfl hS rfl ?_ ?_
       rotate_left
       ·rintro w' ⟨hn,rhA⟩;go_simp;rfl
       simp only [pL,List.set]
       refine ord_quietL _ ?_ rfl hS rfl ?_ ?_
       rotate_left
       ·rintro w' ⟨hn,rhA⟩;go_simp;rfl
       simp only [pL,List.set]
       refine ord_tail ?_
       simp only [List.drop_succ_cons,List.drop_zero]
       have hno:Hid (¬ KindOk t):=fun h=>he.out ((kd3 hk.out).1 h).value
       go_wp2
       go_ret
       exact ans_no hno.out (nw_trans nW m1)
      | false =>
       have hno:Hid (¬ KindOk t):=fun h=>not_of_false q1 ⟨((kd3 hk.out).1 h).rgt,((kd3 hk.out).1 h).pu⟩
       refine hK1 _ _ (hSof.out _ m0) ?_
       clear hK1 K1 hcon qn hS hW0 q1
       have hS:=hSof.out _ m0
       refine ord_quietL _ ?_ rfl hS rfl ?_ ?_
       rotate_left
       ·rintro w' ⟨hn,rhA⟩;go_simp;rfl
       simp only [pL,List.set]
       refine ord_quietL _ ?_ rfl hS rfl ?_ ?_
       rotate_left
       ·rintro w' ⟨hn,rhA⟩;go_simp;rfl
       simp only [pL,List.set]
       refine ord_skipL _ rfl hS rfl ?_
       simp only [pL,List.set]
       refine ord_skipL _ rfl hS rfl ?_
       simp only [pL,List.set]
       refine ord_skipL _ rfl hS rfl ?_
       simp only [pL,List.set]
       refine ord_skipL _ rfl hS rfl ?_
       simp only [pL,List.set]
       refine ord_actL _ rfl (fun K1 hK1=>?_)
       go_wp2
       refine hK1 _ _ (hSof.out _ m0) ?_
       clear hK1 K1
       refine ord_skipL _ rfl hS rfl ?_
       simp only [pL,List.set]
       refine ord_quietL _ ?_ rfl hS rfl ?_ ?_
       rotate_left
       ·rintro w' ⟨hn,rhA⟩;go_simp;rfl
       simp only [pL,List.set]
       refine ord_tail ?_
       simp only [List.drop_succ_cons,List.drop_zero]
       go_wp2
       go_ret
       exact ans_no hno.out (nw_trans nW m0)
    ·have bq:(t.quota == 1) = false:=by simp [hq]
     replace hq:Hid (¬ t.quota = 1):=hq
     have hno:Hid (¬ KindOk t):=fun h=>hq.out ((kd3 hk.out).1 h).quota
     have hSof:∀ w',Nw W w'→(fun w':World=>Nw W w'∧w'.heap[w.heap.size]? = some (.cells (thC t uL uC uK (.slice da t.data.length dc)).toArray 34 (0,0))) w':=fun w' hw=>⟨hw,(hw.block _ (heap_lt hA) (fun h=>h)).trans hA⟩
     have hW0:Nw W W.drew:=Fr.drew (Fr.refl _ W)
     have hS:=hSof _ hW0
     replace ht:=ht.nw hW0
     replace hSof:Hid _:=hSof
     refine wp_region_ord [] 16 [(0,true),(1,true),(2,true),(3,true),(4,true),(5,true),(6,false),(7,true),(8,true),(9,true),(11,true),(10,true),(12,true),(13,false),(14,true),(15,true)] (fun w':World=>Nw W w'∧w'.heap[w.heap.size]? = some (.cells (thC t uL uC uK (.slice da t.data.length dc)).toArray 34 (0,0))) (by kernel_rfl) (by kernel_rfl) ?_
     refine ord_quietL _ ?_ rfl hS rfl ?_ ?_
     rotate_left
     ·rintro w' ⟨hn,rhA⟩;go_simp;rfl
     simp only [pL,List.set]
     refine ord_quietL _ ?_ rfl hS rfl ?_ ?_
     rotate_left
     ·rintro w' ⟨hn,rhA⟩;have g0:w'.cell? ⟨w.heap.size,6,none⟩ = some (.int .i64 t.quota):=cell_blk rhA rfl;go_simp;rfl
     simp only [pL,List.set]
     refine ord_quietL _ ?_ rfl hS rfl ?_ ?_
     rotate_left
     ·rintro w' ⟨hn,rhA⟩;go_simp;rfl
     simp only [pL,List.set]
     refine ord_quietL _ ?_ rfl hS rfl ?_ ?_
     rotate_left
     ·rintro w' ⟨hn,rhA⟩;go_simp;rfl
     simp only [pL,List.set]
     refine ord_skipL _ rfl hS rfl ?_
     simp only [pL,List.set]
     refine ord_skipL _ rfl hS rfl ?_
     simp only [pL,List.set]
     refine ord_actL _ rfl (fun K1 hK1=>?_)
     go_wp2
     refine hK1 _ _ (hSof.out _ hW0) ?_
     clear hK1 K1
     refine ord_quietL _ ?_ rfl hS rfl ?_ ?_
     rotate_left
     ·rintro w' ⟨hn,rhA⟩;go_simp;rfl
     simp only [pL,List.set]
     refine ord_quietL _ ?_ rfl hS rfl ?_ ?_
     rotate_left
     ·rintro w' ⟨hn,rhA⟩;go_simp;rfl
     simp only [pL,List.set]
     refine ord_skipL _ rfl hS rfl ?_
     simp only [pL,List.set]
     refine ord_skipL _ rfl hS rfl ?_
     simp only [pL,List.set]
     refine ord_skipL _ rfl hS rfl ?_
     simp only [pL,List.set]
     refine ord_skipL _ rfl hS rfl ?_
     simp only [pL,List.set]
     refine ord_actL _ rfl (fun K1 hK1=>?_)
     go_wp2
     refine hK1 _ _ (hSof.out _ hW0) ?_
     clear hK1 K1
     refine ord_skipL _ rfl hS rfl ?_
     simp only [pL,List.set]
     refine ord_quietL _ ?_ rfl hS rfl ?_ ?_
     rotate_left
     ·rintro w' ⟨hn,rhA⟩;go_simp;rfl
     simp only [pL,List.set]
     refine ord_tail ?_
     simp only [List.drop_succ_cons,List.drop_zero]
     go_wp2
     go_ret
     exact ans_no hno.out (nw_trans nW hW0)
   ·have bk3:(t.kind == 3) = false:=by simp [hk3]
    replace hk3:Hid (¬ t.kind = 3):=hk3
    by_cases hk4:t.kind = 4
    ·have bk4:(t.kind == 4) = true:=by simp [hk4]
     have hk:Hid (t.kind = 4):=hk4
     clear hk4
     go_upto_region 9 with fail
     clear a1
     obtain ⟨M,hM⟩:∃ M:Int,Hid (M = ((t.data.length % 32:Nat):Int)):=⟨_,rfl⟩
     obtain ⟨Q,hQ⟩:∃ Q:Int,Hid (Q = ((t.data.length / 32:Nat):Int)):=⟨_,rfl⟩
     have hrem:=run_rem32 t.data.length
     rw [← hM.out] at hrem
     have hadd:=run_add1 t.data.length (by omega)
     rw [← hQ.out] at hadd
     by_cases hm:t.data.length % 32 = 0
     ·have bm:(M == 0) = true:=by rw [hM.out,hm];rfl
      have bm1:((t.data.length:Int) % 32 == 0) = true:=by simp;omega
      have bm2:((t.data.length:Int).tmod 32 == 0) = true:=by rw [Int.tmod_eq_emod_of_nonneg (by omega)];exact bm1
      have hQ0:0 ≤ Q:=by rw [hQ.out];omega
      have hQ1:Q ≤ 922337203685477580:=by rw [hQ.out];omega
      replace hm:Hid (t.data.length % 32 = 0):=hm
      by_cases hq:t.quota = 1 + Q
      ·have hwq:IntKind.i64.wrap (1 + Q) = 1 + Q:=by rw [IntKind.wrap_i64];omega
       have bq:(t.quota == IntKind.i64.wrap (1 + Q)) = true:=by rw [hq,hwq];simp
       replace hq:Hid (t.quota = 1 + Q):=hq
       clear hwq
       have hSof:∀ w',Nw W w'→(fun w':World=>Nw W w'∧w'.heap[w.heap.size]? = some (.cells (thC t uL uC uK (.slice da t.data.length dc)).toArray 34 (0,0))) w':=fun w' hw=>⟨hw,(hw.block _ (heap_lt hA) (fun h=>h)).trans hA⟩
       have hW0:Nw W W.drew:=Fr.drew (Fr.refl _ W)
       have hS:=hSof _ hW0
       replace ht:=ht.nw hW0
       replace hSof:Hid _:=hSof
       refine wp_region_ord [] 18 [(0,true),(1,true),(2,true),(3,true),(4,true),(5,true),(6,true),(7,false),(8,false),(9,true),(10,true),(11,true),(13,true),(12,true),(14,false),(15,true),(16,true),(17,true)] (fun w':World=>Nw W w'∧w'.heap[w.heap.size]? = some (.cells (thC t uL uC uK (.slice da t.data.length dc)).toArray 34 (0,0))) (by kernel_rfl) (by kernel_rfl) ?_
       refine ord_quietL _ ?_ rfl hS rfl ?_ ?_
       rotate_left
       ·rintro w' ⟨hn,rhA⟩;go_simp;rfl
       simp only [pL,List.set]
       refine ord_quietL _ ?_ rfl hS rfl ?_ ?_
       rotate_left
       ·rintro w' ⟨hn,rhA⟩;have g0:w'.cell? ⟨w.heap.size,9,none⟩ = some (.slice da t.data.length dc):=cell_blk rhA rfl;go_simp;rfl
       simp only [pL,List.set]
       refine ord_quietL _ ?_ rfl hS rfl ?_ ?_
       rotate_left
       ·rintro w' ⟨hn,rhA⟩;go_simp;rfl
       simp only [pL,List.set]
       refine ord_quietL _ ?_ rfl hS rfl ?_ ?_
       rotate_left
       ·rintro w' ⟨hn,rhA⟩;go_simp;rfl
       simp only [pL,List.set]
       refine ord_quietL _ ?_ rfl hS rfl ?_ ?_
       rotate_left
       ·rintro w' ⟨hn,rhA⟩;go_simp;rfl
       simp only [pL,List.set]
       refine ord_quietL _ ?_ rfl hS rfl ?_ ?_
       rotate_left
       ·rintro w' ⟨hn,rhA⟩;go_simp;rfl
       simp only [pL,List.set]
       refine ord_quietL _ ?_ rfl hS rfl ?_ ?_
       rotate_left
       ·rintro w' ⟨hn,rhA⟩;refine (run_load_th _ w' rfl (w.heap.size) rfl rhA).trans ?_;rfl
       simp only [pL,List.set]
       refine ord_actL _ rfl (fun K1 hK1=>?_)
       have hcon:Hid _:=c_pages W.drew ht Q hQ.out
       go_wp2_with (go_at_call 103;refine Calls.mono hcon.out ?_;rintro e wk0 ⟨rfl,qn⟩)
       have m0:=nw_trans hW0 qn
       replace ht:=ht.nw qn
       refine hK1 _ _ (hSof.out _ m0) ?_
       clear hK1 K1 hcon qn hS hW0
       have hS:=hSof.out _ m0
       refine ord_actL _ rfl (fun K1 hK1=>?_)
       have hcon:Hid _:=c_btw 1 Q 4 wk0
       unfold AnsP at hcon
       go_wp2_with (go_at_call 101;refine Calls.mono hcon.out ?_;rintro e wk1 ⟨r,rfl,q1,qn⟩)
       have m1:=nw_trans m0 qn
       replace ht:=ht.nw qn
       cases r with
       | true =>
        have y1:Hid (btw 1 Q 4):=q1.1 rfl
        refine hK1 _ _ (hSof.out _ m1) ?_
        clear hK1 K1 hcon qn hS m0 q1
        have hS:=hSof.out _ m1
        refine ord_quietL _ ?_ rfl hS rfl ?_ ?_
        rotate_left
        ·rintro w' ⟨hn,rhA⟩;go_simp;rfl
        simp only [pL,List.set]
        refine ord_quietL _ ?_ rfl hS rfl ?_ ?_
        rotate_left
        ·rintro w' ⟨hn,rhA⟩;go_simp;rfl
        simp only [pL,List.set]
        refine ord_quietL _ ?_ rfl hS rfl ?_ ?_
        rotate_left
        ·rintro w' ⟨hn,rhA⟩;go_simp;rfl
        simp only [pL,List.set]
        refine ord_quietL _ ?_ rfl hS rfl ?_ ?_
        rotate_left
        ·rintro w' ⟨hn,rhA⟩;refine (run_load_th _ w' rfl (w.heap.size) rfl rhA).trans ?_;rfl
        simp only [pL,List.set]
        refine ord_quietL _ ?_ rfl hS rfl ?_ ?_
        rotate_left
        ·rintro w' ⟨hn,rhA⟩;have g0:w'.cell? ⟨w.heap.size,6,none⟩ = some (.int .i64 t.quota):=cell_blk rhA rfl;go_simp;rfl
        simp only [pL,List.set]
        refine ord_actL _ rfl (fun K1 hK1=>?_)
        have hcon:Hid _:=c_pages wk1 ht Q hQ.out
        go_wp2_with (go_at_call 103;refine Calls.mono hcon.out ?_;rintro e wk2 ⟨rfl,qn⟩)
        have m2:=nw_trans m1 qn
        replace ht:=ht.nw qn
        refine hK1 _ _ (hSof.out _ m2) ?_
        clear hK1 K1 hcon qn hS m1
        have hS:=hSof.out _ m2
        refine ord_quietL _ ?_ rfl hS rfl ?_ ?_
        rotate_left
        ·rintro w' ⟨hn,rhA⟩;go_simp;rfl
        simp only [pL,List.set]
        refine ord_quietL _ ?_ rfl hS rfl ?_ ?_
        rotate_left
        ·rintro w' ⟨hn,rhA⟩;go_simp;rfl
        simp only [pL,List.set]
        refine ord_quietL _ ?_ rfl hS rfl ?_ ?_
        rotate_left
        ·rintro w' ⟨hn,rhA⟩;go_simp;rfl
        simp only [pL,List.set]
        refine ord_tail ?_
        simp only [List.drop_succ_cons,List.drop_zero]
        have hyes:Hid (KindOk t):=(kd4 hk.out).2 ⟨by have h1:=y1.out;have h2:=hm.out;have h3:=hQ.out;unfold btw at h1;omega,by have h1:=y1.out;have h2:=hm.out;have h3:=hQ.out;unfold btw at h1;omega,hm.out,by have h1:=hq.out;have h3:=hQ.out;omega⟩
        go_wp2
        go_ret
        exact ans_yes hyes.out (nw_trans nW m2)
       | false =>
        have hno:Hid (¬ KindOk t):=fun h=>not_of_false q1 (by have h1:=((kd4 hk.out).1 h).lo;have h2:=((kd4 hk.out).1 h).hi;have h3:=hQ.out;unfold btw;omega)
        refine hK1 _ _ (hSof.out _ m1) ?_
        clear hK1 K1 hcon qn hS m0 q1
        have hS:=hSof.out _ m1
        refine ord_quietL _ ?_ rfl hS rfl ?_ ?_
        rotate_left
        ·rintro w' ⟨hn,rhA⟩;go_simp;rfl
        simp only [pL,List.set]
        refine ord_quietL _ ?_ rfl hS rfl ?_ ?_
        rotate_left
        ·rintro w' ⟨hn,rhA⟩;go_simp;rfl
        simp only [pL,List.set]
        refine ord_skipL _ rfl hS rfl ?_
        simp only [pL,List.set]
        refine ord_skipL _ rfl hS rfl ?_
        simp only [pL,List.set]
        refine ord_skipL _ rfl hS rfl ?_
        simp only [pL,List.set]
        refine ord_actL _ rfl (fun K1 hK1=>?_)
        go_wp2
        refine hK1 _ _ (hSof.out _ m1) ?_
        clear hK1 K1
        refine ord_skipL _ rfl hS rfl ?_
        simp only [pL,List.set]
        refine ord_skipL _ rfl hS rfl ?_
        simp only [pL,List.set]
        refine ord_quietL _ ?_ rfl hS rfl ?_ ?_
        rotate_left
        ·rintro w' ⟨hn,rhA⟩;go_simp;rfl
        simp only [pL,List.set]
        refine ord_tail ?_
        simp only [List.drop_succ_cons,List.drop_zero]
        go_wp2
        go_ret
        exact ans_no hno.out (nw_trans nW m1)
      ·have hwq:IntKind.i64.wrap (1 + Q) = 1 + Q:=by rw [IntKind.wrap_i64];omega
       have bq:(t.quota == IntKind.i64.wrap (1 + Q)) = false:=by rw [hwq];simpa using hq
       replace hq:Hid (¬ t.quota = 1 + Q):=hq
       clear hwq
       have hSof:∀ w',Nw W w'→(fun w':World=>Nw W w'∧w'.heap[w.heap.size]? = some (.cells (thC t uL uC uK (.slice da t.data.length dc)).toArray 34 (0,0))) w':=fun w' hw=>⟨hw,(hw.block _ (heap_lt hA) (fun h=>h)).trans hA⟩
       have hW0:Nw W W.drew:=Fr.drew (Fr.refl _ W)
       have hS:=hSof _ hW0
       replace ht:=ht.nw hW0
       replace hSof:Hid _:=hSof
       refine wp_region_ord [] 18 [(0,true),(1,true),(2,true),(3,true),(4,true),(5,true),(6,true),(7,false),(8,false),(9,true),(10,true),(11,true),(13,true),(12,true),(14,false),(15,true),(16,true),(17,true)] (fun w':World=>Nw W w'∧w'.heap[w.heap.size]? = some (.cells (thC t uL uC uK (.slice da t.data.length dc)).toArray 34 (0,0))) (by kernel_rfl) (by kernel_rfl) ?_
       refine ord_quietL _ ?_ rfl hS rfl ?_ ?_
       rotate_left
       ·rintro w' ⟨hn,rhA⟩;go_simp;rfl
       simp only [pL,List.set]
       refine ord_quietL _ ?_ rfl hS rfl ?_ ?_
       rotate_left
       ·rintro w' ⟨hn,rhA⟩;have g0:w'.cell? ⟨w.heap.size,9,none⟩ = some (.slice da t.data.length dc):=cell_blk rhA rfl;go_simp;rfl
       simp only [pL,List.set]
       refine ord_quietL _ ?_ rfl hS rfl ?_ ?_
       rotate_left
       ·rintro w' ⟨hn,rhA⟩;go_simp;rfl
       simp only [pL,List.set]
       refine ord_quietL _ ?_ rfl hS rfl ?_ ?_
       rotate_left
       ·rintro w' ⟨hn,rhA⟩;go_simp;rfl
       simp only [pL,List.set]
       refine ord_quietL _ ?_ rfl hS rfl ?_ ?_
       rotate_left
       ·rintro w' ⟨hn,rhA⟩;go_simp;rfl
       simp only [pL,List.set]
       refine ord_quietL _ ?_ rfl hS rfl ?_ ?_
       rotate_left
       ·rintro w' ⟨hn,rhA⟩;go_simp;rfl
       simp only [pL,List.set]
       refine ord_quietL _ ?_ rfl hS rfl ?_ ?_
       rotate_left
       ·rintro w' ⟨hn,rhA⟩;refine (run_load_th _ w' rfl (w.heap.size) rfl rhA).trans ?_;rfl
       simp only [pL,List.set]
       refine ord_actL _ rfl (fun K1 hK1=>?_)
       have hcon:Hid _:=c_pages W.drew ht Q hQ.out
       go_wp2_with (go_at_call 103;refine Calls.mono hcon.out ?_;rintro e wk0 ⟨rfl,qn⟩)
       have m0:=nw_trans hW0 qn
       replace ht:=ht.nw qn
       refine hK1 _ _ (hSof.out _ m0) ?_
       clear hK1 K1 hcon qn hS hW0
       have hS:=hSof.out _ m0
       refine ord_actL _ rfl (fun K1 hK1=>?_)
       have hcon:Hid _:=c_btw 1 Q 4 wk0
       unfold AnsP at hcon
       go_wp2_with (go_at_call 101;refine Calls.mono hcon.out ?_;rintro e wk1 ⟨r,rfl,q1,qn⟩)
       have m1:=nw_trans m0 qn
       replace ht:=ht.nw qn
       cases r with
       | true =>
        have y1:Hid (btw 1 Q 4):=q1.1 rfl
        refine hK1 _ _ (hSof.out _ m1) ?_
        clear hK1 K1 hcon qn hS m0 q1
        have hS:=hSof.out _ m1
        refine ord_quietL _ ?_ rfl hS rfl ?_ ?_
        rotate_left
        ·rintro w' ⟨hn,rhA⟩;go_simp;rfl
        simp only [pL,List.set]
        refine ord_quietL _ ?_ rfl hS rfl ?_ ?_
        rotate_left
        ·rintro w' ⟨hn,rhA⟩;go_simp;rfl
        simp only [pL,List.set]
        refine ord_quietL _ ?_ rfl hS rfl ?_ ?_
        rotate_left
        ·rintro w' ⟨hn,rhA⟩;go_simp;rfl
        simp only [pL,List.set]
        refine ord_quietL _ ?_ rfl hS rfl ?_ ?_
        rotate_left
        ·rintro w' ⟨hn,rhA⟩;refine (run_load_th _ w' rfl (w.heap.size) rfl rhA).trans ?_;rfl
        simp only [pL,List.set]
        refine ord_quietL _ ?_ rfl hS rfl ?_ ?_
        rotate_left
        ·rintro w' ⟨hn,rhA⟩;have g0:w'.cell? ⟨w.heap.size,6,none⟩ = some (.int .i64 t.quota):=cell_blk rhA rfl;go_simp;rfl
        simp only [pL,List.set]
        refine ord_actL _ rfl (fun K1 hK1=>?_)
        have hcon:Hid _:=c_pages wk1 ht Q hQ.out
        go_wp2_with (go_at_call 103;refine Calls.mono hcon.out ?_;rintro e wk2 ⟨rfl,qn⟩)
        have m2:=nw_trans m1 qn
        replace ht:=ht.nw qn
        refine hK1 _ _ (hSof.out _ m2) ?_
        clear hK1 K1 hcon qn hS m1
        have hS:=hSof.out _ m2
        refine ord_quietL _ ?_ rfl hS rfl ?_ ?_
        rotate_left
        ·rintro w' ⟨hn,rhA⟩;go_simp;rfl
        simp only [pL,List.set]
        refine ord_quietL _ ?_ rfl hS rfl ?_ ?_
        rotate_left
        ·rintro w' ⟨hn,rhA⟩;go_simp;rfl
        simp only [pL,List.set]
        refine ord_quietL _ ?_ rfl hS rfl ?_ ?_
        rotate_left
        ·rintro w' ⟨hn,rhA⟩;go_simp;rfl
        simp only [pL,List.set]
        refine ord_tail ?_
        simp only [List.drop_succ_cons,List.drop_zero]
        have hno:Hid (¬ KindOk t):=fun h=>hq.out (by have h1:=((kd4 hk.out).1 h).quota;have h3:=hQ.out;omega)
        go_wp2
        go_ret
        exact ans_no hno.out (nw_trans nW m2)
       | false =>
        have hno:Hid (¬ KindOk t):=fun h=>not_of_false q1 (by have h1:=((kd4 hk.out).1 h).lo;have h2:=((kd4 hk.out).1 h).hi;have h3:=hQ.out;unfold btw;omega)
        refine hK1 _ _ (hSof.out _ m1) ?_
        clear hK1 K1 hcon qn hS m0 q1
        have hS:=hSof.out _ m1
        refine ord_quietL _ ?_ rfl hS rfl ?_ ?_
        rotate_left
        ·rintro w' ⟨hn,rhA⟩;go_simp;rfl
        simp only [pL,List.set]
        refine ord_quietL _ ?_ rfl hS rfl ?_ ?_
        rotate_left
        ·rintro w' ⟨hn,rhA⟩;go_simp;rfl
        simp only [pL,List.set]
        refine ord_skipL _ rfl hS rfl ?_
        simp only [pL,List.set]
        refine ord_skipL _ rfl hS rfl ?_
        simp only [pL,List.set]
        refine ord_skipL _ rfl hS rfl ?_
        simp only [pL,List.set]
        refine ord_actL _ rfl (fun K1 hK1=>?_)
        go_wp2
        refine hK1 _ _ (hSof.out _ m1) ?_
        clear hK1 K1
        refine ord_skipL _ rfl hS rfl ?_
        simp only [pL,List.set]
        refine ord_skipL _ rfl hS rfl ?_
        simp only [pL,List.set]
        refine ord_quietL _ ?_ rfl hS rfl ?_ ?_
        rotate_left
        ·rintro w' ⟨hn,rhA⟩;go_simp;rfl
        simp only [pL,List.set]
        refine ord_tail ?_
        simp only [List.drop_succ_cons,List.drop_zero]
        go_wp2
        go_ret
        exact ans_no hno.out (nw_trans nW m1)
     ·have bm:(M == 0) = false:=by rw [hM.out];simp;omega
      have bm1:((t.data.length:Int) % 32 == 0) = false:=by simp;omega
      have bm2:((t.data.length:Int).tmod 32 == 0) = false:=by rw [Int.tmod_eq_emod_of_nonneg (by omega)];exact bm1
      replace hm:Hid (¬ t.data.length % 32 = 0):=hm
      have hno:Hid (¬ KindOk t):=fun h=>hm.out ((kd4 hk.out).1 h).whole
      have hSof:∀ w',Nw W w'→(fun w':World=>Nw W w'∧w'.heap[w.heap.size]? = some (.cells (thC t uL uC uK (.slice da t.data.length dc)).toArray 34 (0,0))) w':=fun w' hw=>⟨hw,(hw.block _ (heap_lt hA) (fun h=>h)).trans hA⟩
      have hW0:Nw W W.drew:=Fr.drew (Fr.refl _ W)
      have hS:=hSof _ hW0
      replace ht:=ht.nw hW0
      replace hSof:Hid _:=hSof
      refine wp_region_ord [] 18 [(0,true),(1,true),(2,true),(3,true),(4,true),(5,true),(6,true),(7,false),(8,false),(9,true),(10,true),(11,true),(13,true),(12,true),(14,false),(15,true),(16,true),(17,true)] (fun w':World=>Nw W w'∧w'.heap[w.heap.size]? = some (.cells (thC t uL uC uK (.slice da t.data.length dc)).toArray 34 (0,0))) (by kernel_rfl) (by kernel_rfl) ?_
      refine ord_quietL _ ?_ rfl hS rfl ?_ ?_
      rotate_left
      ·rintro w' ⟨hn,rhA⟩;go_simp;rfl
      simp only [pL,List.set]
      refine ord_quietL _ ?_ rfl hS rfl ?_ ?_
      rotate_left
      ·rintro w' ⟨hn,rhA⟩;have g0:w'.cell? ⟨w.heap.size,9,none⟩ = some (.slice da t.data.length dc):=cell_blk rhA rfl;go_simp;rfl
      simp only [pL,List.set]
      refine ord_quietL _ ?_ rfl hS rfl ?_ ?_
      rotate_left
      ·rintro w' ⟨hn,rhA⟩;go_simp;rfl
      simp only [pL,List.set]
      refine ord_quietL _ ?_ rfl hS rfl ?_ ?_
      rotate_left
      ·rintro w' ⟨hn,rhA⟩;go_simp;rfl
      simp only [pL,List.set]
      refine ord_quietL _ ?_ rfl hS rfl ?_ ?_
      rotate_left
      ·rintro w' ⟨hn,rhA⟩;go_simp;rfl
      simp only [pL,List.set]
      refine ord_quietL _ ?_ rfl hS rfl ?_ ?_
      rotate_left
      ·rintro w' ⟨hn,rhA⟩;go_simp;rfl
      simp only [pL,List.set]
      refine ord_skipL _ rfl hS rfl ?_
      simp only [pL,List.set]
      refine ord_actL _ rfl (fun K1 hK1=>?_)
      go_wp2
      refine hK1 _ _ (hSof.out _ hW0) ?_
      clear hK1 K1
      refine ord_actL _ rfl (fun K1 hK1=>?_)
      go_wp2
      refine hK1 _ _ (hSof.out _ hW0) ?_
      clear hK1 K1
      refine ord_quietL _ ?_ rfl hS rfl ?_ ?_
      rotate_left
      ·rintro w' ⟨hn,rhA⟩;go_simp;rfl
      simp only [pL,List.set]
      refine ord_quietL _ ?_ rfl hS rfl ?_ ?_
      rotate_left
      ·rintro w' ⟨hn,rhA⟩;go_simp;rfl
      simp only [pL,List.set]
      refine ord_skipL _ rfl hS rfl ?_
      simp only [pL,List.set]
      refine ord_skipL _ rfl hS rfl ?_
      simp only [pL,List.set]
      refine ord_skipL _ rfl hS rfl ?_
      simp only [pL,List.set]
      refine ord_actL _ rfl (fun K1 hK1=>?_)
      go_wp2
      refine hK1 _ _ (hSof.out _ hW0) ?_
      clear hK1 K1
      refine ord_skipL _ rfl hS rfl ?_
      simp only [pL,List.set]
      refine ord_skipL _ rfl hS rfl ?_
      simp only [pL,List.set]
      refine ord_quietL _ ?_ rfl hS rfl ?_ ?_
      rotate_left
      ·rintro w' ⟨hn,rhA⟩;go_simp;rfl
      simp only [pL,List.set]
      refine ord_tail ?_
      simp only [List.drop_succ_cons,List.drop_zero]
      go_wp2
      go_ret
      exact ans_no hno.out (nw_trans nW hW0)
    ·have bk4:(t.kind == 4) = false:=by simp [hk4]
     replace hk4:Hid (¬ t.kind = 4):=hk4
     by_cases hk5:t.kind = 5
     ·have bk5:(t.kind == 5) = true:=by simp [hk5]
      have hk:Hid (t.kind = 5):=hk5
      clear hk5
      go_upto_region 11 with fail
      clear a1
      by_cases hq:t.quota = 1
      ·have bq:(t.quota == 1) = true:=by simp [hq]
       replace hq:Hid (t.quota = 1):=hq
       refine wp_region_list ?_
       simp only [List.toList_toArray,List.append_eq,List.cons_append,List.nil_append]
       refine nd_quiet ?_ rfl ?_ ?_
       rotate_left
       ·go_simp;rfl
       simp only [pL,List.set]
       refine nd_quiet ?_ rfl ?_ ?_
       rotate_left
       ·have g0:W.cell? ⟨w.heap.size,6,none⟩ = some (.int .i64 t.quota):=cell_blk hA rfl;go_simp;rfl
       simp only [pL,List.set]
       refine nd_quiet ?_ rfl ?_ ?_
       rotate_left
       ·go_simp;rfl
       simp only [pL,List.set]
       refine nd_quiet ?_ rfl ?_ ?_
       rotate_left
       ·go_simp;rfl
       simp only [pL,List.set]
       refine nd_quiet ?_ rfl ?_ ?_
       rotate_left
       ·go_simp;rfl
       simp only [pL,List.set]
       refine nd_quiet ?_ rfl ?_ ?_
       rotate_left
       ·refine (run_load_sl _ W rfl (w.heap.size) rfl hA).trans ?_;rfl
       simp only [pL,List.set]
       have hcon:Hid _:=c_slT t W
       refine nd_call _ _ rfl hcon.out ?_ ?_
       ·first | (go_simp;done) | (go_simp;rfl)
       rintro e wk0 ⟨r,rfl,q1,qn⟩
       refine ⟨_,rfl,?_⟩
       simp only [pL,List.set]
       have m0:=qn
       replace ht:=ht.nw qn
       cases r with
       | true =>
        have y1:Hid _:=q1.1 rfl
        clear hcon qn q1
        refine nd_quiet ?_ rfl ?_ ?_
        rotate_left
        ·go_simp;rfl
        simp only [pL,List.set]
        refine nd_quiet ?_ rfl ?_ ?_
        rotate_left
        ·go_simp;rfl
        simp only [pL,List.set]
        have hyes:Hid (KindOk t):=(kd5 hk.out).2 ⟨hq.out,y1.out⟩
        go_wp2
        go_ret
        exact ans_yes hyes.out (nw_trans nW m0)
       | false =>
        have hno:Hid (¬ KindOk t):=fun h=>not_of_false q1 ((kd5 hk.out).1 h).slots
        clear hcon qn q1
        refine nd_quiet ?_ rfl ?_ ?_
        rotate_left
        ·go_simp;rfl
        simp only [pL,List.set]
        refine nd_quiet ?_ rfl ?_ ?_
        rotate_left
        ·go_simp;rfl
        simp only [pL,List.set]
        go_wp2
        go_ret
        exact ans_no hno.out (nw_trans nW m0)
      ·have bq:(t.quota == 1) = false:=by simp [hq]
       replace hq:Hid (¬ t.quota = 1):=hq
       have hno:Hid (¬ KindOk t):=fun h=>hq.out ((kd5 hk.out).1 h).quota
       refine wp_region_list ?_
       simp only [List.toList_toArray,List.append_eq,List.cons_append,List.nil_append]
       refine nd_quiet ?_ rfl ?_ ?_
       rotate_left
       ·go_simp;rfl
       simp only [pL,List.set]
       refine nd_quiet ?_ rfl ?_ ?_
       rotate_left
       ·have g0:W.cell? ⟨w.heap.size,6,none⟩ = some (.int .i64 t.quota):=cell_blk hA rfl;go_simp;rfl
       simp only [pL,List.set]
       refine nd_quiet ?_ rfl ?_ ?_
       rotate_left
       ·go_simp;rfl
       simp only [pL,List.set]
       refine nd_quiet ?_ rfl ?_ ?_
       rotate_left
       ·go_simp;rfl
       simp only [pL,List.set]
       refine nd_skip rfl ?_
       simp only [pL,List.set]
       refine nd_skip rfl ?_
       simp only [pL,List.set]
       refine nd_skip rfl ?_
       simp only [pL,List.set]
       refine nd_quiet ?_ rfl ?_ ?_
       rotate_left
       ·go_simp;rfl
       simp only [pL,List.set]
       refine nd_quiet ?_ rfl ?_ ?_
       rotate_left
       ·go_simp;rfl
       simp only [pL,List.set]
       go_wp2
       go_ret
       exact ans_no hno.out nW
     ·have bk5:(t.kind == 5) = false:=by simp [hk5]
      replace hk5:Hid (¬ t.kind = 5):=hk5
      by_cases hk6:t.kind = 6
      ·have bk6:(t.kind == 6) = true:=by simp [hk6]
       have hk:Hid (t.kind = 6):=hk6
       clear hk6
       go_upto_region 13 with fail
       clear a1
       have a6:W.cell? ⟨w.heap.size,6,none⟩ = some (.int .i64 t.quota):=cell_blk hA rfl
       by_cases hq:t.quota = 1
       ·have bq:(t.quota == 1) = true:=by simp [hq]
        replace hq:Hid (t.quota = 1):=hq
        have hyes:Hid (KindOk t):=(kd6 hk.out).2 hq.out
        go_wp2
        go_ret
        exact ans_yes hyes.out nW
       ·have bq:(t.quota == 1) = false:=by simp [hq]
        replace hq:Hid (¬ t.quota = 1):=hq
        have hno:Hid (¬ KindOk t):=fun h=>hq.out ((kd6 hk.out).1 h)
        go_wp2
        go_ret
        exact ans_no hno.out nW
      ·have bk6:(t.kind == 6) = false:=by simp [hk6]
       replace hk6:Hid (¬ t.kind = 6):=hk6
       have hno:Hid (¬ KindOk t):=fun h=>by rcases kind_of h with e | e | e | e | e | e <;> first | exact hk1.out e | exact hk2.out e | exact hk3.out e | exact hk4.out e | exact hk5.out e | exact hk6.out e
       go_wp2
       go_ret
       exact ans_no hno.out nW
end Go.Proofs.Ytgmfofngmfekbaa
