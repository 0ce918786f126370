/-
  Right: the program's.
-/
import Derived.Test.YtgmfofngmfekbaaThR5S
namespace Go.Proofs.Ytgmfofngmfekbaa
set_option linter.unusedVariables false
set_option linter.unusedSimpArgs false
set_option maxRecDepth 20000
open Go.RowKit

set_option maxHeartbeats 6400000 in
theorem c_tright {X:Nat→Prop} {t:Th} {uL uC uK uD:Value} (w:World) (h:ThAt X w t uL uC uK uD) (l1:t.cats.length ≤ 8796093022208) (l2:t.ccats.length ≤ 8796093022208) :
  Calls Try.prog 58 #[thV t uL uC uK uD] w (AnsP (RightT t) w):=by
 obtain ⟨W,hW⟩:∃ W,Hid (W = w.alloc (.cells (thC t uL uC uK uD).toArray 34)):=⟨_,rfl⟩
 have nW:Nw w W:=by rw [hW.out];exact nw_alloc (nw_refl w) _
 have hA:W.heap[w.heap.size]? = some (.cells (thC t uL uC uK uD).toArray 34 (0,0)):=by rw [hW.out];exact heap_alloc_new w _
 have ht:=h.nw nW
 clear h
 go_enter Try.func58,Try.ntmps58
 go_upto_region 1 with (refine wpList_box_agg rfl 34 _ rfl (thV t uL uC uK uD) _ rfl rfl ?_)
 rw [← hW.out]
 clear hW
 have hSof:∀ w',Nw W w'→(fun w':World=>Nw W w'∧w'.heap[w.heap.size]? = some (.cells (thC t uL uC uK uD).toArray 34 (0,0))) w':=fun w' hw=>⟨hw,(hw.block _ (heap_lt hA) (fun h=>h)).trans hA⟩
 have hW0:Nw W W.drew:=Fr.drew (Fr.refl _ W)
 have hS:=hSof _ hW0
 replace ht:=ht.nw hW0
 replace hSof:Hid _:=hSof
 refine wp_region_ord [] 28 [(0,true),(1,true),(2,false),(3,true),(4,true),(5,true),(6,false),(7,true),(8,true),(9,true),(10,true),(11,false),(12,true),(13,true),(14,true),(15,false),(16,true),(17,true),(18,true),(19,true),(20,true),(21,false),(22,false),(23,true),(24,true),(25,true),(26,false),(27,true)] (fun w':World=>Nw W w'∧w'.heap[w.heap.size]? = some (.cells (thC t uL uC uK uD).toArray 34 (0,0))) (by kernel_rfl) (by kernel_rfl) ?_
 refine ord_quietL _ ?_ rfl hS rfl ?_ ?_
 rotate_left
 ·rintro w' ⟨hn,rhA⟩;go_simp;rfl
 simp only [pL,List.set]
 refine ord_quietL _ ?_ rfl hS rfl ?_ ?_
 rotate_left
 ·rintro w' ⟨hn,rhA⟩;have g0:w'.cell? ⟨w.heap.size,0,none⟩ = some (.int .u64 t.id):=cell_blk rhA rfl;go_simp;rfl
 simp only [pL,List.set]
 refine ord_actL _ rfl (fun K1 hK1=>?_)
 have hcon:Hid _:=c_isID t.id W.drew
 unfold AnsP at hcon
 go_wp2_with (go_at_call 82;refine Calls.mono hcon.out ?_;rintro e wk0 ⟨r,rfl,q1,qn⟩)
 have m0:=nw_trans hW0 qn
 replace ht:=ht.nw qn
 cases r with
 | true =>
  have y1:Hid (idOk t.id):=q1.1 rfl
  refine hK1 _ _ (hSof.out _ m0) ?_
  clear hK1 K1 hcon qn hS hW0 q1
  have hS:=hSof.out _ m0
  refine ord_quietL _ ?_ rfl hS rfl ?_ ?_
  rotate_left
  ·rintro w' ⟨hn,rhA⟩;go_simp;rfl
  simp only [pL,List.set]
  refine ord_quietL _ ?_ rfl hS rfl ?_ ?_
  rotate_left
  ·rintro w' ⟨hn,rhA⟩;go_simp;rfl
  simp only [pL,List.set]
  refine ord_quietL _ ?_ rfl hS rfl ?_ ?_
  rotate_left
  ·rintro w' ⟨hn,rhA⟩;have g0:w'.cell? ⟨w.heap.size,2,none⟩ = some (.int .i64 t.df):=cell_blk rhA rfl;have g1:w'.cell? ⟨w.heap.size,3,none⟩ = some (uL):=cell_blk rhA rfl;go_simp;rfl
  simp only [pL,List.set]
  refine ord_actL _ rfl (fun K1 hK1=>?_)
  have hcon:Hid _:=c_right t.df wk0 ht.l (by omega)
  unfold RgtP labV at hcon
  go_wp2_with (go_at_call 83;refine Calls.mono hcon.out ?_;rintro e wk1 ⟨r,rfl,q1,qn⟩)
  have m1:=nw_trans m0 qn
  replace ht:=ht.nw qn
  cases r with
  | true =>
   have y2:Hid (Rgt t.df t.cats):=q1.1 rfl
   refine hK1 _ _ (hSof.out _ m1) ?_
   clear hK1 K1 hcon qn hS m0 q1
   have hS:=hSof.out _ m1
   refine ord_quietL _ ?_ rfl hS rfl ?_ ?_
   rotate_left
   ·rintro w' ⟨hn,rhA⟩;go_simp;rfl
   simp only [pL,List.set]
   refine ord_quietL _ ?_ rfl hS rfl ?_ ?_
   rotate_left
   ·rintro w' ⟨hn,rhA⟩;go_simp;rfl
   simp only [pL,List.set]
   refine ord_quietL _ ?_ rfl hS rfl ?_ ?_
   rotate_left
   ·rintro w' ⟨hn,rhA⟩;go_simp;rfl
   simp only [pL,List.set]
   refine ord_quietL _ ?_ rfl hS rfl ?_ ?_
   rotate_left
   ·rintro w' ⟨hn,rhA⟩;have g0:w'.cell? ⟨w.heap.size,1,none⟩ = some (.int .i64 t.kind):=cell_blk rhA rfl;go_simp;rfl
   simp only [pL,List.set]
   refine ord_actL _ rfl (fun K1 hK1=>?_)
   have hcon:Hid _:=c_mayOwn t.kind wk1
   unfold AnsP at hcon
   go_wp2_with (go_at_call 84;refine Calls.mono hcon.out ?_;rintro e wk2 ⟨r,rfl,q1,qn⟩)
   have m2:=nw_trans m1 qn
   replace ht:=ht.nw qn
   cases r with
   | true =>
    have y3:Hid (t.kind = 2∨t.kind = 3∨Pu t.df t.cats):=(q1.1 rfl).elim .inl (fun h=>.inr (.inl h))
    refine hK1 _ _ (hSof.out _ m2) ?_
    clear hK1 K1 hcon qn hS m1 q1
    have hS:=hSof.out _ m2
    refine ord_quietL _ ?_ rfl hS rfl ?_ ?_
    rotate_left
    ·rintro w' ⟨hn,rhA⟩;go_simp;rfl
    simp only [pL,List.set]
    refine ord_skipL _ rfl hS rfl ?_
    simp only [pL,List.set]
    refine ord_skipL _ rfl hS rfl ?_
    simp only [pL,List.set]
    refine ord_actL _ rfl (fun K1 hK1=>?_)
    go_wp2
    refine hK1 _ _ (hSof.out _ m2) ?_
    clear hK1 K1
    refine ord_quietL _ ?_ rfl hS rfl ?_ ?_
    rotate_left
    ·rintro w' ⟨hn,rhA⟩;go_simp;rfl
    simp only [pL,List.set]
    refine ord_quietL _ ?_ rfl hS rfl ?_ ?_
    rotate_left
    ·rintro w' ⟨hn,rhA⟩;go_simp;rfl
    simp only [pL,List.set]
    refine ord_quietL _ ?_ rfl hS rfl ?_ ?_
    rotate_left
    ·rintro w' ⟨hn,rhA⟩;go_simp;rfl
    simp only [pL,List.set]
    refine ord_quietL _ ?_ rfl hS rfl ?_ ?_
    rotate_left
    ·rintro w' ⟨hn,rhA⟩;refine (run_load_th _ w' rfl (w.heap.size) rfl rhA).trans ?_;rfl
    simp only [pL,List.set]
    refine ord_quietL _ ?_ rfl hS rfl ?_ ?_
    rotate_left
    ·rintro w' ⟨hn,rhA⟩;refine (run_load_th _ w' rfl (w.heap.size) rfl rhA).trans ?_;rfl
    simp only [pL,List.set]
    refine ord_actL _ rfl (fun K1 hK1=>?_)
    have hcon:Hid _:=c_ofKind wk2 ht
    go_wp2_with (go_at_call 86;refine Calls.mono hcon.out ?_;rintro e wk3 ⟨vL,vC,vK,vD,rfl,hv,qn⟩)
    have m3:=nw_trans m2 qn
    replace ht:=ht.nw qn
    refine hK1 _ _ (hSof.out _ m3) ?_
    clear hK1 K1 hcon qn hS m2
    have hS:=hSof.out _ m3
    refine ord_actL _ rfl (fun K1 hK1=>?_)
    have hcon:Hid _:=c_tsame wk3 ht hv
    unfold AnsP at hcon
    go_wp2_with (go_at_call 47;refine Calls.mono hcon.out ?_;rintro e wk4 ⟨r,rfl,q1,qn⟩)
    have m4:=nw_trans m3 qn
    replace ht:=ht.nw qn
    replace hv:=hv.nw qn
    cases r with
    | true =>
     have y5:Hid (t = ofK t):=q1.1 rfl
     refine hK1 _ _ (hSof.out _ m4) ?_
     clear hK1 K1 hcon qn hS m3 q1
     have hS:=hSof.out _ m4
     refine ord_quietL _ ?_ rfl hS rfl ?_ ?_
     rotate_left
     ·rintro w' ⟨hn,rhA⟩;go_simp;rfl
     simp only [pL,List.set]
     refine ord_quietL _ ?_ rfl hS rfl ?_ ?_
     rotate_left
     ·rintro w' ⟨hn,rhA⟩;go_simp;rfl
     simp only [pL,List.set]
     refine ord_quietL _ ?_ rfl hS rfl ?_ ?_
     rotate_left
     ·rintro w' ⟨hn,rhA⟩;refine (run_load_th _ w' rfl (w.heap.size) rfl rhA).trans ?_;rfl
     simp only [pL,List.set]
     refine ord_actL _ rfl (fun K1 hK1=>?_)
     have hcon:Hid _:=c_parts wk4 ht l2
     unfold AnsP at hcon
     go_wp2_with (go_at_call 87;refine Calls.mono hcon.out ?_;rintro e wk5 ⟨r,rfl,q1,qn⟩)
     have m5:=nw_trans m4 qn
     replace ht:=ht.nw qn
     replace hv:=hv.nw qn
     cases r with
     | true =>
      have y6:Hid (KindOk t):=q1.1 rfl
      refine hK1 _ _ (hSof.out _ m5) ?_
      clear hK1 K1 hcon qn hS m4 q1
      have hS:=hSof.out _ m5
      refine ord_quietL _ ?_ rfl hS rfl ?_ ?_
      rotate_left
      ·rintro w' ⟨hn,rhA⟩;go_simp;rfl
      simp only [pL,List.set]
      refine ord_tail ?_
      simp only [List.drop_succ_cons,List.drop_zero]
      have hyes:Hid (RightT t):=⟨y1.out,y2.out,y3.out,y5.out,y6.out⟩
      go_wp2
      go_ret
      exact ans_yes hyes.out (nw_trans nW m5)
     | false =>
      have hno:Hid (¬ RightT t):=fun h=>not_of_false q1 h.parts
      refine hK1 _ _ (hSof.out _ m5) ?_
      clear hK1 K1 hcon qn hS m4 q1
      have hS:=hSof.out _ m5
      refine ord_quietL _ ?_ rfl hS rfl ?_ ?_
      rotate_left
      ·rintro w' ⟨hn,rhA⟩;go_simp;rfl
      simp only [pL,List.set]
      refine ord_tail ?_
      simp only [List.drop_succ_cons,List.drop_zero]
      go_wp2
      go_ret
      exact ans_no hno.out (nw_trans nW m5)
    | false =>
     have hno:Hid (¬ RightT t):=fun h=>not_of_false q1 h.same
     refine hK1 _ _ (hSof.out _ m4) ?_
     clear hK1 K1 hcon qn hS m3 q1
     have hS:=hSof.out _ m4
     refine ord_quietL _ ?_ rfl hS rfl ?_ ?_
     rotate_left
     ·rintro w' ⟨hn,rhA⟩;go_simp;rfl
     simp only [pL,List.set]
     refine ord_quietL _ ?_ rfl hS rfl ?_ ?_
     rotate_left
     ·rintro w' ⟨hn,rhA⟩;go_simp;rfl
     simp only [pL,List.set]
     refine ord_skipL _ rfl hS rfl ?_
     simp only [pL,List.set]
     refine ord_actL _ rfl (fun K1 hK1=>?_)
     go_wp2
     refine hK1 _ _ (hSof.out _ m4) ?_
     clear hK1 K1
     refine ord_quietL _ ?_ rfl hS rfl ?_ ?_
     rotate_left
     ·rintro w' ⟨hn,rhA⟩;go_simp;rfl
     simp only [pL,List.set]
     refine ord_tail ?_
     simp only [List.drop_succ_cons,List.drop_zero]
     go_wp2
     go_ret
     exact ans_no hno.out (nw_trans nW m4)
   | false =>
    have z3:Hid (¬ (t.kind = 2∨t.kind = 3)):=not_of_false q1
    refine hK1 _ _ (hSof.out _ m2) ?_
    clear hK1 K1 hcon qn hS m1 q1
    have hS:=hSof.out _ m2
    refine ord_quietL _ ?_ rfl hS rfl ?_ ?_
    rotate_left
    ·rintro w' ⟨hn,rhA⟩;go_simp;rfl
    simp only [pL,List.set]
    refine ord_quietL _ ?_ rfl hS rfl ?_ ?_
    rotate_left
    ·rintro w' ⟨hn,rhA⟩;go_simp;rfl
    simp only [pL,List.set]
    refine ord_quietL _ ?_ rfl hS rfl ?_ ?_
    rotate_left
    ·rintro w' ⟨hn,rhA⟩;have g0:w'.cell? ⟨w.heap.size,2,none⟩ = some (.int .i64 t.df):=cell_blk rhA rfl;have g1:w'.cell? ⟨w.heap.size,3,none⟩ = some (uL):=cell_blk rhA rfl;go_simp;rfl
    simp only [pL,List.set]
    refine ord_actL _ rfl (fun K1 hK1=>?_)
    have hcon:Hid _:=c_isPure t.df wk2 ht.l
    unfold AnsP labV at hcon
    go_wp2_with (go_at_call 85;refine Calls.mono hcon.out ?_;rintro e wk3 ⟨r,rfl,q1,qn⟩)
    have m3:=nw_trans m2 qn
    replace ht:=ht.nw qn
    cases r with
    | true =>
     have y3p:Hid (Pc t.cats):=q1.1 rfl
     refine hK1 _ _ (hSof.out _ m3) ?_
     clear hK1 K1 hcon qn hS m2 q1
     have hS:=hSof.out _ m3
     refine ord_quietL _ ?_ rfl hS rfl ?_ ?_
     rotate_left
     ·rintro w' ⟨hn,rhA⟩;go_simp;rfl
     simp only [pL,List.set]
     refine ord_quietL _ ?_ rfl hS rfl ?_ ?_
     rotate_left
     ·rintro w' ⟨hn,rhA⟩;go_simp;rfl
     simp only [pL,List.set]
     refine ord_quietL _ ?_ rfl hS rfl ?_ ?_
     rotate_left
     ·rintro w' ⟨hn,rhA⟩;go_simp;rfl
     simp only [pL,List.set]
     refine ord_quietL _ ?_ rfl hS rfl ?_ ?_
     rotate_left
     ·rintro w' ⟨hn,rhA⟩;refine (run_load_th _ w' rfl (w.heap.size) rfl rhA).trans ?_;rfl
     simp only [pL,List.set]
     refine ord_quietL _ ?_ rfl hS rfl ?_ ?_
     rotate_left
     ·rintro w' ⟨hn,rhA⟩;refine (run_load_th _ w' rfl (w.heap.size) rfl rhA).trans ?_;rfl
     simp only [pL,List.set]
     refine ord_actL _ rfl (fun K1 hK1=>?_)
     have hcon:Hid _:=c_ofKind wk3 ht
     go_wp2_with (go_at_call 86;refine Calls.mono hcon.out ?_;rintro e wk4 ⟨vL,vC,vK,vD,rfl,hv,qn⟩)
     have m4:=nw_trans m3 qn
     replace ht:=ht.nw qn
     refine hK1 _ _ (hSof.out _ m4) ?_
     clear hK1 K1 hcon qn hS m3
     have hS:=hSof.out _ m4
     refine ord_actL _ rfl (fun K1 hK1=>?_)
     have hcon:Hid _:=c_tsame wk4 ht hv
     unfold AnsP at hcon
     go_wp2_with (go_at_call 47;refine Calls.mono hcon.out ?_;rintro e wk5 ⟨r,rfl,q1,qn⟩)
     have m5:=nw_trans m4 qn
     replace ht:=ht.nw qn
     replace hv:=hv.nw qn
     cases r with
     | true =>
      have y5:Hid (t = ofK t):=q1.1 rfl
      refine hK1 _ _ (hSof.out _ m5) ?_
      clear hK1 K1 hcon qn hS m4 q1
      have hS:=hSof.out _ m5
      refine ord_quietL _ ?_ rfl hS rfl ?_ ?_
      rotate_left
      ·rintro w' ⟨hn,rhA⟩;go_simp;rfl
      simp only [pL,List.set]
      refine ord_quietL _ ?_ rfl hS rfl ?_ ?_
      rotate_left
      ·rintro w' ⟨hn,rhA⟩;go_simp;rfl
      simp only [pL,List.set]
      refine ord_quietL _ ?_ rfl hS rfl ?_ ?_
      rotate_left
      ·rintro w' ⟨hn,rhA⟩;refine (run_load_th _ w' rfl (w.heap.size) rfl rhA).trans ?_;rfl
      simp only [pL,List.set]
      refine ord_actL _ rfl (fun K1 hK1=>?_)
      have hcon:Hid _:=c_parts wk5 ht l2
      unfold AnsP at hcon
      go_wp2_with (go_at_call 87;refine Calls.mono hcon.out ?_;rintro e wk6 ⟨r,rfl,q1,qn⟩)
      have m6:=nw_trans m5 qn
      replace ht:=ht.nw qn
      replace hv:=hv.nw qn
      cases r with
      | true =>
       have y6:Hid (KindOk t):=q1.1 rfl
       refine hK1 _ _ (hSof.out _ m6) ?_
       clear hK1 K1 hcon qn hS m5 q1
       have hS:=hSof.out _ m6
       refine ord_quietL _ ?_ rfl hS rfl ?_ ?_
       rotate_left
       ·rintro w' ⟨hn,rhA⟩;go_simp;rfl
       simp only [pL,List.set]
       refine ord_tail ?_
       simp only [List.drop_succ_cons,List.drop_zero]
       have hyes:Hid (RightT t):=⟨y1.out,y2.out,(.inr (.inr ((pu_of_rgt y2.out).2 y3p.out))),y5.out,y6.out⟩
       go_wp2
       go_ret
       exact ans_yes hyes.out (nw_trans nW m6)
      | false =>
       have hno:Hid (¬ RightT t):=fun h=>not_of_false q1 h.parts
       refine hK1 _ _ (hSof.out _ m6) ?_
       clear hK1 K1 hcon qn hS m5 q1
       have hS:=hSof.out _ m6
       refine ord_quietL _ ?_ rfl hS rfl ?_ ?_
       rotate_left
       ·rintro w' ⟨hn,rhA⟩;go_simp;rfl
       simp only [pL,List.set]
       refine ord_tail ?_
       simp only [List.drop_succ_cons,List.drop_zero]
       go_wp2
       go_ret
       exact ans_no hno.out (nw_trans nW m6)
     | false =>
      have hno:Hid (¬ RightT t):=fun h=>not_of_false q1 h.same
      refine hK1 _ _ (hSof.out _ m5) ?_
      clear hK1 K1 hcon qn hS m4 q1
      have hS:=hSof.out _ m5
      refine ord_quietL _ ?_ rfl hS rfl ?_ ?_
      rotate_left
      ·rintro w' ⟨hn,rhA⟩;go_simp;rfl
      simp only [pL,List.set]
      refine ord_quietL _ ?_ rfl hS rfl ?_ ?_
      rotate_left
      ·rintro w' ⟨hn,rhA⟩;go_simp;rfl
      simp only [pL,List.set]
      refine ord_skipL _ rfl hS rfl ?_
      simp only [pL,List.set]
      refine ord_actL _ rfl (fun K1 hK1=>?_)
      go_wp2
      refine hK1 _ _ (hSof.out _ m5) ?_
      clear hK1 K1
      refine ord_quietL _ ?_ rfl hS rfl ?_ ?_
      rotate_left
      ·rintro w' ⟨hn,rhA⟩;go_simp;rfl
      simp only [pL,List.set]
      refine ord_tail ?_
      simp only [List.drop_succ_cons,List.drop_zero]
      go_wp2
      go_ret
      exact ans_no hno.out (nw_trans nW m5)
    | false =>
     have hno:Hid (¬ RightT t):=fun h=>by rcases h.pu with e | e | e;exact z3.out (.inl e);exact z3.out (.inr e);exact not_of_false q1 e.2
     refine hK1 _ _ (hSof.out _ m3) ?_
     clear hK1 K1 hcon qn hS m2 q1
     have hS:=hSof.out _ m3
     refine ord_quietL _ ?_ rfl hS rfl ?_ ?_
     rotate_left
     ·rintro w' ⟨hn,rhA⟩;go_simp;rfl
     simp only [pL,List.set]
     refine ord_quietL _ ?_ rfl hS rfl ?_ ?_
     rotate_left
     ·rintro w' ⟨hn,rhA⟩;go_simp;rfl
     simp only [pL,List.set]
     refine ord_quietL _ ?_ rfl hS rfl ?_ ?_
     rotate_left
     ·rintro w' ⟨hn,rhA⟩;go_simp;rfl
     simp only [pL,List.set]
     refine ord_skipL _ rfl hS rfl ?_
     simp only [pL,List.set]
     refine ord_skipL _ rfl hS rfl ?_
     simp only [pL,List.set]
     refine ord_actL _ rfl (fun K1 hK1=>?_)
     go_wp2
     refine hK1 _ _ (hSof.out _ m3) ?_
     clear hK1 K1
     refine ord_actL _ rfl (fun K1 hK1=>?_)
     go_wp2
     refine hK1 _ _ (hSof.out _ m3) ?_
     clear hK1 K1
     refine ord_quietL _ ?_ rfl hS rfl ?_ ?_
     rotate_left
     ·rintro w' ⟨hn,rhA⟩;go_simp;rfl
     simp only [pL,List.set]
     refine ord_quietL _ ?_ rfl hS rfl ?_ ?_
     rotate_left
     ·rintro w' ⟨hn,rhA⟩;go_simp;rfl
     simp only [pL,List.set]
     refine ord_skipL _ rfl hS rfl ?_
     simp only [pL,List.set]
     refine ord_actL _ rfl (fun K1 hK1=>?_)
     go_wp2
     refine hK1 _ _ (hSof.out _ m3) ?_
     clear hK1 K1
     refine ord_quietL _ ?_ rfl hS rfl ?_ ?_
     rotate_left
     ·rintro w' ⟨hn,rhA⟩;go_simp;rfl
     simp only [pL,List.set]
     refine ord_tail ?_
     simp only [List.drop_succ_cons,List.drop_zero]
     go_wp2
     go_ret
     exact ans_no hno.out (nw_trans nW m3)
  | false =>
   have hno:Hid (¬ RightT t):=fun h=>not_of_false q1 h.rgt
   refine hK1 _ _ (hSof.out _ m1) ?_
   clear hK1 K1 hcon qn hS m0 q1
   have hS:=hSof.out _ m1
   refine ord_quietL _ ?_ rfl hS rfl ?_ ?_
   rotate_left
   ·rintro w' ⟨hn,rhA⟩;go_simp;rfl
   simp only [pL,List.set]
   refine ord_quietL _ ?_ rfl hS rfl ?_ ?_
   rotate_left
   ·rintro w' ⟨hn,rhA⟩;go_simp;rfl
   simp only [pL,List.set]
   refine ord_skipL _ rfl hS rfl ?_
   simp only [pL,List.set]
   refine ord_skipL _ rfl hS rfl ?_
   simp only [pL,List.set]
   refine ord_actL _ rfl (fun K1 hK1=>?_)
   go_wp2
   refine hK1 _ _ (hSof.out _ m1) ?_
   clear hK1 K1
   refine ord_skipL _ rfl hS rfl ?_
   simp only [pL,List.set]
   refine ord_skipL _ rfl hS rfl ?_
   simp only [pL,List.set]
   refine ord_skipL _ rfl hS rfl ?_
   simp only [pL,List.set]
   refine ord_actL _ rfl (fun K1 hK1=>?_)
   go_wp2
   refine hK1 _ _ (hSof.out _ m1) ?_
   clear hK1 K1
   refine ord_skipL _ rfl hS rfl ?_
   simp only [pL,List.set]
   refine ord_quietL _ ?_ rfl hS rfl ?_ ?_
   rotate_left
   ·rintro w' ⟨hn,rhA⟩;go_simp;rfl
   simp only [pL,List.set]
   refine ord_quietL _ ?_ rfl hS rfl ?_ ?_
   rotate_left
   ·rintro w' ⟨hn,rhA⟩;go_simp;rfl
   simp only [pL,List.set]
   refine ord_skipL _ rfl hS rfl ?_
   simp only [pL,List.set]
   refine ord_skipL _ rfl hS rfl ?_
   simp only [pL,List.set]
   refine ord_actL _ rfl (fun K1 hK1=>?_)
   go_wp2
   refine hK1 _ _ (hSof.out _ m1) ?_
   clear hK1 K1
   refine ord_actL _ rfl (fun K1 hK1=>?_)
   go_wp2
   refine hK1 _ _ (hSof.out _ m1) ?_
   clear hK1 K1
   refine ord_quietL _ ?_ rfl hS rfl ?_ ?_
   rotate_left
   ·rintro w' ⟨hn,rhA⟩;go_simp;rfl
   simp only [pL,List.set]
   refine ord_quietL _ ?_ rfl hS rfl ?_ ?_
   rotate_left
   ·rintro w' ⟨hn,rhA⟩;go_simp;rfl
   simp only [pL,List.set]
   refine ord_skipL _ rfl hS rfl ?_
   simp only [pL,List.set]
   refine ord_actL _ rfl (fun K1 hK1=>?_)
   go_wp2
   refine hK1 _ _ (hSof.out _ m1) ?_
   clear hK1 K1
   refine ord_quietL _ ?_ rfl hS rfl ?_ ?_
   rotate_left
   ·rintro w' ⟨hn,rhA⟩;go_simp;rfl
   simp only [pL,List.set]
   refine ord_tail ?_
   simp only [List.drop_succ_cons,List.drop_zero]
   go_wp2
   go_ret
   exact ans_no hno.out (nw_trans nW m1)
 | false =>
  have hno:Hid (¬ RightT t):=fun h=>not_of_false q1 h.id
  refine hK1 _ _ (hSof.out _ m0) ?_
  clear hK1 K1 hcon qn hS hW0 q1
  have hS:=hSof.out _ m0
  refine ord_quietL _ ?_ rfl hS rfl ?_ ?_
  rotate_left
  ·rintro w' ⟨hn,rhA⟩;go_simp;rfl
  simp only [pL,List.set]
  refine ord_skipL _ rfl hS rfl ?_
  simp only [pL,List.set]
  refine ord_skipL _ rfl hS rfl ?_
  simp only [pL,List.set]
  refine ord_actL _ rfl (fun K1 hK1=>?_)
  go_wp2
  refine hK1 _ _ (hSof.out _ m0) ?_
  clear hK1 K1
  refine ord_quietL _ ?_ rfl hS rfl ?_ ?_
  rotate_left
  ·rintro w' ⟨hn,rhA⟩;go_simp;rfl
  simp only [pL,List.set]
  refine ord_quietL _ ?_ rfl hS rfl ?_ ?_
  rotate_left
  ·rintro w' ⟨hn,rhA⟩;go_simp;rfl
  simp only [pL,List.set]
  refine ord_skipL _ rfl hS rfl ?_
  simp only [pL,List.set]
  refine ord_skipL _ rfl hS rfl ?_
  simp only [pL,List.set]
  refine ord_actL _ rfl (fun K1 hK1=>?_)
  go_wp2
  refine hK1 _ _ (hSof.out _ m0) ?_
  clear hK1 K1
  refine ord_skipL _ rfl hS rfl ?_
  simp only [pL,List.set]
  refine ord_skipL _ rfl hS rfl ?_
  simp only [pL,List.set]
  refine ord_skipL _ rfl hS rfl ?_
  simp only [pL,List.set]
  refine ord_actL _ rfl (fun K1 hK1=>?_)
  go_wp2
  refine hK1 _ _ (hSof.out _ m0) ?_
  clear hK1 K1
  refine ord_skipL _ rfl hS rfl ?_
  simp only [pL,List.set]
  refine ord_quietL _ ?_ rfl hS rfl ?_ ?_
  rotate_left
  ·rintro w' ⟨hn,rhA⟩;go_simp;rfl
  simp only [pL,List.set]
  refine ord_quietL _ ?_ rfl hS rfl ?_ ?_
  rotate_left
  ·rintro w' ⟨hn,rhA⟩;go_simp;rfl
  simp only [pL,List.set]
  refine ord_skipL _ rfl hS rfl ?_
  simp only [pL,List.set]
  refine ord_skipL _ rfl hS rfl ?_
  simp only [pL,List.set]
  refine ord_actL _ rfl (fun K1 hK1=>?_)
  go_wp2
  refine hK1 _ _ (hSof.out _ m0) ?_
  clear hK1 K1
  refine ord_actL _ rfl (fun K1 hK1=>?_)
  go_wp2
  refine hK1 _ _ (hSof.out _ m0) ?_
  clear hK1 K1
  refine ord_quietL _ ?_ rfl hS rfl ?_ ?_
  rotate_left
  ·rintro w' ⟨hn,rhA⟩;go_simp;rfl
  simp only [pL,List.set]
  refine ord_quietL _ ?_ rfl hS rfl ?_ ?_
  rotate_left
  ·rintro w' ⟨hn,rhA⟩;go_simp;rfl
  simp only [pL,List.set]
  refine ord_skipL _ rfl hS rfl ?_
  simp only [pL,List.set]
  refine ord_actL _ rfl (fun K1 hK1=>?_)
  go_wp2
  refine hK1 _ _ (hSof.out _ m0) ?_
  clear hK1 K1
  refine ord_quietL _ ?_ rfl hS rfl ?_ ?_
  rotate_left
  ·rintro w' ⟨hn,rhA⟩;go_simp;rfl
  simp only [pL,List.set]
  refine ord_tail ?_
  simp only [List.drop_succ_cons,List.drop_zero]
  go_wp2
  go_ret
  exact ans_no hno.out (nw_trans nW m0)
end Go.Proofs.Ytgmfofngmfekbaa
