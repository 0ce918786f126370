/-
  The document's Right: directories.
-/
import Derived.Test.YtgmfofngmfekbaaThX5S
namespace Go.Proofs.Ytgmfofngmfekbaa
set_option linter.unusedVariables false
set_option linter.unusedSimpArgs false
set_option maxRecDepth 20000
open Go.RowKit

set_option maxRecDepth 100000 in
set_option maxHeartbeats 6400000 in
theorem c_rk1 {X:Nat→Prop} {t:Th} {uL uC uK uD:Value} (w:World) (h:ThAt X w t uL uC uK uD) (hwf:WfT t) (l1:t.cats.length ≤ 8796093022208) (l2:t.ccats.length ≤ 8796093022208) (h1:idOk t.id) (h2:Rgt t.df t.cats) (h3:Pu t.df t.cats) (hk:t.kind = 1) :
  Calls Try.prog 35 #[(thV t uL uC uK uD)] w (AnsP (t = ofK t∧KindOk t) w):=by
 have bk1:(t.kind == 1) = true:=by simp [hk]
 have bk2:(t.kind == 2) = false:=by simp [hk]
 have bk3:(t.kind == 3) = false:=by simp [hk]
 have bk4:(t.kind == 4) = false:=by simp [hk]
 have bk5:(t.kind == 5) = false:=by simp [hk]
 have bk6:(t.kind == 6) = false:=by simp [hk]
 have bn2:(t.kind != 2) = true:=by simp [hk]
 have bn3:(t.kind != 3) = true:=by simp [hk]
 replace h1:Hid _:=h1
 replace h2:Hid _:=h2
 replace h3:Hid _:=h3
 obtain ⟨xa,xc,hfL⟩:∃ a c,uL = .slice a t.cats.length c:=by obtain ⟨a,c,e,_⟩:=h.l.form;exact ⟨a,c,e⟩
 replace hfL:Hid _:=hfL
 obtain ⟨ka,kc,hfK,hk1l,hk1m⟩:∃ a c,uK = .slice a t.links.length c∧t.links.length ≤ c∧c ≤ 9223372036854775807:=by obtain ⟨a,c,e,h1,h2⟩:=h.k.form;exact ⟨a,c,e,h1,h2⟩
 subst hfK
 obtain ⟨W,hW⟩:∃ W,Hid (W = w.alloc (.cells (thC t uL uC (.slice ka t.links.length kc) uD).toArray 34)):=⟨_,rfl⟩
 have nW:Nw w W:=by rw [hW.out];exact nw_alloc (nw_refl w) _
 have hA:W.heap[w.heap.size]? = some (.cells (thC t uL uC (.slice ka t.links.length kc) uD).toArray 34 (0,0)):=by rw [hW.out];exact heap_alloc_new w _
 have ht:=(h.mono (X':=fun b=>b < w.heap.size) (fun b _ hb=>hb)).nw nW
 clear h
 go_enter Try.func35,Try.ntmps35
 go_upto_region 1 with (refine wpList_box_agg rfl 34 _ rfl (thV t uL uC (.slice ka t.links.length kc) uD) _ rfl rfl ?_)
 rw [← hW.out]
 clear hW
 have hPl:Hid (w.heap.size < W.heap.size):=heap_lt hA
 have hq1:Hid _:=c_rid t.id W
 unfold AnsP at hq1
 have a0:W.cell? ⟨w.heap.size,0,none⟩ = some (.int .u64 t.id):=cell_blk hA rfl
 have a1:W.cell? ⟨w.heap.size,1,none⟩ = some (.int .i64 t.kind):=cell_blk hA rfl
 have a2:W.cell? ⟨w.heap.size,2,none⟩ = some (.int .i64 t.df):=cell_blk hA rfl
 have a3:W.cell? ⟨w.heap.size,3,none⟩ = some (uL):=cell_blk hA rfl
 go_wp2_with (first | (go_at_call 61;refine Calls.mono hq1.out ?_;rintro e W1 ⟨r,rfl,q,n1⟩;obtain rfl:=q.2 h1.out;refine stop_here ?_))
 unfold Hid
 clear hq1 q a0 a1 a2 a3
 replace hA:=(n1.block _ (heap_lt hA) (fun h=>h)).trans hA
 replace ht:=ht.nw n1
 replace nW:=nw_trans nW n1
 have hq1:Hid _:=c_rright t.df W1 ht.l (by omega)
 unfold RgtP labV at hq1
 have a0:W1.cell? ⟨w.heap.size,0,none⟩ = some (.int .u64 t.id):=cell_blk hA rfl
 have a1:W1.cell? ⟨w.heap.size,1,none⟩ = some (.int .i64 t.kind):=cell_blk hA rfl
 have a2:W1.cell? ⟨w.heap.size,2,none⟩ = some (.int .i64 t.df):=cell_blk hA rfl
 have a3:W1.cell? ⟨w.heap.size,3,none⟩ = some (uL):=cell_blk hA rfl
 go_wp2_with (first | (go_at_call 62;refine Calls.mono hq1.out ?_;rintro e W2 ⟨r,rfl,q,n2⟩;obtain rfl:=q.2 h2.out;refine stop_here ?_))
 unfold Hid
 clear hq1 q a0 a1 a2 a3
 replace hA:=(n2.block _ (heap_lt hA) (fun h=>h)).trans hA
 replace ht:=ht.nw n2
 replace nW:=nw_trans nW n2
 have hq1:Hid _:=c_rpure t.df W2 ht.l
 unfold AnsP labV at hq1
 have a1:W2.cell? ⟨w.heap.size,1,none⟩ = some (.int .i64 t.kind):=cell_blk hA rfl
 have a2:W2.cell? ⟨w.heap.size,2,none⟩ = some (.int .i64 t.df):=cell_blk hA rfl
 have a3:W2.cell? ⟨w.heap.size,3,none⟩ = some (uL):=cell_blk hA rfl
 go_wp2_with (first | (go_at_call 63;refine Calls.mono hq1.out ?_;rintro e W3 ⟨r,rfl,q,n3⟩;obtain rfl:=q.2 h3.out;refine stop_here ?_))
 unfold Hid
 clear hq1 q a1 a2 a3
 replace hA:=(n3.block _ (heap_lt hA) (fun h=>h)).trans hA
 replace ht:=ht.nw n3
 replace nW:=nw_trans nW n3
 have a1:W3.cell? ⟨w.heap.size,1,none⟩ = some (.int .i64 t.kind):=cell_blk hA rfl
 go_upto_region 3 with fail
 clear a1
 replace hPl:Hid (w.heap.size < W3.heap.size):=heap_lt hA
 have hrA:=range_all hA
 obtain ⟨Y,hY⟩:∃ Y,Hid (Y = W3.alloc (.cells (thC zeroT (.slice none 0 0) (.slice none 0 0) (.slice none 0 0) (.slice none 0 0)).toArray 34)):=⟨_,rfl⟩
 have hP:Y.heap[W3.heap.size]? = some (.cells (thC zeroT (.slice none 0 0) (.slice none 0 0) (.slice none 0 0) (.slice none 0 0)).toArray 34 (0,0)):=by rw [hY.out];exact heap_alloc_new W3 _
 have nY:Nw W3 Y:=by rw [hY.out];exact nw_alloc (nw_refl _) _
 obtain ⟨V,hV⟩:∃ V,Hid (V = Y.setRow W3.heap.size (thC t uL uC (.slice ka t.links.length kc) uD).toArray):=⟨_,rfl⟩
 have hB:V.heap[W3.heap.size]? = some (.cells (thC t uL uC (.slice ka t.links.length kc) uD).toArray 34 (0,0)):=by rw [hV.out];exact setRow_heap _ _ _ _ _ _ hP
 have nV:Nw W3 V:=by rw [hV.out];exact Fr.setRow nY (.inr (Nat.le_refl _)) _
 have hone:=ht.one
 replace hA:=(nV.block _ (heap_lt hA) (fun h=>h)).trans hA
 replace ht:=ht.nw nV
 replace nW:=nw_trans nW nV
 go_wp2_with (first | (refine wpList_load_as rfl 34 _ rfl (w.heap.size) 0 rfl (thV t uL uC (.slice ka t.links.length kc) uD) _ rfl hrA Try.rowT Try.sizeT ?_) | (refine wpList_alloc_agg rfl 34 rfl _ Try.zeroTh ?_;rw [← hY.out];refine stop_here ?_))
 unfold Hid
 refine wpList_store_all rfl 34 _ _ rfl W3.heap.size rfl (thV t uL uC (.slice ka t.links.length kc) uD) rfl (thC t uL uC (.slice ka t.links.length kc) uD) rfl (thC zeroT (.slice none 0 0) (.slice none 0 0) (.slice none 0 0) (.slice none 0 0)) 34 hP rfl hone Try.sizeT ?_
 rw [← hV.out]
 have hPA:Hid (w.heap.size < W3.heap.size):=by have:=nV.size;have:=heap_lt hA;have:=heap_lt hB;have h9:=hPl.out;unfold Hid;omega
 have hPw:Hid (w.heap.size ≤ W3.heap.size):=Nat.le_of_lt hPA.out
 generalize W3.heap.size = P at *
 clear hY hV hP nY nV hone hrA
 have a1:V.cell? ⟨w.heap.size,1,none⟩ = some (.int .i64 t.kind):=cell_blk hA rfl
 go_upto_region 8 with fail
 clear a1
 replace hk:Hid _:=hk
 have y7:V.frozen? ⟨P,7,none⟩ = false:=free_blk hB
 have y8:V.frozen? ⟨P,8,none⟩ = false:=free_blk hB
 have z7:V.cell? ⟨P,7,none⟩ = some (.int .i64 t.next):=cell_blk hB rfl
 have z8:V.cell? ⟨P,8,none⟩ = some ((.slice ka t.links.length kc)):=cell_blk hB rfl
 obtain ⟨X8,hX⟩:∃ X9,Hid (X9 = ((V.setCell ⟨P,7,none⟩ (.int .i64 0)).setCell ⟨P,8,none⟩ (.slice none 0 0))):=⟨_,rfl⟩
 have hB9:Hid (X8.heap[P]? = some (.cells (thC ({ t with next:=0,links:=[] }) uL uC (.slice none 0 0) uD).toArray 34 (0,0))):=by unfold Hid;rw [hX.out,blk_setCell (blk_setCell (hB))];rfl
 have f9:Hid (Fr (fun b=>b = P) V X8):=by unfold Hid;rw [hX.out];exact (((Fr.refl (fun b=>b = P) V).setCell (p:=⟨P,7,none⟩) (.inl rfl) (.int .i64 0)).setCell (p:=⟨P,8,none⟩) (.inl rfl) (.slice none 0 0))
 go_upto_region 10 with fail
 rw [← hX.out]
 clear hX y7 z7 y8 z8
 replace hB:=hB9.out
 replace hA:=(f9.out.block _ (heap_lt hA) (fun e=>by have:=hPA.out;omega)).trans hA
 replace ht:=ht.keep f9.out (fun b hb _ e=>by have h9:b < w.heap.size:=hb;have:=hPA.out;omega) (fun b hb _=>hb)
 replace nW:Nw w X8:=Fr.trans nW f9.out (fun b hb=>.inr (by have:=hPw.out;omega))
 clear f9 hB9
 have a6:X8.cell? ⟨w.heap.size,6,none⟩ = some (.int .i64 t.quota):=cell_blk hA rfl
 have a8:X8.cell? ⟨w.heap.size,8,none⟩ = some (.slice ka t.links.length kc):=cell_blk hA rfl
 go_wp2
 clear a6 a8
 go_loopw [50,5] (fun kv sv wr=>∃ (k:Nat) (used:Int),k ≤ t.links.length∧k ≤ 16∧kv = .int .i64 k∧sv = .int .i64 used∧Hid (LkTo t.links k∧used = 1 + sumL (t.links.take k))∧1 ≤ used∧used ≤ 1 + 48 * (k:Int)∧Nw X8 wr) (fun kv _ _=>t.links.length - (intOf kv).toNat)
 case atStart=>exact ⟨0,1,Nat.zero_le _,Nat.zero_le _,rfl,rfl,⟨lkTo_zero _,rfl⟩,by decide,by decide,nw_refl _⟩
 case round =>
  obtain ⟨k,used,hkl0,hk16,rfl,rfl,hinv,hu1,hu2,hw⟩:=hrel
  by_cases hlt:k < t.links.length
  ·obtain ⟨q,off,e1,_,d1,d2⟩:=(ht.k.nw hw).get k hlt
   subst e1
   have hstep:Hid (lastOf t.links k < t.links[k].1→idOk t.links[k].1→btw 1 t.links[k].2 48→LkTo t.links (k + 1)∧t.links[k].1 = lastOf t.links (k + 1)∧used + t.links[k].2 = 1 + sumL (t.links.take (k + 1))):=fun h1 h2 h3=>lkTo_succ hlt ⟨hinv.out.1,rfl,hinv.out.2⟩ h1 h2 h3
   have hmust:Hid (t = ofK t∧KindOk t→idOk t.links[k].1∧btw 1 t.links[k].2 48∧lastOf t.links k < t.links[k].1∧t.links.length ≤ 16):=fun h=>by have h4:=(kd1 hk.out).1 h.2;obtain ⟨m1,m2,m3⟩:=lkTo_must hlt h4.lk rfl;exact ⟨m2,m3,m1,h4.len⟩
   have hkl:Hid (CSl (fun b=>b < w.heap.size) (wr.alloc (.cells #[.int .u64 t.links[k].1,.int .i64 t.links[k].2] 54)) (.slice (some ⟨q,off,none⟩) t.links.length kc) t.links):=(ht.k.nw hw).nw (nw_alloc (nw_refl _) _)
   generalize t.links[k] = x at *
   obtain ⟨Wl,hWl⟩:∃ Wl,Hid (Wl = wr.alloc (.cells #[.int .u64 x.1,.int .i64 x.2] 54)):=⟨_,rfl⟩
   have nXl:Nw X8 Wl:=by rw [hWl.out];exact nw_alloc hw _
   have hL:Wl.heap[wr.heap.size]? = some (.cells #[.int .u64 x.1,.int .i64 x.2] 54 (0,0)):=by rw [hWl.out];exact heap_alloc_new wr _
   replace hA:=(nXl.block _ (heap_lt hA) (fun h=>h)).trans hA
   have nWl:Nw w Wl:=nw_trans nW nXl
   rw [← hWl.out] at hkl
   clear hB ht nW hw
   go_upto_region 15 with fail
   rw [← hWl.out]
   clear hWl d1 d2
   generalize wr.heap.size = L at *
   by_cases c1:x.2 < 1
   ·have b7:decide (x.2 < 1) = true:=decide_eq_true c1
    have hSof:∀ w',Nw Wl w'→(fun w':World=>Nw Wl w'∧w'.heap[w.heap.size]? = some (.cells (thC t uL uC (.slice (some ⟨q,off,none⟩) t.links.length kc) uD).toArray 34 (0,0))∧w'.heap[L]? = some (.cells #[.int .u64 x.1,.int .i64 x.2] 54 (0,0))) w':=fun w' hw=>⟨hw,(hw.block _ (heap_lt hA) (fun h=>h)).trans hA,(hw.block _ (heap_lt hL) (fun h=>h)).trans hL⟩
    have hW0:Nw Wl Wl.drew:=Fr.drew (Fr.refl _ Wl)
    have hS:=hSof _ hW0
    replace hSof:Hid _:=hSof
    refine wp_region_ord [] 33 [(0,true),(1,true),(2,false),(3,true),(4,true),(5,true),(6,true),(7,true),(8,true),(9,true),(10,true),(11,true),(12,true),(13,true),(14,true),(15,true),(16,true),(17,true),(18,true),(20,true),(25,true),(19,true),(21,true),(26,true),(22,true),(23,true),(24,true),(27,true),(28,true),(29,true),(30,true),(31,true),(32,true)] (fun w':World=>Nw Wl w'∧w'.heap[w.heap.size]? = some (.cells (thC t uL uC (.slice (some ⟨q,off,none⟩) t.links.length kc) uD).toArray 34 (0,0))∧w'.heap[L]? = some (.cells #[.int .u64 x.1,.int .i64 x.2] 54 (0,0))) (by kernel_rfl) (by kernel_rfl) ?_
    refine ord_quietL _ ?_ rfl hS rfl ?_ ?_
    rotate_left
    ·rintro w' ⟨hn,rhA,rhL⟩;go_simp;rfl
    simp only [pL,List.set]
    refine ord_quietL _ ?_ rfl hS rfl ?_ ?_
    rotate_left
    ·rintro w' ⟨hn,rhA,rhL⟩;have g0:w'.cell? ⟨L,0,none⟩ = some (.int .u64 x.1):=cell_blk rhL rfl;go_simp;rfl
    simp only [pL,List.set]
    refine ord_actL _ rfl (fun K1 hK1=>?_)
    have hcon:Hid _:=c_rid x.1 Wl.drew
    unfold AnsP at hcon
    go_wp2_with (go_at_call 61;refine Calls.mono hcon.out ?_;rintro e wk0 ⟨r,rfl,q1,qn⟩)
    have m0:=nw_trans hW0 qn
    cases r with
    | true =>
     have hid:Hid (idOk x.1):=q1.1 rfl
     clear q1
     refine hK1 _ _ (hSof.out _ m0) ?_
     clear hK1 K1 hcon qn hS hW0
     have hS:=hSof.out _ m0
     refine ord_quietL _ ?_ rfl hS rfl ?_ ?_
     rotate_left
     ·rintro w' ⟨hn,rhA,rhL⟩;go_simp;rfl
     simp only [pL,List.set]
     refine ord_quietL _ ?_ rfl hS rfl ?_ ?_
     rotate_left
     ·rintro w' ⟨hn,rhA,rhL⟩;go_simp;rfl
     simp only [pL,List.set]
     refine ord_quietL _ ?_ rfl hS rfl ?_ ?_
     rotate_left
     ·rintro w' ⟨hn,rhA,rhL⟩;go_simp;rfl
     simp only [pL,List.set]
     refine ord_quietL _ ?_ rfl hS rfl ?_ ?_
     rotate_left
     ·rintro w' ⟨hn,rhA,rhL⟩;have g0:w'.cell? ⟨L,1,none⟩ = some (.int .i64 x.2):=cell_blk rhL rfl;go_simp;rfl
     simp only [pL,List.set]
     refine ord_quietL _ ?_ rfl hS rfl ?_ ?_
     rotate_left
     ·rintro w' ⟨hn,rhA,rhL⟩;go_simp;rfl
     simp only [pL,List.set]
     refine ord_quietL _ ?_ rfl hS rfl ?_ ?_
     rotate_left
     ·rintro w' ⟨hn,rhA,rhL⟩;go_simp;rfl
     simp only [pL,List.set]
     refine ord_quietL _ ?_ rfl hS rfl ?_ ?_
     rotate_left
     ·rintro w' ⟨hn,rhA,rhL⟩;go_simp;rfl
     simp only [pL,List.set]
     refine ord_skipL _ rfl hS rfl ?_
     simp only [pL,List.set]
     refine ord_skipL _ rfl hS rfl ?_
     simp only [pL,List.set]
     refine ord_skipL _ rfl hS rfl ?_
     simp only [pL,List.set]
     refine ord_quietL _ ?_ rfl hS rfl ?_ ?_
     rotate_left
     ·rintro w' ⟨hn,rhA,rhL⟩;go_simp;rfl
     simp only [pL,List.set]
     refine ord_quietL _ ?_ rfl hS rfl ?_ ?_
     rotate_left
     ·rintro w' ⟨hn,rhA,rhL⟩;go_simp;rfl
     simp only [pL,List.set]
     refine ord_skipL _ rfl hS rfl ?_
     simp only [pL,List.set]
     refine ord_skipL _ rfl hS rfl ?_
     simp only [pL,List.set]
     refine ord_skipL _ rfl hS rfl ?_
     simp only [pL,List.set]
     refine ord_skipL _ rfl hS rfl ?_
     simp only [pL,List.set]
     refine ord_skipL _ rfl hS rfl ?_
     simp only [pL,List.set]
     refine ord_skipL _ rfl hS rfl ?_
     simp only [pL,List.set]
     refine ord_skipL _ rfl hS rfl ?_
     simp only [pL,List.set]
     refine ord_skipL _ rfl hS rfl ?_
     simp only [pL,List.set]
     refine ord_skipL _ rfl hS rfl ?_
     simp only [pL,List.set]
     refine ord_skipL _ rfl hS rfl ?_
     simp only [pL,List.set]
     refine ord_skipL _ rfl hS rfl ?_
     simp only [pL,List.set]
     refine ord_skipL _ rfl hS rfl ?_
     simp only [pL,List.set]
     refine ord_skipL _ rfl hS rfl ?_
     simp only [pL,List.set]
     refine ord_skipL _ rfl hS rfl ?_
     simp only [pL,List.set]
     refine ord_quietL _ ?_ rfl hS rfl ?_ ?_
     rotate_left
     ·rintro w' ⟨hn,rhA,rhL⟩;go_simp;rfl
     simp only [pL,List.set]
     refine ord_quietL _ ?_ rfl hS rfl ?_ ?_
     rotate_left
     ·rintro w' ⟨hn,rhA,rhL⟩;go_simp;rfl
     simp only [pL,List.set]
     refine ord_skipL _ rfl hS rfl ?_
     simp only [pL,List.set]
     refine ord_skipL _ rfl hS rfl ?_
     simp only [pL,List.set]
     refine ord_tail ?_
     simp only [List.drop_succ_cons,List.drop_zero]
     have hno:Hid (¬ (t = ofK t∧KindOk t)):=fun h=>by have h4:=hmust.out h;have:=h4.2.1.1;omega
     replace nW:=nw_trans nWl m0
     clear hSof hS
     go_wp2
     go_ret
     exact ans_no hno.out nW
    | false =>
     have hni:Hid (¬ idOk x.1):=not_of_false q1
     clear q1
     refine hK1 _ _ (hSof.out _ m0) ?_
     clear hK1 K1 hcon qn hS hW0
     have hS:=hSof.out _ m0
     refine ord_quietL _ ?_ rfl hS rfl ?_ ?_
     rotate_left
     ·rintro w' ⟨hn,rhA,rhL⟩;go_simp;rfl
     simp only [pL,List.set]
     refine ord_quietL _ ?_ rfl hS rfl ?_ ?_
     rotate_left
     ·rintro w' ⟨hn,rhA,rhL⟩;go_simp;rfl
     simp only [pL,List.set]
     refine ord_skipL _ rfl hS rfl ?_
     simp only [pL,List.set]
     refine ord_skipL _ rfl hS rfl ?_
     simp only [pL,List.set]
     refine ord_skipL _ rfl hS rfl ?_
     simp only [pL,List.set]
     refine ord_quietL _ ?_ rfl hS rfl ?_ ?_
     rotate_left
     ·rintro w' ⟨hn,rhA,rhL⟩;go_simp;rfl
     simp only [pL,List.set]
     refine ord_quietL _ ?_ rfl hS rfl ?_ ?_
     rotate_left
     ·rintro w' ⟨hn,rhA,rhL⟩;go_simp;rfl
     simp only [pL,List.set]
     refine ord_skipL _ rfl hS rfl ?_
     simp only [pL,List.set]
     refine ord_skipL _ rfl hS rfl ?_
     simp only [pL,List.set]
     refine ord_skipL _ rfl hS rfl ?_
     simp only [pL,List.set]
     refine ord_quietL _ ?_ rfl hS rfl ?_ ?_
     rotate_left
     ·rintro w' ⟨hn,rhA,rhL⟩;go_simp;rfl
     simp only [pL,List.set]
     refine ord_quietL _ ?_ rfl hS rfl ?_ ?_
     rotate_left
     ·rintro w' ⟨hn,rhA,rhL⟩;go_simp;rfl
     simp only [pL,List.set]
     refine ord_skipL _ rfl hS rfl ?_
     simp only [pL,List.set]
     refine ord_skipL _ rfl hS rfl ?_
     simp only [pL,List.set]
     refine ord_skipL _ rfl hS rfl ?_
     simp only [pL,List.set]
     refine ord_skipL _ rfl hS rfl ?_
     simp only [pL,List.set]
     refine ord_skipL _ rfl hS rfl ?_
     simp only [pL,List.set]
     refine ord_skipL _ rfl hS rfl ?_
     simp only [pL,List.set]
     refine ord_skipL _ rfl hS rfl ?_
     simp only [pL,List.set]
     refine ord_skipL _ rfl hS rfl ?_
     simp only [pL,List.set]
     refine ord_skipL _ rfl hS rfl ?_
     simp only [pL,List.set]
     refine ord_skipL _ rfl hS rfl ?_
     simp only [pL,List.set]
     refine ord_skipL _ rfl hS rfl ?_
     simp only [pL,List.set]
     refine ord_skipL _ rfl hS rfl ?_
     simp only [pL,List.set]
     refine ord_skipL _ rfl hS rfl ?_
     simp only [pL,List.set]
     refine ord_skipL _ rfl hS rfl ?_
     simp only [pL,List.set]
     refine ord_quietL _ ?_ rfl hS rfl ?_ ?_
     rotate_left
     ·rintro w' ⟨hn,rhA,rhL⟩;go_simp;rfl
     simp only [pL,List.set]
     refine ord_quietL _ ?_ rfl hS rfl ?_ ?_
     rotate_left
     ·rintro w' ⟨hn,rhA,rhL⟩;go_simp;rfl
     simp only [pL,List.set]
     refine ord_skipL _ rfl hS rfl ?_
     simp only [pL,List.set]
     refine ord_skipL _ rfl hS rfl ?_
     simp only [pL,List.set]
     refine ord_tail ?_
     simp only [List.drop_succ_cons,List.drop_zero]
     have hno:Hid (¬ (t = ofK t∧KindOk t)):=fun h=>hni.out (hmust.out h).1
     replace nW:=nw_trans nWl m0
     clear hSof hS
     go_wp2
     go_ret
     exact ans_no hno.out nW
   ·have b7:decide (x.2 < 1) = false:=decide_eq_false c1
    by_cases c2:48 < x.2
    ·have b12:decide (48 < x.2) = true:=decide_eq_true c2
     have hSof:∀ w',Nw Wl w'→(fun w':World=>Nw Wl w'∧w'.heap[w.heap.size]? = some (.cells (thC t uL uC (.slice (some ⟨q,off,none⟩) t.links.length kc) uD).toArray 34 (0,0))∧w'.heap[L]? = some (.cells #[.int .u64 x.1,.int .i64 x.2] 54 (0,0))) w':=fun w' hw=>⟨hw,(hw.block _ (heap_lt hA) (fun h=>h)).trans hA,(hw.block _ (heap_lt hL) (fun h=>h)).trans hL⟩
     have hW0:Nw Wl Wl.drew:=Fr.drew (Fr.refl _ Wl)
     have hS:=hSof _ hW0
     replace hSof:Hid _:=hSof
     refine wp_region_ord [] 33 [(0,true),(1,true),(2,false),(3,true),(4,true),(5,true),(6,true),(7,true),(8,true),(9,true),(10,true),(11,true),(12,true),(13,true),(14,true),(15,true),(16,true),(17,true),(18,true),(20,true),(25,true),(19,true),(21,true),(26,true),(22,true),(23,true),(24,true),(27,true),(28,true),(29,true),(30,true),(31,true),(32,true)] (fun w':World=>Nw Wl w'∧w'.heap[w.heap.size]? = some (.cells (thC t uL uC (.slice (some ⟨q,off,none⟩) t.links.length kc) uD).toArray 34 (0,0))∧w'.heap[L]? = some (.cells #[.int .u64 x.1,.int .i64 x.2] 54 (0,0))) (by kernel_rfl) (by kernel_rfl) ?_
     refine ord_quietL _ ?_ rfl hS rfl ?_ ?_
     rotate_left
     ·rintro w' ⟨hn,rhA,rhL⟩;go_simp;rfl
     simp only [pL,List.set]
     refine ord_quietL _ ?_ rfl hS rfl ?_ ?_
     rotate_left
     ·rintro w' ⟨hn,rhA,rhL⟩;have g0:w'.cell? ⟨L,0,none⟩ = some (.int .u64 x.1):=cell_blk rhL rfl;go_simp;rfl
     simp only [pL,List.set]
     refine ord_actL _ rfl (fun K1 hK1=>?_)
     have hcon:Hid _:=c_rid x.1 Wl.drew
     unfold AnsP at hcon
     go_wp2_with (go_at_call 61;refine Calls.mono hcon.out ?_;rintro e wk0 ⟨r,rfl,q1,qn⟩)
     have m0:=nw_trans hW0 qn
     cases r with
     | true =>
      have hid:Hid (idOk x.1):=q1.1 rfl
      clear q1
      refine hK1 _ _ (hSof.out _ m0) ?_
      clear hK1 K1 hcon qn hS hW0
      have hS:=hSof.out _ m0
      refine ord_quietL _ ?_ rfl hS rfl ?_ ?_
      rotate_left
      ·rintro w' ⟨hn,rhA,rhL⟩;go_simp;rfl
      simp only [pL,List.set]
      refine ord_quietL _ ?_ rfl hS rfl ?_ ?_
      rotate_left
      ·rintro w' ⟨hn,rhA,rhL⟩;go_simp;rfl
      simp only [pL,List.set]
      refine ord_quietL _ ?_ rfl hS rfl ?_ ?_
      rotate_left
      ·rintro w' ⟨hn,rhA,rhL⟩;go_simp;rfl
      simp only [pL,List.set]
      refine ord_quietL _ ?_ rfl hS rfl ?_ ?_
      rotate_left
      ·rintro w' ⟨hn,rhA,rhL⟩;have g0:w'.cell? ⟨L,1,none⟩ = some (.int .i64 x.2):=cell_blk rhL rfl;go_simp;rfl
      simp only [pL,List.set]
      refine ord_quietL _ ?_ rfl hS rfl ?_ ?_
      rotate_left
      ·rintro w' ⟨hn,rhA,rhL⟩;go_simp;rfl
      simp only [pL,List.set]
      refine ord_quietL _ ?_ rfl hS rfl ?_ ?_
      rotate_left
      ·rintro w' ⟨hn,rhA,rhL⟩;go_simp;rfl
      simp only [pL,List.set]
      refine ord_quietL _ ?_ rfl hS rfl ?_ ?_
      rotate_left
      ·rintro w' ⟨hn,rhA,rhL⟩;go_simp;rfl
      simp only [pL,List.set]
      refine ord_quietL _ ?_ rfl hS rfl ?_ ?_
      rotate_left
      ·rintro w' ⟨hn,rhA,rhL⟩;go_simp;rfl
      simp only [pL,List.set]
      refine ord_quietL _ ?_ rfl hS rfl ?_ ?_
      rotate_left
      ·rintro w' ⟨hn,rhA,rhL⟩;have g0:w'.cell? ⟨L,1,none⟩ = some (.int .i64 x.2):=cell_blk rhL rfl;go_simp;rfl
      simp only [pL,List.set]
      refine ord_quietL _ ?_ rfl hS rfl ?_ ?_
      rotate_left
      ·rintro w' ⟨hn,rhA,rhL⟩;go_simp;rfl
      simp only [pL,List.set]
      refine ord_quietL _ ?_ rfl hS rfl ?_ ?_
      rotate_left
      ·rintro w' ⟨hn,rhA,rhL⟩;go_simp;rfl
      simp only [pL,List.set]
      refine ord_quietL _ ?_ rfl hS rfl ?_ ?_
      rotate_left
      ·rintro w' ⟨hn,rhA,rhL⟩;go_simp;rfl
      simp only [pL,List.set]
      refine ord_skipL _ rfl hS rfl ?_
      simp only [pL,List.set]
      refine ord_skipL _ rfl hS rfl ?_
      simp only [pL,List.set]
      refine ord_skipL _ rfl hS rfl ?_
      simp only [pL,List.set]
      refine ord_skipL _ rfl hS rfl ?_
      simp only [pL,List.set]
      refine ord_skipL _ rfl hS rfl ?_
      simp only [pL,List.set]
      refine ord_skipL _ rfl hS rfl ?_
      simp only [pL,List.set]
      refine ord_skipL _ rfl hS rfl ?_
      simp only [pL,List.set]
      refine ord_skipL _ rfl hS rfl ?_
      simp only [pL,List.set]
      refine ord_skipL _ rfl hS rfl ?_
      simp only [pL,List.set]
      refine ord_skipL _ rfl hS rfl ?_
      simp only [pL,List.set]
      refine ord_skipL _ rfl hS rfl ?_
      simp only [pL,List.set]
      refine ord_skipL _ rfl hS rfl ?_
      simp only [pL,List.set]
      refine ord_skipL _ rfl hS rfl ?_
      simp only [pL,List.set]
      refine ord_skipL _ rfl hS rfl ?_
      simp only [pL,List.set]
      refine ord_quietL _ ?_ rfl hS rfl ?_ ?_
      rotate_left
      ·rintro w' ⟨hn,rhA,rhL⟩;go_simp;rfl
      simp only [pL,List.set]
      refine ord_quietL _ ?_ rfl hS rfl ?_ ?_
      rotate_left
      ·rintro w' ⟨hn,rhA,rhL⟩;go_simp;rfl
      simp only [pL,List.set]
      refine ord_skipL _ rfl hS rfl ?_
      simp only [pL,List.set]
      refine ord_skipL _ rfl hS rfl ?_
      simp only [pL,List.set]
      refine ord_tail ?_
      simp only [List.drop_succ_cons,List.drop_zero]
      have hno:Hid (¬ (t = ofK t∧KindOk t)):=fun h=>by have h4:=hmust.out h;have:=h4.2.1.2;omega
      replace nW:=nw_trans nWl m0
      clear hSof hS
      go_wp2
      go_ret
      exact ans_no hno.out nW
     | false =>
      have hni:Hid (¬ idOk x.1):=not_of_false q1
      clear q1
      refine hK1 _ _ (hSof.out _ m0) ?_
      clear hK1 K1 hcon qn hS hW0
      have hS:=hSof.out _ m0
      refine ord_quietL _ ?_ rfl hS rfl ?_ ?_
      rotate_left
      ·rintro w' ⟨hn,rhA,rhL⟩;go_simp;rfl
      simp only [pL,List.set]
      refine ord_quietL _ ?_ rfl hS rfl ?_ ?_
      rotate_left
      ·rintro w' ⟨hn,rhA,rhL⟩;go_simp;rfl
      simp only [pL,List.set]
      refine ord_skipL _ rfl hS rfl ?_
      simp only [pL,List.set]
      refine ord_skipL _ rfl hS rfl ?_
      simp only [pL,List.set]
      refine ord_skipL _ rfl hS rfl ?_
      simp only [pL,List.set]
      refine ord_quietL _ ?_ rfl hS rfl ?_ ?_
      rotate_left
      ·rintro w' ⟨hn,rhA,rhL⟩;go_simp;rfl
      simp only [pL,List.set]
      refine ord_quietL _ ?_ rfl hS rfl ?_ ?_
      rotate_left
      ·rintro w' ⟨hn,rhA,rhL⟩;go_simp;rfl
      simp only [pL,List.set]
      refine ord_skipL _ rfl hS rfl ?_
      simp only [pL,List.set]
      refine ord_skipL _ rfl hS rfl ?_
      simp only [pL,List.set]
      refine ord_skipL _ rfl hS rfl ?_
      simp only [pL,List.set]
      refine ord_quietL _ ?_ rfl hS rfl ?_ ?_
      rotate_left
      ·rintro w' ⟨hn,rhA,rhL⟩;go_simp;rfl
      simp only [pL,List.set]
      refine ord_quietL _ ?_ rfl hS rfl ?_ ?_
      rotate_left
      ·rintro w' ⟨hn,rhA,rhL⟩;go_simp;rfl
      simp only [pL,List.set]
      refine ord_skipL _ rfl hS rfl ?_
      simp only [pL,List.set]
      refine ord_skipL _ rfl hS rfl ?_
      simp only [pL,List.set]
      refine ord_skipL _ rfl hS rfl ?_
      simp only [pL,List.set]
      refine ord_skipL _ rfl hS rfl ?_
      simp only [pL,List.set]
      refine ord_skipL _ rfl hS rfl ?_
      simp only [pL,List.set]
      refine ord_skipL _ rfl hS rfl ?_
      simp only [pL,List.set]
      refine ord_skipL _ rfl hS rfl ?_
      simp only [pL,List.set]
      refine ord_skipL _ rfl hS rfl ?_
      simp only [pL,List.set]
      refine ord_skipL _ rfl hS rfl ?_
      simp only [pL,List.set]
      refine ord_skipL _ rfl hS rfl ?_
      simp only [pL,List.set]
      refine ord_skipL _ rfl hS rfl ?_
      simp only [pL,List.set]
      refine ord_skipL _ rfl hS rfl ?_
      simp only [pL,List.set]
      refine ord_skipL _ rfl hS rfl ?_
      simp only [pL,List.set]
      refine ord_skipL _ rfl hS rfl ?_
      simp only [pL,List.set]
      refine ord_quietL _ ?_ rfl hS rfl ?_ ?_
      rotate_left
      ·rintro w' ⟨hn,rhA,rhL⟩;go_simp;rfl
      simp only [pL,List.set]
      refine ord_quietL _ ?_ rfl hS rfl ?_ ?_
      rotate_left
      ·rintro w' ⟨hn,rhA,rhL⟩;go_simp;rfl
      simp only [pL,List.set]
      refine ord_skipL _ rfl hS rfl ?_
      simp only [pL,List.set]
      refine ord_skipL _ rfl hS rfl ?_
      simp only [pL,List.set]
      refine ord_tail ?_
      simp only [List.drop_succ_cons,List.drop_zero]
      have hno:Hid (¬ (t = ofK t∧KindOk t)):=fun h=>hni.out (hmust.out h).1
      replace nW:=nw_trans nWl m0
      clear hSof hS
      go_wp2
      go_ret
      exact ans_no hno.out nW
    ·have b12:decide (48 < x.2) = false:=decide_eq_false c2
     rcases Nat.eq_zero_or_pos k with kz | kz
     ·have b16:decide (0 < (k:Int)) = false:=decide_eq_false (by omega)
      have b16n:decide (0 < k) = false:=decide_eq_false (by omega)
      have b32:decide (16 ≤ (k:Int)) = false:=decide_eq_false (by omega)
      have b32n:decide (16 ≤ k) = false:=decide_eq_false (by omega)
      have hk15:Hid (k < 16):=by unfold Hid;omega
      have hlast:Hid (idOk x.1→lastOf t.links k < x.1):=fun h=>by have:=h.1;rw [kz];show (0:Int) < _;omega
      replace kz:Hid (k = 0):=kz
      have hSof:∀ w',Nw Wl w'→(fun w':World=>Nw Wl w'∧w'.heap[w.heap.size]? = some (.cells (thC t uL uC (.slice (some ⟨q,off,none⟩) t.links.length kc) uD).toArray 34 (0,0))∧w'.heap[L]? = some (.cells #[.int .u64 x.1,.int .i64 x.2] 54 (0,0))) w':=fun w' hw=>⟨hw,(hw.block _ (heap_lt hA) (fun h=>h)).trans hA,(hw.block _ (heap_lt hL) (fun h=>h)).trans hL⟩
      have hW0:Nw Wl Wl.drew:=Fr.drew (Fr.refl _ Wl)
      have hS:=hSof _ hW0
      replace hSof:Hid _:=hSof
      refine wp_region_ord [] 33 [(0,true),(1,true),(2,false),(3,true),(4,true),(5,true),(6,true),(7,true),(8,true),(9,true),(10,true),(11,true),(12,true),(13,true),(14,true),(15,true),(16,true),(17,true),(18,true),(20,true),(25,true),(19,true),(21,true),(26,true),(22,true),(23,true),(24,true),(27,true),(28,true),(29,true),(30,true),(31,true),(32,true)] (fun w':World=>Nw Wl w'∧w'.heap[w.heap.size]? = some (.cells (thC t uL uC (.slice (some ⟨q,off,none⟩) t.links.length kc) uD).toArray 34 (0,0))∧w'.heap[L]? = some (.cells #[.int .u64 x.1,.int .i64 x.2] 54 (0,0))) (by kernel_rfl) (by kernel_rfl) ?_
      refine ord_quietL _ ?_ rfl hS rfl ?_ ?_
      rotate_left
      ·rintro w' ⟨hn,rhA,rhL⟩;go_simp;rfl
      simp only [pL,List.set]
      refine ord_quietL _ ?_ rfl hS rfl ?_ ?_
      rotate_left
      ·rintro w' ⟨hn,rhA,rhL⟩;have g0:w'.cell? ⟨L,0,none⟩ = some (.int .u64 x.1):=cell_blk rhL rfl;go_simp;rfl
      simp only [pL,List.set]
      refine ord_actL _ rfl (fun K1 hK1=>?_)
      have hcon:Hid _:=c_rid x.1 Wl.drew
      unfold AnsP at hcon
      go_wp2_with (go_at_call 61;refine Calls.mono hcon.out ?_;rintro e wk0 ⟨r,rfl,q1,qn⟩)
      have m0:=nw_trans hW0 qn
      cases r with
      | true =>
       have hid:Hid (idOk x.1):=q1.1 rfl
       clear q1
       refine hK1 _ _ (hSof.out _ m0) ?_
       clear hK1 K1 hcon qn hS hW0
       have hS:=hSof.out _ m0
       refine ord_quietL _ ?_ rfl hS rfl ?_ ?_
       rotate_left
       ·rintro w' ⟨hn,rhA,rhL⟩;go_simp;rfl
       simp only [pL,List.set]
       refine ord_quietL _ ?_ rfl hS rfl ?_ ?_
       rotate_left
       ·rintro w' ⟨hn,rhA,rhL⟩;go_simp;rfl
       simp only [pL,List.set]
       refine ord_quietL _ ?_ rfl hS rfl ?_ ?_
       rotate_left
       ·rintro w' ⟨hn,rhA,rhL⟩;go_simp;rfl
       simp only [pL,List.set]
       refine ord_quietL _ ?_ rfl hS rfl ?_ ?_
       rotate_left
       ·rintro w' ⟨hn,rhA,rhL⟩;have g0:w'.cell? ⟨L,1,none⟩ = some (.int .i64 x.2):=cell_blk rhL rfl;go_simp;rfl
       simp only [pL,List.set]
       refine ord_quietL _ ?_ rfl hS rfl ?_ ?_
       rotate_left
       ·rintro w' ⟨hn,rhA,rhL⟩;go_simp;rfl
       simp only [pL,List.set]
       refine ord_quietL _ ?_ rfl hS rfl ?_ ?_
       rotate_left
       ·rintro w' ⟨hn,rhA,rhL⟩;go_simp;rfl
       simp only [pL,List.set]
       refine ord_quietL _ ?_ rfl hS rfl ?_ ?_
       rotate_left
       ·rintro w' ⟨hn,rhA,rhL⟩;go_simp;rfl
       simp only [pL,List.set]
       refine ord_quietL _ ?_ rfl hS rfl ?_ ?_
       rotate_left
       ·rintro w' ⟨hn,rhA,rhL⟩;go_simp;rfl
       simp only [pL,List.set]
       refine ord_quietL _ ?_ rfl hS rfl ?_ ?_
       rotate_left
       ·rintro w' ⟨hn,rhA,rhL⟩;have g0:w'.cell? ⟨L,1,none⟩ = some (.int .i64 x.2):=cell_blk rhL rfl;go_simp;rfl
       simp only [pL,List.set]
       refine ord_quietL _ ?_ rfl hS rfl ?_ ?_
       rotate_left
       ·rintro w' ⟨hn,rhA,rhL⟩;go_simp;rfl
       simp only [pL,List.set]
       refine ord_quietL _ ?_ rfl hS rfl ?_ ?_
       rotate_left
       ·rintro w' ⟨hn,rhA,rhL⟩;go_simp;rfl
       simp only [pL,List.set]
       refine ord_quietL _ ?_ rfl hS rfl ?_ ?_
       rotate_left
       ·rintro w' ⟨hn,rhA,rhL⟩;go_simp;rfl
       simp only [pL,List.set]
       refine ord_quietL _ ?_ rfl hS rfl ?_ ?_
       rotate_left
       ·rintro w' ⟨hn,rhA,rhL⟩;go_simp;rfl
       simp only [pL,List.set]
       refine ord_quietL _ ?_ rfl hS rfl ?_ ?_
       rotate_left
       ·rintro w' ⟨hn,rhA,rhL⟩;go_simp;first | exact congrArg Value.bool b16 | exact congrArg Value.bool b16n | rfl
       simp only [pL,List.set]
       refine ord_quietL _ ?_ rfl hS rfl ?_ ?_
       rotate_left
       ·rintro w' ⟨hn,rhA,rhL⟩;go_simp;rfl
       simp only [pL,List.set]
       refine ord_skipL _ rfl hS rfl ?_
       simp only [pL,List.set]
       refine ord_skipL _ rfl hS rfl ?_
       simp only [pL,List.set]
       refine ord_skipL _ rfl hS rfl ?_
       simp only [pL,List.set]
       refine ord_skipL _ rfl hS rfl ?_
       simp only [pL,List.set]
       refine ord_skipL _ rfl hS rfl ?_
       simp only [pL,List.set]
       refine ord_skipL _ rfl hS rfl ?_
       simp only [pL,List.set]
       refine ord_skipL _ rfl hS rfl ?_
       simp only [pL,List.set]
       refine ord_skipL _ rfl hS rfl ?_
       simp only [pL,List.set]
       refine ord_skipL _ rfl hS rfl ?_
       simp only [pL,List.set]
       refine ord_skipL _ rfl hS rfl ?_
       simp only [pL,List.set]
       refine ord_quietL _ ?_ rfl hS rfl ?_ ?_
       rotate_left
       ·rintro w' ⟨hn,rhA,rhL⟩;go_simp;rfl
       simp only [pL,List.set]
       refine ord_quietL _ ?_ rfl hS rfl ?_ ?_
       rotate_left
       ·rintro w' ⟨hn,rhA,rhL⟩;go_simp;rfl
       simp only [pL,List.set]
       refine ord_quietL _ ?_ rfl hS rfl ?_ ?_
       rotate_left
       ·rintro w' ⟨hn,rhA,rhL⟩;go_simp;rfl
       simp only [pL,List.set]
       refine ord_quietL _ ?_ rfl hS rfl ?_ ?_
       rotate_left
       ·rintro w' ⟨hn,rhA,rhL⟩;go_simp;rfl
       simp only [pL,List.set]
       refine ord_quietL _ ?_ rfl hS rfl ?_ ?_
       rotate_left
       ·rintro w' ⟨hn,rhA,rhL⟩;go_simp;first | exact congrArg Value.bool b32 | exact congrArg Value.bool b32n | rfl
       simp only [pL,List.set]
       refine ord_tail ?_
       simp only [List.drop_succ_cons,List.drop_zero]
       have hL9:=(m0.block _ (heap_lt hL) (fun h=>h)).trans hL
       have a1:wk0.cell? ⟨L,1,none⟩ = some (.int .i64 x.2):=cell_blk hL9 rfl
       have hw9:Hid (Nw X8 wk0):=nw_trans nXl m0
       have hy:Hid _:=hstep.out (hlast.out hid.out) hid.out ⟨by omega,by omega⟩
       have hwr:wrap64 (used + x.2) = used + x.2:=by unfold wrap64;omega
       have hn1:Hid (1 ≤ used + x.2∧used + x.2 ≤ 1 + 48 * ((k + 1:Nat):Int)):=by unfold Hid;omega
       have hk16:Hid (k + 1 ≤ 16):=by have:=hk15.out;unfold Hid;omega
       clear hSof hS hL9 hinv hmust hstep
       go_wp2
       go_roundw
       case rel=>exact ⟨k + 1,used + x.2,by omega,hk16.out,by go_num,by first | rfl | rw [hwr],⟨hy.out.1,hy.out.2.2⟩,hn1.out.1,hn1.out.2,hw9.out⟩
       case measure=>simp [intOf];omega
      | false =>
       have hni:Hid (¬ idOk x.1):=not_of_false q1
       clear q1
       refine hK1 _ _ (hSof.out _ m0) ?_
       clear hK1 K1 hcon qn hS hW0
       have hS:=hSof.out _ m0
       refine ord_quietL _ ?_ rfl hS rfl ?_ ?_
       rotate_left
       ·rintro w' ⟨hn,rhA,rhL⟩;go_simp;rfl
       simp only [pL,List.set]
       refine ord_quietL _ ?_ rfl hS rfl ?_ ?_
       rotate_left
       ·rintro w' ⟨hn,rhA,rhL⟩;go_simp;rfl
       simp only [pL,List.set]
       refine ord_skipL _ rfl hS rfl ?_
       simp only [pL,List.set]
       refine ord_skipL _ rfl hS rfl ?_
       simp only [pL,List.set]
       refine ord_skipL _ rfl hS rfl ?_
       simp only [pL,List.set]
       refine ord_quietL _ ?_ rfl hS rfl ?_ ?_
       rotate_left
       ·rintro w' ⟨hn,rhA,rhL⟩;go_simp;rfl
       simp only [pL,List.set]
       refine ord_quietL _ ?_ rfl hS rfl ?_ ?_
       rotate_left
       ·rintro w' ⟨hn,rhA,rhL⟩;go_simp;rfl
       simp only [pL,List.set]
       refine ord_skipL _ rfl hS rfl ?_
       simp only [pL,List.set]
       refine ord_skipL _ rfl hS rfl ?_
       simp only [pL,List.set]
       refine ord_skipL _ rfl hS rfl ?_
       simp only [pL,List.set]
       refine ord_quietL _ ?_ rfl hS rfl ?_ ?_
       rotate_left
       ·rintro w' ⟨hn,rhA,rhL⟩;go_simp;rfl
       simp only [pL,List.set]
       refine ord_quietL _ ?_ rfl hS rfl ?_ ?_
       rotate_left
       ·rintro w' ⟨hn,rhA,rhL⟩;go_simp;rfl
       simp only [pL,List.set]
       refine ord_skipL _ rfl hS rfl ?_
       simp only [pL,List.set]
       refine ord_skipL _ rfl hS rfl ?_
       simp only [pL,List.set]
       refine ord_skipL _ rfl hS rfl ?_
       simp only [pL,List.set]
       refine ord_skipL _ rfl hS rfl ?_
       simp only [pL,List.set]
       refine ord_skipL _ rfl hS rfl ?_
       simp only [pL,List.set]
       refine ord_skipL _ rfl hS rfl ?_
       simp only [pL,List.set]
       refine ord_skipL _ rfl hS rfl ?_
       simp only [pL,List.set]
       refine ord_skipL _ rfl hS rfl ?_
       simp only [pL,List.set]
       refine ord_skipL _ rfl hS rfl ?_
       simp only [pL,List.set]
       refine ord_skipL _ rfl hS rfl ?_
       simp only [pL,List.set]
       refine ord_skipL _ rfl hS rfl ?_
       simp only [pL,List.set]
       refine ord_skipL _ rfl hS rfl ?_
       simp only [pL,List.set]
       refine ord_skipL _ rfl hS rfl ?_
       simp only [pL,List.set]
       refine ord_skipL _ rfl hS rfl ?_
       simp only [pL,List.set]
       refine ord_quietL _ ?_ rfl hS rfl ?_ ?_
       rotate_left
       ·rintro w' ⟨hn,rhA,rhL⟩;go_simp;rfl
       simp only [pL,List.set]
       refine ord_quietL _ ?_ rfl hS rfl ?_ ?_
       rotate_left
       ·rintro w' ⟨hn,rhA,rhL⟩;go_simp;rfl
       simp only [pL,List.set]
       refine ord_skipL _ rfl hS rfl ?_
       simp only [pL,List.set]
       refine ord_skipL _ rfl hS rfl ?_
       simp only [pL,List.set]
       refine ord_tail ?_
       simp only [List.drop_succ_cons,List.drop_zero]
       have hno:Hid (¬ (t = ofK t∧KindOk t)):=fun h=>hni.out (hmust.out h).1
       replace nW:=nw_trans nWl m0
       clear hSof hS
       go_wp2
       go_ret
       exact ans_no hno.out nW
     ·have b16:decide (0 < (k:Int)) = true:=decide_eq_true (by omega)
      have b16n:decide (0 < k) = true:=decide_eq_true (by omega)
      skip
      obtain ⟨j,hj⟩:∃ j,Hid (k = j + 1):=⟨k - 1,by unfold Hid;omega⟩
      have hjl:j < t.links.length:=by have:=hj.out;omega
      obtain ⟨q9,off9,e9,_,dp,_⟩:=hkl.out.get j hjl
      cases e9
      have hpv:Hid (lastOf t.links k = t.links[j].1):=by unfold Hid;rw [hj.out];simp [lastOf,hjl]
      generalize t.links[j].1 = pv at *
      have hql:q < Wl.heap.size:=World.block_lt_of_cell? Wl _ dp
      have hs1:IntKind.i64.wrap ((k:Int) - 1) = (j:Int):=by rw [IntKind.wrap_i64];have:=hj.out;omega
      have hs2:(k:Int) - 1 = (j:Int):=by have:=hj.out;omega
      have hs3:IntKind.i64.wrap (j:Int) = (j:Int):=by rw [IntKind.wrap_i64];omega
      have b16n:decide (0 < k) = true:=decide_eq_true (by omega)
      by_cases c4:x.1 ≤ pv
      ·have b27:decide (x.1 ≤ pv) = true:=decide_eq_true c4
       have hSof:∀ w',Nw Wl w'→(fun w':World=>Nw Wl w'∧w'.heap[w.heap.size]? = some (.cells (thC t uL uC (.slice (some ⟨q,off,none⟩) t.links.length kc) uD).toArray 34 (0,0))∧w'.heap[L]? = some (.cells #[.int .u64 x.1,.int .i64 x.2] 54 (0,0))) w':=fun w' hw=>⟨hw,(hw.block _ (heap_lt hA) (fun h=>h)).trans hA,(hw.block _ (heap_lt hL) (fun h=>h)).trans hL⟩
       have hW0:Nw Wl Wl.drew:=Fr.drew (Fr.refl _ Wl)
       have hS:=hSof _ hW0
       replace hSof:Hid _:=hSof
       refine wp_region_ord [] 33 [(0,true),(1,true),(2,false),(3,true),(4,true),(5,true),(6,true),(7,true),(8,true),(9,true),(10,true),(11,true),(12,true),(13,true),(14,true),(15,true),(16,true),(17,true),(18,true),(20,true),(25,true),(19,true),(21,true),(26,true),(22,true),(23,true),(24,true),(27,true),(28,true),(29,true),(30,true),(31,true),(32,true)] (fun w':World=>Nw Wl w'∧w'.heap[w.heap.size]? = some (.cells (thC t uL uC (.slice (some ⟨q,off,none⟩) t.links.length kc) uD).toArray 34 (0,0))∧w'.heap[L]? = some (.cells #[.int .u64 x.1,.int .i64 x.2] 54 (0,0))) (by kernel_rfl) (by kernel_rfl) ?_
       refine ord_quietL _ ?_ rfl hS rfl ?_ ?_
       rotate_left
       ·rintro w' ⟨hn,rhA,rhL⟩;go_simp;rfl
       simp only [pL,List.set]
       refine ord_quietL _ ?_ rfl hS rfl ?_ ?_
       rotate_left
       ·rintro w' ⟨hn,rhA,rhL⟩;have g0:w'.cell? ⟨L,0,none⟩ = some (.int .u64 x.1):=cell_blk rhL rfl;go_simp;rfl
       simp only [pL,List.set]
       refine ord_actL _ rfl (fun K1 hK1=>?_)
       have hcon:Hid _:=c_rid x.1 Wl.drew
       unfold AnsP at hcon
       go_wp2_with (go_at_call 61;refine Calls.mono hcon.out ?_;rintro e wk0 ⟨r,rfl,q1,qn⟩)
       have m0:=nw_trans hW0 qn
       cases r with
       | true =>
        have hid:Hid (idOk x.1):=q1.1 rfl
        clear q1
        refine hK1 _ _ (hSof.out _ m0) ?_
        clear hK1 K1 hcon qn hS hW0
        have hS:=hSof.out _ m0
        refine ord_quietL _ ?_ rfl hS rfl ?_ ?_
        rotate_left
        ·rintro w' ⟨hn,rhA,rhL⟩;go_simp;rfl
        simp only [pL,List.set]
        refine ord_quietL _ ?_ rfl hS rfl ?_ ?_
        rotate_left
        ·rintro w' ⟨hn,rhA,rhL⟩;go_simp;rfl
        simp only [pL,List.set]
        refine ord_quietL _ ?_ rfl hS rfl ?_ ?_
        rotate_left
        ·rintro w' ⟨hn,rhA,rhL⟩;go_simp;rfl
        simp only [pL,List.set]
        refine ord_quietL _ ?_ rfl hS rfl ?_ ?_
        rotate_left
        ·rintro w' ⟨hn,rhA,rhL⟩;have g0:w'.cell? ⟨L,1,none⟩ = some (.int .i64 x.2):=cell_blk rhL rfl;go_simp;rfl
        simp only [pL,List.set]
        refine ord_quietL _ ?_ rfl hS rfl ?_ ?_
        rotate_left
        ·rintro w' ⟨hn,rhA,rhL⟩;go_simp;rfl
        simp only [pL,List.set]
        refine ord_quietL _ ?_ rfl hS rfl ?_ ?_
        rotate_left
        ·rintro w' ⟨hn,rhA,rhL⟩;go_simp;rfl
        simp only [pL,List.set]
        refine ord_quietL _ ?_ rfl hS rfl ?_ ?_
        rotate_left
        ·rintro w' ⟨hn,rhA,rhL⟩;go_simp;rfl
        simp only [pL,List.set]
        refine ord_quietL _ ?_ rfl hS rfl ?_ ?_
        rotate_left
        ·rintro w' ⟨hn,rhA,rhL⟩;go_simp;rfl
        simp only [pL,List.set]
        refine ord_quietL _ ?_ rfl hS rfl ?_ ?_
        rotate_left
        ·rintro w' ⟨hn,rhA,rhL⟩;have g0:w'.cell? ⟨L,1,none⟩ = some (.int .i64 x.2):=cell_blk rhL rfl;go_simp;rfl
        simp only [pL,List.set]
        refine ord_quietL _ ?_ rfl hS rfl ?_ ?_
        rotate_left
        ·rintro w' ⟨hn,rhA,rhL⟩;go_simp;rfl
        simp only [pL,List.set]
        refine ord_quietL _ ?_ rfl hS rfl ?_ ?_
        rotate_left
        ·rintro w' ⟨hn,rhA,rhL⟩;go_simp;rfl
        simp only [pL,List.set]
        refine ord_quietL _ ?_ rfl hS rfl ?_ ?_
        rotate_left
        ·rintro w' ⟨hn,rhA,rhL⟩;go_simp;rfl
        simp only [pL,List.set]
        refine ord_quietL _ ?_ rfl hS rfl ?_ ?_
        rotate_left
        ·rintro w' ⟨hn,rhA,rhL⟩;go_simp;rfl
        simp only [pL,List.set]
        refine ord_quietL _ ?_ rfl hS rfl ?_ ?_
        rotate_left
        ·rintro w' ⟨hn,rhA,rhL⟩;go_simp;first | exact congrArg Value.bool b16 | exact congrArg Value.bool b16n | rfl
        simp only [pL,List.set]
        refine ord_quietL _ ?_ rfl hS rfl ?_ ?_
        rotate_left
        ·rintro w' ⟨hn,rhA,rhL⟩;go_simp;rfl
        simp only [pL,List.set]
        refine ord_quietL _ ?_ rfl hS rfl ?_ ?_
        rotate_left
        ·rintro w' ⟨hn,rhA,rhL⟩;go_simp;rfl
        simp only [pL,List.set]
        refine ord_quietL _ ?_ rfl hS rfl ?_ ?_
        rotate_left
        ·rintro w' ⟨hn,rhA,rhL⟩;go_simp;rfl
        simp only [pL,List.set]
        refine ord_quietL _ ?_ rfl hS rfl ?_ ?_
        rotate_left
        ·rintro w' ⟨hn,rhA,rhL⟩;go_simp;rfl
        simp only [pL,List.set]
        refine ord_quietL _ ?_ rfl hS rfl ?_ ?_
        rotate_left
        ·rintro w' ⟨hn,rhA,rhL⟩;have g0:w'.cell? ⟨w.heap.size,8,none⟩ = some (.slice (some ⟨q,off,none⟩) t.links.length kc):=cell_blk rhA rfl;go_simp;rfl
        simp only [pL,List.set]
        refine ord_quietL _ ?_ rfl hS rfl ?_ ?_
        rotate_left
        ·rintro w' ⟨hn,rhA,rhL⟩;go_simp;first | exact congrArg (Value.int IntKind.i64) hs3 | exact congrArg (Value.int IntKind.i64) hs1 | exact congrArg (Value.int IntKind.i64) hs2 | rfl
        simp only [pL,List.set]
        refine ord_quietL _ ?_ rfl hS rfl ?_ ?_
        rotate_left
        ·rintro w' ⟨hn,rhA,rhL⟩;have g0:w'.cell? ⟨L,0,none⟩ = some (.int .u64 x.1):=cell_blk rhL rfl;go_simp;rfl
        simp only [pL,List.set]
        refine ord_quietL _ ?_ rfl hS rfl ?_ ?_
        rotate_left
        ·rintro w' ⟨hn,rhA,rhL⟩;go_simp;first | rfl | (rw [if_pos (by omega)];done) | (rw [if_pos (by omega)];rfl) | (rw [if_pos (by omega)];go_simp;rfl)
        simp only [pL,List.set]
        refine ord_quietL _ ?_ rfl hS rfl ?_ ?_
        rotate_left
        ·rintro w' ⟨hn,rhA,rhL⟩;go_simp;rfl
        simp only [pL,List.set]
        refine ord_quietL _ ?_ rfl hS rfl ?_ ?_
        rotate_left
        ·rintro w' ⟨hn,rhA,rhL⟩;have g0:w'.cell? ⟨q,off + j * 2,none⟩ = some (.int .u64 pv):=(fr_cell hn hql (fun h=>h)).trans dp;go_simp;rfl
        simp only [pL,List.set]
        refine ord_quietL _ ?_ rfl hS rfl ?_ ?_
        rotate_left
        ·rintro w' ⟨hn,rhA,rhL⟩;go_simp;rfl
        simp only [pL,List.set]
        refine ord_quietL _ ?_ rfl hS rfl ?_ ?_
        rotate_left
        ·rintro w' ⟨hn,rhA,rhL⟩;go_simp;rfl
        simp only [pL,List.set]
        refine ord_quietL _ ?_ rfl hS rfl ?_ ?_
        rotate_left
        ·rintro w' ⟨hn,rhA,rhL⟩;go_simp;rfl
        simp only [pL,List.set]
        refine ord_quietL _ ?_ rfl hS rfl ?_ ?_
        rotate_left
        ·rintro w' ⟨hn,rhA,rhL⟩;go_simp;rfl
        simp only [pL,List.set]
        refine ord_skipL _ rfl hS rfl ?_
        simp only [pL,List.set]
        refine ord_skipL _ rfl hS rfl ?_
        simp only [pL,List.set]
        refine ord_tail ?_
        simp only [List.drop_succ_cons,List.drop_zero]
        have hno:Hid (¬ (t = ofK t∧KindOk t)):=fun h=>by have h4:=hmust.out h;have:=h4.2.2.1;rw [hpv.out] at this;omega
        replace nW:=nw_trans nWl m0
        clear hSof hS
        go_wp2
        go_ret
        exact ans_no hno.out nW
       | false =>
        have hni:Hid (¬ idOk x.1):=not_of_false q1
        clear q1
        refine hK1 _ _ (hSof.out _ m0) ?_
        clear hK1 K1 hcon qn hS hW0
        have hS:=hSof.out _ m0
        refine ord_quietL _ ?_ rfl hS rfl ?_ ?_
        rotate_left
        ·rintro w' ⟨hn,rhA,rhL⟩;go_simp;rfl
        simp only [pL,List.set]
        refine ord_quietL _ ?_ rfl hS rfl ?_ ?_
        rotate_left
        ·rintro w' ⟨hn,rhA,rhL⟩;go_simp;rfl
        simp only [pL,List.set]
        refine ord_skipL _ rfl hS rfl ?_
        simp only [pL,List.set]
        refine ord_skipL _ rfl hS rfl ?_
        simp only [pL,List.set]
        refine ord_skipL _ rfl hS rfl ?_
        simp only [pL,List.set]
        refine ord_quietL _ ?_ rfl hS rfl ?_ ?_
        rotate_left
        ·rintro w' ⟨hn,rhA,rhL⟩;go_simp;rfl
        simp only [pL,List.set]
        refine ord_quietL _ ?_ rfl hS rfl ?_ ?_
        rotate_left
        ·rintro w' ⟨hn,rhA,rhL⟩;go_simp;rfl
        simp only [pL,List.set]
        refine ord_skipL _ rfl hS rfl ?_
        simp only [pL,List.set]
        refine ord_skipL _ rfl hS rfl ?_
        simp only [pL,List.set]
        refine ord_skipL _ rfl hS rfl ?_
        simp only [pL,List.set]
        refine ord_quietL _ ?_ rfl hS rfl ?_ ?_
        rotate_left
        ·rintro w' ⟨hn,rhA,rhL⟩;go_simp;rfl
        simp only [pL,List.set]
        refine ord_quietL _ ?_ rfl hS rfl ?_ ?_
        rotate_left
        ·rintro w' ⟨hn,rhA,rhL⟩;go_simp;rfl
        simp only [pL,List.set]
        refine ord_skipL _ rfl hS rfl ?_
        simp only [pL,List.set]
        refine ord_skipL _ rfl hS rfl ?_
        simp only [pL,List.set]
        refine ord_skipL _ rfl hS rfl ?_
        simp only [pL,List.set]
        refine ord_skipL _ rfl hS rfl ?_
        simp only [pL,List.set]
        refine ord_skipL _ rfl hS rfl ?_
        simp only [pL,List.set]
        refine ord_skipL _ rfl hS rfl ?_
        simp only [pL,List.set]
        refine ord_skipL _ rfl hS rfl ?_
        simp only [pL,List.set]
        refine ord_skipL _ rfl hS rfl ?_
        simp only [pL,List.set]
        refine ord_skipL _ rfl hS rfl ?_
        simp only [pL,List.set]
        refine ord_skipL _ rfl hS rfl ?_
        simp only [pL,List.set]
        refine ord_skipL _ rfl hS rfl ?_
        simp only [pL,List.set]
        refine ord_skipL _ rfl hS rfl ?_
        simp only [pL,List.set]
        refine ord_skipL _ rfl hS rfl ?_
        simp only [pL,List.set]
        refine ord_skipL _ rfl hS rfl ?_
        simp only [pL,List.set]
        refine ord_quietL _ ?_ rfl hS rfl ?_ ?_
        rotate_left
        ·rintro w' ⟨hn,rhA,rhL⟩;go_simp;rfl
        simp only [pL,List.set]
        refine ord_quietL _ ?_ rfl hS rfl ?_ ?_
        rotate_left
        ·rintro w' ⟨hn,rhA,rhL⟩;go_simp;rfl
        simp only [pL,List.set]
        refine ord_skipL _ rfl hS rfl ?_
        simp only [pL,List.set]
        refine ord_skipL _ rfl hS rfl ?_
        simp only [pL,List.set]
        refine ord_tail ?_
        simp only [List.drop_succ_cons,List.drop_zero]
        have hno:Hid (¬ (t = ofK t∧KindOk t)):=fun h=>hni.out (hmust.out h).1
        replace nW:=nw_trans nWl m0
        clear hSof hS
        go_wp2
        go_ret
        exact ans_no hno.out nW
      ·have b27:decide (x.1 ≤ pv) = false:=decide_eq_false c4
       have hlast:Hid (lastOf t.links k < x.1):=by unfold Hid;rw [hpv.out];omega
       by_cases c5:16 ≤ k
       ·have b32:decide (16 ≤ (k:Int)) = true:=decide_eq_true (by omega)
        have b32n:decide (16 ≤ k) = true:=decide_eq_true (by omega)
        have hSof:∀ w',Nw Wl w'→(fun w':World=>Nw Wl w'∧w'.heap[w.heap.size]? = some (.cells (thC t uL uC (.slice (some ⟨q,off,none⟩) t.links.length kc) uD).toArray 34 (0,0))∧w'.heap[L]? = some (.cells #[.int .u64 x.1,.int .i64 x.2] 54 (0,0))) w':=fun w' hw=>⟨hw,(hw.block _ (heap_lt hA) (fun h=>h)).trans hA,(hw.block _ (heap_lt hL) (fun h=>h)).trans hL⟩
        have hW0:Nw Wl Wl.drew:=Fr.drew (Fr.refl _ Wl)
        have hS:=hSof _ hW0
        replace hSof:Hid _:=hSof
        refine wp_region_ord [] 33 [(0,true),(1,true),(2,false),(3,true),(4,true),(5,true),(6,true),(7,true),(8,true),(9,true),(10,true),(11,true),(12,true),(13,true),(14,true),(15,true),(16,true),(17,true),(18,true),(20,true),(25,true),(19,true),(21,true),(26,true),(22,true),(23,true),(24,true),(27,true),(28,true),(29,true),(30,true),(31,true),(32,true)] (fun w':World=>Nw Wl w'∧w'.heap[w.heap.size]? = some (.cells (thC t uL uC (.slice (some ⟨q,off,none⟩) t.links.length kc) uD).toArray 34 (0,0))∧w'.heap[L]? = some (.cells #[.int .u64 x.1,.int .i64 x.2] 54 (0,0))) (by kernel_rfl) (by kernel_rfl) ?_
        refine ord_quietL _ ?_ rfl hS rfl ?_ ?_
        rotate_left
        ·rintro w' ⟨hn,rhA,rhL⟩;go_simp;rfl
        simp only [pL,List.set]
        refine ord_quietL _ ?_ rfl hS rfl ?_ ?_
        rotate_left
        ·rintro w' ⟨hn,rhA,rhL⟩;have g0:w'.cell? ⟨L,0,none⟩ = some (.int .u64 x.1):=cell_blk rhL rfl;go_simp;rfl
        simp only [pL,List.set]
        refine ord_actL _ rfl (fun K1 hK1=>?_)
        have hcon:Hid _:=c_rid x.1 Wl.drew
        unfold AnsP at hcon
        go_wp2_with (go_at_call 61;refine Calls.mono hcon.out ?_;rintro e wk0 ⟨r,rfl,q1,qn⟩)
        have m0:=nw_trans hW0 qn
        cases r with
        | true =>
         have hid:Hid (idOk x.1):=q1.1 rfl
         clear q1
         refine hK1 _ _ (hSof.out _ m0) ?_
         clear hK1 K1 hcon qn hS hW0
         have hS:=hSof.out _ m0
         refine ord_quietL _ ?_ rfl hS rfl ?_ ?_
         rotate_left
         ·rintro w' ⟨hn,rhA,rhL⟩;go_simp;rfl
         simp only [pL,List.set]
         refine ord_quietL _ ?_ rfl hS rfl ?_ ?_
         rotate_left
         ·rintro w' ⟨hn,rhA,rhL⟩;go_simp;rfl
         simp only [pL,List.set]
         refine ord_quietL _ ?_ rfl hS rfl ?_ ?_
         rotate_left
         ·rintro w' ⟨hn,rhA,rhL⟩;go_simp;rfl
         simp only [pL,List.set]
         refine ord_quietL _ ?_ rfl hS rfl ?_ ?_
         rotate_left
         ·rintro w' ⟨hn,rhA,rhL⟩;have g0:w'.cell? ⟨L,1,none⟩ = some (.int .i64 x.2):=cell_blk rhL rfl;go_simp;rfl
         simp only [pL,List.set]
         refine ord_quietL _ ?_ rfl hS rfl ?_ ?_
         rotate_left
         ·rintro w' ⟨hn,rhA,rhL⟩;go_simp;rfl
         simp only [pL,List.set]
         refine ord_quietL _ ?_ rfl hS rfl ?_ ?_
         rotate_left
         ·rintro w' ⟨hn,rhA,rhL⟩;go_simp;rfl
         simp only [pL,List.set]
         refine ord_quietL _ ?_ rfl hS rfl ?_ ?_
         rotate_left
         ·rintro w' ⟨hn,rhA,rhL⟩;go_simp;rfl
         simp only [pL,List.set]
         refine ord_quietL _ ?_ rfl hS rfl ?_ ?_
         rotate_left
         ·rintro w' ⟨hn,rhA,rhL⟩;go_simp;rfl
         simp only [pL,List.set]
         refine ord_quietL _ ?_ rfl hS rfl ?_ ?_
         rotate_left
         ·rintro w' ⟨hn,rhA,rhL⟩;have g0:w'.cell? ⟨L,1,none⟩ = some (.int .i64 x.2):=cell_blk rhL rfl;go_simp;rfl
         simp only [pL,List.set]
         refine ord_quietL _ ?_ rfl hS rfl ?_ ?_
         rotate_left
         ·rintro w' ⟨hn,rhA,rhL⟩;go_simp;rfl
         simp only [pL,List.set]
         refine ord_quietL _ ?_ rfl hS rfl ?_ ?_
         rotate_left
         ·rintro w' ⟨hn,rhA,rhL⟩;go_simp;rfl
         simp only [pL,List.set]
         refine ord_quietL _ ?_ rfl hS rfl ?_ ?_
         rotate_left
         ·rintro w' ⟨hn,rhA,rhL⟩;go_simp;rfl
         simp only [pL,List.set]
         refine ord_quietL _ ?_ rfl hS rfl ?_ ?_
         rotate_left
         ·rintro w' ⟨hn,rhA,rhL⟩;go_simp;rfl
         simp only [pL,List.set]
         refine ord_quietL _ ?_ rfl hS rfl ?_ ?_
         rotate_left
         ·rintro w' ⟨hn,rhA,rhL⟩;go_simp;first | exact congrArg Value.bool b16 | exact congrArg Value.bool b16n | rfl
         simp only [pL,List.set]
         refine ord_quietL _ ?_ rfl hS rfl ?_ ?_
         rotate_left
         ·rintro w' ⟨hn,rhA,rhL⟩;go_simp;rfl
         simp only [pL,List.set]
         refine ord_quietL _ ?_ rfl hS rfl ?_ ?_
         rotate_left
         ·rintro w' ⟨hn,rhA,rhL⟩;go_simp;rfl
         simp only [pL,List.set]
         refine ord_quietL _ ?_ rfl hS rfl ?_ ?_
         rotate_left
         ·rintro w' ⟨hn,rhA,rhL⟩;go_simp;rfl
         simp only [pL,List.set]
         refine ord_quietL _ ?_ rfl hS rfl ?_ ?_
         rotate_left
         ·rintro w' ⟨hn,rhA,rhL⟩;go_simp;rfl
         simp only [pL,List.set]
         refine ord_quietL _ ?_ rfl hS rfl ?_ ?_
         rotate_left
         ·rintro w' ⟨hn,rhA,rhL⟩;have g0:w'.cell? ⟨w.heap.size,8,none⟩ = some (.slice (some ⟨q,off,none⟩) t.links.length kc):=cell_blk rhA rfl;go_simp;rfl
         simp only [pL,List.set]
         refine ord_quietL _ ?_ rfl hS rfl ?_ ?_
         rotate_left
         ·rintro w' ⟨hn,rhA,rhL⟩;go_simp;first | exact congrArg (Value.int IntKind.i64) hs3 | exact congrArg (Value.int IntKind.i64) hs1 | exact congrArg (Value.int IntKind.i64) hs2 | rfl
         simp only [pL,List.set]
         refine ord_quietL _ ?_ rfl hS rfl ?_ ?_
         rotate_left
         ·rintro w' ⟨hn,rhA,rhL⟩;have g0:w'.cell? ⟨L,0,none⟩ = some (.int .u64 x.1):=cell_blk rhL rfl;go_simp;rfl
         simp only [pL,List.set]
         refine ord_quietL _ ?_ rfl hS rfl ?_ ?_
         rotate_left
         ·rintro w' ⟨hn,rhA,rhL⟩;go_simp;first | rfl | (rw [if_pos (by omega)];done) | (rw [if_pos (by omega)];rfl) | (rw [if_pos (by omega)];go_simp;rfl)
         simp only [pL,List.set]
         refine ord_quietL _ ?_ rfl hS rfl ?_ ?_
         rotate_left
         ·rintro w' ⟨hn,rhA,rhL⟩;go_simp;rfl
         simp only [pL,List.set]
         refine ord_quietL _ ?_ rfl hS rfl ?_ ?_
         rotate_left
         ·rintro w' ⟨hn,rhA,rhL⟩;have g0:w'.cell? ⟨q,off + j * 2,none⟩ = some (.int .u64 pv):=(fr_cell hn hql (fun h=>h)).trans dp;go_simp;rfl
         simp only [pL,List.set]
         refine ord_quietL _ ?_ rfl hS rfl ?_ ?_
         rotate_left
         ·rintro w' ⟨hn,rhA,rhL⟩;go_simp;rfl
         simp only [pL,List.set]
         refine ord_quietL _ ?_ rfl hS rfl ?_ ?_
         rotate_left
         ·rintro w' ⟨hn,rhA,rhL⟩;go_simp;rfl
         simp only [pL,List.set]
         refine ord_quietL _ ?_ rfl hS rfl ?_ ?_
         rotate_left
         ·rintro w' ⟨hn,rhA,rhL⟩;go_simp;rfl
         simp only [pL,List.set]
         refine ord_quietL _ ?_ rfl hS rfl ?_ ?_
         rotate_left
         ·rintro w' ⟨hn,rhA,rhL⟩;go_simp;rfl
         simp only [pL,List.set]
         refine ord_quietL _ ?_ rfl hS rfl ?_ ?_
         rotate_left
         ·rintro w' ⟨hn,rhA,rhL⟩;go_simp;rfl
         simp only [pL,List.set]
         refine ord_quietL _ ?_ rfl hS rfl ?_ ?_
         rotate_left
         ·rintro w' ⟨hn,rhA,rhL⟩;go_simp;first | exact congrArg Value.bool b32 | exact congrArg Value.bool b32n | rfl
         simp only [pL,List.set]
         refine ord_tail ?_
         simp only [List.drop_succ_cons,List.drop_zero]
         have hno:Hid (¬ (t = ofK t∧KindOk t)):=fun h=>by have h4:=hmust.out h;have:=h4.2.2.2;omega
         replace nW:=nw_trans nWl m0
         clear hSof hS
         go_wp2
         go_ret
         exact ans_no hno.out nW
        | false =>
         have hni:Hid (¬ idOk x.1):=not_of_false q1
         clear q1
         refine hK1 _ _ (hSof.out _ m0) ?_
         clear hK1 K1 hcon qn hS hW0
         have hS:=hSof.out _ m0
         refine ord_quietL _ ?_ rfl hS rfl ?_ ?_
         rotate_left
         ·rintro w' ⟨hn,rhA,rhL⟩;go_simp;rfl
         simp only [pL,List.set]
         refine ord_quietL _ ?_ rfl hS rfl ?_ ?_
         rotate_left
         ·rintro w' ⟨hn,rhA,rhL⟩;go_simp;rfl
         simp only [pL,List.set]
         refine ord_skipL _ rfl hS rfl ?_
         simp only [pL,List.set]
         refine ord_skipL _ rfl hS rfl ?_
         simp only [pL,List.set]
         refine ord_skipL _ rfl hS rfl ?_
         simp only [pL,List.set]
         refine ord_quietL _ ?_ rfl hS rfl ?_ ?_
         rotate_left
         ·rintro w' ⟨hn,rhA,rhL⟩;go_simp;rfl
         simp only [pL,List.set]
         refine ord_quietL _ ?_ rfl hS rfl ?_ ?_
         rotate_left
         ·rintro w' ⟨hn,rhA,rhL⟩;go_simp;rfl
         simp only [pL,List.set]
         refine ord_skipL _ rfl hS rfl ?_
         simp only [pL,List.set]
         refine ord_skipL _ rfl hS rfl ?_
         simp only [pL,List.set]
         refine ord_skipL _ rfl hS rfl ?_
         simp only [pL,List.set]
         refine ord_quietL _ ?_ rfl hS rfl ?_ ?_
         rotate_left
         ·rintro w' ⟨hn,rhA,rhL⟩;go_simp;rfl
         simp only [pL,List.set]
         refine ord_quietL _ ?_ rfl hS rfl ?_ ?_
         rotate_left
         ·rintro w' ⟨hn,rhA,rhL⟩;go_simp;rfl
         simp only [pL,List.set]
         refine ord_skipL _ rfl hS rfl ?_
         simp only [pL,List.set]
         refine ord_skipL _ rfl hS rfl ?_
         simp only [pL,List.set]
         refine ord_skipL _ rfl hS rfl ?_
         simp only [pL,List.set]
         refine ord_skipL _ rfl hS rfl ?_
         simp only [pL,List.set]
         refine ord_skipL _ rfl hS rfl ?_
         simp only [pL,List.set]
         refine ord_skipL _ rfl hS rfl ?_
         simp only [pL,List.set]
         refine ord_skipL _ rfl hS rfl ?_
         simp only [pL,List.set]
         refine ord_skipL _ rfl hS rfl ?_
         simp only [pL,List.set]
         refine ord_skipL _ rfl hS rfl ?_
         simp only [pL,List.set]
         refine ord_skipL _ rfl hS rfl ?_
         simp only [pL,List.set]
         refine ord_skipL _ rfl hS rfl ?_
         simp only [pL,List.set]
         refine ord_skipL _ rfl hS rfl ?_
         simp only [pL,List.set]
         refine ord_skipL _ rfl hS rfl ?_
         simp only [pL,List.set]
         refine ord_skipL _ rfl hS rfl ?_
         simp only [pL,List.set]
         refine ord_quietL _ ?_ rfl hS rfl ?_ ?_
         rotate_left
         ·rintro w' ⟨hn,rhA,rhL⟩;go_simp;rfl
         simp only [pL,List.set]
         refine ord_quietL _ ?_ rfl hS rfl ?_ ?_
         rotate_left
         ·rintro w' ⟨hn,rhA,rhL⟩;go_simp;rfl
         simp only [pL,List.set]
         refine ord_skipL _ rfl hS rfl ?_
         simp only [pL,List.set]
         refine ord_skipL _ rfl hS rfl ?_
         simp only [pL,List.set]
         refine ord_tail ?_
         simp only [List.drop_succ_cons,List.drop_zero]
         have hno:Hid (¬ (t = ofK t∧KindOk t)):=fun h=>hni.out (hmust.out h).1
         replace nW:=nw_trans nWl m0
         clear hSof hS
         go_wp2
         go_ret
         exact ans_no hno.out nW
       ·have b32:decide (16 ≤ (k:Int)) = false:=decide_eq_false (by omega)
        have b32n:decide (16 ≤ k) = false:=decide_eq_false (by omega)
        have hk15:Hid (k < 16):=by unfold Hid;omega
        have hSof:∀ w',Nw Wl w'→(fun w':World=>Nw Wl w'∧w'.heap[w.heap.size]? = some (.cells (thC t uL uC (.slice (some ⟨q,off,none⟩) t.links.length kc) uD).toArray 34 (0,0))∧w'.heap[L]? = some (.cells #[.int .u64 x.1,.int .i64 x.2] 54 (0,0))) w':=fun w' hw=>⟨hw,(hw.block _ (heap_lt hA) (fun h=>h)).trans hA,(hw.block _ (heap_lt hL) (fun h=>h)).trans hL⟩
        have hW0:Nw Wl Wl.drew:=Fr.drew (Fr.refl _ Wl)
        have hS:=hSof _ hW0
        replace hSof:Hid _:=hSof
        refine wp_region_ord [] 33 [(0,true),(1,true),(2,false),(3,true),(4,true),(5,true),(6,true),(7,true),(8,true),(9,true),(10,true),(11,true),(12,true),(13,true),(14,true),(15,true),(16,true),(17,true),(18,true),(20,true),(25,true),(19,true),(21,true),(26,true),(22,true),(23,true),(24,true),(27,true),(28,true),(29,true),(30,true),(31,true),(32,true)] (fun w':World=>Nw Wl w'∧w'.heap[w.heap.size]? = some (.cells (thC t uL uC (.slice (some ⟨q,off,none⟩) t.links.length kc) uD).toArray 34 (0,0))∧w'.heap[L]? = some (.cells #[.int .u64 x.1,.int .i64 x.2] 54 (0,0))) (by kernel_rfl) (by kernel_rfl) ?_
        refine ord_quietL _ ?_ rfl hS rfl ?_ ?_
        rotate_left
        ·rintro w' ⟨hn,rhA,rhL⟩;go_simp;rfl
        simp only [pL,List.set]
        refine ord_quietL _ ?_ rfl hS rfl ?_ ?_
        rotate_left
        ·rintro w' ⟨hn,rhA,rhL⟩;have g0:w'.cell? ⟨L,0,none⟩ = some (.int .u64 x.1):=cell_blk rhL rfl;go_simp;rfl
        simp only [pL,List.set]
        refine ord_actL _ rfl (fun K1 hK1=>?_)
        have hcon:Hid _:=c_rid x.1 Wl.drew
        unfold AnsP at hcon
        go_wp2_with (go_at_call 61;refine Calls.mono hcon.out ?_;rintro e wk0 ⟨r,rfl,q1,qn⟩)
        have m0:=nw_trans hW0 qn
        cases r with
        | true =>
         have hid:Hid (idOk x.1):=q1.1 rfl
         clear q1
         refine hK1 _ _ (hSof.out _ m0) ?_
         clear hK1 K1 hcon qn hS hW0
         have hS:=hSof.out _ m0
         refine ord_quietL _ ?_ rfl hS rfl ?_ ?_
         rotate_left
         ·rintro w' ⟨hn,rhA,rhL⟩;go_simp;rfl
         simp only [pL,List.set]
         refine ord_quietL _ ?_ rfl hS rfl ?_ ?_
         rotate_left
         ·rintro w' ⟨hn,rhA,rhL⟩;go_simp;rfl
         simp only [pL,List.set]
         refine ord_quietL _ ?_ rfl hS rfl ?_ ?_
         rotate_left
         ·rintro w' ⟨hn,rhA,rhL⟩;go_simp;rfl
         simp only [pL,List.set]
         refine ord_quietL _ ?_ rfl hS rfl ?_ ?_
         rotate_left
         ·rintro w' ⟨hn,rhA,rhL⟩;have g0:w'.cell? ⟨L,1,none⟩ = some (.int .i64 x.2):=cell_blk rhL rfl;go_simp;rfl
         simp only [pL,List.set]
         refine ord_quietL _ ?_ rfl hS rfl ?_ ?_
         rotate_left
         ·rintro w' ⟨hn,rhA,rhL⟩;go_simp;rfl
         simp only [pL,List.set]
         refine ord_quietL _ ?_ rfl hS rfl ?_ ?_
         rotate_left
         ·rintro w' ⟨hn,rhA,rhL⟩;go_simp;rfl
         simp only [pL,List.set]
         refine ord_quietL _ ?_ rfl hS rfl ?_ ?_
         rotate_left
         ·rintro w' ⟨hn,rhA,rhL⟩;go_simp;rfl
         simp only [pL,List.set]
         refine ord_quietL _ ?_ rfl hS rfl ?_ ?_
         rotate_left
         ·rintro w' ⟨hn,rhA,rhL⟩;go_simp;rfl
         simp only [pL,List.set]
         refine ord_quietL _ ?_ rfl hS rfl ?_ ?_
         rotate_left
         ·rintro w' ⟨hn,rhA,rhL⟩;have g0:w'.cell? ⟨L,1,none⟩ = some (.int .i64 x.2):=cell_blk rhL rfl;go_simp;rfl
         simp only [pL,List.set]
         refine ord_quietL _ ?_ rfl hS rfl ?_ ?_
         rotate_left
         ·rintro w' ⟨hn,rhA,rhL⟩;go_simp;rfl
         simp only [pL,List.set]
         refine ord_quietL _ ?_ rfl hS rfl ?_ ?_
         rotate_left
         ·rintro w' ⟨hn,rhA,rhL⟩;go_simp;rfl
         simp only [pL,List.set]
         refine ord_quietL _ ?_ rfl hS rfl ?_ ?_
         rotate_left
         ·rintro w' ⟨hn,rhA,rhL⟩;go_simp;rfl
         simp only [pL,List.set]
         refine ord_quietL _ ?_ rfl hS rfl ?_ ?_
         rotate_left
         ·rintro w' ⟨hn,rhA,rhL⟩;go_simp;rfl
         simp only [pL,List.set]
         refine ord_quietL _ ?_ rfl hS rfl ?_ ?_
         rotate_left
         ·rintro w' ⟨hn,rhA,rhL⟩;go_simp;first | exact congrArg Value.bool b16 | exact congrArg Value.bool b16n | rfl
         simp only [pL,List.set]
         refine ord_quietL _ ?_ rfl hS rfl ?_ ?_
         rotate_left
         ·rintro w' ⟨hn,rhA,rhL⟩;go_simp;rfl
         simp only [pL,List.set]
         refine ord_quietL _ ?_ rfl hS rfl ?_ ?_
         rotate_left
         ·rintro w' ⟨hn,rhA,rhL⟩;go_simp;rfl
         simp only [pL,List.set]
         refine ord_quietL _ ?_ rfl hS rfl ?_ ?_
         rotate_left
         ·rintro w' ⟨hn,rhA,rhL⟩;go_simp;rfl
         simp only [pL,List.set]
         refine ord_quietL _ ?_ rfl hS rfl ?_ ?_
         rotate_left
         ·rintro w' ⟨hn,rhA,rhL⟩;go_simp;rfl
         simp only [pL,List.set]
         refine ord_quietL _ ?_ rfl hS rfl ?_ ?_
         rotate_left
         ·rintro w' ⟨hn,rhA,rhL⟩;have g0:w'.cell? ⟨w.heap.size,8,none⟩ = some (.slice (some ⟨q,off,none⟩) t.links.length kc):=cell_blk rhA rfl;go_simp;rfl
         simp only [pL,List.set]
         refine ord_quietL _ ?_ rfl hS rfl ?_ ?_
         rotate_left
         ·rintro w' ⟨hn,rhA,rhL⟩;go_simp;first | exact congrArg (Value.int IntKind.i64) hs3 | exact congrArg (Value.int IntKind.i64) hs1 | exact congrArg (Value.int IntKind.i64) hs2 | rfl
         simp only [pL,List.set]
         refine ord_quietL _ ?_ rfl hS rfl ?_ ?_
         rotate_left
         ·rintro w' ⟨hn,rhA,rhL⟩;have g0:w'.cell? ⟨L,0,none⟩ = some (.int .u64 x.1):=cell_blk rhL rfl;go_simp;rfl
         simp only [pL,List.set]
         refine ord_quietL _ ?_ rfl hS rfl ?_ ?_
         rotate_left
         ·rintro w' ⟨hn,rhA,rhL⟩;go_simp;first | rfl | (rw [if_pos (by omega)];done) | (rw [if_pos (by omega)];rfl) | (rw [if_pos (by omega)];go_simp;rfl)
         simp only [pL,List.set]
         refine ord_quietL _ ?_ rfl hS rfl ?_ ?_
         rotate_left
         ·rintro w' ⟨hn,rhA,rhL⟩;go_simp;rfl
         simp only [pL,List.set]
         refine ord_quietL _ ?_ rfl hS rfl ?_ ?_
         rotate_left
         ·rintro w' ⟨hn,rhA,rhL⟩;have g0:w'.cell? ⟨q,off + j * 2,none⟩ = some (.int .u64 pv):=(fr_cell hn hql (fun h=>h)).trans dp;go_simp;rfl
         simp only [pL,List.set]
         refine ord_quietL _ ?_ rfl hS rfl ?_ ?_
         rotate_left
         ·rintro w' ⟨hn,rhA,rhL⟩;go_simp;rfl
         simp only [pL,List.set]
         refine ord_quietL _ ?_ rfl hS rfl ?_ ?_
         rotate_left
         ·rintro w' ⟨hn,rhA,rhL⟩;go_simp;rfl
         simp only [pL,List.set]
         refine ord_quietL _ ?_ rfl hS rfl ?_ ?_
         rotate_left
         ·rintro w' ⟨hn,rhA,rhL⟩;go_simp;rfl
         simp only [pL,List.set]
         refine ord_quietL _ ?_ rfl hS rfl ?_ ?_
         rotate_left
         ·rintro w' ⟨hn,rhA,rhL⟩;go_simp;rfl
         simp only [pL,List.set]
         refine ord_quietL _ ?_ rfl hS rfl ?_ ?_
         rotate_left
         ·rintro w' ⟨hn,rhA,rhL⟩;go_simp;rfl
         simp only [pL,List.set]
         refine ord_quietL _ ?_ rfl hS rfl ?_ ?_
         rotate_left
         ·rintro w' ⟨hn,rhA,rhL⟩;go_simp;first | exact congrArg Value.bool b32 | exact congrArg Value.bool b32n | rfl
         simp only [pL,List.set]
         refine ord_tail ?_
         simp only [List.drop_succ_cons,List.drop_zero]
         have hL9:=(m0.block _ (heap_lt hL) (fun h=>h)).trans hL
         have a1:wk0.cell? ⟨L,1,none⟩ = some (.int .i64 x.2):=cell_blk hL9 rfl
         have hw9:Hid (Nw X8 wk0):=nw_trans nXl m0
         have hy:Hid _:=hstep.out hlast.out hid.out ⟨by omega,by omega⟩
         have hwr:wrap64 (used + x.2) = used + x.2:=by unfold wrap64;omega
         have hn1:Hid (1 ≤ used + x.2∧used + x.2 ≤ 1 + 48 * ((k + 1:Nat):Int)):=by unfold Hid;omega
         have hk16:Hid (k + 1 ≤ 16):=by have:=hk15.out;unfold Hid;omega
         clear hSof hS hL9 hinv hmust hstep
         go_wp2
         go_roundw
         case rel=>exact ⟨k + 1,used + x.2,by omega,hk16.out,by go_num,by first | rfl | rw [hwr],⟨hy.out.1,hy.out.2.2⟩,hn1.out.1,hn1.out.2,hw9.out⟩
         case measure=>simp [intOf];omega
        | false =>
         have hni:Hid (¬ idOk x.1):=not_of_false q1
         clear q1
         refine hK1 _ _ (hSof.out _ m0) ?_
         clear hK1 K1 hcon qn hS hW0
         have hS:=hSof.out _ m0
         refine ord_quietL _ ?_ rfl hS rfl ?_ ?_
         rotate_left
         ·rintro w' ⟨hn,rhA,rhL⟩;go_simp;rfl
         simp only [pL,List.set]
         refine ord_quietL _ ?_ rfl hS rfl ?_ ?_
         rotate_left
         ·rintro w' ⟨hn,rhA,rhL⟩;go_simp;rfl
         simp only [pL,List.set]
         refine ord_skipL _ rfl hS rfl ?_
         simp only [pL,List.set]
         refine ord_skipL _ rfl hS rfl ?_
         simp only [pL,List.set]
         refine ord_skipL _ rfl hS rfl ?_
         simp only [pL,List.set]
         refine ord_quietL _ ?_ rfl hS rfl ?_ ?_
         rotate_left
         ·rintro w' ⟨hn,rhA,rhL⟩;go_simp;rfl
         simp only [pL,List.set]
         refine ord_quietL _ ?_ rfl hS rfl ?_ ?_
         rotate_left
         ·rintro w' ⟨hn,rhA,rhL⟩;go_simp;rfl
         simp only [pL,List.set]
         refine ord_skipL _ rfl hS rfl ?_
         simp only [pL,List.set]
         refine ord_skipL _ rfl hS rfl ?_
         simp only [pL,List.set]
         refine ord_skipL _ rfl hS rfl ?_
         simp only [pL,List.set]
         refine ord_quietL _ ?_ rfl hS rfl ?_ ?_
         rotate_left
         ·rintro w' ⟨hn,rhA,rhL⟩;go_simp;rfl
         simp only [pL,List.set]
         refine ord_quietL _ ?_ rfl hS rfl ?_ ?_
         rotate_left
         ·rintro w' ⟨hn,rhA,rhL⟩;go_simp;rfl
         simp only [pL,List.set]
         refine ord_skipL _ rfl hS rfl ?_
         simp only [pL,List.set]
         refine ord_skipL _ rfl hS rfl ?_
         simp only [pL,List.set]
         refine ord_skipL _ rfl hS rfl ?_
         simp only [pL,List.set]
         refine ord_skipL _ rfl hS rfl ?_
         simp only [pL,List.set]
         refine ord_skipL _ rfl hS rfl ?_
         simp only [pL,List.set]
         refine ord_skipL _ rfl hS rfl ?_
         simp only [pL,List.set]
         refine ord_skipL _ rfl hS rfl ?_
         simp only [pL,List.set]
         refine ord_skipL _ rfl hS rfl ?_
         simp only [pL,List.set]
         refine ord_skipL _ rfl hS rfl ?_
         simp only [pL,List.set]
         refine ord_skipL _ rfl hS rfl ?_
         simp only [pL,List.set]
         refine ord_skipL _ rfl hS rfl ?_
         simp only [pL,List.set]
         refine ord_skipL _ rfl hS rfl ?_
         simp only [pL,List.set]
         refine ord_skipL _ rfl hS rfl ?_
         simp only [pL,List.set]
         refine ord_skipL _ rfl hS rfl ?_
         simp only [pL,List.set]
         refine ord_quietL _ ?_ rfl hS rfl ?_ ?_
         rotate_left
         ·rintro w' ⟨hn,rhA,rhL⟩;go_simp;rfl
         simp only [pL,List.set]
         refine ord_quietL _ ?_ rfl hS rfl ?_ ?_
         rotate_left
         ·rintro w' ⟨hn,rhA,rhL⟩;go_simp;rfl
         simp only [pL,List.set]
         refine ord_skipL _ rfl hS rfl ?_
         simp only [pL,List.set]
         refine ord_skipL _ rfl hS rfl ?_
         simp only [pL,List.set]
         refine ord_tail ?_
         simp only [List.drop_succ_cons,List.drop_zero]
         have hno:Hid (¬ (t = ofK t∧KindOk t)):=fun h=>hni.out (hmust.out h).1
         replace nW:=nw_trans nWl m0
         clear hSof hS
         go_wp2
         go_ret
         exact ans_no hno.out nW
  ·have hkn:k = t.links.length:=by omega
   have h16:Hid (t.links.length ≤ 16):=by unfold Hid;omega
   have hsum:Hid (used = 1 + sumL t.links):=by have:=hinv.out.2;rw [hkn,List.take_length] at this;exact this
   replace hinv:Hid (LkTo t.links t.links.length∧True):=⟨by have:=hinv.out.1;rw [hkn] at this;exact this,trivial⟩
   replace hA:=(hw.block _ (heap_lt hA) (fun h=>h)).trans hA
   replace hB:=(hw.block _ (heap_lt hB) (fun h=>h)).trans hB
   replace ht:=ht.nw hw
   replace nW:=nw_trans nW hw
   replace hkn:Hid _:=hkn
   clear hw hkl0 hk16
   have a4:wr.cell? ⟨w.heap.size,6,none⟩ = some (.int .i64 t.quota):=cell_blk hA rfl
   have a7:wr.cell? ⟨w.heap.size,7,none⟩ = some (.int .i64 t.next):=cell_blk hA rfl
   go_upto_region 19 with fail
   clear hlt hu1 hu2
   by_cases c1:t.quota < 1
   ·have b1:decide (t.quota < 1) = true:=decide_eq_true c1
    have hno:Hid (¬ (t = ofK t∧KindOk t)):=fun h=>by have h4:=(kd1 hk.out).1 h.2;have:=h4.quota.1;omega
    clear ht hA hB hinv
    go_wp2
    go_ret
    exact ans_no hno.out nW
   ·have b1:decide (t.quota < 1) = false:=decide_eq_false c1
    by_cases c2:48 < t.quota
    ·have b2:decide (48 < t.quota) = true:=decide_eq_true c2
     have hno:Hid (¬ (t = ofK t∧KindOk t)):=fun h=>by have h4:=(kd1 hk.out).1 h.2;have:=h4.quota.2;omega
     clear ht hA hB hinv
     go_wp2
     go_ret
     exact ans_no hno.out nW
    ·have b2:decide (48 < t.quota) = false:=decide_eq_false c2
     by_cases c3:t.quota < used
     ·have b3:decide (t.quota < used) = true:=decide_eq_true c3
      have hno:Hid (¬ (t = ofK t∧KindOk t)):=fun h=>by have h4:=(kd1 hk.out).1 h.2;have:=h4.sum;have:=hsum.out;omega
      clear ht hA hB hinv
      go_wp2
      go_ret
      exact ans_no hno.out nW
     ·have b3:decide (t.quota < used) = false:=decide_eq_false c3
      by_cases c4:t.next < 0
      ·have b4:decide (t.next < 0) = true:=decide_eq_true c4
       have hno:Hid (¬ (t = ofK t∧KindOk t)):=fun h=>by have h4:=(kd1 hk.out).1 h.2;have:=h4.next.1;omega
       clear ht hA hB hinv
       go_wp2
       go_ret
       exact ans_no hno.out nW
      ·have b4:decide (t.next < 0) = false:=decide_eq_false c4
       by_cases c5:63 < t.next
       ·have b5:decide (63 < t.next) = true:=decide_eq_true c5
        have hno:Hid (¬ (t = ofK t∧KindOk t)):=fun h=>by have h4:=(kd1 hk.out).1 h.2;have:=h4.next.2;omega
        clear ht hA hB hinv
        go_wp2
        go_ret
        exact ans_no hno.out nW
       ·have b5:decide (63 < t.next) = false:=decide_eq_false c5
        have a1:wr.cell? ⟨w.heap.size,1,none⟩ = some (.int .i64 t.kind):=cell_blk hA rfl
        go_upto_region 54 with fail
        clear a1 b1 b2 b3 b4 b5
        have hbk:Hid (bareK t = { t with next:=0,links:=[] }):=by have hk:=hk.out;unfold Hid bareK;simp [hk]
        have hbare:ThAt (fun b=>b < w.heap.size) wr ({ t with next:=0,links:=[] }) uL uC (.slice none 0 0) uD:=⟨ht.l,ht.c,csl_nil _ _,ht.d⟩
        have bq:(t.quota == t.quota) = true:=by simp
        have hyes:Hid (KindOk t):=.inl ⟨hk.out,⟨by omega,by omega⟩,⟨by omega,by omega⟩,h16.out,⟨fun i h=>hinv.out.1.1 i h h,fun i h=>hinv.out.1.2 i h h⟩,by have:=hsum.out;omega⟩
        refine wp_region_list ?_
        simp only [List.toList_toArray,List.append_eq,List.cons_append,List.nil_append]
        refine nd_quiet ?_ rfl ?_ ?_
        rotate_left
        ·go_simp;rfl
        simp only [pL,List.set]
        refine nd_quiet ?_ rfl ?_ ?_
        rotate_left
        ·have g0:wr.cell? ⟨w.heap.size,6,none⟩ = some (.int .i64 t.quota):=cell_blk hA rfl;go_simp;rfl
        simp only [pL,List.set]
        refine nd_quiet ?_ rfl ?_ ?_
        rotate_left
        ·go_simp;rfl
        simp only [pL,List.set]
        refine nd_quiet ?_ rfl ?_ ?_
        rotate_left
        ·go_simp;first | exact congrArg Value.bool bq | rfl
        simp only [pL,List.set]
        refine nd_quiet ?_ rfl ?_ ?_
        rotate_left
        ·go_simp;rfl
        simp only [pL,List.set]
        refine nd_quiet ?_ rfl ?_ ?_
        rotate_left
        ·refine (run_load_quiet 34 _ wr rfl P 0 rfl (thC ({ t with next:=0,links:=[] }) uL uC (.slice none 0 0) uD) (range_all hB) Try.rowT Try.sizeT).trans ?_;rfl
        simp only [pL,List.set]
        refine nd_quiet ?_ rfl ?_ ?_
        rotate_left
        ·go_simp;rfl
        simp only [pL,List.set]
        refine nd_quiet ?_ rfl ?_ ?_
        rotate_left
        ·have g0:wr.cell? ⟨w.heap.size,0,none⟩ = some (.int .u64 t.id):=cell_blk hA rfl;go_simp;rfl
        simp only [pL,List.set]
        refine nd_quiet ?_ rfl ?_ ?_
        rotate_left
        ·go_simp;rfl
        simp only [pL,List.set]
        refine nd_quiet ?_ rfl ?_ ?_
        rotate_left
        ·have g0:wr.cell? ⟨w.heap.size,1,none⟩ = some (.int .i64 t.kind):=cell_blk hA rfl;go_simp;rfl
        simp only [pL,List.set]
        refine nd_quiet ?_ rfl ?_ ?_
        rotate_left
        ·go_simp;rfl
        simp only [pL,List.set]
        refine nd_quiet ?_ rfl ?_ ?_
        rotate_left
        ·have g0:wr.cell? ⟨w.heap.size,2,none⟩ = some (.int .i64 t.df):=cell_blk hA rfl;have g1:wr.cell? ⟨w.heap.size,3,none⟩ = some (uL):=cell_blk hA rfl;go_simp;rfl
        simp only [pL,List.set]
        refine nd_quiet ?_ rfl ?_ ?_
        rotate_left
        ·go_simp;rfl
        simp only [pL,List.set]
        refine nd_quiet ?_ rfl ?_ ?_
        rotate_left
        ·have g0:wr.cell? ⟨w.heap.size,6,none⟩ = some (.int .i64 t.quota):=cell_blk hA rfl;go_simp;rfl
        simp only [pL,List.set]
        refine wpList_build_as rfl 34 _ rfl (thV (baseT t) uL (.slice none 0 0) (.slice none 0 0) (.slice none 0 0)) (thC (baseT t) uL (.slice none 0 0) (.slice none 0 0) (.slice none 0 0)).toArray rfl ?z ?_
        case z =>
         simp only [List.map_cons,List.map_nil,Act.eval]
         exact builtThV t uL hfL
        simp only [pL,List.set]
        have hcs:Hid _:=c_rtsame wr hbare (tb_base ht)
        unfold AnsP at hcs
        clear hfL
        go_wp2_with (first | (go_at_call 15;refine Calls.mono hcs.out ?_;rintro e Vz ⟨r1,rfl,q1,n9⟩;refine stop_here ?_))
        unfold Hid
        have fin:Hid (AnsP (t = ofK t∧KindOk t) w (.returned (.bool r1)) Vz):=⟨r1,rfl,⟨fun hr=>⟨(bare_iff t).1 (hbk.out.trans (q1.1 hr)),hyes.out⟩,fun hr=>q1.2 (hbk.out.symm.trans ((bare_iff t).2 hr.1))⟩,nw_trans nW n9⟩
        clear hcs q1 n9 hbare ht hA hB
        go_wp2
        go_ret
        exact fin.out

end Go.Proofs.Ytgmfofngmfekbaa
