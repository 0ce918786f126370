/-
  ThX3, ThX4: in one text.
-/
import Derived.Test.YtgmfofngmfekbaaThGeS
namespace Go.Proofs.Ytgmfofngmfekbaa
set_option linter.unusedVariables false
set_option linter.unusedSimpArgs false
set_option maxRecDepth 20000
open Go.RowKit

set_option maxRecDepth 100000 in
set_option maxHeartbeats 6400000 in
theorem c_rk4 {X:Nat→Prop} {t:Th} {uL uC uK uD:Value} (w:World) (h:ThAt X w t uL uC uK uD) (hwf:WfT t) (l1:t.cats.length ≤ 8796093022208) (l2:t.ccats.length ≤ 8796093022208) (h1:idOk t.id) (h2:Rgt t.df t.cats) (h3:Pu t.df t.cats) (hk:t.kind = 4) :
  Calls Try.prog 35 #[(thV t uL uC uK uD)] w (AnsP (t = ofK t∧KindOk t) w):=by
 have bk1:(t.kind == 1) = false:=by simp [hk]
 have bk2:(t.kind == 2) = false:=by simp [hk]
 have bk3:(t.kind == 3) = false:=by simp [hk]
 have bk4:(t.kind == 4) = true:=by simp [hk]
 have bk5:(t.kind == 5) = false:=by simp [hk]
 have bk6:(t.kind == 6) = false:=by simp [hk]
 have bn2:(t.kind != 2) = true:=by simp [hk]
 have bn3:(t.kind != 3) = true:=by simp [hk]
 replace h1:Hid _:=h1
 replace h2:Hid _:=h2
 replace h3:Hid _:=h3
 obtain ⟨xa,xc,hfL⟩:∃ a c,uL = .slice a t.cats.length c:=by obtain ⟨a,c,e,_⟩:=h.l.form;exact ⟨a,c,e⟩
 replace hfL:Hid _:=hfL
 obtain ⟨W,hW⟩:∃ W,Hid (W = w.alloc (.cells (thC t uL uC uK uD).toArray 34)):=⟨_,rfl⟩
 have nW:Nw w W:=by rw [hW.out];exact nw_alloc (nw_refl w) _
 have hA:W.heap[w.heap.size]? = some (.cells (thC t uL uC uK uD).toArray 34 (0,0)):=by rw [hW.out];exact heap_alloc_new w _
 have ht:=(h.mono (X':=fun b=>b < w.heap.size) (fun b _ hb=>hb)).nw nW
 clear h
 go_enter Try.func35,Try.ntmps35
 go_upto_region 1 with (refine wpList_box_agg rfl 34 _ rfl (thV t uL uC uK uD) _ rfl rfl ?_)
 rw [← hW.out]
 clear hW
 have hPl:Hid (w.heap.size < W.heap.size):=heap_lt hA
 have hq1:Hid _:=c_rid t.id W
 unfold AnsP at hq1
 have a0:W.cell? ⟨w.heap.size,0,none⟩ = some (.int .u64 t.id):=cell_blk hA rfl
 have a1:W.cell? ⟨w.heap.size,1,none⟩ = some (.int .i64 t.kind):=cell_blk hA rfl
 have a2:W.cell? ⟨w.heap.size,2,none⟩ = some (.int .i64 t.df):=cell_blk hA rfl
 have a3:W.cell? ⟨w.heap.size,3,none⟩ = some (uL):=cell_blk hA rfl
 go_wp2_with (first | (go_at_call 61;refine Calls.mono hq1.out ?_;rintro e W1 ⟨r,rfl,q,n1⟩;obtain rfl:=q.2 h1.out;refine stop_here ?_))
 unfold Hid
 clear hq1 q a0 a1 a2 a3
 replace hA:=(n1.block _ (heap_lt hA) (fun h=>h)).trans hA
 replace ht:=ht.nw n1
 replace nW:=nw_trans nW n1
 have hq1:Hid _:=c_rright t.df W1 ht.l (by omega)
 unfold RgtP labV at hq1
 have a0:W1.cell? ⟨w.heap.size,0,none⟩ = some (.int .u64 t.id):=cell_blk hA rfl
 have a1:W1.cell? ⟨w.heap.size,1,none⟩ = some (.int .i64 t.kind):=cell_blk hA rfl
 have a2:W1.cell? ⟨w.heap.size,2,none⟩ = some (.int .i64 t.df):=cell_blk hA rfl
 have a3:W1.cell? ⟨w.heap.size,3,none⟩ = some (uL):=cell_blk hA rfl
 go_wp2_with (first | (go_at_call 62;refine Calls.mono hq1.out ?_;rintro e W2 ⟨r,rfl,q,n2⟩;obtain rfl:=q.2 h2.out;refine stop_here ?_))
 unfold Hid
 clear hq1 q a0 a1 a2 a3
 replace hA:=(n2.block _ (heap_lt hA) (fun h=>h)).trans hA
 replace ht:=ht.nw n2
 replace nW:=nw_trans nW n2
 have hq1:Hid _:=c_rpure t.df W2 ht.l
 unfold AnsP labV at hq1
 have a1:W2.cell? ⟨w.heap.size,1,none⟩ = some (.int .i64 t.kind):=cell_blk hA rfl
 have a2:W2.cell? ⟨w.heap.size,2,none⟩ = some (.int .i64 t.df):=cell_blk hA rfl
 have a3:W2.cell? ⟨w.heap.size,3,none⟩ = some (uL):=cell_blk hA rfl
 go_wp2_with (first | (go_at_call 63;refine Calls.mono hq1.out ?_;rintro e W3 ⟨r,rfl,q,n3⟩;obtain rfl:=q.2 h3.out;refine stop_here ?_))
 unfold Hid
 clear hq1 q a1 a2 a3
 replace hA:=(n3.block _ (heap_lt hA) (fun h=>h)).trans hA
 replace ht:=ht.nw n3
 replace nW:=nw_trans nW n3
 have a1:W3.cell? ⟨w.heap.size,1,none⟩ = some (.int .i64 t.kind):=cell_blk hA rfl
 go_upto_region 3 with fail
 clear a1
 replace hPl:Hid (w.heap.size < W3.heap.size):=heap_lt hA
 have hrA:=range_all hA
 obtain ⟨Y,hY⟩:∃ Y,Hid (Y = W3.alloc (.cells (thC zeroT (.slice none 0 0) (.slice none 0 0) (.slice none 0 0) (.slice none 0 0)).toArray 34)):=⟨_,rfl⟩
 have hP:Y.heap[W3.heap.size]? = some (.cells (thC zeroT (.slice none 0 0) (.slice none 0 0) (.slice none 0 0) (.slice none 0 0)).toArray 34 (0,0)):=by rw [hY.out];exact heap_alloc_new W3 _
 have nY:Nw W3 Y:=by rw [hY.out];exact nw_alloc (nw_refl _) _
 obtain ⟨V,hV⟩:∃ V,Hid (V = Y.setRow W3.heap.size (thC t uL uC uK uD).toArray):=⟨_,rfl⟩
 have hB:V.heap[W3.heap.size]? = some (.cells (thC t uL uC uK uD).toArray 34 (0,0)):=by rw [hV.out];exact setRow_heap _ _ _ _ _ _ hP
 have nV:Nw W3 V:=by rw [hV.out];exact Fr.setRow nY (.inr (Nat.le_refl _)) _
 have hone:=ht.one
 replace hA:=(nV.block _ (heap_lt hA) (fun h=>h)).trans hA
 replace ht:=ht.nw nV
 replace nW:=nw_trans nW nV
 go_wp2_with (first | (refine wpList_load_as rfl 34 _ rfl (w.heap.size) 0 rfl (thV t uL uC uK uD) _ rfl hrA Try.rowT Try.sizeT ?_) | (refine wpList_alloc_agg rfl 34 rfl _ Try.zeroTh ?_;rw [← hY.out];refine stop_here ?_))
 unfold Hid
 refine wpList_store_all rfl 34 _ _ rfl W3.heap.size rfl (thV t uL uC uK uD) rfl (thC t uL uC uK uD) rfl (thC zeroT (.slice none 0 0) (.slice none 0 0) (.slice none 0 0) (.slice none 0 0)) 34 hP rfl hone Try.sizeT ?_
 rw [← hV.out]
 have hPA:Hid (w.heap.size < W3.heap.size):=by have:=nV.size;have:=heap_lt hA;have:=heap_lt hB;have h9:=hPl.out;unfold Hid;omega
 have hPw:Hid (w.heap.size ≤ W3.heap.size):=Nat.le_of_lt hPA.out
 generalize W3.heap.size = P at *
 clear hY hV hP nY nV hone hrA
 have a1:V.cell? ⟨w.heap.size,1,none⟩ = some (.int .i64 t.kind):=cell_blk hA rfl
 go_upto_region 41 with fail
 clear a1
 replace hk:Hid _:=hk
 obtain ⟨da,dc,hfD,hd1,hd2⟩:∃ a c,uD = .slice a t.data.length c∧t.data.length ≤ c∧c ≤ 9223372036854775807:=by obtain ⟨a,c,e,h1,h2⟩:=ht.d.form;exact ⟨a,c,e,h1,h2⟩
 subst hfD
 have a9:V.cell? ⟨w.heap.size,9,none⟩ = some (.slice da t.data.length dc):=cell_blk hA rfl
 obtain ⟨N,hN⟩:∃ N,Hid (N = t.data.length):=⟨_,rfl⟩
 rw [← hN.out] at a9
 have hN63:N ≤ 9223372036854775807:=by rw [hN.out];omega
 have hq32:=run_quo32 N hN63
 have hr32:=run_rem32 N
 have had:=run_add1 N hN63
 clear hd1 hd2
 go_upto_region 42 with fail
 clear hq32 had
 by_cases c1:N < 32
 ·have b1:decide ((N:Int) < 32) = true:=decide_eq_true (by omega)
  have hno:Hid (¬ (t = ofK t∧KindOk t)):=fun h=>by have h4:=(kd4 hk.out).1 h.2;have e9:=hN.out;have:=h4.lo;omega
  clear ht hA hB hN63
  go_wp2
  go_ret
  exact ans_no hno.out nW
 ·have b1:decide ((N:Int) < 32) = false:=decide_eq_false (by omega)
  by_cases c2:128 < N
  ·have b2:decide ((128:Int) < (N:Int)) = true:=decide_eq_true (by omega)
   have hno:Hid (¬ (t = ofK t∧KindOk t)):=fun h=>by have h4:=(kd4 hk.out).1 h.2;have e9:=hN.out;have:=h4.hi;omega
   clear ht hA hB hN63
   go_wp2
   go_ret
   exact ans_no hno.out nW
  ·have b2:decide ((128:Int) < (N:Int)) = false:=decide_eq_false (by omega)
   by_cases c3:N % 32 = 0
   ·skip
    have b3:(((N % 32:Nat):Int) != 0) = false:=by simp;omega
    have hlo:Hid (32 ≤ N∧N ≤ 128∧N % 32 = 0):=⟨by omega,by omega,c3⟩
    clear c1 c2 c3
    have hBx:Hid (V.heap[P]? = _):=hB
    go_upto_region 44 with fail
    clear b1 b2 b3 hr32 hN63 hBx
    have y9:V.frozen? ⟨P,9,none⟩ = false:=free_blk hB
    have z9:V.cell? ⟨P,9,none⟩ = some (.slice da t.data.length dc):=cell_blk hB rfl
    obtain ⟨X9,hX⟩:∃ X9,Hid (X9 = (V.setCell ⟨P,9,none⟩ (.slice none 0 0))):=⟨_,rfl⟩
    have hB9:Hid (X9.heap[P]? = some (.cells (thC ({ t with data:=[] }) uL uC uK (.slice none 0 0)).toArray 34 (0,0))):=by unfold Hid;rw [hX.out,blk_setCell (hB)];rfl
    have f9:Hid (Fr (fun b=>b = P) V X9):=by unfold Hid;rw [hX.out];exact ((Fr.refl (fun b=>b = P) V).setCell (p:=⟨P,9,none⟩) (.inl rfl) (.slice none 0 0))
    go_upto_region 54 with fail
    rw [← hX.out]
    clear hX y9 z9
    replace hB:=hB9.out
    replace hA:=(f9.out.block _ (heap_lt hA) (fun e=>by have:=hPA.out;omega)).trans hA
    replace ht:=ht.keep f9.out (fun b hb _ e=>by have h9:b < w.heap.size:=hb;have:=hPA.out;omega) (fun b hb _=>hb)
    replace nW:Nw w X9:=Fr.trans nW f9.out (fun b hb=>.inr (by have:=hPw.out;omega))
    clear f9 hB9
    have hbk:Hid (bareK t = { t with data:=[] }):=by have hk:=hk.out;unfold Hid bareK;simp [hk]
    have hbare:ThAt (fun b=>b < w.heap.size) X9 ({ t with data:=[] }) uL uC uK (.slice none 0 0):=⟨ht.l,ht.c,ht.k,bsl_nil _ _⟩
    by_cases hq:t.quota = 1 + (N:Int) / 32
    ·have bq:(t.quota == 1 + (N:Int) / 32) = true:=by simp [hq]
     have hyes:Hid (KindOk t):=.inr (.inr (.inr (.inl ⟨hk.out,by have:=hlo.out;have:=hN.out;omega,by have:=hlo.out;have:=hN.out;omega,by have:=hlo.out;have:=hN.out;omega,by have:=hN.out;omega⟩)))
     clear hq
     refine wp_region_list ?_
     simp only [List.toList_toArray,List.append_eq,List.cons_append,List.nil_append]
     refine nd_quiet ?_ rfl ?_ ?_
     rotate_left
     ·go_simp;rfl
     simp only [pL,List.set]
     refine nd_quiet ?_ rfl ?_ ?_
     rotate_left
     ·have g0:X9.cell? ⟨w.heap.size,6,none⟩ = some (.int .i64 t.quota):=cell_blk hA rfl;go_simp;rfl
     simp only [pL,List.set]
     refine nd_quiet ?_ rfl ?_ ?_
     rotate_left
     ·go_simp;rfl
     simp only [pL,List.set]
     refine nd_quiet ?_ rfl ?_ ?_
     rotate_left
     ·go_simp;first | exact congrArg Value.bool bq | rfl
     simp only [pL,List.set]
     refine nd_quiet ?_ rfl ?_ ?_
     rotate_left
     ·go_simp;rfl
     simp only [pL,List.set]
     refine nd_quiet ?_ rfl ?_ ?_
     rotate_left
     ·refine (run_load_quiet 34 _ X9 rfl P 0 rfl (thC ({ t with data:=[] }) uL uC uK (.slice none 0 0)) (range_all hB) Try.rowT Try.sizeT).trans ?_;rfl
     simp only [pL,List.set]
     refine nd_quiet ?_ rfl ?_ ?_
     rotate_left
     ·go_simp;rfl
     simp only [pL,List.set]
     refine nd_quiet ?_ rfl ?_ ?_
     rotate_left
     ·have g0:X9.cell? ⟨w.heap.size,0,none⟩ = some (.int .u64 t.id):=cell_blk hA rfl;go_simp;rfl
     simp only [pL,List.set]
     refine nd_quiet ?_ rfl ?_ ?_
     rotate_left
     ·go_simp;rfl
     simp only [pL,List.set]
     refine nd_quiet ?_ rfl ?_ ?_
     rotate_left
     ·have g0:X9.cell? ⟨w.heap.size,1,none⟩ = some (.int .i64 t.kind):=cell_blk hA rfl;go_simp;rfl
     simp only [pL,List.set]
     refine nd_quiet ?_ rfl ?_ ?_
     rotate_left
     ·go_simp;rfl
     simp only [pL,List.set]
     refine nd_quiet ?_ rfl ?_ ?_
     rotate_left
     ·have g0:X9.cell? ⟨w.heap.size,2,none⟩ = some (.int .i64 t.df):=cell_blk hA rfl;have g1:X9.cell? ⟨w.heap.size,3,none⟩ = some (uL):=cell_blk hA rfl;go_simp;rfl
     simp only [pL,List.set]
     refine nd_quiet ?_ rfl ?_ ?_
     rotate_left
     ·go_simp;rfl
     simp only [pL,List.set]
     refine nd_quiet ?_ rfl ?_ ?_
     rotate_left
     ·have g0:X9.cell? ⟨w.heap.size,6,none⟩ = some (.int .i64 t.quota):=cell_blk hA rfl;go_simp;rfl
     simp only [pL,List.set]
     refine wpList_build_as rfl 34 _ rfl (thV (baseT t) uL (.slice none 0 0) (.slice none 0 0) (.slice none 0 0)) (thC (baseT t) uL (.slice none 0 0) (.slice none 0 0) (.slice none 0 0)).toArray rfl ?z ?_
     case z =>
      simp only [List.map_cons,List.map_nil,Act.eval]
      exact builtThV t uL hfL
     simp only [pL,List.set]
     have hcs:Hid _:=c_rtsame X9 hbare (tb_base ht)
     unfold AnsP at hcs
     clear hfL
     go_wp2_with (first | (go_at_call 15;refine Calls.mono hcs.out ?_;rintro e Vz ⟨r1,rfl,q1,n9⟩;refine stop_here ?_))
     unfold Hid
     have fin:Hid (AnsP (t = ofK t∧KindOk t) w (.returned (.bool r1)) Vz):=⟨r1,rfl,⟨fun hr=>⟨(bare_iff t).1 (hbk.out.trans (q1.1 hr)),hyes.out⟩,fun hr=>q1.2 (hbk.out.symm.trans ((bare_iff t).2 hr.1))⟩,nw_trans nW n9⟩
     clear hcs q1 n9 hbare ht hA hB
     go_wp2
     go_ret
     exact fin.out
    ·have bq:(t.quota == 1 + (N:Int) / 32) = false:=by simp [hq]
     have hno:Hid (¬ (t = ofK t∧KindOk t)):=fun h=>hq (by have h4:=((kd4 hk.out).1 h.2).quota;have:=hN.out;omega)
     clear hq
     have a6:X9.cell? ⟨w.heap.size,6,none⟩ = some (.int .i64 t.quota):=cell_blk hA rfl
     go_wp2
     go_ret
     exact ans_no hno.out nW
   ·have b3:(((N % 32:Nat):Int) != 0) = true:=by simp;omega
    have hno:Hid (¬ (t = ofK t∧KindOk t)):=fun h=>by have h4:=(kd4 hk.out).1 h.2;have e9:=hN.out;have:=h4.whole;rw [← e9] at this;exact c3 this
    clear ht hA hB hN63
    go_wp2
    go_ret
    exact ans_no hno.out nW

end Go.Proofs.Ytgmfofngmfekbaa

namespace Go.Proofs.Ytgmfofngmfekbaa
set_option linter.unusedVariables false
set_option linter.unusedSimpArgs false
set_option maxRecDepth 20000
open Go.RowKit

set_option maxRecDepth 100000 in
set_option maxHeartbeats 6400000 in
theorem c_rk5 {X:Nat→Prop} {t:Th} {uL uC uK uD:Value} (w:World) (h:ThAt X w t uL uC uK uD) (hwf:WfT t) (l1:t.cats.length ≤ 8796093022208) (l2:t.ccats.length ≤ 8796093022208) (h1:idOk t.id) (h2:Rgt t.df t.cats) (h3:Pu t.df t.cats) (hk:t.kind = 5) :
  Calls Try.prog 35 #[(thV t uL uC uK uD)] w (AnsP (t = ofK t∧KindOk t) w):=by
 have bk1:(t.kind == 1) = false:=by simp [hk]
 have bk2:(t.kind == 2) = false:=by simp [hk]
 have bk3:(t.kind == 3) = false:=by simp [hk]
 have bk4:(t.kind == 4) = false:=by simp [hk]
 have bk5:(t.kind == 5) = true:=by simp [hk]
 have bk6:(t.kind == 6) = false:=by simp [hk]
 have bn2:(t.kind != 2) = true:=by simp [hk]
 have bn3:(t.kind != 3) = true:=by simp [hk]
 replace h1:Hid _:=h1
 replace h2:Hid _:=h2
 replace h3:Hid _:=h3
 obtain ⟨xa,xc,hfL⟩:∃ a c,uL = .slice a t.cats.length c:=by obtain ⟨a,c,e,_⟩:=h.l.form;exact ⟨a,c,e⟩
 replace hfL:Hid _:=hfL
 obtain ⟨W,hW⟩:∃ W,Hid (W = w.alloc (.cells (thC t uL uC uK uD).toArray 34)):=⟨_,rfl⟩
 have nW:Nw w W:=by rw [hW.out];exact nw_alloc (nw_refl w) _
 have hA:W.heap[w.heap.size]? = some (.cells (thC t uL uC uK uD).toArray 34 (0,0)):=by rw [hW.out];exact heap_alloc_new w _
 have ht:=(h.mono (X':=fun b=>b < w.heap.size) (fun b _ hb=>hb)).nw nW
 clear h
 go_enter Try.func35,Try.ntmps35
 go_upto_region 1 with (refine wpList_box_agg rfl 34 _ rfl (thV t uL uC uK uD) _ rfl rfl ?_)
 rw [← hW.out]
 clear hW
 have hPl:Hid (w.heap.size < W.heap.size):=heap_lt hA
 have hq1:Hid _:=c_rid t.id W
 unfold AnsP at hq1
 have a0:W.cell? ⟨w.heap.size,0,none⟩ = some (.int .u64 t.id):=cell_blk hA rfl
 have a1:W.cell? ⟨w.heap.size,1,none⟩ = some (.int .i64 t.kind):=cell_blk hA rfl
 have a2:W.cell? ⟨w.heap.size,2,none⟩ = some (.int .i64 t.df):=cell_blk hA rfl
 have a3:W.cell? ⟨w.heap.size,3,none⟩ = some (uL):=cell_blk hA rfl
 go_wp2_with (first | (go_at_call 61;refine Calls.mono hq1.out ?_;rintro e W1 ⟨r,rfl,q,n1⟩;obtain rfl:=q.2 h1.out;refine stop_here ?_))
 unfold Hid
 clear hq1 q a0 a1 a2 a3
 replace hA:=(n1.block _ (heap_lt hA) (fun h=>h)).trans hA
 replace ht:=ht.nw n1
 replace nW:=nw_trans nW n1
 have hq1:Hid _:=c_rright t.df W1 ht.l (by omega)
 unfold RgtP labV at hq1
 have a0:W1.cell? ⟨w.heap.size,0,none⟩ = some (.int .u64 t.id):=cell_blk hA rfl
 have a1:W1.cell? ⟨w.heap.size,1,none⟩ = some (.int .i64 t.kind):=cell_blk hA rfl
 have a2:W1.cell? ⟨w.heap.size,2,none⟩ = some (.int .i64 t.df):=cell_blk hA rfl
 have a3:W1.cell? ⟨w.heap.size,3,none⟩ = some (uL):=cell_blk hA rfl
 go_wp2_with (first | (go_at_call 62;refine Calls.mono hq1.out ?_;rintro e W2 ⟨r,rfl,q,n2⟩;obtain rfl:=q.2 h2.out;refine stop_here ?_))
 unfold Hid
 clear hq1 q a0 a1 a2 a3
 replace hA:=(n2.block _ (heap_lt hA) (fun h=>h)).trans hA
 replace ht:=ht.nw n2
 replace nW:=nw_trans nW n2
 have hq1:Hid _:=c_rpure t.df W2 ht.l
 unfold AnsP labV at hq1
 have a1:W2.cell? ⟨w.heap.size,1,none⟩ = some (.int .i64 t.kind):=cell_blk hA rfl
 have a2:W2.cell? ⟨w.heap.size,2,none⟩ = some (.int .i64 t.df):=cell_blk hA rfl
 have a3:W2.cell? ⟨w.heap.size,3,none⟩ = some (uL):=cell_blk hA rfl
 go_wp2_with (first | (go_at_call 63;refine Calls.mono hq1.out ?_;rintro e W3 ⟨r,rfl,q,n3⟩;obtain rfl:=q.2 h3.out;refine stop_here ?_))
 unfold Hid
 clear hq1 q a1 a2 a3
 replace hA:=(n3.block _ (heap_lt hA) (fun h=>h)).trans hA
 replace ht:=ht.nw n3
 replace nW:=nw_trans nW n3
 have a1:W3.cell? ⟨w.heap.size,1,none⟩ = some (.int .i64 t.kind):=cell_blk hA rfl
 go_upto_region 3 with fail
 clear a1
 replace hPl:Hid (w.heap.size < W3.heap.size):=heap_lt hA
 have hrA:=range_all hA
 obtain ⟨Y,hY⟩:∃ Y,Hid (Y = W3.alloc (.cells (thC zeroT (.slice none 0 0) (.slice none 0 0) (.slice none 0 0) (.slice none 0 0)).toArray 34)):=⟨_,rfl⟩
 have hP:Y.heap[W3.heap.size]? = some (.cells (thC zeroT (.slice none 0 0) (.slice none 0 0) (.slice none 0 0) (.slice none 0 0)).toArray 34 (0,0)):=by rw [hY.out];exact heap_alloc_new W3 _
 have nY:Nw W3 Y:=by rw [hY.out];exact nw_alloc (nw_refl _) _
 obtain ⟨V,hV⟩:∃ V,Hid (V = Y.setRow W3.heap.size (thC t uL uC uK uD).toArray):=⟨_,rfl⟩
 have hB:V.heap[W3.heap.size]? = some (.cells (thC t uL uC uK uD).toArray 34 (0,0)):=by rw [hV.out];exact setRow_heap _ _ _ _ _ _ hP
 have nV:Nw W3 V:=by rw [hV.out];exact Fr.setRow nY (.inr (Nat.le_refl _)) _
 have hone:=ht.one
 replace hA:=(nV.block _ (heap_lt hA) (fun h=>h)).trans hA
 replace ht:=ht.nw nV
 replace nW:=nw_trans nW nV
 go_wp2_with (first | (refine wpList_load_as rfl 34 _ rfl (w.heap.size) 0 rfl (thV t uL uC uK uD) _ rfl hrA Try.rowT Try.sizeT ?_) | (refine wpList_alloc_agg rfl 34 rfl _ Try.zeroTh ?_;rw [← hY.out];refine stop_here ?_))
 unfold Hid
 refine wpList_store_all rfl 34 _ _ rfl W3.heap.size rfl (thV t uL uC uK uD) rfl (thC t uL uC uK uD) rfl (thC zeroT (.slice none 0 0) (.slice none 0 0) (.slice none 0 0) (.slice none 0 0)) 34 hP rfl hone Try.sizeT ?_
 rw [← hV.out]
 have hPA:Hid (w.heap.size < W3.heap.size):=by have:=nV.size;have:=heap_lt hA;have:=heap_lt hB;have h9:=hPl.out;unfold Hid;omega
 have hPw:Hid (w.heap.size ≤ W3.heap.size):=Nat.le_of_lt hPA.out
 generalize W3.heap.size = P at *
 clear hY hV hP nY nV hone hrA
 have a1:V.cell? ⟨w.heap.size,1,none⟩ = some (.int .i64 t.kind):=cell_blk hA rfl
 go_upto_region 46 with fail
 clear a1
 replace hk:Hid _:=hk
 have hsl:Hid (∀ k:Nat,k < 4→∃ x y,(∀ w,(Instr.index 32 (slV t) (.int .i64 (k:Int))).run Try.prog w = .ok (.agg #[.int .u64 x,.int .u64 y]) w)∧(slotsL t.s0 t.s1 t.s2 t.s3 t.s4 t.s5 t.s6 t.s7)[k]? = some (x,y)):=fun k hk=>idx8 t.s0 t.s1 t.s2 t.s3 t.s4 t.s5 t.s6 t.s7 k hk
 have hall:Hid (okTo (slotsL t.s0 t.s1 t.s2 t.s3 t.s4 t.s5 t.s6 t.s7) 4↔(slOk t.s0 t.s1∧slOk t.s2 t.s3∧slOk t.s4 t.s5∧slOk t.s6 t.s7)):=okTo_all _ _ _ _ _ _ _ _
 generalize slotsL t.s0 t.s1 t.s2 t.s3 t.s4 t.s5 t.s6 t.s7 = L at *
 have hno4:Hid (¬ okTo L 4→¬ (t = ofK t∧KindOk t)):=fun h1 h=>h1 (hall.out.2 ((kd5 hk.out).1 h.2).slots)
 go_wp2_with (refine wpList_load_as ?_ 32 _ rfl w.heap.size 18 rfl (slV t) _ rfl (range_sl hA) Try.row8 Try.size8 ?_;exact rfl)
 go_loopw [207] (fun kv wr=>∃ k:Nat,k ≤ 4∧kv = .int .i64 k∧Hid (okTo L k)∧Nw V wr) (fun kv _=>4 - (intOf kv).toNat)
 case atStart=>exact ⟨0,Nat.zero_le _,rfl,fun j p hj=>by omega,nw_refl _⟩
 case round =>
  obtain ⟨k,hk4,rfl,hok,hw⟩:=hrel
  by_cases hlt:k < 4
  ·obtain ⟨x,y,hix,hp⟩:=hsl.out k hlt
   have hne:=run_neq_slot x y
   have hyes:Hid (slOk x y→okTo L (k + 1)):=fun h=>okTo_succ hok.out hp h
   have hbad:Hid (¬ slOk x y→¬ okTo L 4):=fun h h2=>h (h2 k _ hlt hp)
   replace hp:Hid _:=hp
   have hnA:Hid (∀ o,Nw V (wr.alloc o)):=fun o=>nw_alloc hw o
   by_cases hz:x = 0∧y = 0
   ·have hb:(!(x == 0 && y == 0)) = false:=by simp [hz.1,hz.2]
    rw [hb] at hne
    have hy:Hid (okTo L (k + 1)):=hyes.out (.inl hz)
    clear hz hb hyes hbad hok hA hB ht
    go_wp2
    go_roundw
    case rel=>exact ⟨k + 1,by omega,by go_num,hy,hnA.out _⟩
    case measure=>simp [intOf];omega
   ·have hb:(!(x == 0 && y == 0)) = true:=by
     by_cases h1:x = 0
     ·have h2:¬ y = 0:=fun h2=>hz ⟨h1,h2⟩
      simp [h2]
     ·simp [h1]
    rw [hb] at hne
    have hcx:Hid (∀ w,Calls Try.prog 61 #[.int .u64 x] w fun e w'=>∃ r:Bool,e = .returned (.bool r)∧(r = true↔idOk x)∧Nw w w'):=fun w=>c_rid x w
    have hcy:Hid (∀ w,Calls Try.prog 61 #[.int .u64 y] w fun e w'=>∃ r:Bool,e = .returned (.bool r)∧(r = true↔idOk y)∧Nw w w'):=fun w=>c_rid y w
    replace hz:Hid _:=hz
    have g0:∀ w',Nw (wr.alloc (.cells #[.int .u64 x,.int .u64 y] 31)) w'→w'.cell? ⟨wr.heap.size,1,none⟩ = some (.int .u64 y):=fun w' hw'=>cell_blk ((hw'.block _ (by simp) (fun h=>h)).trans (heap_alloc_new wr _)) rfl
    replace g0:Hid _:=g0
    clear hb hA hB ht
    go_wp2_with (go_at_call 61;refine Calls.mono (hcx.out _) ?_;rintro e w3 ⟨r,rfl,q1,qn⟩;refine stop_here ?_)
    unfold Hid
    have gy:=g0.out _ qn
    have hw3:=nw_trans (hnA.out _) qn
    cases r with
    | false =>
     have hno:Hid (¬ (t = ofK t∧KindOk t)):=hno4.out (hbad.out (fun h=>h.elim (fun h=>hz.out h) (fun h=>not_of_false q1 h.1)))
     clear q1 hyes hbad hok
     go_wp2
     go_ret
     exact ans_no hno.out (nw_trans nW hw3)
    | true =>
     have hx:Hid (idOk x):=q1.1 rfl
     clear q1 qn g0
     go_wp2_with (go_at_call 61;refine Calls.mono (hcy.out _) ?_;rintro e w4 ⟨r,rfl,q1,qn⟩;refine stop_here ?_)
     unfold Hid
     cases r with
     | false =>
      have hno:Hid (¬ (t = ofK t∧KindOk t)):=hno4.out (hbad.out (fun h=>h.elim (fun h=>hz.out h) (fun h=>not_of_false q1 h.2)))
      clear q1 hyes hbad hok
      go_wp2
      go_ret
      exact ans_no hno.out (nw_trans nW (nw_trans hw3 qn))
     | true =>
      have hy:Hid (okTo L (k + 1)):=hyes.out (.inr ⟨hx.out,q1.1 rfl⟩)
      clear q1 hyes hbad hok
      go_wp2
      go_roundw
      case rel=>exact ⟨k + 1,by omega,by go_num,hy,nw_trans hw3 qn⟩
      case measure=>simp [intOf];omega
  ·have hk4':k = 4:=by omega
   subst hk4'
   have hsl4:Hid (slOk t.s0 t.s1∧slOk t.s2 t.s3∧slOk t.s4 t.s5∧slOk t.s6 t.s7):=hall.out.1 hok.out
   replace hA:=(hw.block _ (heap_lt hA) (fun h=>h)).trans hA
   replace hB:=(hw.block _ (heap_lt hB) (fun h=>h)).trans hB
   replace ht:=ht.nw hw
   replace nW:=nw_trans nW hw
   clear hok hsl hall hno4 hw hk4 hlt
   go_upto_region 52 with fail
   obtain ⟨X9,hX⟩:∃ X9,Hid (X9 = wr.setRow P (splice (thC (t) uL uC uK uD) 18 (slC ({ t with s0:=0,s1:=0,s2:=0,s3:=0,s4:=0,s5:=0,s6:=0,s7:=0 }))).toArray):=⟨_,rfl⟩
   have hB9:Hid (X9.heap[P]? = some (.cells (thC ({ t with s0:=0,s1:=0,s2:=0,s3:=0,s4:=0,s5:=0,s6:=0,s7:=0 }) uL uC uK uD).toArray 34 (0,0))):=by unfold Hid;rw [hX.out,setRow_heap _ _ _ _ _ _ hB];rfl
   have f9:Hid (Fr (fun b=>b = P) wr X9):=by unfold Hid;rw [hX.out];exact (Fr.refl (fun b=>b = P) wr).setRow (.inl rfl) _
   go_wp2_with (refine wpList_store_as rfl 32 _ _ rfl P 18 rfl (slV ({ t with s0:=0,s1:=0,s2:=0,s3:=0,s4:=0,s5:=0,s6:=0,s7:=0 })) rfl (slC ({ t with s0:=0,s1:=0,s2:=0,s3:=0,s4:=0,s5:=0,s6:=0,s7:=0 })) rfl (thC (t) uL uC uK uD) 34 hB (by simp [thC,rgC,slC]) (by simp [rgC,slC,Value.oneCell']) Try.size8 ?_;rw [← hX.out];refine stop_here ?_)
   unfold Hid
   clear hX
   replace hB:=hB9.out
   replace hA:=(f9.out.block _ (heap_lt hA) (fun e=>by have:=hPA.out;omega)).trans hA
   replace ht:=ht.keep f9.out (fun b hb _ e=>by have h9:b < w.heap.size:=hb;have:=hPA.out;omega) (fun b hb _=>hb)
   replace nW:Nw w X9:=Fr.trans nW f9.out (fun b hb=>.inr (by have:=hPw.out;omega))
   clear f9 hB9
   have a1:X9.cell? ⟨w.heap.size,1,none⟩ = some (.int .i64 t.kind):=cell_blk hA rfl
   go_upto_region 54 with fail
   clear a1
   have hbk:Hid (bareK t = { t with s0:=0,s1:=0,s2:=0,s3:=0,s4:=0,s5:=0,s6:=0,s7:=0 }):=by have hk:=hk.out;unfold Hid bareK;simp [hk]
   have hbare:ThAt (fun b=>b < w.heap.size) X9 ({ t with s0:=0,s1:=0,s2:=0,s3:=0,s4:=0,s5:=0,s6:=0,s7:=0 }) uL uC uK uD:=⟨ht.l,ht.c,ht.k,ht.d⟩
   by_cases hq:t.quota = 1
   ·have bq:(t.quota == 1) = true:=by simp [hq]
    have hyes:Hid (KindOk t):=.inr (.inr (.inr (.inr (.inl ⟨hk.out,hq,hsl4.out⟩))))
    clear hq
    refine wp_region_list ?_
    simp only [List.toList_toArray,List.append_eq,List.cons_append,List.nil_append]
    refine nd_quiet ?_ rfl ?_ ?_
    rotate_left
    ·go_simp;rfl
    simp only [pL,List.set]
    refine nd_quiet ?_ rfl ?_ ?_
    rotate_left
    ·have g0:X9.cell? ⟨w.heap.size,6,none⟩ = some (.int .i64 t.quota):=cell_blk hA rfl;go_simp;rfl
    simp only [pL,List.set]
    refine nd_quiet ?_ rfl ?_ ?_
    rotate_left
    ·go_simp;rfl
    simp only [pL,List.set]
    refine nd_quiet ?_ rfl ?_ ?_
    rotate_left
    ·go_simp;first | exact congrArg Value.bool bq | rfl
    simp only [pL,List.set]
    refine nd_quiet ?_ rfl ?_ ?_
    rotate_left
    ·go_simp;rfl
    simp only [pL,List.set]
    refine nd_quiet ?_ rfl ?_ ?_
    rotate_left
    ·refine (run_load_quiet 34 _ X9 rfl P 0 rfl (thC ({ t with s0:=0,s1:=0,s2:=0,s3:=0,s4:=0,s5:=0,s6:=0,s7:=0 }) uL uC uK uD) (range_all hB) Try.rowT Try.sizeT).trans ?_;rfl
    simp only [pL,List.set]
    refine nd_quiet ?_ rfl ?_ ?_
    rotate_left
    ·go_simp;rfl
    simp only [pL,List.set]
    refine nd_quiet ?_ rfl ?_ ?_
    rotate_left
    ·have g0:X9.cell? ⟨w.heap.size,0,none⟩ = some (.int .u64 t.id):=cell_blk hA rfl;go_simp;rfl
    simp only [pL,List.set]
    refine nd_quiet ?_ rfl ?_ ?_
    rotate_left
    ·go_simp;rfl
    simp only [pL,List.set]
    refine nd_quiet ?_ rfl ?_ ?_
    rotate_left
    ·have g0:X9.cell? ⟨w.heap.size,1,none⟩ = some (.int .i64 t.kind):=cell_blk hA rfl;go_simp;rfl
    simp only [pL,List.set]
    refine nd_quiet ?_ rfl ?_ ?_
    rotate_left
    ·go_simp;rfl
    simp only [pL,List.set]
    refine nd_quiet ?_ rfl ?_ ?_
    rotate_left
    ·have g0:X9.cell? ⟨w.heap.size,2,none⟩ = some (.int .i64 t.df):=cell_blk hA rfl;have g1:X9.cell? ⟨w.heap.size,3,none⟩ = some (uL):=cell_blk hA rfl;go_simp;rfl
    simp only [pL,List.set]
    refine nd_quiet ?_ rfl ?_ ?_
    rotate_left
    ·go_simp;rfl
    simp only [pL,List.set]
    refine nd_quiet ?_ rfl ?_ ?_
    rotate_left
    ·have g0:X9.cell? ⟨w.heap.size,6,none⟩ = some (.int .i64 t.quota):=cell_blk hA rfl;go_simp;rfl
    simp only [pL,List.set]
    refine wpList_build_as rfl 34 _ rfl (thV (baseT t) uL (.slice none 0 0) (.slice none 0 0) (.slice none 0 0)) (thC (baseT t) uL (.slice none 0 0) (.slice none 0 0) (.slice none 0 0)).toArray rfl ?z ?_
    case z =>
     simp only [List.map_cons,List.map_nil,Act.eval]
     exact builtThV t uL hfL
    simp only [pL,List.set]
    have hcs:Hid _:=c_rtsame X9 hbare (tb_base ht)
    unfold AnsP at hcs
    clear hfL
    go_wp2_with (first | (go_at_call 15;refine Calls.mono hcs.out ?_;rintro e Vz ⟨r1,rfl,q1,n9⟩;refine stop_here ?_))
    unfold Hid
    have fin:Hid (AnsP (t = ofK t∧KindOk t) w (.returned (.bool r1)) Vz):=⟨r1,rfl,⟨fun hr=>⟨(bare_iff t).1 (hbk.out.trans (q1.1 hr)),hyes.out⟩,fun hr=>q1.2 (hbk.out.symm.trans ((bare_iff t).2 hr.1))⟩,nw_trans nW n9⟩
    clear hcs q1 n9 hbare ht hA hB
    go_wp2
    go_ret
    exact fin.out
   ·have bq:(t.quota == 1) = false:=by simp [hq]
    have hno:Hid (¬ (t = ofK t∧KindOk t)):=fun h=>hq (((kd5 hk.out).1 h.2).quota)
    clear hq
    have a6:X9.cell? ⟨w.heap.size,6,none⟩ = some (.int .i64 t.quota):=cell_blk hA rfl
    go_wp2
    go_ret
    exact ans_no hno.out nW

end Go.Proofs.Ytgmfofngmfekbaa
