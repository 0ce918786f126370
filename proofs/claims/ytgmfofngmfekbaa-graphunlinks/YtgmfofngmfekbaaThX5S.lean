/-
  The document's Right: threads.
-/
import Derived.Test.YtgmfofngmfekbaaThGfS
namespace Go.Proofs.Ytgmfofngmfekbaa
set_option linter.unusedVariables false
set_option linter.unusedSimpArgs false
set_option maxRecDepth 20000
open Go.RowKit

theorem idxR {t:Th} (h:WfT t):∀ k:Nat,k < 4→∃ x,(∀ w,(Instr.index 29 (rgV t) (.int .i64 (k:Int))).run Try.prog w = .ok (.int .u64 x) w)∧[t.r0,t.r1,t.r2,t.r3][k]? = some x∧0 ≤ x∧x < 18446744073709551616:=fun k hk=>by
 unfold rgV rgC
 rcases k with _ | _ | _ | _ | k
 ·exact ⟨t.r0,fun w=>by simp [Instr.index,go_sem],rfl,h.r0⟩
 ·exact ⟨t.r1,fun w=>by simp [Instr.index,go_sem],rfl,h.r1⟩
 ·exact ⟨t.r2,fun w=>by simp [Instr.index,go_sem],rfl,h.r2⟩
 ·exact ⟨t.r3,fun w=>by simp [Instr.index,go_sem],rfl,h.r3⟩
 ·omega
theorem can4 (t:Th):(∀ j x,j < 4→[t.r0,t.r1,t.r2,t.r3][j]? = some x→can x)↔(can t.r0∧can t.r1∧can t.r2∧can t.r3) :=
 ⟨fun h=>⟨h 0 _ (by decide) rfl,h 1 _ (by decide) rfl,h 2 _ (by decide) rfl,h 3 _ (by decide) rfl⟩,fun ⟨h0,h1,h2,h3⟩ j x hj hx=>by
  rcases j with _ | _ | _ | _ | j
  ·cases hx;exact h0
  ·cases hx;exact h1
  ·cases hx;exact h2
  ·cases hx;exact h3
  ·omega⟩

set_option maxRecDepth 100000 in
set_option maxHeartbeats 6400000 in
theorem c_rk2 {X:Nat→Prop} {t:Th} {uL uC uK uD:Value} (w:World) (h:ThAt X w t uL uC uK uD) (hwf:WfT t) (l1:t.cats.length ≤ 8796093022208) (l2:t.ccats.length ≤ 8796093022208) (h1:idOk t.id) (h2:Rgt t.df t.cats) (hk:t.kind = 2) :
  Calls Try.prog 35 #[(thV t uL uC uK uD)] w (AnsP (t = ofK t∧KindOk t) w):=by
 have bk1:(t.kind == 1) = false:=by simp [hk]
 have bk2:(t.kind == 2) = true:=by simp [hk]
 have bk3:(t.kind == 3) = false:=by simp [hk]
 have bk4:(t.kind == 4) = false:=by simp [hk]
 have bk5:(t.kind == 5) = false:=by simp [hk]
 have bk6:(t.kind == 6) = false:=by simp [hk]
 have bn2:(t.kind != 2) = false:=by simp [hk]
 have bn3:(t.kind != 3) = true:=by simp [hk]
 replace h1:Hid _:=h1
 replace h2:Hid _:=h2
 obtain ⟨xa,xc,hfL⟩:∃ a c,uL = .slice a t.cats.length c:=by obtain ⟨a,c,e,_⟩:=h.l.form;exact ⟨a,c,e⟩
 replace hfL:Hid _:=hfL
 obtain ⟨W,hW⟩:∃ W,Hid (W = w.alloc (.cells (thC t uL uC uK uD).toArray 34)):=⟨_,rfl⟩
 have nW:Nw w W:=by rw [hW.out];exact nw_alloc (nw_refl w) _
 have hA:W.heap[w.heap.size]? = some (.cells (thC t uL uC uK uD).toArray 34 (0,0)):=by rw [hW.out];exact heap_alloc_new w _
 have ht:=(h.mono (X':=fun b=>b < w.heap.size) (fun b _ hb=>hb)).nw nW
 clear h
 go_enter Try.func35,Try.ntmps35
 go_upto_region 1 with (refine wpList_box_agg rfl 34 _ rfl (thV t uL uC uK uD) _ rfl rfl ?_)
 rw [← hW.out]
 clear hW
 have hPl:Hid (w.heap.size < W.heap.size):=heap_lt hA
 have hq1:Hid _:=c_rid t.id W
 unfold AnsP at hq1
 have a0:W.cell? ⟨w.heap.size,0,none⟩ = some (.int .u64 t.id):=cell_blk hA rfl
 have a1:W.cell? ⟨w.heap.size,1,none⟩ = some (.int .i64 t.kind):=cell_blk hA rfl
 have a2:W.cell? ⟨w.heap.size,2,none⟩ = some (.int .i64 t.df):=cell_blk hA rfl
 have a3:W.cell? ⟨w.heap.size,3,none⟩ = some (uL):=cell_blk hA rfl
 go_wp2_with (first | (go_at_call 61;refine Calls.mono hq1.out ?_;rintro e W1 ⟨r,rfl,q,n1⟩;obtain rfl:=q.2 h1.out;refine stop_here ?_))
 unfold Hid
 clear hq1 q a0 a1 a2 a3
 replace hA:=(n1.block _ (heap_lt hA) (fun h=>h)).trans hA
 replace ht:=ht.nw n1
 replace nW:=nw_trans nW n1
 have hq1:Hid _:=c_rright t.df W1 ht.l (by omega)
 unfold RgtP labV at hq1
 have a0:W1.cell? ⟨w.heap.size,0,none⟩ = some (.int .u64 t.id):=cell_blk hA rfl
 have a1:W1.cell? ⟨w.heap.size,1,none⟩ = some (.int .i64 t.kind):=cell_blk hA rfl
 have a2:W1.cell? ⟨w.heap.size,2,none⟩ = some (.int .i64 t.df):=cell_blk hA rfl
 have a3:W1.cell? ⟨w.heap.size,3,none⟩ = some (uL):=cell_blk hA rfl
 go_wp2_with (first | (go_at_call 62;refine Calls.mono hq1.out ?_;rintro e W2 ⟨r,rfl,q,n2⟩;obtain rfl:=q.2 h2.out;refine stop_here ?_))
 unfold Hid
 clear hq1 q a0 a1 a2 a3
 replace hA:=(n2.block _ (heap_lt hA) (fun h=>h)).trans hA
 replace ht:=ht.nw n2
 replace nW:=nw_trans nW n2
 have a1:W2.cell? ⟨w.heap.size,1,none⟩ = some (.int .i64 t.kind):=cell_blk hA rfl
 go_upto_region 3 with fail
 clear a1
 replace hPl:Hid (w.heap.size < W2.heap.size):=heap_lt hA
 have hrA:=range_all hA
 obtain ⟨Y,hY⟩:∃ Y,Hid (Y = W2.alloc (.cells (thC zeroT (.slice none 0 0) (.slice none 0 0) (.slice none 0 0) (.slice none 0 0)).toArray 34)):=⟨_,rfl⟩
 have hP:Y.heap[W2.heap.size]? = some (.cells (thC zeroT (.slice none 0 0) (.slice none 0 0) (.slice none 0 0) (.slice none 0 0)).toArray 34 (0,0)):=by rw [hY.out];exact heap_alloc_new W2 _
 have nY:Nw W2 Y:=by rw [hY.out];exact nw_alloc (nw_refl _) _
 obtain ⟨V,hV⟩:∃ V,Hid (V = Y.setRow W2.heap.size (thC t uL uC uK uD).toArray):=⟨_,rfl⟩
 have hB:V.heap[W2.heap.size]? = some (.cells (thC t uL uC uK uD).toArray 34 (0,0)):=by rw [hV.out];exact setRow_heap _ _ _ _ _ _ hP
 have nV:Nw W2 V:=by rw [hV.out];exact Fr.setRow nY (.inr (Nat.le_refl _)) _
 have hone:=ht.one
 replace hA:=(nV.block _ (heap_lt hA) (fun h=>h)).trans hA
 replace ht:=ht.nw nV
 replace nW:=nw_trans nW nV
 go_wp2_with (first | (refine wpList_load_as rfl 34 _ rfl (w.heap.size) 0 rfl (thV t uL uC uK uD) _ rfl hrA Try.rowT Try.sizeT ?_) | (refine wpList_alloc_agg rfl 34 rfl _ Try.zeroTh ?_;rw [← hY.out];refine stop_here ?_))
 unfold Hid
 refine wpList_store_all rfl 34 _ _ rfl W2.heap.size rfl (thV t uL uC uK uD) rfl (thC t uL uC uK uD) rfl (thC zeroT (.slice none 0 0) (.slice none 0 0) (.slice none 0 0) (.slice none 0 0)) 34 hP rfl hone Try.sizeT ?_
 rw [← hV.out]
 have hPA:Hid (w.heap.size < W2.heap.size):=by have:=nV.size;have:=heap_lt hA;have:=heap_lt hB;have h9:=hPl.out;unfold Hid;omega
 have hPw:Hid (w.heap.size ≤ W2.heap.size):=Nat.le_of_lt hPA.out
 generalize W2.heap.size = P at *
 clear hY hV hP nY nV hone hrA
 have a1:V.cell? ⟨w.heap.size,1,none⟩ = some (.int .i64 t.kind):=cell_blk hA rfl
 go_upto_region 22 with fail
 clear a1
 replace hk:Hid _:=hk
 have hrg:Hid (∀ k:Nat,k < 4→∃ x,(∀ w,(Instr.index 29 (rgV t) (.int .i64 (k:Int))).run Try.prog w = .ok (.int .u64 x) w)∧[t.r0,t.r1,t.r2,t.r3][k]? = some x∧0 ≤ x∧x < 18446744073709551616):=idxR hwf
 have hcall:Hid ((∀ j x,j < 4→[t.r0,t.r1,t.r2,t.r3][j]? = some x→can x)↔(can t.r0∧can t.r1∧can t.r2∧can t.r3)):=can4 t
 generalize [t.r0,t.r1,t.r2,t.r3] = L at *
 have hno4:Hid (¬ (∀ j x,j < 4→L[j]? = some x→can x)→¬ (t = ofK t∧KindOk t)):=fun h1 h=>h1 (hcall.out.2 ((kd2 hk.out).1 h.2).regs)
 go_wp2_with (refine wpList_load_as ?_ 29 _ rfl w.heap.size 10 rfl (rgV t) _ rfl (range_rg hA) Try.row4 Try.size4 ?_;exact rfl)
 go_loopw [122] (fun kv wr=>∃ k:Nat,k ≤ 4∧kv = .int .i64 k∧Hid (∀ j x,j < k→L[j]? = some x→can x)∧Nw V wr) (fun kv _=>4 - (intOf kv).toNat)
 case atStart=>exact ⟨0,Nat.zero_le _,rfl,fun j x hj=>by omega,nw_refl _⟩
 case round =>
  obtain ⟨k,hk4,rfl,hok,hw⟩:=hrel
  by_cases hlt:k < 4
  ·obtain ⟨x,hix,hp,x0,x1⟩:=hrg.out k hlt
   have hcx:Hid _:=fun w=>c_rcanN x x0 x1 w
   clear hA hB ht
   by_cases hc:can x
   ·have bc:(Num.canonV x != x) = false:=by simp [show Num.canonV x = x from hc]
    have hy:Hid (∀ j x,j < k + 1→L[j]? = some x→can x):=fun j z hj hz=>by
     by_cases e:j = k
     ·subst e;rw [hp] at hz;cases hz;exact hc
     ·exact hok.out j z (by omega) hz
    replace hp:Hid _:=hp
    clear hc hok
    go_wp2_with (go_at_call 64;refine Calls.mono (hcx.out _) ?_;rintro e w3 ⟨rfl,qn⟩)
    go_roundw
    case rel=>exact ⟨k + 1,by omega,by go_num,hy,nw_trans hw qn⟩
    case measure=>simp [intOf];omega
   ·have bc:(Num.canonV x != x) = true:=by simp [show ¬ Num.canonV x = x from hc]
    have hno:Hid (¬ (t = ofK t∧KindOk t)):=hno4.out (fun h=>hc (h k x hlt hp))
    replace hp:Hid _:=hp
    clear hc hok
    go_wp2_with (go_at_call 64;refine Calls.mono (hcx.out _) ?_;rintro e w3 ⟨rfl,qn⟩)
    go_ret
    exact ans_no hno.out (nw_trans nW (nw_trans hw qn))
  ·have hk4':k = 4:=by omega
   subst hk4'
   have hca4:Hid (can t.r0∧can t.r1∧can t.r2∧can t.r3):=hcall.out.1 hok.out
   replace hA:=(hw.block _ (heap_lt hA) (fun h=>h)).trans hA
   replace hB:=(hw.block _ (heap_lt hB) (fun h=>h)).trans hB
   replace ht:=ht.nw hw
   replace nW:=nw_trans nW hw
   clear hok hrg hcall hno4 hw hk4 hlt
   have hcon:Hid _:=c_rclean t.cdf wr ht.c (by omega)
   unfold AnsP labV at hcon
   have a4:wr.cell? ⟨w.heap.size,4,none⟩ = some (.int .i64 t.cdf):=cell_blk hA rfl
   have a5:wr.cell? ⟨w.heap.size,5,none⟩ = some uC:=cell_blk hA rfl
   go_upto_region 28 with fail
   go_wp2_with (go_at_call 65;refine Calls.mono hcon.out ?_;rintro e Vc ⟨r,rfl,q,n5⟩;refine stop_here ?_)
   unfold Hid
   clear hcon a4 a5
   replace hA:=(n5.block _ (heap_lt hA) (fun h=>h)).trans hA
   replace hB:=(n5.block _ (heap_lt hB) (fun h=>h)).trans hB
   replace ht:=ht.nw n5
   replace nW:=nw_trans nW n5
   clear n5
   cases r with
   | false =>
    have hnc:Hid (¬ (Rgt t.cdf t.ccats∧Pu t.cdf t.ccats)):=not_of_false q
    clear q
    have hno:Hid (¬ (t = ofK t∧KindOk t)):=fun h=>by have h4:=(kd2 hk.out).1 h.2;exact hnc.out ⟨h4.rgt,h4.pu⟩
    clear ht hA hB
    go_wp2
    go_ret
    exact ans_no hno.out nW
   | true =>
    have hcl:Hid (Rgt t.cdf t.ccats∧Pu t.cdf t.ccats):=q.1 rfl
    clear q
    have a14:Vc.cell? ⟨w.heap.size,14,none⟩ = some (.int .i64 t.minted):=cell_blk hA rfl
    have a15:Vc.cell? ⟨w.heap.size,15,none⟩ = some (.int .i64 t.boot):=cell_blk hA rfl
    have a9:True:=trivial
    by_cases c1:t.minted < 0
    ·have b1:decide (t.minted < 0) = true:=decide_eq_true c1
     have hno:Hid (¬ (t = ofK t∧KindOk t)):=fun h=>by have h4:=(kd2 hk.out).1 h.2;have:=h4.minted.1;omega
     clear ht hA hB
     go_wp2
     go_ret
     exact ans_no hno.out nW
    ·have b1:decide (t.minted < 0) = false:=decide_eq_false c1
     by_cases c2:31 < t.minted
     ·have b2:decide (31 < t.minted) = true:=decide_eq_true c2
      have hno:Hid (¬ (t = ofK t∧KindOk t)):=fun h=>by have h4:=(kd2 hk.out).1 h.2;have:=h4.minted.2;omega
      clear ht hA hB
      go_wp2
      go_ret
      exact ans_no hno.out nW
     ·have b2:decide (31 < t.minted) = false:=decide_eq_false c2
      by_cases c3:t.boot < 0
      ·have b3:decide (t.boot < 0) = true:=decide_eq_true c3
       have hno:Hid (¬ (t = ofK t∧KindOk t)):=fun h=>by have h4:=(kd2 hk.out).1 h.2;have:=h4.boot.1;omega
       clear ht hA hB
       go_wp2
       go_ret
       exact ans_no hno.out nW
      ·have b3:decide (t.boot < 0) = false:=decide_eq_false c3
       by_cases c4:255 < t.boot
       ·have b4:decide (255 < t.boot) = true:=decide_eq_true c4
        have hno:Hid (¬ (t = ofK t∧KindOk t)):=fun h=>by have h4:=(kd2 hk.out).1 h.2;have:=h4.boot.2;omega
        clear ht hA hB
        go_wp2
        go_ret
        exact ans_no hno.out nW
       ·have b4:decide (255 < t.boot) = false:=decide_eq_false c4
        have hgd:Hid (btw 0 t.minted 31∧btw 0 t.boot 255):=⟨⟨by omega,by omega⟩,by omega,by omega⟩
        clear c1 c2 c3 c4
        have hB30:=hB
        go_upto_region 30 with fail
        clear b1 b2 b3 b4 a9 a14 a15 hB30
        have y4:Vc.frozen? ⟨P,4,none⟩ = false:=free_blk hB
        have y5:Vc.frozen? ⟨P,5,none⟩ = false:=free_blk hB
        have z4:Vc.cell? ⟨P,4,none⟩ = some (.int .i64 t.cdf):=cell_blk hB rfl
        have z5:Vc.cell? ⟨P,5,none⟩ = some (uC):=cell_blk hB rfl
        obtain ⟨X7,hX⟩:∃ X9,Hid (X9 = ((Vc.setCell ⟨P,4,none⟩ (.int .i64 0)).setCell ⟨P,5,none⟩ (.slice none 0 0))):=⟨_,rfl⟩
        have hB9:Hid (X7.heap[P]? = some (.cells (thC ({ t with cdf:=0,ccats:=[] }) uL (.slice none 0 0) uK uD).toArray 34 (0,0))):=by unfold Hid;rw [hX.out,blk_setCell (blk_setCell (hB))];rfl
        have f9:Hid (Fr (fun b=>b = P) Vc X7):=by unfold Hid;rw [hX.out];exact (((Fr.refl (fun b=>b = P) Vc).setCell (p:=⟨P,4,none⟩) (.inl rfl) (.int .i64 0)).setCell (p:=⟨P,5,none⟩) (.inl rfl) (.slice none 0 0))
        go_upto_region 31 with fail
        rw [← hX.out]
        clear hX y4 z4 y5 z5
        replace hB:=hB9.out
        replace hA:=(f9.out.block _ (heap_lt hA) (fun e=>by have:=hPA.out;omega)).trans hA
        replace ht:=ht.keep f9.out (fun b hb _ e=>by have h9:b < w.heap.size:=hb;have:=hPA.out;omega) (fun b hb _=>hb)
        replace nW:Nw w X7:=Fr.trans nW f9.out (fun b hb=>.inr (by have:=hPw.out;omega))
        clear f9 hB9
        obtain ⟨X8,hX⟩:∃ X9,Hid (X9 = X7.setRow P (splice (thC ({ t with cdf:=0,ccats:=[] }) uL (.slice none 0 0) uK uD) 10 (rgC ({ t with cdf:=0,ccats:=[],r0:=0,r1:=0,r2:=0,r3:=0 }))).toArray):=⟨_,rfl⟩
        have hB9:Hid (X8.heap[P]? = some (.cells (thC ({ t with cdf:=0,ccats:=[],r0:=0,r1:=0,r2:=0,r3:=0 }) uL (.slice none 0 0) uK uD).toArray 34 (0,0))):=by unfold Hid;rw [hX.out,setRow_heap _ _ _ _ _ _ hB];rfl
        have f9:Hid (Fr (fun b=>b = P) X7 X8):=by unfold Hid;rw [hX.out];exact (Fr.refl (fun b=>b = P) X7).setRow (.inl rfl) _
        go_wp2_with (refine wpList_store_as rfl 29 _ _ rfl P 10 rfl (rgV ({ t with cdf:=0,ccats:=[],r0:=0,r1:=0,r2:=0,r3:=0 })) rfl (rgC ({ t with cdf:=0,ccats:=[],r0:=0,r1:=0,r2:=0,r3:=0 })) rfl (thC ({ t with cdf:=0,ccats:=[] }) uL (.slice none 0 0) uK uD) 34 hB (by simp [thC,rgC,slC]) (by simp [rgC,slC,Value.oneCell']) Try.size4 ?_;rw [← hX.out];refine stop_here ?_)
        unfold Hid
        clear hX
        replace hB:=hB9.out
        replace hA:=(f9.out.block _ (heap_lt hA) (fun e=>by have:=hPA.out;omega)).trans hA
        replace ht:=ht.keep f9.out (fun b hb _ e=>by have h9:b < w.heap.size:=hb;have:=hPA.out;omega) (fun b hb _=>hb)
        replace nW:Nw w X8:=Fr.trans nW f9.out (fun b hb=>.inr (by have:=hPw.out;omega))
        clear f9 hB9
        have y14:X8.frozen? ⟨P,14,none⟩ = false:=free_blk hB
        have y15:X8.frozen? ⟨P,15,none⟩ = false:=free_blk hB
        have y16:X8.frozen? ⟨P,16,none⟩ = false:=free_blk hB
        have z14:X8.cell? ⟨P,14,none⟩ = some (.int .i64 t.minted):=cell_blk hB rfl
        have z15:X8.cell? ⟨P,15,none⟩ = some (.int .i64 t.boot):=cell_blk hB rfl
        have z16:X8.cell? ⟨P,16,none⟩ = some (.bool t.halted):=cell_blk hB rfl
        obtain ⟨X9,hX⟩:∃ X9,Hid (X9 = (((X8.setCell ⟨P,14,none⟩ (.int .i64 0)).setCell ⟨P,15,none⟩ (.int .i64 0)).setCell ⟨P,16,none⟩ (.bool false))):=⟨_,rfl⟩
        have hB9:Hid (X9.heap[P]? = some (.cells (thC ({ t with cdf:=0,ccats:=[],r0:=0,r1:=0,r2:=0,r3:=0,minted:=0,boot:=0,halted:=false }) uL (.slice none 0 0) uK uD).toArray 34 (0,0))):=by unfold Hid;rw [hX.out,blk_setCell (blk_setCell (blk_setCell (hB)))];rfl
        have f9:Hid (Fr (fun b=>b = P) X8 X9):=by unfold Hid;rw [hX.out];exact ((((Fr.refl (fun b=>b = P) X8).setCell (p:=⟨P,14,none⟩) (.inl rfl) (.int .i64 0)).setCell (p:=⟨P,15,none⟩) (.inl rfl) (.int .i64 0)).setCell (p:=⟨P,16,none⟩) (.inl rfl) (.bool false))
        go_upto_region 54 with fail
        rw [← hX.out]
        clear hX y14 z14 y15 z15 y16 z16
        replace hB:=hB9.out
        replace hA:=(f9.out.block _ (heap_lt hA) (fun e=>by have:=hPA.out;omega)).trans hA
        replace ht:=ht.keep f9.out (fun b hb _ e=>by have h9:b < w.heap.size:=hb;have:=hPA.out;omega) (fun b hb _=>hb)
        replace nW:Nw w X9:=Fr.trans nW f9.out (fun b hb=>.inr (by have:=hPw.out;omega))
        clear f9 hB9
        have hbk:Hid (bareK t = { t with cdf:=0,ccats:=[],r0:=0,r1:=0,r2:=0,r3:=0,minted:=0,boot:=0,halted:=false }):=by have hk:=hk.out;unfold Hid bareK;simp [hk]
        have hbare:ThAt (fun b=>b < w.heap.size) X9 ({ t with cdf:=0,ccats:=[],r0:=0,r1:=0,r2:=0,r3:=0,minted:=0,boot:=0,halted:=false }) uL (.slice none 0 0) uK uD:=⟨ht.l,csl_nil _ _,ht.k,ht.d⟩
        by_cases hq:t.quota = 1
        ·have bq:(t.quota == 1) = true:=by simp [hq]
         have hyes:Hid (KindOk t):=.inr (.inl ⟨hk.out,hq,hcl.out.1,hcl.out.2,hca4.out,hgd.out.1,hgd.out.2⟩)
         clear hq
         refine wp_region_list ?_
         simp only [List.toList_toArray,List.append_eq,List.cons_append,List.nil_append]
         refine nd_quiet ?_ rfl ?_ ?_
         rotate_left
         ·go_simp;rfl
         simp only [pL,List.set]
         refine nd_quiet ?_ rfl ?_ ?_
         rotate_left
         ·have g0:X9.cell? ⟨w.heap.size,6,none⟩ = some (.int .i64 t.quota):=cell_blk hA rfl;go_simp;rfl
         simp only [pL,List.set]
         refine nd_quiet ?_ rfl ?_ ?_
         rotate_left
         ·go_simp;rfl
         simp only [pL,List.set]
         refine nd_quiet ?_ rfl ?_ ?_
         rotate_left
         ·go_simp;first | exact congrArg Value.bool bq | rfl
         simp only [pL,List.set]
         refine nd_quiet ?_ rfl ?_ ?_
         rotate_left
         ·go_simp;rfl
         simp only [pL,List.set]
         refine nd_quiet ?_ rfl ?_ ?_
         rotate_left
         ·refine (run_load_quiet 34 _ X9 rfl P 0 rfl (thC ({ t with cdf:=0,ccats:=[],r0:=0,r1:=0,r2:=0,r3:=0,minted:=0,boot:=0,halted:=false }) uL (.slice none 0 0) uK uD) (range_all hB) Try.rowT Try.sizeT).trans ?_;rfl
         simp only [pL,List.set]
         refine nd_quiet ?_ rfl ?_ ?_
         rotate_left
         ·go_simp;rfl
         simp only [pL,List.set]
         refine nd_quiet ?_ rfl ?_ ?_
         rotate_left
         ·have g0:X9.cell? ⟨w.heap.size,0,none⟩ = some (.int .u64 t.id):=cell_blk hA rfl;go_simp;rfl
         simp only [pL,List.set]
         refine nd_quiet ?_ rfl ?_ ?_
         rotate_left
         ·go_simp;rfl
         simp only [pL,List.set]
         refine nd_quiet ?_ rfl ?_ ?_
         rotate_left
         ·have g0:X9.cell? ⟨w.heap.size,1,none⟩ = some (.int .i64 t.kind):=cell_blk hA rfl;go_simp;rfl
         simp only [pL,List.set]
         refine nd_quiet ?_ rfl ?_ ?_
         rotate_left
         ·go_simp;rfl
         simp only [pL,List.set]
         refine nd_quiet ?_ rfl ?_ ?_
         rotate_left
         ·have g0:X9.cell? ⟨w.heap.size,2,none⟩ = some (.int .i64 t.df):=cell_blk hA rfl;have g1:X9.cell? ⟨w.heap.size,3,none⟩ = some (uL):=cell_blk hA rfl;go_simp;rfl
         simp only [pL,List.set]
         refine nd_quiet ?_ rfl ?_ ?_
         rotate_left
         ·go_simp;rfl
         simp only [pL,List.set]
         refine nd_quiet ?_ rfl ?_ ?_
         rotate_left
         ·have g0:X9.cell? ⟨w.heap.size,6,none⟩ = some (.int .i64 t.quota):=cell_blk hA rfl;go_simp;rfl
         simp only [pL,List.set]
         refine wpList_build_as rfl 34 _ rfl (thV (baseT t) uL (.slice none 0 0) (.slice none 0 0) (.slice none 0 0)) (thC (baseT t) uL (.slice none 0 0) (.slice none 0 0) (.slice none 0 0)).toArray rfl ?z ?_
         case z =>
          simp only [List.map_cons,List.map_nil,Act.eval]
          exact builtThV t uL hfL
         simp only [pL,List.set]
         have hcs:Hid _:=c_rtsame X9 hbare (tb_base ht)
         unfold AnsP at hcs
         clear hfL
         go_wp2_with (first | (go_at_call 15;refine Calls.mono hcs.out ?_;rintro e Vz ⟨r1,rfl,q1,n9⟩;refine stop_here ?_))
         unfold Hid
         have fin:Hid (AnsP (t = ofK t∧KindOk t) w (.returned (.bool r1)) Vz):=⟨r1,rfl,⟨fun hr=>⟨(bare_iff t).1 (hbk.out.trans (q1.1 hr)),hyes.out⟩,fun hr=>q1.2 (hbk.out.symm.trans ((bare_iff t).2 hr.1))⟩,nw_trans nW n9⟩
         clear hcs q1 n9 hbare ht hA hB
         go_wp2
         go_ret
         exact fin.out
        ·have bq:(t.quota == 1) = false:=by simp [hq]
         have hno:Hid (¬ (t = ofK t∧KindOk t)):=fun h=>hq (((kd2 hk.out).1 h.2).quota)
         clear hq
         have a6:X9.cell? ⟨w.heap.size,6,none⟩ = some (.int .i64 t.quota):=cell_blk hA rfl
         go_wp2
         go_ret
         exact ans_no hno.out nW

end Go.Proofs.Ytgmfofngmfekbaa
