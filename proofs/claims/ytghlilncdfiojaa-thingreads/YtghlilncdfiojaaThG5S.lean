/-
  Read: setParts, of threads.
-/
import Derived.Test.YtghlilncdfiojaaThG4S
namespace Go.Proofs.Ytghlilncdfiojaa
set_option linter.unusedVariables false
set_option linter.unusedSimpArgs false
set_option maxRecDepth 20000
open Go.RowKit

set_option maxRecDepth 100000 in
set_option maxHeartbeats 3200000 in
theorem c_set2 {X:Nat→Prop} {K P:Nat} {t:Th} {uL uC uK uD fv:Value} {r0 r1 r2 r3 mi bo ha:Int} {cl:List UInt8} (w:World) (hA:w.heap[P]? = some (.cells (thC t uL uC uK uD).toArray 34 (0,0))) (ht:ThAt X w t uL uC uK uD) (hf:FieldsAt K w fv [bF cl,nF r0,nF r1,nF r2,nF r3,nF mi,nF bo,nF ha]) (hKP:K ≤ P) (hk:t.kind = 2) (hl:cl.length ≤ 1024) (h0:n8 r0) (h1:n8 r1) (h2:n8 r2) (h3:n8 r3) (h4:n1 mi) (h5:n1 bo) (h6:n1 ha)
  (hX0:¬ X P) (hX1:∀ b,w.heap.size ≤ b→X b) (hX2:∀ v bs,BSl (fun b=>b < K) w v bs→BSl X w v bs) (hwf:WfT t) (hcc:t.ccats.length ≤ 100) :
  Calls Try.prog 77 #[.pointer (some ⟨P,0,none⟩),fv] w (SetR X P [bF cl,nF r0,nF r1,nF r2,nF r3,nF mi,nF bo,nF ha] t w):=by
 have bk1:(t.kind == 1) = false:=by simp;omega
 have bk2:(t.kind == 2) = true:=by simp [hk]
 obtain ⟨b,off,cap,rfl,hb,hcap⟩:=fa_form hf (by simp)
 have c1:w.cell? ⟨b,off + 2,none⟩ = some (.int .u64 r0):=fa_num hf 1 r0 rfl h0.1
 have c2:w.cell? ⟨b,off + 4,none⟩ = some (.int .u64 r1):=fa_num hf 2 r1 rfl h1.1
 have c3:w.cell? ⟨b,off + 6,none⟩ = some (.int .u64 r2):=fa_num hf 3 r2 rfl h2.1
 have c4:w.cell? ⟨b,off + 8,none⟩ = some (.int .u64 r3):=fa_num hf 4 r3 rfl h3.1
 have c5:w.cell? ⟨b,off + 10,none⟩ = some (.int .u64 mi):=fa_num hf 5 mi rfl h4.1
 have c6:w.cell? ⟨b,off + 12,none⟩ = some (.int .u64 bo):=fa_num hf 6 bo rfl h5.1
 have c7:w.cell? ⟨b,off + 14,none⟩ = some (.int .u64 ha):=fa_num hf 7 ha rfl h6.1
 obtain ⟨a0,p0,x0,s0⟩:=fa_txt hf 0 cl rfl
 replace x0:w.cell? ⟨b,off + 1,none⟩ = some (.slice a0 cl.length p0):=x0
 have hPl:=heap_lt hA
 have hbl:b < w.heap.size:=by omega
 have hbP:¬ b = P:=by omega
 have a1:w.cell? ⟨P,1,none⟩ = some (.int .i64 t.kind):=cell_blk hA rfl
 simp only [List.length_cons,List.length_nil,Nat.reduceAdd] at hcap ⊢
 replace hk:Hid _:=hk
 clear hf
 go_enter Try.func77,Try.ntmps77
 go_upto_region 4 with fail
 clear bk1 bk2
 have hcon:Hid _:=c_labelOf w s0 (by omega) (by omega)
 go_wp2_with (go_at_call 76;refine Calls.mono hcon.out ?_;rintro e wk0 ⟨d,uu,xs,rfl,hown,hback,hfit,h100,d0,d1,qb⟩;obtain ⟨va,vc,rfl⟩:=owns_form hown;refine stop_here ?_)
 unfold Hid
 clear hcon a1
 replace hback:Hid _:=hback
 replace h100:Hid _:=h100
 have nq:Nw w wk0:=fr_of_below (S:=fun _=>False) qb
 have hbl0:b < wk0.heap.size:=by have:=nq.size;omega
 replace c1:wk0.cell? ⟨b,off + 2,none⟩ = some (.int .u64 r0):=(fr_cell nq hbl (fun h=>h)).trans c1
 replace c2:wk0.cell? ⟨b,off + 4,none⟩ = some (.int .u64 r1):=(fr_cell nq hbl (fun h=>h)).trans c2
 replace c3:wk0.cell? ⟨b,off + 6,none⟩ = some (.int .u64 r2):=(fr_cell nq hbl (fun h=>h)).trans c3
 replace c4:wk0.cell? ⟨b,off + 8,none⟩ = some (.int .u64 r3):=(fr_cell nq hbl (fun h=>h)).trans c4
 replace c5:wk0.cell? ⟨b,off + 10,none⟩ = some (.int .u64 mi):=(fr_cell nq hbl (fun h=>h)).trans c5
 replace c6:wk0.cell? ⟨b,off + 12,none⟩ = some (.int .u64 bo):=(fr_cell nq hbl (fun h=>h)).trans c6
 replace c7:wk0.cell? ⟨b,off + 14,none⟩ = some (.int .u64 ha):=(fr_cell nq hbl (fun h=>h)).trans c7
 replace hA:=(qb.block P hPl).trans hA
 clear x0 s0
 have z4:wk0.cell? ⟨P,4,none⟩ = some (.int .i64 t.cdf):=cell_blk hA rfl
 have y4:wk0.frozen? ⟨P,4,none⟩ = false:=free_blk hA
 have z5:wk0.cell? ⟨P,5,none⟩ = some uC:=cell_blk hA rfl
 have y5:wk0.frozen? ⟨P,5,none⟩ = false:=free_blk hA
 obtain ⟨W1,hW1⟩:∃ W1,Hid (W1 = ((wk0.setCell ⟨P,4,none⟩ (.int .i64 d)).setCell ⟨P,5,none⟩ (.slice va xs.length vc))):=⟨_,rfl⟩
 have f2:Hid (Fr (fun b=>b = P) wk0 W1):=by unfold Hid;rw [hW1.out];exact (((Fr.refl (fun b=>b = P) wk0).setCell (p:=⟨P,4,none⟩) (.inl rfl) (.int .i64 d)).setCell (p:=⟨P,5,none⟩) (.inl rfl) (.slice va xs.length vc))
 have hf1:Hid (Fr (fun b=>b = P) w W1):=Fr.trans (fr_of_nw nq) f2.out (fun _ h=>.inl h)
 have hA1:Hid (W1.heap[P]? = some (.cells (thC ({ t with cdf:=d,ccats:=xs }) uL (.slice va xs.length vc) uK uD).toArray 34 (0,0))):=by unfold Hid;rw [hW1.out,blk_setCell (blk_setCell hA)];rfl
 have ht1:Hid (ThAt X W1 ({ t with cdf:=d,ccats:=xs }) uL (.slice va xs.length vc) uK uD):=by
  have hXP:∀ b,X b→b < wk0.heap.size→¬ b = P:=fun b hb _ e=>hX0 (e ▸ hb)
  have ht9:=(ht.nw nq).keep f2.out hXP (fun _ h _=>h)
  exact ⟨ht9.l,(csl_of_own hown).keep f2.out (fun b hb _ e=>by have h9:w.heap.size ≤ b:=hb;omega) (fun b hb _=>hX1 b hb),ht9.k,ht9.d⟩
 clear hown ht
 go_upto_region 5 with fail
 rw [← hW1.out]
 have hbl1:b < W1.heap.size:=by have:=f2.out.size;omega
 replace c1:W1.cell? ⟨b,off + 2,none⟩ = some (.int .u64 r0):=(fr_cell f2.out hbl0 hbP).trans c1
 replace c2:W1.cell? ⟨b,off + 4,none⟩ = some (.int .u64 r1):=(fr_cell f2.out hbl0 hbP).trans c2
 replace c3:W1.cell? ⟨b,off + 6,none⟩ = some (.int .u64 r2):=(fr_cell f2.out hbl0 hbP).trans c3
 replace c4:W1.cell? ⟨b,off + 8,none⟩ = some (.int .u64 r3):=(fr_cell f2.out hbl0 hbP).trans c4
 replace c5:W1.cell? ⟨b,off + 10,none⟩ = some (.int .u64 mi):=(fr_cell f2.out hbl0 hbP).trans c5
 replace c6:W1.cell? ⟨b,off + 12,none⟩ = some (.int .u64 bo):=(fr_cell f2.out hbl0 hbP).trans c6
 replace c7:W1.cell? ⟨b,off + 14,none⟩ = some (.int .u64 ha):=(fr_cell f2.out hbl0 hbP).trans c7
 replace hA:=hA1.out
 clear hW1 hA1 hbl0 z4 y4 z5 y5 qb nq f2 hPl
 replace hbl:=hbl1
 clear hbl1
 go_wp2
 go_loopw [38] (fun kv wr=>Fr (fun b=>b = P) W1 wr∧((kv = .int .i64 0∧wr.heap[P]? = some (.cells (thC ({ t with cdf:=d,ccats:=xs }) uL (.slice va xs.length vc) uK uD).toArray 34 (0,0)))∨(kv = .int .i64 1∧wr.heap[P]? = some (.cells (thC ({ t with cdf:=d,ccats:=xs,r0:=r0 }) uL (.slice va xs.length vc) uK uD).toArray 34 (0,0)))∨(kv = .int .i64 2∧wr.heap[P]? = some (.cells (thC ({ t with cdf:=d,ccats:=xs,r0:=r0,r1:=r1 }) uL (.slice va xs.length vc) uK uD).toArray 34 (0,0)))∨(kv = .int .i64 3∧wr.heap[P]? = some (.cells (thC ({ t with cdf:=d,ccats:=xs,r0:=r0,r1:=r1,r2:=r2 }) uL (.slice va xs.length vc) uK uD).toArray 34 (0,0)))∨(kv = .int .i64 4∧wr.heap[P]? = some (.cells (thC ({ t with cdf:=d,ccats:=xs,r0:=r0,r1:=r1,r2:=r2,r3:=r3 }) uL (.slice va xs.length vc) uK uD).toArray 34 (0,0))))) (fun kv _=>4 - (intOf kv).toNat)
 case atStart=>exact ⟨Fr.refl _ _,.inl ⟨rfl,hA⟩⟩
 case round =>
  obtain ⟨hfr,hrel⟩:=hrel
  clear hA
  rcases hrel with ⟨rfl,hA⟩ | ⟨rfl,hA⟩ | ⟨rfl,hA⟩ | ⟨rfl,hA⟩ | ⟨rfl,hA⟩
  ·have hbl9:b < wr.heap.size:=by have:=hfr.size;omega
   have e0:wr.cell? ⟨b,off + 2,none⟩ = some (.int .u64 r0):=(fr_cell hfr hbl hbP).trans c1
   replace hbl:=hbl9
   go_upto_region 8 with fail
   have hS:Fr (fun b=>b = P) wr wr.drew:=Fr.drew (Fr.refl _ wr)
   refine wp_region_ord [] 11 [(0,true),(1,true),(2,true),(3,true),(4,true),(8,true),(5,true),(9,true),(6,true),(7,true),(10,true)] (fun w':World=>Fr (fun b=>b = P) wr w') (by kernel_rfl) (by kernel_rfl) ?_
   refine ord_quietL _ ?_ rfl hS rfl ?_ ?_
   rotate_left
   ·rintro w' hn;go_simp;rfl
   simp only [pL,List.set]
   refine ord_quietL _ ?_ rfl hS rfl ?_ ?_
   rotate_left
   ·rintro w' hn;go_simp;rfl
   simp only [pL,List.set]
   refine ord_quietL _ ?_ rfl hS rfl ?_ ?_
   rotate_left
   ·rintro w' hn;go_simp;rfl
   simp only [pL,List.set]
   refine ord_quietL _ ?_ rfl hS rfl ?_ ?_
   rotate_left
   ·rintro w' hn;go_simp;rfl
   simp only [pL,List.set]
   refine ord_quietL _ ?_ rfl hS rfl ?_ ?_
   rotate_left
   ·rintro w' hn;go_simp;exact congrArg (Value.int IntKind.i64) (show IntKind.i64.wrap 1 = 1 from by decide)
   simp only [pL,List.set]
   refine ord_quietL _ ?_ rfl hS rfl ?_ ?_
   rotate_left
   ·rintro w' hn;go_simp;rfl
   simp only [pL,List.set]
   refine ord_quietL _ ?_ rfl hS rfl ?_ ?_
   rotate_left
   ·rintro w' hn;go_simp;rfl
   simp only [pL,List.set]
   refine ord_quietL _ ?_ rfl hS rfl ?_ ?_
   rotate_left
   ·rintro w' hn;go_simp;rfl
   simp only [pL,List.set]
   refine ord_quietL _ ?_ rfl hS rfl ?_ ?_
   rotate_left
   ·rintro w' hn;go_simp;rfl
   simp only [pL,List.set]
   refine ord_quietL _ ?_ rfl hS rfl ?_ ?_
   rotate_left
   ·rintro w' hn;have g0:w'.cell? ⟨b,off + 2,none⟩ = some (.int .u64 r0):=(fr_cell hn hbl hbP).trans e0;go_simp;rfl
   simp only [pL,List.set]
   refine ord_quietL _ ?_ rfl hS rfl ?_ ?_
   rotate_left
   ·rintro w' hn;go_simp;rfl
   simp only [pL,List.set]
   refine ord_tail ?_
   simp only [List.drop_succ_cons,List.drop_zero]
   have hA9:wr.drew.heap[P]? = some (.cells (thC ({ t with cdf:=d,ccats:=xs }) uL (.slice va xs.length vc) uK uD).toArray 34 (0,0)):=hA
   clear hA
   generalize wr.drew = wd at *
   have z0:wd.cell? ⟨P,10,none⟩ = some (.int .u64 t.r0):=cell_blk hA9 rfl
   have y0:wd.frozen? ⟨P,10,none⟩ = false:=free_blk hA9
   have fin:Hid (Fr (fun b=>b = P) W1 (wd.setCell ⟨P,10,none⟩ (.int .u64 r0))∧(wd.setCell ⟨P,10,none⟩ (.int .u64 r0)).heap[P]? = some (.cells (thC ({ t with cdf:=d,ccats:=xs,r0:=r0 }) uL (.slice va xs.length vc) uK uD).toArray 34 (0,0))):=⟨Fr.trans hfr (hS.setCell (p:=⟨P,10,none⟩) (.inl rfl) (.int .u64 r0)) (fun _ h=>.inl h),by rw [show (wd.setCell ⟨P,10,none⟩ (.int .u64 r0)).heap[P]? = _ from (blk_setCell hA9)];rfl⟩
   clear hS hA9 hfr e0
   go_wp2
   go_roundw
   case rel=>exact ⟨fin.out.1,.inr (.inl ⟨rfl,fin.out.2⟩)⟩
   case measure=>simp [intOf]
  ·have hbl9:b < wr.heap.size:=by have:=hfr.size;omega
   have e0:wr.cell? ⟨b,off + 4,none⟩ = some (.int .u64 r1):=(fr_cell hfr hbl hbP).trans c2
   replace hbl:=hbl9
   go_upto_region 8 with fail
   have hS:Fr (fun b=>b = P) wr wr.drew:=Fr.drew (Fr.refl _ wr)
   refine wp_region_ord [] 11 [(0,true),(1,true),(2,true),(3,true),(4,true),(8,true),(5,true),(9,true),(6,true),(7,true),(10,true)] (fun w':World=>Fr (fun b=>b = P) wr w') (by kernel_rfl) (by kernel_rfl) ?_
   refine ord_quietL _ ?_ rfl hS rfl ?_ ?_
   rotate_left
   ·rintro w' hn;go_simp;rfl
   simp only [pL,List.set]
   refine ord_quietL _ ?_ rfl hS rfl ?_ ?_
   rotate_left
   ·rintro w' hn;go_simp;rfl
   simp only [pL,List.set]
   refine ord_quietL _ ?_ rfl hS rfl ?_ ?_
   rotate_left
   ·rintro w' hn;go_simp;rfl
   simp only [pL,List.set]
   refine ord_quietL _ ?_ rfl hS rfl ?_ ?_
   rotate_left
   ·rintro w' hn;go_simp;rfl
   simp only [pL,List.set]
   refine ord_quietL _ ?_ rfl hS rfl ?_ ?_
   rotate_left
   ·rintro w' hn;go_simp;exact congrArg (Value.int IntKind.i64) (show IntKind.i64.wrap 2 = 2 from by decide)
   simp only [pL,List.set]
   refine ord_quietL _ ?_ rfl hS rfl ?_ ?_
   rotate_left
   ·rintro w' hn;go_simp;rfl
   simp only [pL,List.set]
   refine ord_quietL _ ?_ rfl hS rfl ?_ ?_
   rotate_left
   ·rintro w' hn;go_simp;rfl
   simp only [pL,List.set]
   refine ord_quietL _ ?_ rfl hS rfl ?_ ?_
   rotate_left
   ·rintro w' hn;go_simp;rfl
   simp only [pL,List.set]
   refine ord_quietL _ ?_ rfl hS rfl ?_ ?_
   rotate_left
   ·rintro w' hn;go_simp;rfl
   simp only [pL,List.set]
   refine ord_quietL _ ?_ rfl hS rfl ?_ ?_
   rotate_left
   ·rintro w' hn;have g0:w'.cell? ⟨b,off + 4,none⟩ = some (.int .u64 r1):=(fr_cell hn hbl hbP).trans e0;go_simp;rfl
   simp only [pL,List.set]
   refine ord_quietL _ ?_ rfl hS rfl ?_ ?_
   rotate_left
   ·rintro w' hn;go_simp;rfl
   simp only [pL,List.set]
   refine ord_tail ?_
   simp only [List.drop_succ_cons,List.drop_zero]
   have hA9:wr.drew.heap[P]? = some (.cells (thC ({ t with cdf:=d,ccats:=xs,r0:=r0 }) uL (.slice va xs.length vc) uK uD).toArray 34 (0,0)):=hA
   clear hA
   generalize wr.drew = wd at *
   have z0:wd.cell? ⟨P,11,none⟩ = some (.int .u64 t.r1):=cell_blk hA9 rfl
   have y0:wd.frozen? ⟨P,11,none⟩ = false:=free_blk hA9
   have fin:Hid (Fr (fun b=>b = P) W1 (wd.setCell ⟨P,11,none⟩ (.int .u64 r1))∧(wd.setCell ⟨P,11,none⟩ (.int .u64 r1)).heap[P]? = some (.cells (thC ({ t with cdf:=d,ccats:=xs,r0:=r0,r1:=r1 }) uL (.slice va xs.length vc) uK uD).toArray 34 (0,0))):=⟨Fr.trans hfr (hS.setCell (p:=⟨P,11,none⟩) (.inl rfl) (.int .u64 r1)) (fun _ h=>.inl h),by rw [show (wd.setCell ⟨P,11,none⟩ (.int .u64 r1)).heap[P]? = _ from (blk_setCell hA9)];rfl⟩
   clear hS hA9 hfr e0
   go_wp2
   go_roundw
   case rel=>exact ⟨fin.out.1,.inr (.inr (.inl ⟨rfl,fin.out.2⟩))⟩
   case measure=>simp [intOf]
  ·have hbl9:b < wr.heap.size:=by have:=hfr.size;omega
   have e0:wr.cell? ⟨b,off + 6,none⟩ = some (.int .u64 r2):=(fr_cell hfr hbl hbP).trans c3
   replace hbl:=hbl9
   go_upto_region 8 with fail
   have hS:Fr (fun b=>b = P) wr wr.drew:=Fr.drew (Fr.refl _ wr)
   refine wp_region_ord [] 11 [(0,true),(1,true),(2,true),(3,true),(4,true),(8,true),(5,true),(9,true),(6,true),(7,true),(10,true)] (fun w':World=>Fr (fun b=>b = P) wr w') (by kernel_rfl) (by kernel_rfl) ?_
   refine ord_quietL _ ?_ rfl hS rfl ?_ ?_
   rotate_left
   ·rintro w' hn;go_simp;rfl
   simp only [pL,List.set]
   refine ord_quietL _ ?_ rfl hS rfl ?_ ?_
   rotate_left
   ·rintro w' hn;go_simp;rfl
   simp only [pL,List.set]
   refine ord_quietL _ ?_ rfl hS rfl ?_ ?_
   rotate_left
   ·rintro w' hn;go_simp;rfl
   simp only [pL,List.set]
   refine ord_quietL _ ?_ rfl hS rfl ?_ ?_
   rotate_left
   ·rintro w' hn;go_simp;rfl
   simp only [pL,List.set]
   refine ord_quietL _ ?_ rfl hS rfl ?_ ?_
   rotate_left
   ·rintro w' hn;go_simp;exact congrArg (Value.int IntKind.i64) (show IntKind.i64.wrap 3 = 3 from by decide)
   simp only [pL,List.set]
   refine ord_quietL _ ?_ rfl hS rfl ?_ ?_
   rotate_left
   ·rintro w' hn;go_simp;rfl
   simp only [pL,List.set]
   refine ord_quietL _ ?_ rfl hS rfl ?_ ?_
   rotate_left
   ·rintro w' hn;go_simp;rfl
   simp only [pL,List.set]
   refine ord_quietL _ ?_ rfl hS rfl ?_ ?_
   rotate_left
   ·rintro w' hn;go_simp;rfl
   simp only [pL,List.set]
   refine ord_quietL _ ?_ rfl hS rfl ?_ ?_
   rotate_left
   ·rintro w' hn;go_simp;rfl
   simp only [pL,List.set]
   refine ord_quietL _ ?_ rfl hS rfl ?_ ?_
   rotate_left
   ·rintro w' hn;have g0:w'.cell? ⟨b,off + 6,none⟩ = some (.int .u64 r2):=(fr_cell hn hbl hbP).trans e0;go_simp;rfl
   simp only [pL,List.set]
   refine ord_quietL _ ?_ rfl hS rfl ?_ ?_
   rotate_left
   ·rintro w' hn;go_simp;rfl
   simp only [pL,List.set]
   refine ord_tail ?_
   simp only [List.drop_succ_cons,List.drop_zero]
   have hA9:wr.drew.heap[P]? = some (.cells (thC ({ t with cdf:=d,ccats:=xs,r0:=r0,r1:=r1 }) uL (.slice va xs.length vc) uK uD).toArray 34 (0,0)):=hA
   clear hA
   generalize wr.drew = wd at *
   have z0:wd.cell? ⟨P,12,none⟩ = some (.int .u64 t.r2):=cell_blk hA9 rfl
   have y0:wd.frozen? ⟨P,12,none⟩ = false:=free_blk hA9
   have fin:Hid (Fr (fun b=>b = P) W1 (wd.setCell ⟨P,12,none⟩ (.int .u64 r2))∧(wd.setCell ⟨P,12,none⟩ (.int .u64 r2)).heap[P]? = some (.cells (thC ({ t with cdf:=d,ccats:=xs,r0:=r0,r1:=r1,r2:=r2 }) uL (.slice va xs.length vc) uK uD).toArray 34 (0,0))):=⟨Fr.trans hfr (hS.setCell (p:=⟨P,12,none⟩) (.inl rfl) (.int .u64 r2)) (fun _ h=>.inl h),by rw [show (wd.setCell ⟨P,12,none⟩ (.int .u64 r2)).heap[P]? = _ from (blk_setCell hA9)];rfl⟩
   clear hS hA9 hfr e0
   go_wp2
   go_roundw
   case rel=>exact ⟨fin.out.1,.inr (.inr (.inr (.inl ⟨rfl,fin.out.2⟩)))⟩
   case measure=>simp [intOf]
  ·have hbl9:b < wr.heap.size:=by have:=hfr.size;omega
   have e0:wr.cell? ⟨b,off + 8,none⟩ = some (.int .u64 r3):=(fr_cell hfr hbl hbP).trans c4
   replace hbl:=hbl9
   go_upto_region 8 with fail
   have hS:Fr (fun b=>b = P) wr wr.drew:=Fr.drew (Fr.refl _ wr)
   refine wp_region_ord [] 11 [(0,true),(1,true),(2,true),(3,true),(4,true),(8,true),(5,true),(9,true),(6,true),(7,true),(10,true)] (fun w':World=>Fr (fun b=>b = P) wr w') (by kernel_rfl) (by kernel_rfl) ?_
   refine ord_quietL _ ?_ rfl hS rfl ?_ ?_
   rotate_left
   ·rintro w' hn;go_simp;rfl
   simp only [pL,List.set]
   refine ord_quietL _ ?_ rfl hS rfl ?_ ?_
   rotate_left
   ·rintro w' hn;go_simp;rfl
   simp only [pL,List.set]
   refine ord_quietL _ ?_ rfl hS rfl ?_ ?_
   rotate_left
   ·rintro w' hn;go_simp;rfl
   simp only [pL,List.set]
   refine ord_quietL _ ?_ rfl hS rfl ?_ ?_
   rotate_left
   ·rintro w' hn;go_simp;rfl
   simp only [pL,List.set]
   refine ord_quietL _ ?_ rfl hS rfl ?_ ?_
   rotate_left
   ·rintro w' hn;go_simp;exact congrArg (Value.int IntKind.i64) (show IntKind.i64.wrap 4 = 4 from by decide)
   simp only [pL,List.set]
   refine ord_quietL _ ?_ rfl hS rfl ?_ ?_
   rotate_left
   ·rintro w' hn;go_simp;rfl
   simp only [pL,List.set]
   refine ord_quietL _ ?_ rfl hS rfl ?_ ?_
   rotate_left
   ·rintro w' hn;go_simp;rfl
   simp only [pL,List.set]
   refine ord_quietL _ ?_ rfl hS rfl ?_ ?_
   rotate_left
   ·rintro w' hn;go_simp;rfl
   simp only [pL,List.set]
   refine ord_quietL _ ?_ rfl hS rfl ?_ ?_
   rotate_left
   ·rintro w' hn;go_simp;rfl
   simp only [pL,List.set]
   refine ord_quietL _ ?_ rfl hS rfl ?_ ?_
   rotate_left
   ·rintro w' hn;have g0:w'.cell? ⟨b,off + 8,none⟩ = some (.int .u64 r3):=(fr_cell hn hbl hbP).trans e0;go_simp;rfl
   simp only [pL,List.set]
   refine ord_quietL _ ?_ rfl hS rfl ?_ ?_
   rotate_left
   ·rintro w' hn;go_simp;rfl
   simp only [pL,List.set]
   refine ord_tail ?_
   simp only [List.drop_succ_cons,List.drop_zero]
   have hA9:wr.drew.heap[P]? = some (.cells (thC ({ t with cdf:=d,ccats:=xs,r0:=r0,r1:=r1,r2:=r2 }) uL (.slice va xs.length vc) uK uD).toArray 34 (0,0)):=hA
   clear hA
   generalize wr.drew = wd at *
   have z0:wd.cell? ⟨P,13,none⟩ = some (.int .u64 t.r3):=cell_blk hA9 rfl
   have y0:wd.frozen? ⟨P,13,none⟩ = false:=free_blk hA9
   have fin:Hid (Fr (fun b=>b = P) W1 (wd.setCell ⟨P,13,none⟩ (.int .u64 r3))∧(wd.setCell ⟨P,13,none⟩ (.int .u64 r3)).heap[P]? = some (.cells (thC ({ t with cdf:=d,ccats:=xs,r0:=r0,r1:=r1,r2:=r2,r3:=r3 }) uL (.slice va xs.length vc) uK uD).toArray 34 (0,0))):=⟨Fr.trans hfr (hS.setCell (p:=⟨P,13,none⟩) (.inl rfl) (.int .u64 r3)) (fun _ h=>.inl h),by rw [show (wd.setCell ⟨P,13,none⟩ (.int .u64 r3)).heap[P]? = _ from (blk_setCell hA9)];rfl⟩
   clear hS hA9 hfr e0
   go_wp2
   go_roundw
   case rel=>exact ⟨fin.out.1,.inr (.inr (.inr (.inr (⟨rfl,fin.out.2⟩))))⟩
   case measure=>simp [intOf]
  ·have hbl9:b < wr.heap.size:=by have:=hfr.size;omega
   have e5:wr.cell? ⟨b,off + 10,none⟩ = some (.int .u64 mi):=(fr_cell hfr hbl hbP).trans c5
   have e6:wr.cell? ⟨b,off + 12,none⟩ = some (.int .u64 bo):=(fr_cell hfr hbl hbP).trans c6
   have e7:wr.cell? ⟨b,off + 14,none⟩ = some (.int .u64 ha):=(fr_cell hfr hbl hbP).trans c7
   replace hbl:=hbl9
   have hcm:=cv64 h4.1 (Int.lt_trans h4.2 (by decide))
   have hcb:=cv64 h5.1 (Int.lt_trans h5.2 (by decide))
   go_upto_region 10 with fail
   have hS:Fr (fun b=>b = P) wr wr.drew:=Fr.drew (Fr.refl _ wr)
   refine wp_region_ord [] 26 [(0,true),(1,true),(2,true),(3,true),(8,true),(13,true),(4,true),(9,true),(14,true),(5,true),(10,true),(15,true),(6,true),(11,true),(16,true),(7,true),(12,true),(17,true),(18,true),(19,true),(20,false),(21,true),(22,true),(23,false),(24,true),(25,true)] (fun w':World=>Fr (fun b=>b = P) wr w') (by kernel_rfl) (by kernel_rfl) ?_
   refine ord_quietL _ ?_ rfl hS rfl ?_ ?_
   rotate_left
   ·rintro w' hn;go_simp;rfl
   simp only [pL,List.set]
   refine ord_quietL _ ?_ rfl hS rfl ?_ ?_
   rotate_left
   ·rintro w' hn;go_simp;rfl
   simp only [pL,List.set]
   refine ord_quietL _ ?_ rfl hS rfl ?_ ?_
   rotate_left
   ·rintro w' hn;go_simp;rfl
   simp only [pL,List.set]
   refine ord_quietL _ ?_ rfl hS rfl ?_ ?_
   rotate_left
   ·rintro w' hn;go_simp;rfl
   simp only [pL,List.set]
   refine ord_quietL _ ?_ rfl hS rfl ?_ ?_
   rotate_left
   ·rintro w' hn;go_simp;rfl
   simp only [pL,List.set]
   refine ord_quietL _ ?_ rfl hS rfl ?_ ?_
   rotate_left
   ·rintro w' hn;go_simp;rfl
   simp only [pL,List.set]
   refine ord_quietL _ ?_ rfl hS rfl ?_ ?_
   rotate_left
   ·rintro w' hn;go_simp;rfl
   simp only [pL,List.set]
   refine ord_quietL _ ?_ rfl hS rfl ?_ ?_
   rotate_left
   ·rintro w' hn;go_simp;rfl
   simp only [pL,List.set]
   refine ord_quietL _ ?_ rfl hS rfl ?_ ?_
   rotate_left
   ·rintro w' hn;go_simp;rfl
   simp only [pL,List.set]
   refine ord_quietL _ ?_ rfl hS rfl ?_ ?_
   rotate_left
   ·rintro w' hn;go_simp;rfl
   simp only [pL,List.set]
   refine ord_quietL _ ?_ rfl hS rfl ?_ ?_
   rotate_left
   ·rintro w' hn;go_simp;rfl
   simp only [pL,List.set]
   refine ord_quietL _ ?_ rfl hS rfl ?_ ?_
   rotate_left
   ·rintro w' hn;go_simp;rfl
   simp only [pL,List.set]
   refine ord_quietL _ ?_ rfl hS rfl ?_ ?_
   rotate_left
   ·rintro w' hn;have g0:w'.cell? ⟨b,off + 10,none⟩ = some (.int .u64 mi):=(fr_cell hn hbl hbP).trans e5;go_simp;rfl
   simp only [pL,List.set]
   refine ord_quietL _ ?_ rfl hS rfl ?_ ?_
   rotate_left
   ·rintro w' hn;have g0:w'.cell? ⟨b,off + 12,none⟩ = some (.int .u64 bo):=(fr_cell hn hbl hbP).trans e6;go_simp;rfl
   simp only [pL,List.set]
   refine ord_quietL _ ?_ rfl hS rfl ?_ ?_
   rotate_left
   ·rintro w' hn;have g0:w'.cell? ⟨b,off + 14,none⟩ = some (.int .u64 ha):=(fr_cell hn hbl hbP).trans e7;go_simp;rfl
   simp only [pL,List.set]
   refine ord_quietL _ ?_ rfl hS rfl ?_ ?_
   rotate_left
   ·rintro w' hn;go_simp;rfl
   simp only [pL,List.set]
   refine ord_quietL _ ?_ rfl hS rfl ?_ ?_
   rotate_left
   ·rintro w' hn;go_simp;rfl
   simp only [pL,List.set]
   refine ord_quietL _ ?_ rfl hS rfl ?_ ?_
   rotate_left
   ·rintro w' hn;go_simp;rfl
   simp only [pL,List.set]
   refine ord_quietL _ ?_ rfl hS rfl ?_ ?_
   rotate_left
   ·rintro w' hn;go_simp;rfl
   simp only [pL,List.set]
   refine ord_quietL _ ?_ rfl hS rfl ?_ ?_
   rotate_left
   ·rintro w' hn;go_simp;rfl
   simp only [pL,List.set]
   have hA9:wr.drew.heap[P]? = some (.cells (thC ({ t with cdf:=d,ccats:=xs,r0:=r0,r1:=r1,r2:=r2,r3:=r3 }) uL (.slice va xs.length vc) uK uD).toArray 34 (0,0)):=hA
   clear hA
   have hA:=hA9
   clear hA9
   refine ord_actL _ rfl (fun K1 hK1=>?_)
   generalize wr.drew = wd at *
   have z:wd.cell? ⟨P,14,none⟩ = some (.int .i64 t.minted):=cell_blk hA rfl
   have y:wd.frozen? ⟨P,14,none⟩ = false:=free_blk hA
   go_wp2
   have hA2:(wd.setCell ⟨P,14,none⟩ (.int .i64 mi)).heap[P]? = some (.cells (thC ({ t with cdf:=d,ccats:=xs,r0:=r0,r1:=r1,r2:=r2,r3:=r3,minted:=mi }) uL (.slice va xs.length vc) uK uD).toArray 34 (0,0)):=(blk_setCell hA).trans rfl
   have hS1:=hS.setCell (p:=⟨P,14,none⟩) (.inl rfl) (.int .i64 mi)
   refine hK1 _ _ hS1 ?_
   generalize (wd.setCell ⟨P,14,none⟩ (.int .i64 mi)) = wd1 at *
   clear hK1 K1 hS z y hA
   have hS:=hS1
   have hA:=hA2
   clear hS1 hA2
   refine ord_quietL _ ?_ rfl hS rfl ?_ ?_
   rotate_left
   ·rintro w' hn;go_simp;rfl
   simp only [pL,List.set]
   refine ord_quietL _ ?_ rfl hS rfl ?_ ?_
   rotate_left
   ·rintro w' hn;go_simp;rfl
   simp only [pL,List.set]
   refine ord_actL _ rfl (fun K1 hK1=>?_)
   have z:wd1.cell? ⟨P,15,none⟩ = some (.int .i64 t.boot):=cell_blk hA rfl
   have y:wd1.frozen? ⟨P,15,none⟩ = false:=free_blk hA
   go_wp2
   have hA2:(wd1.setCell ⟨P,15,none⟩ (.int .i64 bo)).heap[P]? = some (.cells (thC ({ t with cdf:=d,ccats:=xs,r0:=r0,r1:=r1,r2:=r2,r3:=r3,minted:=mi,boot:=bo }) uL (.slice va xs.length vc) uK uD).toArray 34 (0,0)):=(blk_setCell hA).trans rfl
   have hS1:=hS.setCell (p:=⟨P,15,none⟩) (.inl rfl) (.int .i64 bo)
   refine hK1 _ _ hS1 ?_
   generalize (wd1.setCell ⟨P,15,none⟩ (.int .i64 bo)) = wd2 at *
   clear hK1 K1 hS z y hA
   have hS:=hS1
   have hA:=hA2
   clear hS1 hA2
   refine ord_quietL _ ?_ rfl hS rfl ?_ ?_
   rotate_left
   ·rintro w' hn;go_simp;rfl
   simp only [pL,List.set]
   refine ord_quietL _ ?_ rfl hS rfl ?_ ?_
   rotate_left
   ·rintro w' hn;go_simp;rfl
   simp only [pL,List.set]
   refine ord_tail ?_
   simp only [List.drop_succ_cons,List.drop_zero]
   have z16:wd2.cell? ⟨P,16,none⟩ = some (.bool t.halted):=cell_blk hA rfl
   have y16:wd2.frozen? ⟨P,16,none⟩ = false:=free_blk hA
   have fin:Hid (SetR X P [bF cl,nF r0,nF r1,nF r2,nF r3,nF mi,nF bo,nF ha] t w (.returned (.tuple #[])) (wd2.setCell ⟨P,16,none⟩ (.bool (ha == 1)))):=by
    have f3:Fr (fun b=>b = P) W1 (wd2.setCell ⟨P,16,none⟩ (.bool (ha == 1))):=Fr.trans hfr (hS.setCell (p:=⟨P,16,none⟩) (.inl rfl) _) (fun _ h=>.inl h)
    have hXP:∀ b,X b→b < W1.heap.size→¬ b = P:=fun b hb _ e=>hX0 (e ▸ hb)
    have ht9:=ht1.out.keep f3 hXP (fun _ h _=>h)
    refine ⟨rfl,Fr.trans hf1.out f3 (fun _ h=>.inl h),{ t with cdf:=d,ccats:=xs,r0:=r0,r1:=r1,r2:=r2,r3:=r3,minted:=mi,boot:=bo,halted:=ha == 1 },uL,.slice va xs.length vc,uK,uD,?_,⟨ht9.l,ht9.c,ht9.k,ht9.d⟩,set2 hk.out h0 h1 h2 h3 h4 h5 h6 hback,⟨h0,h1,h2,h3,hwf.value⟩,rfl,h100⟩
    rw [blk_setCell hA];rfl
   clear hA hfr hS
   go_wp2
   go_end0
   exact fin.out
end Go.Proofs.Ytghlilncdfiojaa
