/-
  Read: setParts, of spaces.
-/
import Derived.Test.YtghlilncdfiojaaThG3S
namespace Go.Proofs.Ytghlilncdfiojaa
set_option linter.unusedVariables false
set_option linter.unusedSimpArgs false
set_option maxRecDepth 20000
open Go.RowKit

set_option maxRecDepth 100000 in
set_option maxHeartbeats 3200000 in
theorem c_set5 {X:Nat→Prop} {K P:Nat} {t:Th} {uL uC uK uD fv:Value} {xa xb xc xd xe xf xg xh:Int} (w:World) (hA:w.heap[P]? = some (.cells (thC t uL uC uK uD).toArray 34 (0,0))) (ht:ThAt X w t uL uC uK uD) (hf:FieldsAt K w fv [nF xa,nF xb,nF xc,nF xd,nF xe,nF xf,nF xg,nF xh]) (hKP:K ≤ P) (hk:t.kind = 5) (h0:n8 xa) (h1:n8 xb) (h2:n8 xc) (h3:n8 xd) (h4:n8 xe) (h5:n8 xf) (h6:n8 xg) (h7:n8 xh)
  (hX0:¬ X P) (hX1:∀ b,w.heap.size ≤ b→X b) (hX2:∀ v bs,BSl (fun b=>b < K) w v bs→BSl X w v bs) (hwf:WfT t) (hcc:t.ccats.length ≤ 100) :
  Calls Try.prog 77 #[.pointer (some ⟨P,0,none⟩),fv] w (SetR X P [nF xa,nF xb,nF xc,nF xd,nF xe,nF xf,nF xg,nF xh] t w):=by
 have bk1:(t.kind == 1) = false:=by simp;omega
 have bk2:(t.kind == 2) = false:=by simp;omega
 have bk3:(t.kind == 3) = false:=by simp;omega
 have bk4:(t.kind == 4) = false:=by simp;omega
 have bk5:(t.kind == 5) = true:=by simp [hk]
 obtain ⟨b,off,cap,rfl,hb,hcap⟩:=fa_form hf (by simp)
 have c0:w.cell? ⟨b,off + 0,none⟩ = some (.int .u64 xa):=fa_num hf 0 xa rfl h0.1
 have c1:w.cell? ⟨b,off + 2,none⟩ = some (.int .u64 xb):=fa_num hf 1 xb rfl h1.1
 have c2:w.cell? ⟨b,off + 4,none⟩ = some (.int .u64 xc):=fa_num hf 2 xc rfl h2.1
 have c3:w.cell? ⟨b,off + 6,none⟩ = some (.int .u64 xd):=fa_num hf 3 xd rfl h3.1
 have c4:w.cell? ⟨b,off + 8,none⟩ = some (.int .u64 xe):=fa_num hf 4 xe rfl h4.1
 have c5:w.cell? ⟨b,off + 10,none⟩ = some (.int .u64 xf):=fa_num hf 5 xf rfl h5.1
 have c6:w.cell? ⟨b,off + 12,none⟩ = some (.int .u64 xg):=fa_num hf 6 xg rfl h6.1
 have c7:w.cell? ⟨b,off + 14,none⟩ = some (.int .u64 xh):=fa_num hf 7 xh rfl h7.1
 have hPl:=heap_lt hA
 have hbl:b < w.heap.size:=by omega
 have hbP:¬ b = P:=by omega
 have a1:w.cell? ⟨P,1,none⟩ = some (.int .i64 t.kind):=cell_blk hA rfl
 simp only [List.length_cons,List.length_nil,Nat.reduceAdd] at hcap ⊢
 replace hk:Hid _:=hk
 clear hf
 go_enter Try.func77,Try.ntmps77
 go_upto_region 16 with fail
 clear a1 bk1 bk2 bk3 bk4 bk5
 go_wp2
 go_loopw [105] (fun kv wr=>Fr (fun b=>b = P) w wr∧((kv = .int .i64 0∧wr.heap[P]? = some (.cells (thC (t) uL uC uK uD).toArray 34 (0,0)))∨(kv = .int .i64 1∧wr.heap[P]? = some (.cells (thC ({ t with s0:=xa,s1:=xb }) uL uC uK uD).toArray 34 (0,0)))∨(kv = .int .i64 2∧wr.heap[P]? = some (.cells (thC ({ t with s0:=xa,s1:=xb,s2:=xc,s3:=xd }) uL uC uK uD).toArray 34 (0,0)))∨(kv = .int .i64 3∧wr.heap[P]? = some (.cells (thC ({ t with s0:=xa,s1:=xb,s2:=xc,s3:=xd,s4:=xe,s5:=xf }) uL uC uK uD).toArray 34 (0,0)))∨(kv = .int .i64 4∧wr.heap[P]? = some (.cells (thC ({ t with s0:=xa,s1:=xb,s2:=xc,s3:=xd,s4:=xe,s5:=xf,s6:=xg,s7:=xh }) uL uC uK uD).toArray 34 (0,0))))) (fun kv _=>4 - (intOf kv).toNat)
 case atStart=>exact ⟨Fr.refl _ _,.inl ⟨rfl,hA⟩⟩
 case round =>
  obtain ⟨hfr,hrel⟩:=hrel
  clear hA
  rcases hrel with ⟨rfl,hA⟩ | ⟨rfl,hA⟩ | ⟨rfl,hA⟩ | ⟨rfl,hA⟩ | ⟨rfl,hA⟩
  ·have hbl9:b < wr.heap.size:=by have:=hfr.size;omega
   have e0:wr.cell? ⟨b,off + 0,none⟩ = some (.int .u64 xa):=(fr_cell hfr hbl hbP).trans c0
   have e1:wr.cell? ⟨b,off + 2,none⟩ = some (.int .u64 xb):=(fr_cell hfr hbl hbP).trans c1
   replace hbl:=hbl9
   go_upto_region 19 with fail
   have hS:Fr (fun b=>b = P) wr wr.drew:=Fr.drew (Fr.refl _ wr)
   refine wp_region_ord [] 19 [(0,true),(1,true),(2,true),(3,true),(8,true),(9,true),(4,true),(10,true),(16,true),(5,true),(11,true),(17,true),(6,true),(12,true),(7,true),(13,true),(14,true),(15,true),(18,true)] (fun w':World=>Fr (fun b=>b = P) wr w') (by kernel_rfl) (by kernel_rfl) ?_
   refine ord_quietL _ ?_ rfl hS rfl ?_ ?_
   rotate_left
   ·rintro w' hn;go_simp;rfl
   simp only [pL,List.set]
   refine ord_quietL _ ?_ rfl hS rfl ?_ ?_
   rotate_left
   ·rintro w' hn;go_simp;rfl
   simp only [pL,List.set]
   refine ord_quietL _ ?_ rfl hS rfl ?_ ?_
   rotate_left
   ·rintro w' hn;go_simp;rfl
   simp only [pL,List.set]
   refine ord_quietL _ ?_ rfl hS rfl ?_ ?_
   rotate_left
   ·rintro w' hn;go_simp;rfl
   simp only [pL,List.set]
   refine ord_quietL _ ?_ rfl hS rfl ?_ ?_
   rotate_left
   ·rintro w' hn;go_simp;rfl
   simp only [pL,List.set]
   refine ord_quietL _ ?_ rfl hS rfl ?_ ?_
   rotate_left
   ·rintro w' hn;go_simp;rfl
   simp only [pL,List.set]
   refine ord_quietL _ ?_ rfl hS rfl ?_ ?_
   rotate_left
   ·rintro w' hn;go_simp;exact congrArg (Value.int IntKind.i64) (show IntKind.i64.wrap 0 = 0 from by decide)
   simp only [pL,List.set]
   refine ord_quietL _ ?_ rfl hS rfl ?_ ?_
   rotate_left
   ·rintro w' hn;go_simp;exact congrArg (Value.int IntKind.i64) (show IntKind.i64.wrap 0 = 0 from by decide)
   simp only [pL,List.set]
   refine ord_quietL _ ?_ rfl hS rfl ?_ ?_
   rotate_left
   ·rintro w' hn;go_simp;rfl
   simp only [pL,List.set]
   refine ord_quietL _ ?_ rfl hS rfl ?_ ?_
   rotate_left
   ·rintro w' hn;go_simp;rfl
   simp only [pL,List.set]
   refine ord_quietL _ ?_ rfl hS rfl ?_ ?_
   rotate_left
   ·rintro w' hn;go_simp;exact congrArg (Value.int IntKind.i64) (show IntKind.i64.wrap 1 = 1 from by decide)
   simp only [pL,List.set]
   refine ord_quietL _ ?_ rfl hS rfl ?_ ?_
   rotate_left
   ·rintro w' hn;go_simp;rfl
   simp only [pL,List.set]
   refine ord_quietL _ ?_ rfl hS rfl ?_ ?_
   rotate_left
   ·rintro w' hn;go_simp;rfl
   simp only [pL,List.set]
   refine ord_quietL _ ?_ rfl hS rfl ?_ ?_
   rotate_left
   ·rintro w' hn;go_simp;rfl
   simp only [pL,List.set]
   refine ord_quietL _ ?_ rfl hS rfl ?_ ?_
   rotate_left
   ·rintro w' hn;have g0:w'.cell? ⟨b,off + 0,none⟩ = some (.int .u64 xa):=(fr_cell hn hbl hbP).trans e0;have g1:w'.cell? ⟨b,off,none⟩ = some (.int .u64 xa):=(fr_cell hn hbl hbP).trans e0;go_simp;rfl
   simp only [pL,List.set]
   refine ord_quietL _ ?_ rfl hS rfl ?_ ?_
   rotate_left
   ·rintro w' hn;go_simp;rfl
   simp only [pL,List.set]
   refine ord_quietL _ ?_ rfl hS rfl ?_ ?_
   rotate_left
   ·rintro w' hn;have g0:w'.cell? ⟨b,off + 2,none⟩ = some (.int .u64 xb):=(fr_cell hn hbl hbP).trans e1;go_simp;rfl
   simp only [pL,List.set]
   refine ord_quietL _ ?_ rfl hS rfl ?_ ?_
   rotate_left
   ·rintro w' hn;go_simp;rfl
   simp only [pL,List.set]
   refine ord_quietL _ ?_ rfl hS rfl ?_ ?_
   rotate_left
   ·rintro w' hn;go_simp;rfl
   simp only [pL,List.set]
   refine ord_tail ?_
   simp only [List.drop_succ_cons,List.drop_zero]
   have hA9:wr.drew.heap[P]? = some (.cells (thC (t) uL uC uK uD).toArray 34 (0,0)):=hA
   clear hA
   generalize wr.drew = wd at *
   have z0:wd.cell? ⟨P,18,none⟩ = some (.int .u64 t.s0):=cell_blk hA9 rfl
   have y0:wd.frozen? ⟨P,18,none⟩ = false:=free_blk hA9
   have z1:wd.cell? ⟨P,19,none⟩ = some (.int .u64 t.s1):=cell_blk hA9 rfl
   have y1:wd.frozen? ⟨P,19,none⟩ = false:=free_blk hA9
   have fin:Hid (Fr (fun b=>b = P) w ((wd.setCell ⟨P,18,none⟩ (.int .u64 xa)).setCell ⟨P,19,none⟩ (.int .u64 xb))∧((wd.setCell ⟨P,18,none⟩ (.int .u64 xa)).setCell ⟨P,19,none⟩ (.int .u64 xb)).heap[P]? = some (.cells (thC ({ t with s0:=xa,s1:=xb }) uL uC uK uD).toArray 34 (0,0))):=⟨Fr.trans hfr ((hS.setCell (p:=⟨P,18,none⟩) (.inl rfl) (.int .u64 xa)).setCell (p:=⟨P,19,none⟩) (.inl rfl) (.int .u64 xb)) (fun _ h=>.inl h),by rw [show ((wd.setCell ⟨P,18,none⟩ (.int .u64 xa)).setCell ⟨P,19,none⟩ (.int .u64 xb)).heap[P]? = _ from (blk_setCell (blk_setCell hA9))];rfl⟩
   clear hS hA9 hfr e0 e1
   go_wp2
   go_roundw
   case rel=>exact ⟨fin.out.1,.inr (.inl ⟨rfl,fin.out.2⟩)⟩
   case measure=>simp [intOf]
  ·have hbl9:b < wr.heap.size:=by have:=hfr.size;omega
   have e0:wr.cell? ⟨b,off + 4,none⟩ = some (.int .u64 xc):=(fr_cell hfr hbl hbP).trans c2
   have e1:wr.cell? ⟨b,off + 6,none⟩ = some (.int .u64 xd):=(fr_cell hfr hbl hbP).trans c3
   replace hbl:=hbl9
   go_upto_region 19 with fail
   have hS:Fr (fun b=>b = P) wr wr.drew:=Fr.drew (Fr.refl _ wr)
   refine wp_region_ord [] 19 [(0,true),(1,true),(2,true),(3,true),(8,true),(9,true),(4,true),(10,true),(16,true),(5,true),(11,true),(17,true),(6,true),(12,true),(7,true),(13,true),(14,true),(15,true),(18,true)] (fun w':World=>Fr (fun b=>b = P) wr w') (by kernel_rfl) (by kernel_rfl) ?_
   refine ord_quietL _ ?_ rfl hS rfl ?_ ?_
   rotate_left
   ·rintro w' hn;go_simp;rfl
   simp only [pL,List.set]
   refine ord_quietL _ ?_ rfl hS rfl ?_ ?_
   rotate_left
   ·rintro w' hn;go_simp;rfl
   simp only [pL,List.set]
   refine ord_quietL _ ?_ rfl hS rfl ?_ ?_
   rotate_left
   ·rintro w' hn;go_simp;rfl
   simp only [pL,List.set]
   refine ord_quietL _ ?_ rfl hS rfl ?_ ?_
   rotate_left
   ·rintro w' hn;go_simp;rfl
   simp only [pL,List.set]
   refine ord_quietL _ ?_ rfl hS rfl ?_ ?_
   rotate_left
   ·rintro w' hn;go_simp;rfl
   simp only [pL,List.set]
   refine ord_quietL _ ?_ rfl hS rfl ?_ ?_
   rotate_left
   ·rintro w' hn;go_simp;rfl
   simp only [pL,List.set]
   refine ord_quietL _ ?_ rfl hS rfl ?_ ?_
   rotate_left
   ·rintro w' hn;go_simp;exact congrArg (Value.int IntKind.i64) (show IntKind.i64.wrap 2 = 2 from by decide)
   simp only [pL,List.set]
   refine ord_quietL _ ?_ rfl hS rfl ?_ ?_
   rotate_left
   ·rintro w' hn;go_simp;exact congrArg (Value.int IntKind.i64) (show IntKind.i64.wrap 2 = 2 from by decide)
   simp only [pL,List.set]
   refine ord_quietL _ ?_ rfl hS rfl ?_ ?_
   rotate_left
   ·rintro w' hn;go_simp;rfl
   simp only [pL,List.set]
   refine ord_quietL _ ?_ rfl hS rfl ?_ ?_
   rotate_left
   ·rintro w' hn;go_simp;rfl
   simp only [pL,List.set]
   refine ord_quietL _ ?_ rfl hS rfl ?_ ?_
   rotate_left
   ·rintro w' hn;go_simp;exact congrArg (Value.int IntKind.i64) (show IntKind.i64.wrap 3 = 3 from by decide)
   simp only [pL,List.set]
   refine ord_quietL _ ?_ rfl hS rfl ?_ ?_
   rotate_left
   ·rintro w' hn;go_simp;rfl
   simp only [pL,List.set]
   refine ord_quietL _ ?_ rfl hS rfl ?_ ?_
   rotate_left
   ·rintro w' hn;go_simp;rfl
   simp only [pL,List.set]
   refine ord_quietL _ ?_ rfl hS rfl ?_ ?_
   rotate_left
   ·rintro w' hn;go_simp;rfl
   simp only [pL,List.set]
   refine ord_quietL _ ?_ rfl hS rfl ?_ ?_
   rotate_left
   ·rintro w' hn;have g0:w'.cell? ⟨b,off + 4,none⟩ = some (.int .u64 xc):=(fr_cell hn hbl hbP).trans e0;go_simp;rfl
   simp only [pL,List.set]
   refine ord_quietL _ ?_ rfl hS rfl ?_ ?_
   rotate_left
   ·rintro w' hn;go_simp;rfl
   simp only [pL,List.set]
   refine ord_quietL _ ?_ rfl hS rfl ?_ ?_
   rotate_left
   ·rintro w' hn;have g0:w'.cell? ⟨b,off + 6,none⟩ = some (.int .u64 xd):=(fr_cell hn hbl hbP).trans e1;go_simp;rfl
   simp only [pL,List.set]
   refine ord_quietL _ ?_ rfl hS rfl ?_ ?_
   rotate_left
   ·rintro w' hn;go_simp;rfl
   simp only [pL,List.set]
   refine ord_quietL _ ?_ rfl hS rfl ?_ ?_
   rotate_left
   ·rintro w' hn;go_simp;rfl
   simp only [pL,List.set]
   refine ord_tail ?_
   simp only [List.drop_succ_cons,List.drop_zero]
   have hA9:wr.drew.heap[P]? = some (.cells (thC ({ t with s0:=xa,s1:=xb }) uL uC uK uD).toArray 34 (0,0)):=hA
   clear hA
   generalize wr.drew = wd at *
   have z0:wd.cell? ⟨P,20,none⟩ = some (.int .u64 t.s2):=cell_blk hA9 rfl
   have y0:wd.frozen? ⟨P,20,none⟩ = false:=free_blk hA9
   have z1:wd.cell? ⟨P,21,none⟩ = some (.int .u64 t.s3):=cell_blk hA9 rfl
   have y1:wd.frozen? ⟨P,21,none⟩ = false:=free_blk hA9
   have fin:Hid (Fr (fun b=>b = P) w ((wd.setCell ⟨P,20,none⟩ (.int .u64 xc)).setCell ⟨P,21,none⟩ (.int .u64 xd))∧((wd.setCell ⟨P,20,none⟩ (.int .u64 xc)).setCell ⟨P,21,none⟩ (.int .u64 xd)).heap[P]? = some (.cells (thC ({ t with s0:=xa,s1:=xb,s2:=xc,s3:=xd }) uL uC uK uD).toArray 34 (0,0))):=⟨Fr.trans hfr ((hS.setCell (p:=⟨P,20,none⟩) (.inl rfl) (.int .u64 xc)).setCell (p:=⟨P,21,none⟩) (.inl rfl) (.int .u64 xd)) (fun _ h=>.inl h),by rw [show ((wd.setCell ⟨P,20,none⟩ (.int .u64 xc)).setCell ⟨P,21,none⟩ (.int .u64 xd)).heap[P]? = _ from (blk_setCell (blk_setCell hA9))];rfl⟩
   clear hS hA9 hfr e0 e1
   go_wp2
   go_roundw
   case rel=>exact ⟨fin.out.1,.inr (.inr (.inl ⟨rfl,fin.out.2⟩))⟩
   case measure=>simp [intOf]
  ·have hbl9:b < wr.heap.size:=by have:=hfr.size;omega
   have e0:wr.cell? ⟨b,off + 8,none⟩ = some (.int .u64 xe):=(fr_cell hfr hbl hbP).trans c4
   have e1:wr.cell? ⟨b,off + 10,none⟩ = some (.int .u64 xf):=(fr_cell hfr hbl hbP).trans c5
   replace hbl:=hbl9
   go_upto_region 19 with fail
   have hS:Fr (fun b=>b = P) wr wr.drew:=Fr.drew (Fr.refl _ wr)
   refine wp_region_ord [] 19 [(0,true),(1,true),(2,true),(3,true),(8,true),(9,true),(4,true),(10,true),(16,true),(5,true),(11,true),(17,true),(6,true),(12,true),(7,true),(13,true),(14,true),(15,true),(18,true)] (fun w':World=>Fr (fun b=>b = P) wr w') (by kernel_rfl) (by kernel_rfl) ?_
   refine ord_quietL _ ?_ rfl hS rfl ?_ ?_
   rotate_left
   ·rintro w' hn;go_simp;rfl
   simp only [pL,List.set]
   refine ord_quietL _ ?_ rfl hS rfl ?_ ?_
   rotate_left
   ·rintro w' hn;go_simp;rfl
   simp only [pL,List.set]
   refine ord_quietL _ ?_ rfl hS rfl ?_ ?_
   rotate_left
   ·rintro w' hn;go_simp;rfl
   simp only [pL,List.set]
   refine ord_quietL _ ?_ rfl hS rfl ?_ ?_
   rotate_left
   ·rintro w' hn;go_simp;rfl
   simp only [pL,List.set]
   refine ord_quietL _ ?_ rfl hS rfl ?_ ?_
   rotate_left
   ·rintro w' hn;go_simp;rfl
   simp only [pL,List.set]
   refine ord_quietL _ ?_ rfl hS rfl ?_ ?_
   rotate_left
   ·rintro w' hn;go_simp;rfl
   simp only [pL,List.set]
   refine ord_quietL _ ?_ rfl hS rfl ?_ ?_
   rotate_left
   ·rintro w' hn;go_simp;exact congrArg (Value.int IntKind.i64) (show IntKind.i64.wrap 4 = 4 from by decide)
   simp only [pL,List.set]
   refine ord_quietL _ ?_ rfl hS rfl ?_ ?_
   rotate_left
   ·rintro w' hn;go_simp;exact congrArg (Value.int IntKind.i64) (show IntKind.i64.wrap 4 = 4 from by decide)
   simp only [pL,List.set]
   refine ord_quietL _ ?_ rfl hS rfl ?_ ?_
   rotate_left
   ·rintro w' hn;go_simp;rfl
   simp only [pL,List.set]
   refine ord_quietL _ ?_ rfl hS rfl ?_ ?_
   rotate_left
   ·rintro w' hn;go_simp;rfl
   simp only [pL,List.set]
   refine ord_quietL _ ?_ rfl hS rfl ?_ ?_
   rotate_left
   ·rintro w' hn;go_simp;exact congrArg (Value.int IntKind.i64) (show IntKind.i64.wrap 5 = 5 from by decide)
   simp only [pL,List.set]
   refine ord_quietL _ ?_ rfl hS rfl ?_ ?_
   rotate_left
   ·rintro w' hn;go_simp;rfl
   simp only [pL,List.set]
   refine ord_quietL _ ?_ rfl hS rfl ?_ ?_
   rotate_left
   ·rintro w' hn;go_simp;rfl
   simp only [pL,List.set]
   refine ord_quietL _ ?_ rfl hS rfl ?_ ?_
   rotate_left
   ·rintro w' hn;go_simp;rfl
   simp only [pL,List.set]
   refine ord_quietL _ ?_ rfl hS rfl ?_ ?_
   rotate_left
   ·rintro w' hn;have g0:w'.cell? ⟨b,off + 8,none⟩ = some (.int .u64 xe):=(fr_cell hn hbl hbP).trans e0;go_simp;rfl
   simp only [pL,List.set]
   refine ord_quietL _ ?_ rfl hS rfl ?_ ?_
   rotate_left
   ·rintro w' hn;go_simp;rfl
   simp only [pL,List.set]
   refine ord_quietL _ ?_ rfl hS rfl ?_ ?_
   rotate_left
   ·rintro w' hn;have g0:w'.cell? ⟨b,off + 10,none⟩ = some (.int .u64 xf):=(fr_cell hn hbl hbP).trans e1;go_simp;rfl
   simp only [pL,List.set]
   refine ord_quietL _ ?_ rfl hS rfl ?_ ?_
   rotate_left
   ·rintro w' hn;go_simp;rfl
   simp only [pL,List.set]
   refine ord_quietL _ ?_ rfl hS rfl ?_ ?_
   rotate_left
   ·rintro w' hn;go_simp;rfl
   simp only [pL,List.set]
   refine ord_tail ?_
   simp only [List.drop_succ_cons,List.drop_zero]
   have hA9:wr.drew.heap[P]? = some (.cells (thC ({ t with s0:=xa,s1:=xb,s2:=xc,s3:=xd }) uL uC uK uD).toArray 34 (0,0)):=hA
   clear hA
   generalize wr.drew = wd at *
   have z0:wd.cell? ⟨P,22,none⟩ = some (.int .u64 t.s4):=cell_blk hA9 rfl
   have y0:wd.frozen? ⟨P,22,none⟩ = false:=free_blk hA9
   have z1:wd.cell? ⟨P,23,none⟩ = some (.int .u64 t.s5):=cell_blk hA9 rfl
   have y1:wd.frozen? ⟨P,23,none⟩ = false:=free_blk hA9
   have fin:Hid (Fr (fun b=>b = P) w ((wd.setCell ⟨P,22,none⟩ (.int .u64 xe)).setCell ⟨P,23,none⟩ (.int .u64 xf))∧((wd.setCell ⟨P,22,none⟩ (.int .u64 xe)).setCell ⟨P,23,none⟩ (.int .u64 xf)).heap[P]? = some (.cells (thC ({ t with s0:=xa,s1:=xb,s2:=xc,s3:=xd,s4:=xe,s5:=xf }) uL uC uK uD).toArray 34 (0,0))):=⟨Fr.trans hfr ((hS.setCell (p:=⟨P,22,none⟩) (.inl rfl) (.int .u64 xe)).setCell (p:=⟨P,23,none⟩) (.inl rfl) (.int .u64 xf)) (fun _ h=>.inl h),by rw [show ((wd.setCell ⟨P,22,none⟩ (.int .u64 xe)).setCell ⟨P,23,none⟩ (.int .u64 xf)).heap[P]? = _ from (blk_setCell (blk_setCell hA9))];rfl⟩
   clear hS hA9 hfr e0 e1
   go_wp2
   go_roundw
   case rel=>exact ⟨fin.out.1,.inr (.inr (.inr (.inl ⟨rfl,fin.out.2⟩)))⟩
   case measure=>simp [intOf]
  ·have hbl9:b < wr.heap.size:=by have:=hfr.size;omega
   have e0:wr.cell? ⟨b,off + 12,none⟩ = some (.int .u64 xg):=(fr_cell hfr hbl hbP).trans c6
   have e1:wr.cell? ⟨b,off + 14,none⟩ = some (.int .u64 xh):=(fr_cell hfr hbl hbP).trans c7
   replace hbl:=hbl9
   go_upto_region 19 with fail
   have hS:Fr (fun b=>b = P) wr wr.drew:=Fr.drew (Fr.refl _ wr)
   refine wp_region_ord [] 19 [(0,true),(1,true),(2,true),(3,true),(8,true),(9,true),(4,true),(10,true),(16,true),(5,true),(11,true),(17,true),(6,true),(12,true),(7,true),(13,true),(14,true),(15,true),(18,true)] (fun w':World=>Fr (fun b=>b = P) wr w') (by kernel_rfl) (by kernel_rfl) ?_
   refine ord_quietL _ ?_ rfl hS rfl ?_ ?_
   rotate_left
   ·rintro w' hn;go_simp;rfl
   simp only [pL,List.set]
   refine ord_quietL _ ?_ rfl hS rfl ?_ ?_
   rotate_left
   ·rintro w' hn;go_simp;rfl
   simp only [pL,List.set]
   refine ord_quietL _ ?_ rfl hS rfl ?_ ?_
   rotate_left
   ·rintro w' hn;go_simp;rfl
   simp only [pL,List.set]
   refine ord_quietL _ ?_ rfl hS rfl ?_ ?_
   rotate_left
   ·rintro w' hn;go_simp;rfl
   simp only [pL,List.set]
   refine ord_quietL _ ?_ rfl hS rfl ?_ ?_
   rotate_left
   ·rintro w' hn;go_simp;rfl
   simp only [pL,List.set]
   refine ord_quietL _ ?_ rfl hS rfl ?_ ?_
   rotate_left
   ·rintro w' hn;go_simp;rfl
   simp only [pL,List.set]
   refine ord_quietL _ ?_ rfl hS rfl ?_ ?_
   rotate_left
   ·rintro w' hn;go_simp;exact congrArg (Value.int IntKind.i64) (show IntKind.i64.wrap 6 = 6 from by decide)
   simp only [pL,List.set]
   refine ord_quietL _ ?_ rfl hS rfl ?_ ?_
   rotate_left
   ·rintro w' hn;go_simp;exact congrArg (Value.int IntKind.i64) (show IntKind.i64.wrap 6 = 6 from by decide)
   simp only [pL,List.set]
   refine ord_quietL _ ?_ rfl hS rfl ?_ ?_
   rotate_left
   ·rintro w' hn;go_simp;rfl
   simp only [pL,List.set]
   refine ord_quietL _ ?_ rfl hS rfl ?_ ?_
   rotate_left
   ·rintro w' hn;go_simp;rfl
   simp only [pL,List.set]
   refine ord_quietL _ ?_ rfl hS rfl ?_ ?_
   rotate_left
   ·rintro w' hn;go_simp;exact congrArg (Value.int IntKind.i64) (show IntKind.i64.wrap 7 = 7 from by decide)
   simp only [pL,List.set]
   refine ord_quietL _ ?_ rfl hS rfl ?_ ?_
   rotate_left
   ·rintro w' hn;go_simp;rfl
   simp only [pL,List.set]
   refine ord_quietL _ ?_ rfl hS rfl ?_ ?_
   rotate_left
   ·rintro w' hn;go_simp;rfl
   simp only [pL,List.set]
   refine ord_quietL _ ?_ rfl hS rfl ?_ ?_
   rotate_left
   ·rintro w' hn;go_simp;rfl
   simp only [pL,List.set]
   refine ord_quietL _ ?_ rfl hS rfl ?_ ?_
   rotate_left
   ·rintro w' hn;have g0:w'.cell? ⟨b,off + 12,none⟩ = some (.int .u64 xg):=(fr_cell hn hbl hbP).trans e0;go_simp;rfl
   simp only [pL,List.set]
   refine ord_quietL _ ?_ rfl hS rfl ?_ ?_
   rotate_left
   ·rintro w' hn;go_simp;rfl
   simp only [pL,List.set]
   refine ord_quietL _ ?_ rfl hS rfl ?_ ?_
   rotate_left
   ·rintro w' hn;have g0:w'.cell? ⟨b,off + 14,none⟩ = some (.int .u64 xh):=(fr_cell hn hbl hbP).trans e1;go_simp;rfl
   simp only [pL,List.set]
   refine ord_quietL _ ?_ rfl hS rfl ?_ ?_
   rotate_left
   ·rintro w' hn;go_simp;rfl
   simp only [pL,List.set]
   refine ord_quietL _ ?_ rfl hS rfl ?_ ?_
   rotate_left
   ·rintro w' hn;go_simp;rfl
   simp only [pL,List.set]
   refine ord_tail ?_
   simp only [List.drop_succ_cons,List.drop_zero]
   have hA9:wr.drew.heap[P]? = some (.cells (thC ({ t with s0:=xa,s1:=xb,s2:=xc,s3:=xd,s4:=xe,s5:=xf }) uL uC uK uD).toArray 34 (0,0)):=hA
   clear hA
   generalize wr.drew = wd at *
   have z0:wd.cell? ⟨P,24,none⟩ = some (.int .u64 t.s6):=cell_blk hA9 rfl
   have y0:wd.frozen? ⟨P,24,none⟩ = false:=free_blk hA9
   have z1:wd.cell? ⟨P,25,none⟩ = some (.int .u64 t.s7):=cell_blk hA9 rfl
   have y1:wd.frozen? ⟨P,25,none⟩ = false:=free_blk hA9
   have fin:Hid (Fr (fun b=>b = P) w ((wd.setCell ⟨P,24,none⟩ (.int .u64 xg)).setCell ⟨P,25,none⟩ (.int .u64 xh))∧((wd.setCell ⟨P,24,none⟩ (.int .u64 xg)).setCell ⟨P,25,none⟩ (.int .u64 xh)).heap[P]? = some (.cells (thC ({ t with s0:=xa,s1:=xb,s2:=xc,s3:=xd,s4:=xe,s5:=xf,s6:=xg,s7:=xh }) uL uC uK uD).toArray 34 (0,0))):=⟨Fr.trans hfr ((hS.setCell (p:=⟨P,24,none⟩) (.inl rfl) (.int .u64 xg)).setCell (p:=⟨P,25,none⟩) (.inl rfl) (.int .u64 xh)) (fun _ h=>.inl h),by rw [show ((wd.setCell ⟨P,24,none⟩ (.int .u64 xg)).setCell ⟨P,25,none⟩ (.int .u64 xh)).heap[P]? = _ from (blk_setCell (blk_setCell hA9))];rfl⟩
   clear hS hA9 hfr e0 e1
   go_wp2
   go_roundw
   case rel=>exact ⟨fin.out.1,.inr (.inr (.inr (.inr (⟨rfl,fin.out.2⟩))))⟩
   case measure=>simp [intOf]
  ·have hXP:∀ b,X b→b < w.heap.size→¬ b = P:=fun b hb _ e=>hX0 (e ▸ hb)
   have fin:Hid (SetR X P [nF xa,nF xb,nF xc,nF xd,nF xe,nF xf,nF xg,nF xh] t w (.returned (.tuple #[])) wr):=⟨rfl,hfr,{ t with s0:=xa,s1:=xb,s2:=xc,s3:=xd,s4:=xe,s5:=xf,s6:=xg,s7:=xh },uL,uC,uK,uD,hA,⟨(ht.keep hfr hXP (fun _ h _=>h)).l,(ht.keep hfr hXP (fun _ h _=>h)).c,(ht.keep hfr hXP (fun _ h _=>h)).k,(ht.keep hfr hXP (fun _ h _=>h)).d⟩,set5 hk.out h0 h1 h2 h3 h4 h5 h6 h7,⟨hwf.r0,hwf.r1,hwf.r2,hwf.r3,hwf.value⟩,rfl,hcc⟩
   clear hA hfr ht
   go_wp2
   go_end0
   exact fin.out
end Go.Proofs.Ytghlilncdfiojaa
