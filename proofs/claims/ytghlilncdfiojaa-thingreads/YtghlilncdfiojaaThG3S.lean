/-
  Read: setParts, of gates, segments, devices.
-/
import Derived.Test.YtghlilncdfiojaaThG2S
namespace Go.Proofs.Ytghlilncdfiojaa
set_option linter.unusedVariables false
set_option linter.unusedSimpArgs false
set_option maxRecDepth 20000
open Go.RowKit

set_option maxRecDepth 100000 in
set_option maxHeartbeats 3200000 in
theorem c_set3 {X:Nat→Prop} {K P:Nat} {t:Th} {uL uC uK uD fv:Value} {va0:Int} {cl:List UInt8} (w:World) (hA:w.heap[P]? = some (.cells (thC t uL uC uK uD).toArray 34 (0,0))) (ht:ThAt X w t uL uC uK uD) (hf:FieldsAt K w fv [bF cl,nF va0]) (hKP:K ≤ P) (hk:t.kind = 3) (hn:n8 va0) (hl:cl.length ≤ 1024)
  (hX0:¬ X P) (hX1:∀ b,w.heap.size ≤ b→X b) (hX2:∀ v bs,BSl (fun b=>b < K) w v bs→BSl X w v bs) (hwf:WfT t) (hcc:t.ccats.length ≤ 100) :
  Calls Try.prog 77 #[.pointer (some ⟨P,0,none⟩),fv] w (SetR X P [bF cl,nF va0] t w):=by
 have bk1:(t.kind == 1) = false:=by simp;omega
 have bk2:(t.kind == 2) = false:=by simp;omega
 have bk3:(t.kind == 3) = true:=by simp [hk]
 obtain ⟨b,off,cap,rfl,hb,hcap⟩:=fa_form hf (by simp)
 have c1:w.cell? ⟨b,off + 2,none⟩ = some (.int .u64 va0):=fa_num hf 1 va0 rfl hn.1
 obtain ⟨a0,p0,x0,s0⟩:=fa_txt hf 0 cl rfl
 replace x0:w.cell? ⟨b,off + 1,none⟩ = some (.slice a0 cl.length p0):=x0
 have hPl:=heap_lt hA
 have hbl:b < w.heap.size:=by omega
 have hbP:¬ b = P:=by omega
 have a1:w.cell? ⟨P,1,none⟩ = some (.int .i64 t.kind):=cell_blk hA rfl
 simp only [List.length_cons,List.length_nil,Nat.reduceAdd] at hcap ⊢
 replace hk:Hid _:=hk
 clear hf
 go_enter Try.func77,Try.ntmps77
 go_upto_region 12 with fail
 clear a1 bk1 bk2 bk3
 replace ht:=ht.nw (Fr.drew (Fr.refl _ w):Nw w w.drew)
 have hS:Fr (fun b=>b = P) w w.drew:=Fr.drew (Fr.refl _ w)
 refine wp_region_ord [] 16 [(0,true),(1,true),(2,true),(7,true),(3,true),(8,true),(4,true),(9,true),(5,true),(10,true),(6,false),(11,true),(12,true),(13,false),(14,true),(15,true)] (fun w':World=>Fr (fun b=>b = P) w w') (by kernel_rfl) (by kernel_rfl) ?_
 refine ord_quietL _ ?_ rfl hS rfl ?_ ?_
 rotate_left
 ·rintro w' hn;go_simp;first | rfl | (rw [if_pos (by omega)];done) | (rw [if_pos (by omega)];rfl) | (rw [if_pos (by omega)];go_simp;rfl)
 simp only [pL,List.set]
 refine ord_quietL _ ?_ rfl hS rfl ?_ ?_
 rotate_left
 ·rintro w' hn;go_simp;first | rfl | (rw [if_pos (by omega)];done) | (rw [if_pos (by omega)];rfl) | (rw [if_pos (by omega)];go_simp;rfl)
 simp only [pL,List.set]
 refine ord_quietL _ ?_ rfl hS rfl ?_ ?_
 rotate_left
 ·rintro w' hn;go_simp;first | rfl | (rw [if_pos (by omega)];done) | (rw [if_pos (by omega)];rfl) | (rw [if_pos (by omega)];go_simp;rfl)
 simp only [pL,List.set]
 refine ord_quietL _ ?_ rfl hS rfl ?_ ?_
 rotate_left
 ·rintro w' hn;go_simp;first | rfl | (rw [if_pos (by omega)];done) | (rw [if_pos (by omega)];rfl) | (rw [if_pos (by omega)];go_simp;rfl)
 simp only [pL,List.set]
 refine ord_quietL _ ?_ rfl hS rfl ?_ ?_
 rotate_left
 ·rintro w' hn;go_simp;first | rfl | (rw [if_pos (by omega)];done) | (rw [if_pos (by omega)];rfl) | (rw [if_pos (by omega)];go_simp;rfl)
 simp only [pL,List.set]
 refine ord_quietL _ ?_ rfl hS rfl ?_ ?_
 rotate_left
 ·rintro w' hn;go_simp;first | rfl | (rw [if_pos (by omega)];done) | (rw [if_pos (by omega)];rfl) | (rw [if_pos (by omega)];go_simp;rfl)
 simp only [pL,List.set]
 refine ord_quietL _ ?_ rfl hS rfl ?_ ?_
 rotate_left
 ·rintro w' hn;go_simp;first | rfl | (rw [if_pos (by omega)];done) | (rw [if_pos (by omega)];rfl) | (rw [if_pos (by omega)];go_simp;rfl)
 simp only [pL,List.set]
 refine ord_quietL _ ?_ rfl hS rfl ?_ ?_
 rotate_left
 ·rintro w' hn;go_simp;first | rfl | (rw [if_pos (by omega)];done) | (rw [if_pos (by omega)];rfl) | (rw [if_pos (by omega)];go_simp;rfl)
 simp only [pL,List.set]
 refine ord_quietL _ ?_ rfl hS rfl ?_ ?_
 rotate_left
 ·rintro w' hn;have g0:w'.cell? ⟨b,off + 1,none⟩ = some (.slice a0 cl.length p0):=(fr_cell hn hbl hbP).trans x0;have g1:w'.cell? ⟨b,off + 0 + 1,none⟩ = some (.slice a0 cl.length p0):=(fr_cell hn hbl hbP).trans x0;go_simp;first | rfl | (rw [if_pos (by omega)];done) | (rw [if_pos (by omega)];rfl) | (rw [if_pos (by omega)];go_simp;rfl)
 simp only [pL,List.set]
 refine ord_quietL _ ?_ rfl hS rfl ?_ ?_
 rotate_left
 ·rintro w' hn;have g0:w'.cell? ⟨b,off + 2,none⟩ = some (.int .u64 va0):=(fr_cell hn hbl hbP).trans c1;have g1:w'.cell? ⟨b,off + 2 + 0,none⟩ = some (.int .u64 va0):=(fr_cell hn hbl hbP).trans c1;go_simp;first | rfl | (rw [if_pos (by omega)];done) | (rw [if_pos (by omega)];rfl) | (rw [if_pos (by omega)];go_simp;rfl)
 simp only [pL,List.set]
 refine ord_actL _ rfl (fun K1 hK1=>?_)
 have hcon:Hid _:=c_labelOf w.drew (s0.keep ((Below.refl _ _).drew)) (by show K ≤ w.heap.size;omega) (by omega)
 go_wp2_with (go_at_call 76;refine Calls.mono hcon.out ?_;rintro e wk0 ⟨d,uu,xs,rfl,hown,hback,hfit,h100,d0,d1,qb⟩)
 obtain ⟨va,vc,rfl⟩:=owns_form hown
 have hS1:Fr (fun b=>b = P) w wk0:=Fr.trans hS (fr_of_below (S:=fun _=>False) qb) (fun _ h=>h.elim)
 replace hA:wk0.heap[P]? = _:=(qb.block P hPl).trans hA
 replace ht:=ht.nw (fr_of_below (S:=fun _=>False) qb)
 refine hK1 _ _ hS1 ?_
 clear hK1 K1 hcon qb hS
 have hS:=hS1
 clear hS1
 refine ord_quietL _ ?_ rfl hS rfl ?_ ?_
 rotate_left
 ·rintro w' hn;go_simp;first | rfl | (rw [if_pos (by omega)];done) | (rw [if_pos (by omega)];rfl) | (rw [if_pos (by omega)];go_simp;rfl)
 simp only [pL,List.set]
 refine ord_quietL _ ?_ rfl hS rfl ?_ ?_
 rotate_left
 ·rintro w' hn;go_simp;first | rfl | (rw [if_pos (by omega)];done) | (rw [if_pos (by omega)];rfl) | (rw [if_pos (by omega)];go_simp;rfl)
 simp only [pL,List.set]
 refine ord_actL _ rfl (fun K1 hK1=>?_)
 have z4:wk0.cell? ⟨P,4,none⟩ = some (.int .i64 t.cdf):=cell_blk hA rfl
 have y4:wk0.frozen? ⟨P,4,none⟩ = false:=free_blk hA
 have z5:wk0.cell? ⟨P,5,none⟩ = some (uC):=cell_blk hA rfl
 have y5:wk0.frozen? ⟨P,5,none⟩ = false:=free_blk hA
 go_wp2
 have hA2:=blk_setCell (i:=5) (v:=.slice va xs.length vc) (blk_setCell (i:=4) (v:=.int .i64 d) hA)
 have hS1:=(hS.setCell (p:=⟨P,4,none⟩) (.inl rfl) (.int .i64 d)).setCell (p:=⟨P,5,none⟩) (.inl rfl) (.slice va xs.length vc)
 refine hK1 _ _ hS1 ?_
 clear hK1 K1 hS z4 y4 z5 y5
 have hS:=hS1
 clear hS1
 refine ord_quietL _ ?_ rfl hS rfl ?_ ?_
 rotate_left
 ·rintro w' hn;go_simp;first | rfl | (rw [if_pos (by omega)];done) | (rw [if_pos (by omega)];rfl) | (rw [if_pos (by omega)];go_simp;rfl)
 simp only [pL,List.set]
 refine ord_quietL _ ?_ rfl hS rfl ?_ ?_
 rotate_left
 ·rintro w' hn;go_simp;first | rfl | (rw [if_pos (by omega)];done) | (rw [if_pos (by omega)];rfl) | (rw [if_pos (by omega)];go_simp;rfl)
 simp only [pL,List.set]
 refine ord_tail ?_
 simp only [List.drop_succ_cons,List.drop_zero]
 have z17:((wk0.setCell ⟨P,4,none⟩ (.int .i64 d)).setCell ⟨P,5,none⟩ (.slice va xs.length vc)).cell? ⟨P,17,none⟩ = some (.int .u64 t.value):=cell_blk hA2 rfl
 have y17:((wk0.setCell ⟨P,4,none⟩ (.int .i64 d)).setCell ⟨P,5,none⟩ (.slice va xs.length vc)).frozen? ⟨P,17,none⟩ = false:=free_blk hA2
 have fin:Hid (SetR X P [bF cl,nF va0] t w (.returned (.tuple #[])) (((wk0.setCell ⟨P,4,none⟩ (.int .i64 d)).setCell ⟨P,5,none⟩ (.slice va xs.length vc)).setCell ⟨P,17,none⟩ (.int .u64 va0))):=by
  have hS9:Fr (fun b=>b = P) w (((wk0.setCell ⟨P,4,none⟩ (.int .i64 d)).setCell ⟨P,5,none⟩ (.slice va xs.length vc)).setCell ⟨P,17,none⟩ (.int .u64 va0)):=hS.setCell (p:=⟨P,17,none⟩) (.inl rfl) (.int .u64 va0)
  have f2:Fr (fun b=>b = P) wk0 (((wk0.setCell ⟨P,4,none⟩ (.int .i64 d)).setCell ⟨P,5,none⟩ (.slice va xs.length vc)).setCell ⟨P,17,none⟩ (.int .u64 va0)):=((((Fr.refl (fun b=>b = P) wk0).setCell (p:=⟨P,4,none⟩) (.inl rfl) (.int .i64 d)).setCell (p:=⟨P,5,none⟩) (.inl rfl) (.slice va xs.length vc)).setCell (p:=⟨P,17,none⟩) (.inl rfl) (.int .u64 va0))
  have hXP:∀ b,X b→b < wk0.heap.size→¬ b = P:=fun b hb _ e=>hX0 (e ▸ hb)
  have ht9:=ht.keep f2 hXP (fun _ h _=>h)
  have hk9:CSl X (((wk0.setCell ⟨P,4,none⟩ (.int .i64 d)).setCell ⟨P,5,none⟩ (.slice va xs.length vc)).setCell ⟨P,17,none⟩ (.int .u64 va0)) (.slice va xs.length vc) xs:=(csl_of_own hown).keep f2 (fun b hb _ e=>by have h9:w.heap.size ≤ b:=hb;omega) (fun b hb _=>hX1 b hb)
  refine ⟨rfl,hS9,{ t with cdf:=d,ccats:=xs,value:=va0 },uL,.slice va xs.length vc,uK,uD,?_,⟨ht9.l,hk9,ht9.k,ht9.d⟩,set3 hk.out hn hback,⟨hwf.r0,hwf.r1,hwf.r2,hwf.r3,hn⟩,rfl,h100⟩
  rw [blk_setCell (blk_setCell (blk_setCell hA))];rfl
 clear hback hown hfit h100 ht hS hA hA2 hX0 hX1 hX2 hwf hcc d0 d1
 go_wp2
 go_end0
 exact fin.out

set_option maxRecDepth 100000 in
set_option maxHeartbeats 3200000 in
theorem c_set4 {X:Nat→Prop} {K P:Nat} {t:Th} {uL uC uK uD fv:Value} {da:List UInt8} (w:World) (hA:w.heap[P]? = some (.cells (thC t uL uC uK uD).toArray 34 (0,0))) (ht:ThAt X w t uL uC uK uD) (hf:FieldsAt K w fv [bF da]) (hKP:K ≤ P) (hk:t.kind = 4) (hl:da.length ≤ 1024)
  (hX0:¬ X P) (hX1:∀ b,w.heap.size ≤ b→X b) (hX2:∀ v bs,BSl (fun b=>b < K) w v bs→BSl X w v bs) (hwf:WfT t) (hcc:t.ccats.length ≤ 100) :
  Calls Try.prog 77 #[.pointer (some ⟨P,0,none⟩),fv] w (SetR X P [bF da] t w):=by
 have bk1:(t.kind == 1) = false:=by simp;omega
 have bk2:(t.kind == 2) = false:=by simp;omega
 have bk3:(t.kind == 3) = false:=by simp;omega
 have bk4:(t.kind == 4) = true:=by simp [hk]
 obtain ⟨b,off,cap,rfl,hb,hcap⟩:=fa_form hf (by simp)
 obtain ⟨a0,p0,x0,s0⟩:=fa_txt hf 0 da rfl
 replace x0:w.cell? ⟨b,off + 1,none⟩ = some (.slice a0 da.length p0):=x0
 have hPl:=heap_lt hA
 have hbl:b < w.heap.size:=by omega
 have hbP:¬ b = P:=by omega
 have a1:w.cell? ⟨P,1,none⟩ = some (.int .i64 t.kind):=cell_blk hA rfl
 simp only [List.length_cons,List.length_nil,Nat.reduceAdd] at hcap ⊢
 replace hk:Hid _:=hk
 clear hf
 have y9:w.frozen? ⟨P,9,none⟩ = false:=free_blk hA
 have z9:w.cell? ⟨P,9,none⟩ = some uD:=cell_blk hA rfl
 have hS:Fr (fun b=>b = P) w w:=Fr.refl _ w
 have x0b:w.cell? ⟨b,off + 0 + 1,none⟩ = some (.slice a0 da.length p0):=x0
 have fin:Hid (SetR X P [bF da] t w (.returned (.tuple #[])) (w.setCell ⟨P,9,none⟩ (.slice a0 da.length p0))):=by
  have hS9:Fr (fun b=>b = P) w (w.setCell ⟨P,9,none⟩ (.slice a0 da.length p0)):=hS.setCell (p:=⟨P,9,none⟩) (.inl rfl) (.slice a0 da.length p0)
  have f2:Fr (fun b=>b = P) w (w.setCell ⟨P,9,none⟩ (.slice a0 da.length p0)):=((Fr.refl (fun b=>b = P) w).setCell (p:=⟨P,9,none⟩) (.inl rfl) (.slice a0 da.length p0))
  have hXP:∀ b,X b→b < w.heap.size→¬ b = P:=fun b hb _ e=>hX0 (e ▸ hb)
  have ht9:=ht.keep f2 hXP (fun _ h _=>h)
  have hk9:BSl X (w.setCell ⟨P,9,none⟩ (.slice a0 da.length p0)) (.slice a0 da.length p0) da:=(hX2 _ _ (bsl_of_sl s0)).keep f2 hXP (fun _ h _=>h)
  refine ⟨rfl,hS9,{ t with data:=da },uL,uC,uK,.slice a0 da.length p0,?_,⟨ht9.l,ht9.c,ht9.k,hk9⟩,set4 hk.out,⟨hwf.r0,hwf.r1,hwf.r2,hwf.r3,hwf.value⟩,rfl,hcc⟩
  rw [blk_setCell hA];rfl
 clear ht hS hA hX0 hX1 hX2 hwf hcc hb hcap
 go_enter Try.func77,Try.ntmps77
 go_wp2
 go_end0
 exact fin.out

set_option maxHeartbeats 3200000 in
theorem c_set6 {X:Nat→Prop} {P:Nat} {t:Th} {uL uC uK uD fv:Value} (w:World) (hA:w.heap[P]? = some (.cells (thC t uL uC uK uD).toArray 34 (0,0))) (ht:ThAt X w t uL uC uK uD) (k1:t.kind ≠ 1) (k2:t.kind ≠ 2) (k3:t.kind ≠ 3) (k4:t.kind ≠ 4) (k5:t.kind ≠ 5) (hwf:WfT t) (hcc:t.ccats.length ≤ 100) :
  Calls Try.prog 77 #[.pointer (some ⟨P,0,none⟩),fv] w (SetR X P [] t w):=by
 have bk1:(t.kind == 1) = false:=by simp;omega
 have bk2:(t.kind == 2) = false:=by simp;omega
 have bk3:(t.kind == 3) = false:=by simp;omega
 have bk4:(t.kind == 4) = false:=by simp;omega
 have bk5:(t.kind == 5) = false:=by simp;omega
 have a1:w.cell? ⟨P,1,none⟩ = some (.int .i64 t.kind):=cell_blk hA rfl
 have fin:Hid (SetR X P [] t w (.returned (.tuple #[])) w):=⟨rfl,Fr.refl _ w,t,uL,uC,uK,uD,hA,ht,set6 k1 k2 k3 k4 k5,hwf,rfl,hcc⟩
 clear ht hA hwf hcc k1 k2 k3 k4 k5
 go_enter Try.func77,Try.ntmps77
 go_wp2
 go_end0
 exact fin.out
end Go.Proofs.Ytghlilncdfiojaa
