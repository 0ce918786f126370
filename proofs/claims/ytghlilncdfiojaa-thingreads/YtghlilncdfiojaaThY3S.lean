/-
  The document's Image: spaces, directories.
-/
import Derived.Test.YtghlilncdfiojaaThY2S
namespace Go.Proofs.Ytghlilncdfiojaa
set_option linter.unusedVariables false
set_option linter.unusedSimpArgs false
set_option maxRecDepth 20000
open Go.RowKit

set_option maxRecDepth 100000 in
set_option maxHeartbeats 6400000 in
theorem c_ri5 {X:Nat→Prop} {t:Th} {uL uC uK uD:Value} (w:World) (h:ThAt X w t uL uC uK uD) (hwf:WfT t) (hr:RightT t) (l2:t.ccats.length ≤ 8796093022208) (hk:t.kind = 5) :
  Calls Try.prog 17 #[(thV t uL uC uK uD)] w fun e w'=>ImgP t e w'∧Nw w w':=by
 obtain ⟨i4,hj,hj0,hj1,hj2⟩:=info_parts3 Try.infoFd
 have bk1:(t.kind == 1) = false:=by simp [hk]
 have bk2:(t.kind == 2) = false:=by simp [hk]
 have bk3:(t.kind == 3) = false:=by simp [hk]
 have bk4:(t.kind == 4) = false:=by simp [hk]
 have bk5:(t.kind == 5) = true:=by simp [hk]
 have bk6:(t.kind == 6) = false:=by simp [hk]
 have i0:0 ≤ t.id:=by have:=hr.id.1;omega
 have i1:t.id ≤ 281474976710655:=hr.id.2
 obtain ⟨q0',q1⟩:=quota_of hr.parts
 have q0:0 ≤ t.quota:=by omega
 have k0:0 ≤ t.kind:=by omega
 have k6:t.kind ≤ 6:=by omega
 have l6:=hr.rgt.len
 clear q0'
 replace hr:Hid (RightT t):=hr
 replace hk:Hid (t.kind = 5):=hk
 obtain ⟨W,hW⟩:∃ W,Hid (W = w.alloc (.cells (thC t uL uC uK uD).toArray 34)):=⟨_,rfl⟩
 have nW:Nw w W:=by rw [hW.out];exact nw_alloc (nw_refl w) _
 have hA:W.heap[w.heap.size]? = some (.cells (thC t uL uC uK uD).toArray 34 (0,0)):=by rw [hW.out];exact heap_alloc_new w _
 have ht:=(h.mono (X':=fun b=>b < w.heap.size) (fun b _ hb=>hb)).nw nW
 clear h
 have hWl:Hid (w.heap.size < W.heap.size):=heap_lt hA
 have hcq:Hid _:=c_rtright W ht hwf (by omega) l2
 unfold AnsP at hcq
 have hrA:=range_all hA
 go_enter Try.func17,Try.ntmps17
 go_upto_region 1 with (refine wpList_box_agg rfl 34 _ rfl (thV t uL uC uK uD) _ rfl rfl ?_)
 rw [← hW.out]
 clear hW
 go_wp2_with (first | (refine wpList_load_as rfl 34 _ rfl (w.heap.size) 0 rfl (thV t uL uC uK uD) _ rfl hrA Try.rowT Try.sizeT ?_) | (go_at_call 12;refine Calls.mono hcq.out ?_;rintro e W1 ⟨r1,rfl,q,n1⟩;obtain rfl:=q.2 hr.out;refine stop_here ?_))
 unfold Hid
 clear hcq hrA q
 replace hA:=(n1.block _ (heap_lt hA) (fun h=>h)).trans hA
 replace ht:=ht.nw n1
 have nW1s:Hid (W.heap.size ≤ W1.heap.size):=n1.size
 replace nW:=nw_trans nW n1
 clear n1
 go_upto_region 4 with fail
 have hSof:∀ w',Nw W1 w'→(fun w':World=>Nw W1 w'∧w'.heap[w.heap.size]? = some (.cells (thC t uL uC uK uD).toArray 34 (0,0))) w':=fun w' hw=>⟨hw,(hw.block _ (heap_lt hA) (fun h=>h)).trans hA⟩
 have hW0:Nw W1 W1.drew:=Fr.drew (Fr.refl _ W1)
 have hS:=hSof _ hW0
 replace ht:=ht.nw hW0
 replace hSof:Hid _:=hSof
 refine wp_region_ord [] 15 [(0,true),(3,true),(7,true),(11,true),(1,true),(4,true),(8,true),(12,true),(2,true),(5,true),(13,true),(6,true),(14,true),(9,false),(10,true)] (fun w':World=>Nw W1 w'∧w'.heap[w.heap.size]? = some (.cells (thC t uL uC uK uD).toArray 34 (0,0))) (by kernel_rfl) (by kernel_rfl) ?_
 refine ord_quietL _ ?_ rfl hS rfl ?_ ?_
 rotate_left
 ·rintro w' ⟨hn,rhA⟩;go_simp;rfl
 simp only [pL,List.set]
 refine ord_quietL _ ?_ rfl hS rfl ?_ ?_
 rotate_left
 ·rintro w' ⟨hn,rhA⟩;go_simp;rfl
 simp only [pL,List.set]
 refine ord_quietL _ ?_ rfl hS rfl ?_ ?_
 rotate_left
 ·rintro w' ⟨hn,rhA⟩;go_simp;rfl
 simp only [pL,List.set]
 refine ord_quietL _ ?_ rfl hS rfl ?_ ?_
 rotate_left
 ·rintro w' ⟨hn,rhA⟩;go_simp;rfl
 simp only [pL,List.set]
 refine ord_quietL _ ?_ rfl hS rfl ?_ ?_
 rotate_left
 ·rintro w' ⟨hn,rhA⟩;have g0:w'.cell? ⟨w.heap.size,0,none⟩ = some (.int .u64 t.id):=cell_blk rhA rfl;go_simp;rfl
 simp only [pL,List.set]
 refine ord_quietL _ ?_ rfl hS rfl ?_ ?_
 rotate_left
 ·rintro w' ⟨hn,rhA⟩;have g0:w'.cell? ⟨w.heap.size,1,none⟩ = some (.int .i64 t.kind):=cell_blk rhA rfl;go_simp;rfl
 simp only [pL,List.set]
 refine ord_quietL _ ?_ rfl hS rfl ?_ ?_
 rotate_left
 ·rintro w' ⟨hn,rhA⟩;have g0:w'.cell? ⟨w.heap.size,2,none⟩ = some (.int .i64 t.df):=cell_blk rhA rfl;have g1:w'.cell? ⟨w.heap.size,3,none⟩ = some (uL):=cell_blk rhA rfl;go_simp;rfl
 simp only [pL,List.set]
 refine ord_quietL _ ?_ rfl hS rfl ?_ ?_
 rotate_left
 ·rintro w' ⟨hn,rhA⟩;have g0:w'.cell? ⟨w.heap.size,6,none⟩ = some (.int .i64 t.quota):=cell_blk rhA rfl;go_simp;rfl
 simp only [pL,List.set]
 refine ord_quietL _ ?_ rfl hS rfl ?_ ?_
 rotate_left
 ·rintro w' ⟨hn,rhA⟩;go_simp;rfl
 simp only [pL,List.set]
 refine ord_quietL _ ?_ rfl hS rfl ?_ ?_
 rotate_left
 ·rintro w' ⟨hn,rhA⟩;have hc:=cvu (x:=t.kind) (by omega) (by omega) w';go_simp;rfl
 simp only [pL,List.set]
 refine ord_quietL _ ?_ rfl hS rfl ?_ ?_
 rotate_left
 ·rintro w' ⟨hn,rhA⟩;have hc:=cvu (x:=t.quota) (by omega) (by omega) w';go_simp;rfl
 simp only [pL,List.set]
 refine ord_quietL _ ?_ rfl hS rfl ?_ ?_
 rotate_left
 ·rintro w' ⟨hn,rhA⟩;go_simp;rfl
 simp only [pL,List.set]
 refine ord_quietL _ ?_ rfl hS rfl ?_ ?_
 rotate_left
 ·rintro w' ⟨hn,rhA⟩;go_simp;rfl
 simp only [pL,List.set]
 refine ord_actL _ rfl (fun K1 hK1=>?_)
 have hcon:Hid _:=c_rtext W1.drew ht.l hr.out.rgt
 unfold labV at hcon
 go_wp2_with (go_at_call 46;refine Calls.mono hcon.out ?_;rintro e wk0 ⟨u,rfl,hu,qn⟩)
 have m0:=nw_trans hW0 qn
 replace ht:=ht.nw qn
 obtain ⟨ua,uc,hu0,-⟩:=hu.form
 subst hu0
 generalize hun:(labB t.df t.cats).length = un at *
 replace hun:Hid _:=hun
 refine hK1 _ _ (hSof.out _ m0) ?_
 clear hK1 K1 hcon qn hS hW0
 have hS:=hSof.out _ m0
 refine ord_quietL _ ?_ rfl hS rfl ?_ ?_
 rotate_left
 ·rintro w' ⟨hn,rhA⟩;go_simp;rfl
 simp only [pL,List.set]
 refine ord_tail ?_
 simp only [List.drop_succ_cons,List.drop_zero]
 obtain ⟨V,hV⟩:∃ V,Hid (V = wk0.alloc (.cells #[.int .u64 t.id,.slice none 0 0,.int .u64 t.kind,.slice none 0 0,.int .u64 0,.slice ua un uc,.int .u64 t.quota,.slice none 0 0] 74)):=⟨_,rfl⟩
 have nV0:Nw wk0 V:=by rw [hV.out];exact nw_alloc (nw_refl _) _
 have hla:LAt wk0.heap.size V (.slice (some ⟨wk0.heap.size,0,none⟩) 4 4) 4 (headF t):=by
  refine ⟨[.int .u64 t.id,.slice none 0 0,.int .u64 t.kind,.slice none 0 0,.int .u64 0,.slice ua un uc,.int .u64 t.quota,.slice none 0 0],⟨rfl,.inr ⟨wk0.heap.size,4,_,rfl,Nat.le_refl _,by rw [hV.out];exact heap_alloc_new wk0 _,Nat.le_refl _,by decide,rfl,by simp⟩⟩,rfl,?_⟩
  have hub:BSl (fun b=>b < V.heap.size∧(Value.slice (some ⟨wk0.heap.size,0,none⟩) 4 4).ownBlock ≠ some b) V (.slice ua un uc) (labB t.df t.cats):=hu.keep nV0 (fun _ _ _ h=>h) (fun b hb hlt=>⟨by have:=nV0.size;omega,fun e=>by simp [Value.ownBlock] at e;omega⟩)
  have g:=fldx_num (fldx_bytes (fldx_num (fldx_num (fldx_zero (fun b=>b < V.heap.size∧(Value.slice (some ⟨wk0.heap.size,0,none⟩) 4 4).ownBlock ≠ some b) V) t.id i0 (by omega)) t.kind k0 (by omega)) ua un uc (labB t.df t.cats) hub (by rw [labB_length];omega)) t.quota q0 (by omega)
  simpa [headF] using g
 have nV:Nw W1 V:=nw_trans m0 nV0
 replace hA:=(nV.block _ (heap_lt hA) (fun h=>h)).trans hA
 replace ht:=ht.nw nV0
 replace nW:=nw_trans nW nV
 have hbs:W.heap.size ≤ wk0.heap.size:=Nat.le_trans nW1s.out m0.size
 have hbw:Hid (w.heap.size < wk0.heap.size):=by have:=hWl.out;unfold Hid;omega
 have hbl:Hid (wk0.heap.size ≤ V.heap.size):=nV0.size
 clear hbs
 clear hSof hS hu nV0
 go_upto_region 5 with fail
 first | rw [← hV.out] | skip
 clear hV
 clear nV m0
 generalize wk0.heap.size = base at *
 have a1:V.cell? ⟨w.heap.size,1,none⟩ = some (.int .i64 t.kind):=cell_blk hA rfl
 have hsl:Hid _:=slots_at t ((kd5 hk.out).1 hr.out.parts)
 have hL4:Hid ((slotsL t.s0 t.s1 t.s2 t.s3 t.s4 t.s5 t.s6 t.s7).length = 4):=rfl
 have hpf:Hid (partF t = prF (slotsL t.s0 t.s1 t.s2 t.s3 t.s4 t.s5 t.s6 t.s7)):=by have hk:=hk.out;unfold Hid partF;rw [hk];rfl
 generalize slotsL t.s0 t.s1 t.s2 t.s3 t.s4 t.s5 t.s6 t.s7 = LL at *
 go_upto_region 37 with fail
 clear a1 bk1 bk2 bk3 bk4 bk5 bk6
 go_wp2_with (refine wpList_load_as ?_ 32 _ rfl w.heap.size 18 rfl (slV t) _ rfl (range_sl hA) Try.row8 Try.size8 ?_;exact rfl)
 go_loopw [148,5] (fun kv fv wr=>∃ (k:Nat) (va:Option Addr) (vc N:Nat),k ≤ 4∧kv = .int .i64 k∧fv = .slice va N vc∧Hid (N = 4 + k * 2)∧LAt base wr (.slice va N vc) N (headF t ++ prF (LL.take k))∧wr.heap[w.heap.size]? = some (.cells (thC t uL uC uK uD).toArray 34 (0,0))∧ThAt (fun b=>b < w.heap.size) wr t uL uC uK uD∧Nw w wr∧Hid (base ≤ wr.heap.size)) (fun kv _ _=>4 - (intOf kv).toNat)
 case atStart=>exact ⟨0,_,_,4,Nat.zero_le _,rfl,rfl,rfl,by simpa [prF] using hla,hA,ht,nW,hbl⟩
 case round =>
  clear hA ht nW hbl hla
  obtain ⟨k,va,vc,N,hk4,rfl,rfl,hN0,hla,hA,ht,nW,hbl⟩:=hrel
  by_cases hlt:k < 4
  ·obtain ⟨x,y,hix,hp,x0,x1,y0,y1⟩:=hsl.out k hlt
   have hpr:Hid (prF (LL.take (k + 1)) = prF (LL.take k) ++ [nF x,nF y]):=prF_succ hp
   replace hp:Hid _:=hp
   have hNs:N ≤ 1000:=by rw [hN0.out];omega
   obtain ⟨W5,hW5⟩:∃ W5,Hid (W5 = wr.alloc (.cells #[.int .u64 x,.int .u64 y] 31)):=⟨_,rfl⟩
   have n5:Nw wr W5:=by rw [hW5.out];exact nw_alloc (nw_refl _) _
   have hC:W5.heap[wr.heap.size]? = some (.cells #[.int .u64 x,.int .u64 y] 31 (0,0)):=by rw [hW5.out];exact heap_alloc_new wr _
   replace hA:=(n5.block _ (heap_lt hA) (fun h=>h)).trans hA
   replace ht:=ht.nw n5
   replace nW:=nw_trans nW n5
   replace hla:=hla.nw n5
   replace hbl:Hid (base ≤ W5.heap.size):=Nat.le_trans hbl.out n5.size
   clear n5
   go_upto_region 40 with fail
   first | rw [← hW5.out] | skip
   clear hW5 hix
   have c0:W5.cell? ⟨wr.heap.size,0,none⟩ = some (.int .u64 x):=cell_blk hC rfl
   have c1:W5.cell? ⟨wr.heap.size,1,none⟩ = some (.int .u64 y):=cell_blk hC rfl
   clear hC
   generalize wr.heap.size = L at *
   have nZ9:Nw W5 (W5.alloc (.cells #[.int .u64 x,.slice none 0 0,.int .u64 y,.slice none 0 0] 74)):=nw_alloc (nw_refl _) _
   obtain ⟨cs9,hown9,hnl9,hfx9⟩:=hla.nw nZ9
   have hsl9:Sl (W5.alloc (.cells #[.int .u64 x,.slice none 0 0,.int .u64 y,.slice none 0 0] 74)).heap.size (W5.alloc (.cells #[.int .u64 x,.slice none 0 0,.int .u64 y,.slice none 0 0] 74)) (.slice (some ⟨W5.heap.size,0,none⟩) 2 2) 2 [.int .u64 x,.slice none 0 0,.int .u64 y,.slice none 0 0]:=sl_litF (w:=W5) (heap_alloc_new W5 _) (by omega)
   have hgx9:FldX (fun b=>b < (W5.alloc (.cells #[.int .u64 x,.slice none 0 0,.int .u64 y,.slice none 0 0] 74)).heap.size∧((.slice va N vc):Value).ownBlock ≠ some b) (W5.alloc (.cells #[.int .u64 x,.slice none 0 0,.int .u64 y,.slice none 0 0] 74)) [nF x,nF y] [.int .u64 x,.slice none 0 0,.int .u64 y,.slice none 0 0]:=by
    have g:=fldx_num (fldx_num (fldx_zero (fun b=>b < (W5.alloc (.cells #[.int .u64 x,.slice none 0 0,.int .u64 y,.slice none 0 0] 74)).heap.size∧((.slice va N vc):Value).ownBlock ≠ some b) (W5.alloc (.cells #[.int .u64 x,.slice none 0 0,.int .u64 y,.slice none 0 0] 74))) x x0 x1) y y0 y1
    simpa using g
   have hbz9:base ≤ (W5.alloc (.cells #[.int .u64 x,.slice none 0 0,.int .u64 y,.slice none 0 0] 74)).heap.size:=Nat.le_trans (by have:=hbl.out;omega) nZ9.size
   replace hgx9:Hid _:=hgx9
   replace hfx9:Hid _:=hfx9
   replace hnl9:Hid _:=hnl9
   go_wp2_with (at_builtin;refine wpList_append_sl _ rfl _ _ 71 rfl base 74 i4 _ 2 32 Try.underlying71 hj hj0 hj1 hj2 rfl (by decide) (.slice va N vc) N _ rfl hown9 _ _ 2 _ rfl hsl9 rfl ?d1 ?d2 ?d3 ?d4 ?_)
   case d1=>intro z hz;simp at hz;rcases hz with rfl | rfl | rfl | rfl <;> rfl
   case d2=>unfold maxLen;omega
   case d3=>omega
   case d4=>exact hbz9
   intro v9 w9 hownq9 hgrow9 hat9
   have l9:LAt base w9 v9 (N + 2) (headF t ++ prF (LL.take k) ++ [nF x,nF y]):=LAt.app hown9 hnl9.out hfx9.out hgx9.out rfl hownq9 hgrow9 (by rw [World.size_alloc];exact hat9)
   have F9:Fr (fun q=>base ≤ q) W5 w9:=Fr.grown (fr_of_nw nZ9) hgrow9 (fun q hq=>.inl (hown9.lt q hq).1)
   obtain ⟨va9,vc9,hv9⟩:=owns_form hownq9
   subst hv9
   replace hA:=(F9.block _ (heap_lt hA) (fun e=>by have:=hbw.out;omega)).trans hA
   replace ht:=ht.keep F9 (fun b hb _ e=>by have h9:b < w.heap.size:=hb;have:=hbw.out;omega) (fun b hb _=>hb)
   replace nW:Nw w w9:=Fr.trans nW F9 (fun q hq=>.inr (by have:=hbw.out;omega))
   replace hbl:Hid (base ≤ w9.heap.size):=Nat.le_trans hbl.out F9.size
   clear hown9 hnl9 hfx9 hgx9 hsl9 hbz9 hownq9 hgrow9 hat9 nZ9 F9
   clear c0 c1 hla
   have hN1:Hid (N + 2 = 4 + (k + 1) * 2):=by have:=hN0.out;unfold Hid;omega
   have l9:LAt base w9 (.slice va9 (N + 2) vc9) (N + 2) (headF t ++ prF (LL.take (k + 1))):=by rw [hpr.out,← List.append_assoc];exact l9
   go_wp2
   go_roundw
   case rel=>exact ⟨k + 1,va9,vc9,N + 2,by omega,by go_num,rfl,hN1,l9,hA,ht,nW,hbl⟩
   case measure=>simp [intOf];omega
  ·have hk4':k = 4:=by omega
   subst hk4'
   have htk:LL.take 4 = LL:=List.take_of_length_le (by rw [hL4.out];omega)
   rw [htk] at hla
   clear htk hlt hk4 hsl
   obtain ⟨y,hy,-⟩:=img_some hr.out hwf
   have hfs:flds t = headF t ++ prF LL:=by unfold flds;rw [hpf.out]
   have hfa:=hla.at
   rw [← hfs] at hfa
   have hcp:Hid _:=c_packR (shB t.kind) wr hfa (by rw [shB_list];exact hy) (shB_size _)
   have hsh:shB t.kind = { data:=#[56,49,98,50,56,56,56,56,56,56,56,56] }:=by have hk:=hk.out;simp [shB,hk]
   rw [hsh] at hcp
   replace hy:Hid (imgO t = some y):=hy
   clear hfa hsh hfs
   go_upto_region 42 with fail
   go_wp2_with (first | (go_at_call 48;refine Calls.mono hcp.out ?_;rintro e Vp ⟨u9,rfl,hi9,n9⟩;refine stop_here ?_))
   unfold Hid
   clear hcp
   have fin:Hid (ImgP t (.returned (.tuple #[u9,.int .i64 0])) Vp∧Nw w Vp):=⟨.inl ⟨hr.out,u9,y,hy.out,rfl,hi9⟩,nw_trans nW n9⟩
   clear hi9 n9
   go_wp2
   go_ret2
   exact fin.out

set_option maxRecDepth 100000 in
set_option maxHeartbeats 6400000 in
theorem c_ri1 {X:Nat→Prop} {t:Th} {uL uC uK uD:Value} (w:World) (h:ThAt X w t uL uC uK uD) (hwf:WfT t) (hr:RightT t) (l2:t.ccats.length ≤ 8796093022208) (hk:t.kind = 1) :
  Calls Try.prog 17 #[(thV t uL uC uK uD)] w fun e w'=>ImgP t e w'∧Nw w w':=by
 obtain ⟨i4,hj,hj0,hj1,hj2⟩:=info_parts3 Try.infoFd
 have bk1:(t.kind == 1) = true:=by simp [hk]
 have bk2:(t.kind == 2) = false:=by simp [hk]
 have bk3:(t.kind == 3) = false:=by simp [hk]
 have bk4:(t.kind == 4) = false:=by simp [hk]
 have bk5:(t.kind == 5) = false:=by simp [hk]
 have bk6:(t.kind == 6) = false:=by simp [hk]
 have i0:0 ≤ t.id:=by have:=hr.id.1;omega
 have i1:t.id ≤ 281474976710655:=hr.id.2
 obtain ⟨q0',q1⟩:=quota_of hr.parts
 have q0:0 ≤ t.quota:=by omega
 have k0:0 ≤ t.kind:=by omega
 have k6:t.kind ≤ 6:=by omega
 have l6:=hr.rgt.len
 clear q0'
 replace hr:Hid (RightT t):=hr
 replace hk:Hid (t.kind = 1):=hk
 obtain ⟨W,hW⟩:∃ W,Hid (W = w.alloc (.cells (thC t uL uC uK uD).toArray 34)):=⟨_,rfl⟩
 have nW:Nw w W:=by rw [hW.out];exact nw_alloc (nw_refl w) _
 have hA:W.heap[w.heap.size]? = some (.cells (thC t uL uC uK uD).toArray 34 (0,0)):=by rw [hW.out];exact heap_alloc_new w _
 have ht:=(h.mono (X':=fun b=>b < w.heap.size) (fun b _ hb=>hb)).nw nW
 clear h
 have hWl:Hid (w.heap.size < W.heap.size):=heap_lt hA
 have hcq:Hid _:=c_rtright W ht hwf (by omega) l2
 unfold AnsP at hcq
 have hrA:=range_all hA
 go_enter Try.func17,Try.ntmps17
 go_upto_region 1 with (refine wpList_box_agg rfl 34 _ rfl (thV t uL uC uK uD) _ rfl rfl ?_)
 rw [← hW.out]
 clear hW
 go_wp2_with (first | (refine wpList_load_as rfl 34 _ rfl (w.heap.size) 0 rfl (thV t uL uC uK uD) _ rfl hrA Try.rowT Try.sizeT ?_) | (go_at_call 12;refine Calls.mono hcq.out ?_;rintro e W1 ⟨r1,rfl,q,n1⟩;obtain rfl:=q.2 hr.out;refine stop_here ?_))
 unfold Hid
 clear hcq hrA q
 replace hA:=(n1.block _ (heap_lt hA) (fun h=>h)).trans hA
 replace ht:=ht.nw n1
 have nW1s:Hid (W.heap.size ≤ W1.heap.size):=n1.size
 replace nW:=nw_trans nW n1
 clear n1
 go_upto_region 4 with fail
 have hSof:∀ w',Nw W1 w'→(fun w':World=>Nw W1 w'∧w'.heap[w.heap.size]? = some (.cells (thC t uL uC uK uD).toArray 34 (0,0))) w':=fun w' hw=>⟨hw,(hw.block _ (heap_lt hA) (fun h=>h)).trans hA⟩
 have hW0:Nw W1 W1.drew:=Fr.drew (Fr.refl _ W1)
 have hS:=hSof _ hW0
 replace ht:=ht.nw hW0
 replace hSof:Hid _:=hSof
 refine wp_region_ord [] 15 [(0,true),(3,true),(7,true),(11,true),(1,true),(4,true),(8,true),(12,true),(2,true),(5,true),(13,true),(6,true),(14,true),(9,false),(10,true)] (fun w':World=>Nw W1 w'∧w'.heap[w.heap.size]? = some (.cells (thC t uL uC uK uD).toArray 34 (0,0))) (by kernel_rfl) (by kernel_rfl) ?_
 refine ord_quietL _ ?_ rfl hS rfl ?_ ?_
 rotate_left
 ·rintro w' ⟨hn,rhA⟩;go_simp;rfl
 simp only [pL,List.set]
 refine ord_quietL _ ?_ rfl hS rfl ?_ ?_
 rotate_left
 ·rintro w' ⟨hn,rhA⟩;go_simp;rfl
 simp only [pL,List.set]
 refine ord_quietL _ ?_ rfl hS rfl ?_ ?_
 rotate_left
 ·rintro w' ⟨hn,rhA⟩;go_simp;rfl
 simp only [pL,List.set]
 refine ord_quietL _ ?_ rfl hS rfl ?_ ?_
 rotate_left
 ·rintro w' ⟨hn,rhA⟩;go_simp;rfl
 simp only [pL,List.set]
 refine ord_quietL _ ?_ rfl hS rfl ?_ ?_
 rotate_left
 ·rintro w' ⟨hn,rhA⟩;have g0:w'.cell? ⟨w.heap.size,0,none⟩ = some (.int .u64 t.id):=cell_blk rhA rfl;go_simp;rfl
 simp only [pL,List.set]
 refine ord_quietL _ ?_ rfl hS rfl ?_ ?_
 rotate_left
 ·rintro w' ⟨hn,rhA⟩;have g0:w'.cell? ⟨w.heap.size,1,none⟩ = some (.int .i64 t.kind):=cell_blk rhA rfl;go_simp;rfl
 simp only [pL,List.set]
 refine ord_quietL _ ?_ rfl hS rfl ?_ ?_
 rotate_left
 ·rintro w' ⟨hn,rhA⟩;have g0:w'.cell? ⟨w.heap.size,2,none⟩ = some (.int .i64 t.df):=cell_blk rhA rfl;have g1:w'.cell? ⟨w.heap.size,3,none⟩ = some (uL):=cell_blk rhA rfl;go_simp;rfl
 simp only [pL,List.set]
 refine ord_quietL _ ?_ rfl hS rfl ?_ ?_
 rotate_left
 ·rintro w' ⟨hn,rhA⟩;have g0:w'.cell? ⟨w.heap.size,6,none⟩ = some (.int .i64 t.quota):=cell_blk rhA rfl;go_simp;rfl
 simp only [pL,List.set]
 refine ord_quietL _ ?_ rfl hS rfl ?_ ?_
 rotate_left
 ·rintro w' ⟨hn,rhA⟩;go_simp;rfl
 simp only [pL,List.set]
 refine ord_quietL _ ?_ rfl hS rfl ?_ ?_
 rotate_left
 ·rintro w' ⟨hn,rhA⟩;have hc:=cvu (x:=t.kind) (by omega) (by omega) w';go_simp;rfl
 simp only [pL,List.set]
 refine ord_quietL _ ?_ rfl hS rfl ?_ ?_
 rotate_left
 ·rintro w' ⟨hn,rhA⟩;have hc:=cvu (x:=t.quota) (by omega) (by omega) w';go_simp;rfl
 simp only [pL,List.set]
 refine ord_quietL _ ?_ rfl hS rfl ?_ ?_
 rotate_left
 ·rintro w' ⟨hn,rhA⟩;go_simp;rfl
 simp only [pL,List.set]
 refine ord_quietL _ ?_ rfl hS rfl ?_ ?_
 rotate_left
 ·rintro w' ⟨hn,rhA⟩;go_simp;rfl
 simp only [pL,List.set]
 refine ord_actL _ rfl (fun K1 hK1=>?_)
 have hcon:Hid _:=c_rtext W1.drew ht.l hr.out.rgt
 unfold labV at hcon
 go_wp2_with (go_at_call 46;refine Calls.mono hcon.out ?_;rintro e wk0 ⟨u,rfl,hu,qn⟩)
 have m0:=nw_trans hW0 qn
 replace ht:=ht.nw qn
 obtain ⟨ua,uc,hu0,-⟩:=hu.form
 subst hu0
 generalize hun:(labB t.df t.cats).length = un at *
 replace hun:Hid _:=hun
 refine hK1 _ _ (hSof.out _ m0) ?_
 clear hK1 K1 hcon qn hS hW0
 have hS:=hSof.out _ m0
 refine ord_quietL _ ?_ rfl hS rfl ?_ ?_
 rotate_left
 ·rintro w' ⟨hn,rhA⟩;go_simp;rfl
 simp only [pL,List.set]
 refine ord_tail ?_
 simp only [List.drop_succ_cons,List.drop_zero]
 obtain ⟨V,hV⟩:∃ V,Hid (V = wk0.alloc (.cells #[.int .u64 t.id,.slice none 0 0,.int .u64 t.kind,.slice none 0 0,.int .u64 0,.slice ua un uc,.int .u64 t.quota,.slice none 0 0] 74)):=⟨_,rfl⟩
 have nV0:Nw wk0 V:=by rw [hV.out];exact nw_alloc (nw_refl _) _
 have hla:LAt wk0.heap.size V (.slice (some ⟨wk0.heap.size,0,none⟩) 4 4) 4 (headF t):=by
  refine ⟨[.int .u64 t.id,.slice none 0 0,.int .u64 t.kind,.slice none 0 0,.int .u64 0,.slice ua un uc,.int .u64 t.quota,.slice none 0 0],⟨rfl,.inr ⟨wk0.heap.size,4,_,rfl,Nat.le_refl _,by rw [hV.out];exact heap_alloc_new wk0 _,Nat.le_refl _,by decide,rfl,by simp⟩⟩,rfl,?_⟩
  have hub:BSl (fun b=>b < V.heap.size∧(Value.slice (some ⟨wk0.heap.size,0,none⟩) 4 4).ownBlock ≠ some b) V (.slice ua un uc) (labB t.df t.cats):=hu.keep nV0 (fun _ _ _ h=>h) (fun b hb hlt=>⟨by have:=nV0.size;omega,fun e=>by simp [Value.ownBlock] at e;omega⟩)
  have g:=fldx_num (fldx_bytes (fldx_num (fldx_num (fldx_zero (fun b=>b < V.heap.size∧(Value.slice (some ⟨wk0.heap.size,0,none⟩) 4 4).ownBlock ≠ some b) V) t.id i0 (by omega)) t.kind k0 (by omega)) ua un uc (labB t.df t.cats) hub (by rw [labB_length];omega)) t.quota q0 (by omega)
  simpa [headF] using g
 have nV:Nw W1 V:=nw_trans m0 nV0
 replace hA:=(nV.block _ (heap_lt hA) (fun h=>h)).trans hA
 replace ht:=ht.nw nV0
 replace nW:=nw_trans nW nV
 have hbs:W.heap.size ≤ wk0.heap.size:=Nat.le_trans nW1s.out m0.size
 have hbw:Hid (w.heap.size < wk0.heap.size):=by have:=hWl.out;unfold Hid;omega
 have hbl:Hid (wk0.heap.size ≤ V.heap.size):=nV0.size
 clear hbs
 clear hSof hS hu nV0
 go_upto_region 5 with fail
 first | rw [← hV.out] | skip
 clear hV
 clear nV m0
 generalize wk0.heap.size = base at *
 have a1:V.cell? ⟨w.heap.size,1,none⟩ = some (.int .i64 t.kind):=cell_blk hA rfl
 have hkd:=(kd1 hk.out).1 hr.out.parts
 have x0:0 ≤ t.next:=hkd.next.1
 have x1:t.next ≤ 63:=hkd.next.2
 have hfit:Hid (FitsB 2 t.links):=fits_lk hkd.lk
 have hx16:t.links.length ≤ 16:=hkd.len
 have hi64:Hid (∀ i (h:i < t.links.length),0 ≤ t.links[i].2∧t.links[i].2 ≤ 48):=fun i hi=>by have:=(hkd.lk.each i hi).2;unfold btw at this;omega
 clear hkd
 obtain ⟨i0,hi,hz0,hz1,hz2⟩:=info_parts Try.infoB1
 go_upto_region 7 with fail
 clear a1
 obtain ⟨V2,hV2⟩:∃ V2,Hid (V2 = V.alloc (.cells #[] 5)):=⟨_,rfl⟩
 have n2:Nw V V2:=by rw [hV2.out];exact nw_alloc (nw_refl _) _
 have hr1:Hid (V2.ownsRow V.heap.size 5 1 (.slice (some ⟨V.heap.size,0,none⟩) 0 0) 0 ((pairB 2 (t.links.take 0)).map bv)):=⟨rfl,.inr ⟨V.heap.size,0,#[],rfl,Nat.le_refl _,by rw [hV2.out];exact heap_alloc_new V _,Nat.le_refl _,by decide,rfl,rfl⟩⟩
 obtain ⟨ao,cap,hfK,ha1,ha2⟩:∃ a c,uK = .slice a t.links.length c∧t.links.length ≤ c∧c ≤ 9223372036854775807:=by obtain ⟨a,c,e,h1,h2⟩:=ht.k.form;exact ⟨a,c,e,h1,h2⟩
 obtain ⟨nx,hnx⟩:∃ n,Hid (t.links.length = n):=⟨_,rfl⟩
 rw [hnx.out] at hfK ha1 hx16
 have a8:V2.cell? ⟨w.heap.size,8,none⟩ = some uK:=cell_blk ((n2.block _ (heap_lt hA) (fun h=>h)).trans hA) rfl
 rw [hfK] at a8
 replace hfK:Hid _:=hfK
 go_upto_region 8 with fail
 first | rw [← hV2.out] | skip
 clear hV2
 go_wp2
 clear a8
 go_loopw [47,6] (fun kv ov wr=>∃ (k n:Nat) (va:Option Addr) (vc:Nat),k ≤ nx∧kv = .int .i64 k∧ov = .slice va n vc∧Hid (n = 10 * k)∧wr.ownsRow V.heap.size 5 1 (.slice va n vc) n ((pairB 2 (t.links.take k)).map bv)∧Nw V wr) (fun kv _ _=>nx - (intOf kv).toNat)
 case atStart=>exact ⟨0,0,_,_,Nat.zero_le _,rfl,rfl,rfl,hr1.out,n2⟩
 case round =>
  clear hr1 n2
  obtain ⟨k,n,va,vc,hkn,rfl,rfl,hn,hown,hw⟩:=hrel
  by_cases hlt:k < nx
  ·have hkx:k < t.links.length:=by rw [hnx.out];exact hlt
   have hget:=(ht.k.nw hw)
   rw [hfK.out] at hget
   obtain ⟨q,off,e1,_,d1,d2⟩:=hget.get k hkx
   subst e1
   obtain ⟨f1,f2,f3,f4⟩:=hfit.out k hkx
   obtain ⟨g3,g4⟩:=hi64.out k hkx
   have hstep:Hid (pairB 2 (t.links.take (k + 1)) = pairB 2 (t.links.take k) ++ (be 8 t.links[k].1.toNat ++ be 2 t.links[k].2.toNat)):=by unfold Hid pairB;rw [List.take_succ_eq_append_getElem hkx,List.flatMap_append];simp
   obtain ⟨n1',hn1⟩:∃ m:Nat,t.links[k].1 = (m:Int):=⟨t.links[k].1.toNat,by omega⟩
   obtain ⟨l1,hl1⟩:∃ m:Nat,t.links[k].2 = (m:Int):=⟨t.links[k].2.toNat,by omega⟩
   rw [hn1] at d1 f2
   rw [hl1] at d2 f4 g4
   replace hstep:Hid (pairB 2 (t.links.take (k + 1)) = pairB 2 (t.links.take k) ++ (be 8 n1' ++ be 2 l1)):=by have:=hstep.out;rw [hn1,hl1] at this;unfold Hid;simpa using this
   have hn64:n1' < 18446744073709551616:=by simpa using f2
   have hl48:(l1:Int) ≤ 48:=g4
   clear hn1 hl1 f1 f2 f3 f4 g3 g4
   replace hstep:Hid ((pairB 2 (t.links.take (k + 1))).map bv = ((pairB 2 (t.links.take k)).map bv ++ (be 8 n1').map bv) ++ (be 2 l1).map bv):=by unfold Hid;rw [hstep.out,List.map_append,List.map_append,List.append_assoc]
   obtain ⟨Wl,hWl⟩:∃ Wl,Hid (Wl = wr.alloc (.cells #[.int .u64 (n1':Int),.int .i64 (l1:Int)] 50)):=⟨_,rfl⟩
   have nl:Nw wr Wl:=by rw [hWl.out];exact nw_alloc (nw_refl _) _
   have hL:Wl.heap[wr.heap.size]? = some (.cells #[.int .u64 (n1':Int),.int .i64 (l1:Int)] 50 (0,0)):=by rw [hWl.out];exact heap_alloc_new wr _
   replace hown:=owns_nw hown nl
   have hcn:Hid (Calls Try.prog 47 #[.int .u64 (n1':Int),.int .i64 8] Wl fun e w'=>∃ v',e = .returned (.tuple #[v',.bool (decide (n1' < 256 ^ 8))])∧Sl w'.heap.size w' v' 8 ((be 8 n1').map bv)∧Below Wl.heap.size Wl w'):=c_refNumber 8 n1' Wl (by omega) hn64
   have hnn:Hid (n + 8 + 2 = 10 * (k + 1)):=by have:=hn.out;unfold Hid;omega
   have hn100:n ≤ 200:=by have:=hn.out;omega
   have nWl:Nw V Wl:=nw_trans hw nl
   replace hown:Hid (Wl.ownsRow V.heap.size 5 1 (.slice va n vc) n ((pairB 2 (t.links.take k)).map bv)):=hown
   have hrest:Hid (V.heap[w.heap.size]? = _):=hA
   clear hn hw hA hrest hget
   go_upto_region 11 with fail
   first | rw [← hWl.out] | skip
   clear hWl d1 d2 nl
   generalize wr.heap.size = L at *
   have a0:Wl.cell? ⟨L,0,none⟩ = some (.int .u64 (n1':Int)):=cell_blk hL rfl
   go_wp2_with (go_at_call 47;refine Calls.mono hcn.out ?_;rintro e V8 ⟨u8,rfl,hb8,qb⟩;refine stop_here ?_)
   unfold Hid
   have nq:Nw Wl V8:=fr_of_below (S:=fun _=>False) qb
   replace hL:=(nq.block _ (heap_lt hL) (fun h=>h)).trans hL
   replace hown:=owns_nw hown.out nq
   have nV8:Nw V V8:=nw_trans nWl nq
   clear hcn qb nq a0 nWl
   have hcv:=cvu (x:=(l1:Int)) (by omega) (by omega)
   have hcn:Hid _:=c_refNumberO 2 l1 V8 (by omega) (by omega)
   have a1:V8.cell? ⟨L,1,none⟩ = some (.int .i64 (l1:Int)):=cell_blk hL rfl
   replace hown:Hid (V8.ownsRow V.heap.size 5 1 (.slice va n vc) n ((pairB 2 (t.links.take k)).map bv)):=hown
   go_wp2_with (go_at_call 47;refine Calls.mono hcn.out ?_;rintro e V9 ⟨u2,rfl,hb2,qb⟩;refine stop_here ?_)
   unfold Hid
   have nq:Nw V8 V9:=fr_of_below (S:=fun _=>False) qb
   have hap:Hid (∀ q,(Value.slice va n vc).ownBlock = some q→q < V8.heap.size):=fun q hq=>(hown.out.lt q hq).2
   replace hown:=owns_nw hown.out nq
   replace hb8:Sl V9.heap.size V9 u8 8 ((be 8 n1').map bv):=(hb8.keep (nq.below (Nat.le_refl _) (fun _ h=>h.elim))).mono nq.size
   have nV9:Nw V V9:=nw_trans nV8 nq
   clear hcn qb nq a1 hcv hL nV8
   go_upto_region 13 with fail
   go_wp2_with (at_builtin;refine wpList_append_sl _ rfl _ _ 28 rfl V.heap.size 5 i0 _ 1 1 Try.underlying28 hi hz0 hz1 hz2 rfl (by decide) (.slice va n vc) n _ rfl hown _ u8 8 _ rfl hb8 (by simp [be_length]) (bv_oneCell _) (by unfold maxLen;omega) (by omega) nV9.size ?_)
   intro v6 w6 hown6 hgrow6 hat6
   have F6:Nw V w6:=Fr.grown nV9 hgrow6 (fun q hq=>.inr (hown.lt q hq).1)
   have hb6:Sl w6.heap.size w6 u2 2 ((be 2 l1).map bv):=sl_of_owns (owns_of_block hb2 (fun q hq=>hgrow6.block q (hb2.lt q hq).2 (fun e=>by have:=(hb2.lt q hq).1;have:=hap.out q e.symm;omega)))
   clear hown hgrow6 hat6 hb8 hb2 nV9 hap
   go_wp2_with (at_builtin;refine wpList_append_sl _ rfl _ _ 28 rfl V.heap.size 5 i0 _ 1 1 Try.underlying28 hi hz0 hz1 hz2 rfl (by decide) v6 (n + 8) _ rfl hown6 _ u2 2 _ rfl hb6 (by simp [be_length]) (bv_oneCell _) (by unfold maxLen;omega) (by omega) F6.size ?_)
   intro v10 w10 hown10 hgrow10 hat10
   obtain ⟨va10,vc10,hv10⟩:=owns_form hown10
   subst hv10
   have nw10:Hid (Nw V w10):=Fr.grown F6 hgrow10 (fun q hq=>.inr (hown6.lt q hq).1)
   replace hown10:Hid (w10.ownsRow V.heap.size 5 1 (.slice va10 (n + 8 + 2) vc10) (n + 8 + 2) ((pairB 2 (t.links.take (k + 1))).map bv)):=by unfold Hid;rw [hstep.out];simpa using hown10
   clear hown6 hgrow10 hat10 hb6 F6
   go_wp2
   go_roundw
   case rel=>exact ⟨k + 1,n + 8 + 2,va10,vc10,by omega,by go_num,rfl,hnn,hown10.out,nw10.out⟩
   case measure=>simp [intOf];omega
  ·have hke:Hid (k = t.links.length):=by unfold Hid;rw [hnx.out];omega
   have hfin:BSl (fun b=>V.heap.size ≤ b) wr (.slice va n vc) (pairB 2 t.links):=by
    rw [hke.out,List.take_length] at hown
    have hle:n = (pairB 2 t.links).length:=by rw [pairB_length,← hke.out];exact hn.out
    exact bsl_of_own (bs:=pairB 2 t.links) (v:=.slice va n vc) (by rw [← hle];exact hown)
   have hnl:Hid (n = (pairB 2 t.links).length):=by unfold Hid;rw [pairB_length,← hke.out];exact hn.out
   have hn200:n ≤ 200:=by have:=hn.out;omega
   have hbV:Hid (base ≤ V.heap.size):=hbl
   have hlk:=hla
   obtain ⟨_,hownZ9,-,-⟩:=hla
   replace hA:=(hw.block _ (heap_lt hA) (fun h=>h)).trans hA
   replace ht:=ht.nw hw
   replace nW:=nw_trans nW hw
   replace hla:=hlk.nw hw
   replace hbl:Hid (base ≤ wr.heap.size):=Nat.le_trans hbl.out hw.size
   have a7:wr.cell? ⟨w.heap.size,7,none⟩ = some (.int .i64 t.next):=cell_blk hA rfl
   have hcv:=cvu (x:=t.next) (by omega) (by omega)
   clear hown hi64 hfit
   go_upto_region 16 with fail
   have nZ9:Nw wr (wr.alloc (.cells #[.int .u64 t.next,.slice none 0 0,.int .u64 0,.slice va n vc] 74)):=nw_alloc (nw_refl _) _
   obtain ⟨cs9,hown9,hnl9,hfx9⟩:=hla.nw nZ9
   have hsl9:Sl (wr.alloc (.cells #[.int .u64 t.next,.slice none 0 0,.int .u64 0,.slice va n vc] 74)).heap.size (wr.alloc (.cells #[.int .u64 t.next,.slice none 0 0,.int .u64 0,.slice va n vc] 74)) (.slice (some ⟨wr.heap.size,0,none⟩) 2 2) 2 [.int .u64 t.next,.slice none 0 0,.int .u64 0,.slice va n vc]:=sl_litF (w:=wr) (heap_alloc_new wr _) (by omega)
   have hgx9:FldX (fun b=>b < (wr.alloc (.cells #[.int .u64 t.next,.slice none 0 0,.int .u64 0,.slice va n vc] 74)).heap.size∧((.slice (some ⟨base,0,none⟩) 4 4):Value).ownBlock ≠ some b) (wr.alloc (.cells #[.int .u64 t.next,.slice none 0 0,.int .u64 0,.slice va n vc] 74)) [nF t.next,bF (pairB 2 t.links)] [.int .u64 t.next,.slice none 0 0,.int .u64 0,.slice va n vc]:=by
    have g:=fldx_bytes (fldx_num (fldx_zero (fun b=>b < (wr.alloc (.cells #[.int .u64 t.next,.slice none 0 0,.int .u64 0,.slice va n vc] 74)).heap.size∧((.slice (some ⟨base,0,none⟩) 4 4):Value).ownBlock ≠ some b) (wr.alloc (.cells #[.int .u64 t.next,.slice none 0 0,.int .u64 0,.slice va n vc] 74))) t.next x0 (by omega)) va n vc (pairB 2 t.links) ((hfin.nw nZ9).mono (fun b hb hlt=>⟨hlt,fun e=>by have h9:V.heap.size ≤ b:=hb;have:=(hownZ9.lt b e).2;omega⟩)) (by rw [← hnl.out];omega)
    simpa using g
   have hbz9:base ≤ (wr.alloc (.cells #[.int .u64 t.next,.slice none 0 0,.int .u64 0,.slice va n vc] 74)).heap.size:=Nat.le_trans (by have:=hbl.out;omega) nZ9.size
   replace hgx9:Hid _:=hgx9
   replace hfx9:Hid _:=hfx9
   replace hnl9:Hid _:=hnl9
   go_wp2_with (at_builtin;refine wpList_append_sl _ rfl _ _ 71 rfl base 74 i4 _ 2 32 Try.underlying71 hj hj0 hj1 hj2 rfl (by decide) (.slice (some ⟨base,0,none⟩) 4 4) 4 _ rfl hown9 _ _ 2 _ rfl hsl9 rfl ?d1 ?d2 ?d3 ?d4 ?_)
   case d1=>intro z hz;simp at hz;rcases hz with rfl | rfl | rfl | rfl <;> rfl
   case d2=>unfold maxLen;omega
   case d3=>omega
   case d4=>exact hbz9
   intro v9 w9 hownq9 hgrow9 hat9
   have l9:LAt base w9 v9 (4 + 2) (headF t ++ [nF t.next,bF (pairB 2 t.links)]):=LAt.app hown9 hnl9.out hfx9.out hgx9.out rfl hownq9 hgrow9 (by rw [World.size_alloc];exact hat9)
   have F9:Fr (fun q=>base ≤ q) wr w9:=Fr.grown (fr_of_nw nZ9) hgrow9 (fun q hq=>.inl (hown9.lt q hq).1)
   obtain ⟨va9,vc9,hv9⟩:=owns_form hownq9
   subst hv9
   replace hA:=(F9.block _ (heap_lt hA) (fun e=>by have:=hbw.out;omega)).trans hA
   replace ht:=ht.keep F9 (fun b hb _ e=>by have h9:b < w.heap.size:=hb;have:=hbw.out;omega) (fun b hb _=>hb)
   replace nW:Nw w w9:=Fr.trans nW F9 (fun q hq=>.inr (by have:=hbw.out;omega))
   replace hbl:Hid (base ≤ w9.heap.size):=Nat.le_trans hbl.out F9.size
   clear hown9 hnl9 hfx9 hgx9 hsl9 hbz9 hownq9 hgrow9 hat9 nZ9 F9
   clear a7 hcv hfin
   obtain ⟨y,hy,-⟩:=img_some hr.out hwf
   have hfs:flds t = headF t ++ [nF t.next,bF (pairB 2 t.links)]:=by have hk:=hk.out;simp [flds,partF,hk]
   have hfa:=l9.at
   rw [← hfs] at hfa
   have hcp:Hid _:=c_packR (shB t.kind) w9 hfa (by rw [shB_list];exact hy) (shB_size _)
   have hsh:shB t.kind = { data:=#[56,49,98,50,50,98] }:=by have hk:=hk.out;simp [shB,hk]
   rw [hsh] at hcp
   replace hy:Hid (imgO t = some y):=hy
   clear hfa hsh hfs
   go_upto_region 42 with fail
   go_wp2_with (first | (go_at_call 48;refine Calls.mono hcp.out ?_;rintro e Vp ⟨u9,rfl,hi9,n9⟩;refine stop_here ?_))
   unfold Hid
   clear hcp
   have fin:Hid (ImgP t (.returned (.tuple #[u9,.int .i64 0])) Vp∧Nw w Vp):=⟨.inl ⟨hr.out,u9,y,hy.out,rfl,hi9⟩,nw_trans nW n9⟩
   clear hi9 n9
   go_wp2
   go_ret2
   exact fin.out

end Go.Proofs.Ytghlilncdfiojaa
