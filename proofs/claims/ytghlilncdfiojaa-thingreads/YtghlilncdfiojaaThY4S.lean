/-
  The document's Image: threads; as a whole.
-/
import Derived.Test.YtghlilncdfiojaaThY3S
namespace Go.Proofs.Ytghlilncdfiojaa
set_option linter.unusedVariables false
set_option linter.unusedSimpArgs false
set_option maxRecDepth 20000
open Go.RowKit

set_option maxRecDepth 100000 in
set_option maxHeartbeats 6400000 in
theorem c_ri2 {X:Nat→Prop} {t:Th} {uL uC uK uD:Value} (w:World) (h:ThAt X w t uL uC uK uD) (hwf:WfT t) (hr:RightT t) (l2:t.ccats.length ≤ 8796093022208) (hk:t.kind = 2) :
  Calls Try.prog 17 #[(thV t uL uC uK uD)] w fun e w'=>ImgP t e w'∧Nw w w':=by
 obtain ⟨i4,hj,hj0,hj1,hj2⟩:=info_parts3 Try.infoFd
 have bk1:(t.kind == 1) = false:=by simp [hk]
 have bk2:(t.kind == 2) = true:=by simp [hk]
 have bk3:(t.kind == 3) = false:=by simp [hk]
 have bk4:(t.kind == 4) = false:=by simp [hk]
 have bk5:(t.kind == 5) = false:=by simp [hk]
 have bk6:(t.kind == 6) = false:=by simp [hk]
 have i0:0 ≤ t.id:=by have:=hr.id.1;omega
 have i1:t.id ≤ 281474976710655:=hr.id.2
 obtain ⟨q0',q1⟩:=quota_of hr.parts
 have q0:0 ≤ t.quota:=by omega
 have k0:0 ≤ t.kind:=by omega
 have k6:t.kind ≤ 6:=by omega
 have l6:=hr.rgt.len
 clear q0'
 replace hr:Hid (RightT t):=hr
 replace hk:Hid (t.kind = 2):=hk
 obtain ⟨W,hW⟩:∃ W,Hid (W = w.alloc (.cells (thC t uL uC uK uD).toArray 34)):=⟨_,rfl⟩
 have nW:Nw w W:=by rw [hW.out];exact nw_alloc (nw_refl w) _
 have hA:W.heap[w.heap.size]? = some (.cells (thC t uL uC uK uD).toArray 34 (0,0)):=by rw [hW.out];exact heap_alloc_new w _
 have ht:=(h.mono (X':=fun b=>b < w.heap.size) (fun b _ hb=>hb)).nw nW
 clear h
 have hWl:Hid (w.heap.size < W.heap.size):=heap_lt hA
 have hcq:Hid _:=c_rtright W ht hwf (by omega) l2
 unfold AnsP at hcq
 have hrA:=range_all hA
 go_enter Try.func17,Try.ntmps17
 go_upto_region 1 with (refine wpList_box_agg rfl 34 _ rfl (thV t uL uC uK uD) _ rfl rfl ?_)
 rw [← hW.out]
 clear hW
 go_wp2_with (first | (refine wpList_load_as rfl 34 _ rfl (w.heap.size) 0 rfl (thV t uL uC uK uD) _ rfl hrA Try.rowT Try.sizeT ?_) | (go_at_call 12;refine Calls.mono hcq.out ?_;rintro e W1 ⟨r1,rfl,q,n1⟩;obtain rfl:=q.2 hr.out;refine stop_here ?_))
 unfold Hid
 clear hcq hrA q
 replace hA:=(n1.block _ (heap_lt hA) (fun h=>h)).trans hA
 replace ht:=ht.nw n1
 have nW1s:Hid (W.heap.size ≤ W1.heap.size):=n1.size
 replace nW:=nw_trans nW n1
 clear n1
 go_upto_region 4 with fail
 have hSof:∀ w',Nw W1 w'→(fun w':World=>Nw W1 w'∧w'.heap[w.heap.size]? = some (.cells (thC t uL uC uK uD).toArray 34 (0,0))) w':=fun w' hw=>⟨hw,(hw.block _ (heap_lt hA) (fun h=>h)).trans hA⟩
 have hW0:Nw W1 W1.drew:=Fr.drew (Fr.refl _ W1)
 have hS:=hSof _ hW0
 replace ht:=ht.nw hW0
 replace hSof:Hid _:=hSof
 refine wp_region_ord [] 15 [(0,true),(3,true),(7,true),(11,true),(1,true),(4,true),(8,true),(12,true),(2,true),(5,true),(13,true),(6,true),(14,true),(9,false),(10,true)] (fun w':World=>Nw W1 w'∧w'.heap[w.heap.size]? = some (.cells (thC t uL uC uK uD).toArray 34 (0,0))) (by kernel_rfl) (by kernel_rfl) ?_
 refine ord_quietL _ ?_ rfl hS rfl ?_ ?_
 rotate_left
 ·rintro w' ⟨hn,rhA⟩;go_simp;rfl
 simp only [pL,List.set]
 refine ord_quietL _ ?_ rfl hS rfl ?_ ?_
 rotate_left
 ·rintro w' ⟨hn,rhA⟩;go_simp;rfl
 simp only [pL,List.set]
 refine ord_quietL _ ?_ rfl hS rfl ?_ ?_
 rotate_left
 ·rintro w' ⟨hn,rhA⟩;go_simp;rfl
 simp only [pL,List.set]
 refine ord_quietL _ ?_ rfl hS rfl ?_ ?_
 rotate_left
 ·rintro w' ⟨hn,rhA⟩;go_simp;rfl
 simp only [pL,List.set]
 refine ord_quietL _ ?_ rfl hS rfl ?_ ?_
 rotate_left
 ·rintro w' ⟨hn,rhA⟩;have g0:w'.cell? ⟨w.heap.size,0,none⟩ = some (.int .u64 t.id):=cell_blk rhA rfl;go_simp;rfl
 simp only [pL,List.set]
 refine ord_quietL _ ?_ rfl hS rfl ?_ ?_
 rotate_left
 ·rintro w' ⟨hn,rhA⟩;have g0:w'.cell? ⟨w.heap.size,1,none⟩ = some (.int .i64 t.kind):=cell_blk rhA rfl;go_simp;rfl
 simp only [pL,List.set]
 refine ord_quietL _ ?_ rfl hS rfl ?_ ?_
 rotate_left
 ·rintro w' ⟨hn,rhA⟩;have g0:w'.cell? ⟨w.heap.size,2,none⟩ = some (.int .i64 t.df):=cell_blk rhA rfl;have g1:w'.cell? ⟨w.heap.size,3,none⟩ = some (uL):=cell_blk rhA rfl;go_simp;rfl
 simp only [pL,List.set]
 refine ord_quietL _ ?_ rfl hS rfl ?_ ?_
 rotate_left
 ·rintro w' ⟨hn,rhA⟩;have g0:w'.cell? ⟨w.heap.size,6,none⟩ = some (.int .i64 t.quota):=cell_blk rhA rfl;go_simp;rfl
 simp only [pL,List.set]
 refine ord_quietL _ ?_ rfl hS rfl ?_ ?_
 rotate_left
 ·rintro w' ⟨hn,rhA⟩;go_simp;rfl
 simp only [pL,List.set]
 refine ord_quietL _ ?_ rfl hS rfl ?_ ?_
 rotate_left
 ·rintro w' ⟨hn,rhA⟩;have hc:=cvu (x:=t.kind) (by omega) (by omega) w';go_simp;rfl
 simp only [pL,List.set]
 refine ord_quietL _ ?_ rfl hS rfl ?_ ?_
 rotate_left
 ·rintro w' ⟨hn,rhA⟩;have hc:=cvu (x:=t.quota) (by omega) (by omega) w';go_simp;rfl
 simp only [pL,List.set]
 refine ord_quietL _ ?_ rfl hS rfl ?_ ?_
 rotate_left
 ·rintro w' ⟨hn,rhA⟩;go_simp;rfl
 simp only [pL,List.set]
 refine ord_quietL _ ?_ rfl hS rfl ?_ ?_
 rotate_left
 ·rintro w' ⟨hn,rhA⟩;go_simp;rfl
 simp only [pL,List.set]
 refine ord_actL _ rfl (fun K1 hK1=>?_)
 have hcon:Hid _:=c_rtext W1.drew ht.l hr.out.rgt
 unfold labV at hcon
 go_wp2_with (go_at_call 46;refine Calls.mono hcon.out ?_;rintro e wk0 ⟨u,rfl,hu,qn⟩)
 have m0:=nw_trans hW0 qn
 replace ht:=ht.nw qn
 obtain ⟨ua,uc,hu0,-⟩:=hu.form
 subst hu0
 generalize hun:(labB t.df t.cats).length = un at *
 replace hun:Hid _:=hun
 refine hK1 _ _ (hSof.out _ m0) ?_
 clear hK1 K1 hcon qn hS hW0
 have hS:=hSof.out _ m0
 refine ord_quietL _ ?_ rfl hS rfl ?_ ?_
 rotate_left
 ·rintro w' ⟨hn,rhA⟩;go_simp;rfl
 simp only [pL,List.set]
 refine ord_tail ?_
 simp only [List.drop_succ_cons,List.drop_zero]
 obtain ⟨V,hV⟩:∃ V,Hid (V = wk0.alloc (.cells #[.int .u64 t.id,.slice none 0 0,.int .u64 t.kind,.slice none 0 0,.int .u64 0,.slice ua un uc,.int .u64 t.quota,.slice none 0 0] 74)):=⟨_,rfl⟩
 have nV0:Nw wk0 V:=by rw [hV.out];exact nw_alloc (nw_refl _) _
 have hla:LAt wk0.heap.size V (.slice (some ⟨wk0.heap.size,0,none⟩) 4 4) 4 (headF t):=by
  refine ⟨[.int .u64 t.id,.slice none 0 0,.int .u64 t.kind,.slice none 0 0,.int .u64 0,.slice ua un uc,.int .u64 t.quota,.slice none 0 0],⟨rfl,.inr ⟨wk0.heap.size,4,_,rfl,Nat.le_refl _,by rw [hV.out];exact heap_alloc_new wk0 _,Nat.le_refl _,by decide,rfl,by simp⟩⟩,rfl,?_⟩
  have hub:BSl (fun b=>b < V.heap.size∧(Value.slice (some ⟨wk0.heap.size,0,none⟩) 4 4).ownBlock ≠ some b) V (.slice ua un uc) (labB t.df t.cats):=hu.keep nV0 (fun _ _ _ h=>h) (fun b hb hlt=>⟨by have:=nV0.size;omega,fun e=>by simp [Value.ownBlock] at e;omega⟩)
  have g:=fldx_num (fldx_bytes (fldx_num (fldx_num (fldx_zero (fun b=>b < V.heap.size∧(Value.slice (some ⟨wk0.heap.size,0,none⟩) 4 4).ownBlock ≠ some b) V) t.id i0 (by omega)) t.kind k0 (by omega)) ua un uc (labB t.df t.cats) hub (by rw [labB_length];omega)) t.quota q0 (by omega)
  simpa [headF] using g
 have nV:Nw W1 V:=nw_trans m0 nV0
 replace hA:=(nV.block _ (heap_lt hA) (fun h=>h)).trans hA
 replace ht:=ht.nw nV0
 replace nW:=nw_trans nW nV
 have hbs:W.heap.size ≤ wk0.heap.size:=Nat.le_trans nW1s.out m0.size
 have hbw:Hid (w.heap.size < wk0.heap.size):=by have:=hWl.out;unfold Hid;omega
 have hbl:Hid (wk0.heap.size ≤ V.heap.size):=nV0.size
 clear hbs
 clear hSof hS hu nV0
 go_upto_region 5 with fail
 first | rw [← hV.out] | skip
 clear hV
 clear nV m0
 generalize wk0.heap.size = base at *
 have a1:V.cell? ⟨w.heap.size,1,none⟩ = some (.int .i64 t.kind):=cell_blk hA rfl
 have hth:=(kd2 hk.out).1 hr.out.parts
 have lcc:=len_cc hr.out
 have b0:0 ≤ t.minted:=hth.minted.1
 have b1:t.minted ≤ 31:=hth.minted.2
 have b2:0 ≤ t.boot:=hth.boot.1
 have b3:t.boot ≤ 255:=hth.boot.2
 have hcon:Hid _:=c_rtext V ht.c hth.rgt
 unfold labV at hcon
 clear hth
 have hrg:Hid (∀ k:Nat,k < 4→∃ x,(∀ w,(Instr.index 29 (rgV t) (.int .i64 (k:Int))).run Try.prog w = .ok (.int .u64 x) w)∧[t.r0,t.r1,t.r2,t.r3][k]? = some x∧0 ≤ x∧x < 18446744073709551616):=idxR hwf
 obtain ⟨L,hL⟩:∃ L,Hid ([t.r0,t.r1,t.r2,t.r3] = L):=⟨_,rfl⟩
 rw [hL.out] at hrg
 have hL4:Hid (L.length = 4):=by unfold Hid;rw [← hL.out];rfl
 replace hL:Hid (L = [t.r0,t.r1,t.r2,t.r3]):=hL.out.symm
 have a4:V.cell? ⟨w.heap.size,4,none⟩ = some (.int .i64 t.cdf):=cell_blk hA rfl
 have a5:V.cell? ⟨w.heap.size,5,none⟩ = some (uC):=cell_blk hA rfl
 go_upto_region 19 with fail
 clear a1
 go_wp2_with (go_at_call 46;refine Calls.mono hcon.out ?_;rintro e V5 ⟨u,rfl,hu,n5⟩;refine stop_here ?_)
 unfold Hid
 clear hcon a4 a5
 obtain ⟨ca,cc,hu0,-⟩:=hu.form
 subst hu0
 generalize hcn:(labB t.cdf t.ccats).length = cn at *
 replace hcn:Hid _:=hcn
 have hla0:=hla
 obtain ⟨_,hown0,-,-⟩:=hla
 have hla:=hla0
 clear hla0
 replace hA:=(n5.block _ (heap_lt hA) (fun h=>h)).trans hA
 replace ht:=ht.nw n5
 replace nW:=nw_trans nW n5
 replace hla:=hla.nw n5
 replace hbl:Hid (base ≤ V5.heap.size):=Nat.le_trans hbl.out n5.size
 have nZ9:Nw V5 (V5.alloc (.cells #[.int .u64 0,.slice ca cn cc] 74)):=nw_alloc (nw_refl _) _
 obtain ⟨cs9,hown9,hnl9,hfx9⟩:=hla.nw nZ9
 have hsl9:Sl (V5.alloc (.cells #[.int .u64 0,.slice ca cn cc] 74)).heap.size (V5.alloc (.cells #[.int .u64 0,.slice ca cn cc] 74)) (.slice (some ⟨V5.heap.size,0,none⟩) 1 1) 1 [.int .u64 0,.slice ca cn cc]:=sl_litF (w:=V5) (heap_alloc_new V5 _) (by omega)
 have hgx9:FldX (fun b=>b < (V5.alloc (.cells #[.int .u64 0,.slice ca cn cc] 74)).heap.size∧((.slice (some ⟨base,0,none⟩) 4 4):Value).ownBlock ≠ some b) (V5.alloc (.cells #[.int .u64 0,.slice ca cn cc] 74)) [bF (labB t.cdf t.ccats)] [.int .u64 0,.slice ca cn cc]:=by
  have g:=fldx_bytes (fldx_zero (fun b=>b < (V5.alloc (.cells #[.int .u64 0,.slice ca cn cc] 74)).heap.size∧((.slice (some ⟨base,0,none⟩) 4 4):Value).ownBlock ≠ some b) (V5.alloc (.cells #[.int .u64 0,.slice ca cn cc] 74))) ca cn cc (labB t.cdf t.ccats) ((hu.nw nZ9).mono (fun b hb hlt=>⟨hlt,fun e=>by have h9:V.heap.size ≤ b:=hb;have:=(hown0.lt b e).2;omega⟩)) (by rw [labB_length];omega)
  simpa using g
 have hbz9:base ≤ (V5.alloc (.cells #[.int .u64 0,.slice ca cn cc] 74)).heap.size:=Nat.le_trans (by have:=hbl.out;omega) nZ9.size
 replace hgx9:Hid _:=hgx9
 replace hfx9:Hid _:=hfx9
 replace hnl9:Hid _:=hnl9
 go_wp2_with (at_builtin;refine wpList_append_sl _ rfl _ _ 71 rfl base 74 i4 _ 2 32 Try.underlying71 hj hj0 hj1 hj2 rfl (by decide) (.slice (some ⟨base,0,none⟩) 4 4) 4 _ rfl hown9 _ _ 1 _ rfl hsl9 rfl ?d1 ?d2 ?d3 ?d4 ?_)
 case d1=>intro z hz;simp at hz;rcases hz with rfl | rfl <;> rfl
 case d2=>unfold maxLen;omega
 case d3=>omega
 case d4=>exact hbz9
 intro v9 w9 hownq9 hgrow9 hat9
 have l9:LAt base w9 v9 (4 + 1) (headF t ++ [bF (labB t.cdf t.ccats)]):=LAt.app hown9 hnl9.out hfx9.out hgx9.out rfl hownq9 hgrow9 (by rw [World.size_alloc];exact hat9)
 have F9:Fr (fun q=>base ≤ q) V5 w9:=Fr.grown (fr_of_nw nZ9) hgrow9 (fun q hq=>.inl (hown9.lt q hq).1)
 obtain ⟨va9,vc9,hv9⟩:=owns_form hownq9
 subst hv9
 replace hA:=(F9.block _ (heap_lt hA) (fun e=>by have:=hbw.out;omega)).trans hA
 replace ht:=ht.keep F9 (fun b hb _ e=>by have h9:b < w.heap.size:=hb;have:=hbw.out;omega) (fun b hb _=>hb)
 replace nW:Nw w w9:=Fr.trans nW F9 (fun q hq=>.inr (by have:=hbw.out;omega))
 replace hbl:Hid (base ≤ w9.heap.size):=Nat.le_trans hbl.out F9.size
 clear hown9 hnl9 hfx9 hgx9 hsl9 hbz9 hownq9 hgrow9 hat9 nZ9 F9
 clear hown0 hu n5 hla
 go_wp2_with (refine wpList_load_as ?_ 29 _ rfl w.heap.size 10 rfl (rgV t) _ rfl (range_rg hA) Try.row4 Try.size4 ?_;exact rfl)
 go_loopw [94,5] (fun kv fv wr=>∃ (k:Nat) (va:Option Addr) (vc N:Nat),k ≤ 4∧kv = .int .i64 k∧fv = .slice va N vc∧Hid (N = 5 + k)∧LAt base wr (.slice va N vc) N (headF t ++ [bF (labB t.cdf t.ccats)] ++ (L.take k).map nF)∧wr.heap[w.heap.size]? = some (.cells (thC t uL uC uK uD).toArray 34 (0,0))∧ThAt (fun b=>b < w.heap.size) wr t uL uC uK uD∧Nw w wr∧Hid (base ≤ wr.heap.size)) (fun kv _ _=>4 - (intOf kv).toNat)
 case atStart=>exact ⟨0,_,_,5,Nat.zero_le _,rfl,rfl,rfl,by simpa using l9,hA,ht,nW,hbl⟩
 case round =>
  clear hA ht nW hbl l9
  obtain ⟨k,va,vc,N,hk4,rfl,rfl,hN0,hla,hA,ht,nW,hbl⟩:=hrel
  by_cases hlt:k < 4
  ·obtain ⟨x,hix,hp,x0,x1⟩:=hrg.out k hlt
   have hpr:Hid ((L.take (k + 1)).map nF = (L.take k).map nF ++ [nF x]):=by obtain ⟨hl,he⟩:=List.getElem?_eq_some_iff.1 hp;unfold Hid;rw [List.take_succ_eq_append_getElem hl,List.map_append,he];rfl
   replace hp:Hid _:=hp
   have hNs:N ≤ 1000:=by rw [hN0.out];omega
   go_upto_region 23 with fail
   clear hix
   have nZ6:Nw wr (wr.alloc (.cells #[.int .u64 x,.slice none 0 0] 74)):=nw_alloc (nw_refl _) _
   obtain ⟨cs6,hown6,hnl6,hfx6⟩:=hla.nw nZ6
   have hsl6:Sl (wr.alloc (.cells #[.int .u64 x,.slice none 0 0] 74)).heap.size (wr.alloc (.cells #[.int .u64 x,.slice none 0 0] 74)) (.slice (some ⟨wr.heap.size,0,none⟩) 1 1) 1 [.int .u64 x,.slice none 0 0]:=sl_litF (w:=wr) (heap_alloc_new wr _) (by omega)
   have hgx6:FldX (fun b=>b < (wr.alloc (.cells #[.int .u64 x,.slice none 0 0] 74)).heap.size∧((.slice va N vc):Value).ownBlock ≠ some b) (wr.alloc (.cells #[.int .u64 x,.slice none 0 0] 74)) [nF x] [.int .u64 x,.slice none 0 0]:=by
    have g:=fldx_num (fldx_zero (fun b=>b < (wr.alloc (.cells #[.int .u64 x,.slice none 0 0] 74)).heap.size∧((.slice va N vc):Value).ownBlock ≠ some b) (wr.alloc (.cells #[.int .u64 x,.slice none 0 0] 74))) x x0 x1
    simpa using g
   have hbz6:base ≤ (wr.alloc (.cells #[.int .u64 x,.slice none 0 0] 74)).heap.size:=Nat.le_trans (by have:=hbl.out;omega) nZ6.size
   replace hgx6:Hid _:=hgx6
   replace hfx6:Hid _:=hfx6
   replace hnl6:Hid _:=hnl6
   go_wp2_with (at_builtin;refine wpList_append_sl _ rfl _ _ 71 rfl base 74 i4 _ 2 32 Try.underlying71 hj hj0 hj1 hj2 rfl (by decide) (.slice va N vc) N _ rfl hown6 _ _ 1 _ rfl hsl6 rfl ?d1 ?d2 ?d3 ?d4 ?_)
   case d1=>intro z hz;simp at hz;rcases hz with rfl | rfl <;> rfl
   case d2=>unfold maxLen;omega
   case d3=>omega
   case d4=>exact hbz6
   intro v6 w6 hownq6 hgrow6 hat6
   have l6:LAt base w6 v6 (N + 1) (headF t ++ [bF (labB t.cdf t.ccats)] ++ (L.take k).map nF ++ [nF x]):=LAt.app hown6 hnl6.out hfx6.out hgx6.out rfl hownq6 hgrow6 (by rw [World.size_alloc];exact hat6)
   have F6:Fr (fun q=>base ≤ q) wr w6:=Fr.grown (fr_of_nw nZ6) hgrow6 (fun q hq=>.inl (hown6.lt q hq).1)
   obtain ⟨va6,vc6,hv6⟩:=owns_form hownq6
   subst hv6
   replace hA:=(F6.block _ (heap_lt hA) (fun e=>by have:=hbw.out;omega)).trans hA
   replace ht:=ht.keep F6 (fun b hb _ e=>by have h9:b < w.heap.size:=hb;have:=hbw.out;omega) (fun b hb _=>hb)
   replace nW:Nw w w6:=Fr.trans nW F6 (fun q hq=>.inr (by have:=hbw.out;omega))
   replace hbl:Hid (base ≤ w6.heap.size):=Nat.le_trans hbl.out F6.size
   clear hown6 hnl6 hfx6 hgx6 hsl6 hbz6 hownq6 hgrow6 hat6 nZ6 F6
   clear hla
   have hN1:Hid (N + 1 = 5 + (k + 1)):=by have:=hN0.out;unfold Hid;omega
   have l6:LAt base w6 (.slice va6 (N + 1) vc6) (N + 1) (headF t ++ [bF (labB t.cdf t.ccats)] ++ (L.take (k + 1)).map nF):=by rw [hpr.out,← List.append_assoc];exact l6
   go_wp2
   go_roundw
   case rel=>exact ⟨k + 1,va6,vc6,N + 1,by omega,by go_num,rfl,hN1,l6,hA,ht,nW,hbl⟩
   case measure=>simp [intOf];omega
  ·have hk4':k = 4:=by omega
   subst hk4'
   have htk:L.take 4 = L:=List.take_of_length_le (by rw [hL4.out];omega)
   rw [htk] at hla
   have hNs:N ≤ 1000:=by rw [hN0.out];omega
   clear htk hrg
   cases hb:t.halted with
   | false =>
    have a16:wr.cell? ⟨w.heap.size,16,none⟩ = some (.bool t.halted):=cell_blk hA rfl
    rw [hb] at a16
    have a14:wr.cell? ⟨w.heap.size,14,none⟩ = some (.int .i64 t.minted):=cell_blk hA rfl
    have a15:wr.cell? ⟨w.heap.size,15,none⟩ = some (.int .i64 t.boot):=cell_blk hA rfl
    have hc1:=cvu (x:=t.minted) (by omega) (by omega)
    have hc2:=cvu (x:=t.boot) (by omega) (by omega)
    replace hb:Hid _:=hb
    go_upto_region 28 with fail
    clear a16
    have nZ7:Nw wr (wr.alloc (.cells #[.int .u64 t.minted,.slice none 0 0,.int .u64 t.boot,.slice none 0 0,.int .u64 0,.slice none 0 0] 74)):=nw_alloc (nw_refl _) _
    obtain ⟨cs7,hown7,hnl7,hfx7⟩:=hla.nw nZ7
    have hsl7:Sl (wr.alloc (.cells #[.int .u64 t.minted,.slice none 0 0,.int .u64 t.boot,.slice none 0 0,.int .u64 0,.slice none 0 0] 74)).heap.size (wr.alloc (.cells #[.int .u64 t.minted,.slice none 0 0,.int .u64 t.boot,.slice none 0 0,.int .u64 0,.slice none 0 0] 74)) (.slice (some ⟨wr.heap.size,0,none⟩) 3 3) 3 [.int .u64 t.minted,.slice none 0 0,.int .u64 t.boot,.slice none 0 0,.int .u64 0,.slice none 0 0]:=sl_litF (w:=wr) (heap_alloc_new wr _) (by omega)
    have hgx7:FldX (fun b=>b < (wr.alloc (.cells #[.int .u64 t.minted,.slice none 0 0,.int .u64 t.boot,.slice none 0 0,.int .u64 0,.slice none 0 0] 74)).heap.size∧((.slice va N vc):Value).ownBlock ≠ some b) (wr.alloc (.cells #[.int .u64 t.minted,.slice none 0 0,.int .u64 t.boot,.slice none 0 0,.int .u64 0,.slice none 0 0] 74)) [nF t.minted,nF t.boot,nF 0] [.int .u64 t.minted,.slice none 0 0,.int .u64 t.boot,.slice none 0 0,.int .u64 0,.slice none 0 0]:=by
     have g:=fldx_num (fldx_num (fldx_num (fldx_zero (fun b=>b < (wr.alloc (.cells #[.int .u64 t.minted,.slice none 0 0,.int .u64 t.boot,.slice none 0 0,.int .u64 0,.slice none 0 0] 74)).heap.size∧((.slice va N vc):Value).ownBlock ≠ some b) (wr.alloc (.cells #[.int .u64 t.minted,.slice none 0 0,.int .u64 t.boot,.slice none 0 0,.int .u64 0,.slice none 0 0] 74))) t.minted b0 (by omega)) t.boot b2 (by omega)) 0 (by omega) (by omega)
     simpa using g
    have hbz7:base ≤ (wr.alloc (.cells #[.int .u64 t.minted,.slice none 0 0,.int .u64 t.boot,.slice none 0 0,.int .u64 0,.slice none 0 0] 74)).heap.size:=Nat.le_trans (by have:=hbl.out;omega) nZ7.size
    replace hgx7:Hid _:=hgx7
    replace hfx7:Hid _:=hfx7
    replace hnl7:Hid _:=hnl7
    go_wp2_with (at_builtin;refine wpList_append_sl _ rfl _ _ 71 rfl base 74 i4 _ 2 32 Try.underlying71 hj hj0 hj1 hj2 rfl (by decide) (.slice va N vc) N _ rfl hown7 _ _ 3 _ rfl hsl7 rfl ?d1 ?d2 ?d3 ?d4 ?_)
    case d1=>intro z hz;simp at hz;rcases hz with rfl | rfl | rfl | rfl | rfl | rfl <;> rfl
    case d2=>unfold maxLen;omega
    case d3=>omega
    case d4=>exact hbz7
    intro v7 w7 hownq7 hgrow7 hat7
    have l7:LAt base w7 v7 (N + 3) (headF t ++ [bF (labB t.cdf t.ccats)] ++ L.map nF ++ [nF t.minted,nF t.boot,nF 0]):=LAt.app hown7 hnl7.out hfx7.out hgx7.out rfl hownq7 hgrow7 (by rw [World.size_alloc];exact hat7)
    have F7:Fr (fun q=>base ≤ q) wr w7:=Fr.grown (fr_of_nw nZ7) hgrow7 (fun q hq=>.inl (hown7.lt q hq).1)
    obtain ⟨va7,vc7,hv7⟩:=owns_form hownq7
    subst hv7
    replace hA:=(F7.block _ (heap_lt hA) (fun e=>by have:=hbw.out;omega)).trans hA
    replace ht:=ht.keep F7 (fun b hb _ e=>by have h9:b < w.heap.size:=hb;have:=hbw.out;omega) (fun b hb _=>hb)
    replace nW:Nw w w7:=Fr.trans nW F7 (fun q hq=>.inr (by have:=hbw.out;omega))
    replace hbl:Hid (base ≤ w7.heap.size):=Nat.le_trans hbl.out F7.size
    clear hown7 hnl7 hfx7 hgx7 hsl7 hbz7 hownq7 hgrow7 hat7 nZ7 F7
    clear a14 a15 hc1 hc2
    obtain ⟨y,hy,-⟩:=img_some hr.out hwf
    have hfs:flds t = headF t ++ [bF (labB t.cdf t.ccats)] ++ L.map nF ++ [nF t.minted,nF t.boot,nF 0]:=by have hk:=hk.out;have hb:=hb.out;unfold flds partF;rw [hL.out];simp [hk,hb]
    have hfa:=l7.at
    rw [← hfs] at hfa
    have hcp:Hid _:=c_packR (shB t.kind) w7 hfa (by rw [shB_list];exact hy) (shB_size _)
    have hsh:shB t.kind = { data:=#[56,49,98,50,98,56,56,56,56,49,49,49] }:=by have hk:=hk.out;simp [shB,hk]
    rw [hsh] at hcp
    replace hy:Hid (imgO t = some y):=hy
    clear hfa hsh hfs
    go_upto_region 42 with fail
    go_wp2_with (first | (go_at_call 48;refine Calls.mono hcp.out ?_;rintro e Vp ⟨u9,rfl,hi9,n9⟩;refine stop_here ?_))
    unfold Hid
    clear hcp
    have fin:Hid (ImgP t (.returned (.tuple #[u9,.int .i64 0])) Vp∧Nw w Vp):=⟨.inl ⟨hr.out,u9,y,hy.out,rfl,hi9⟩,nw_trans nW n9⟩
    clear hi9 n9
    go_wp2
    go_ret2
    exact fin.out
   | true =>
    have a16:wr.cell? ⟨w.heap.size,16,none⟩ = some (.bool t.halted):=cell_blk hA rfl
    rw [hb] at a16
    have a14:wr.cell? ⟨w.heap.size,14,none⟩ = some (.int .i64 t.minted):=cell_blk hA rfl
    have a15:wr.cell? ⟨w.heap.size,15,none⟩ = some (.int .i64 t.boot):=cell_blk hA rfl
    have hc1:=cvu (x:=t.minted) (by omega) (by omega)
    have hc2:=cvu (x:=t.boot) (by omega) (by omega)
    replace hb:Hid _:=hb
    go_upto_region 28 with fail
    clear a16
    have nZ7:Nw wr (wr.alloc (.cells #[.int .u64 t.minted,.slice none 0 0,.int .u64 t.boot,.slice none 0 0,.int .u64 1,.slice none 0 0] 74)):=nw_alloc (nw_refl _) _
    obtain ⟨cs7,hown7,hnl7,hfx7⟩:=hla.nw nZ7
    have hsl7:Sl (wr.alloc (.cells #[.int .u64 t.minted,.slice none 0 0,.int .u64 t.boot,.slice none 0 0,.int .u64 1,.slice none 0 0] 74)).heap.size (wr.alloc (.cells #[.int .u64 t.minted,.slice none 0 0,.int .u64 t.boot,.slice none 0 0,.int .u64 1,.slice none 0 0] 74)) (.slice (some ⟨wr.heap.size,0,none⟩) 3 3) 3 [.int .u64 t.minted,.slice none 0 0,.int .u64 t.boot,.slice none 0 0,.int .u64 1,.slice none 0 0]:=sl_litF (w:=wr) (heap_alloc_new wr _) (by omega)
    have hgx7:FldX (fun b=>b < (wr.alloc (.cells #[.int .u64 t.minted,.slice none 0 0,.int .u64 t.boot,.slice none 0 0,.int .u64 1,.slice none 0 0] 74)).heap.size∧((.slice va N vc):Value).ownBlock ≠ some b) (wr.alloc (.cells #[.int .u64 t.minted,.slice none 0 0,.int .u64 t.boot,.slice none 0 0,.int .u64 1,.slice none 0 0] 74)) [nF t.minted,nF t.boot,nF 1] [.int .u64 t.minted,.slice none 0 0,.int .u64 t.boot,.slice none 0 0,.int .u64 1,.slice none 0 0]:=by
     have g:=fldx_num (fldx_num (fldx_num (fldx_zero (fun b=>b < (wr.alloc (.cells #[.int .u64 t.minted,.slice none 0 0,.int .u64 t.boot,.slice none 0 0,.int .u64 1,.slice none 0 0] 74)).heap.size∧((.slice va N vc):Value).ownBlock ≠ some b) (wr.alloc (.cells #[.int .u64 t.minted,.slice none 0 0,.int .u64 t.boot,.slice none 0 0,.int .u64 1,.slice none 0 0] 74))) t.minted b0 (by omega)) t.boot b2 (by omega)) 1 (by omega) (by omega)
     simpa using g
    have hbz7:base ≤ (wr.alloc (.cells #[.int .u64 t.minted,.slice none 0 0,.int .u64 t.boot,.slice none 0 0,.int .u64 1,.slice none 0 0] 74)).heap.size:=Nat.le_trans (by have:=hbl.out;omega) nZ7.size
    replace hgx7:Hid _:=hgx7
    replace hfx7:Hid _:=hfx7
    replace hnl7:Hid _:=hnl7
    go_wp2_with (at_builtin;refine wpList_append_sl _ rfl _ _ 71 rfl base 74 i4 _ 2 32 Try.underlying71 hj hj0 hj1 hj2 rfl (by decide) (.slice va N vc) N _ rfl hown7 _ _ 3 _ rfl hsl7 rfl ?d1 ?d2 ?d3 ?d4 ?_)
    case d1=>intro z hz;simp at hz;rcases hz with rfl | rfl | rfl | rfl | rfl | rfl <;> rfl
    case d2=>unfold maxLen;omega
    case d3=>omega
    case d4=>exact hbz7
    intro v7 w7 hownq7 hgrow7 hat7
    have l7:LAt base w7 v7 (N + 3) (headF t ++ [bF (labB t.cdf t.ccats)] ++ L.map nF ++ [nF t.minted,nF t.boot,nF 1]):=LAt.app hown7 hnl7.out hfx7.out hgx7.out rfl hownq7 hgrow7 (by rw [World.size_alloc];exact hat7)
    have F7:Fr (fun q=>base ≤ q) wr w7:=Fr.grown (fr_of_nw nZ7) hgrow7 (fun q hq=>.inl (hown7.lt q hq).1)
    obtain ⟨va7,vc7,hv7⟩:=owns_form hownq7
    subst hv7
    replace hA:=(F7.block _ (heap_lt hA) (fun e=>by have:=hbw.out;omega)).trans hA
    replace ht:=ht.keep F7 (fun b hb _ e=>by have h9:b < w.heap.size:=hb;have:=hbw.out;omega) (fun b hb _=>hb)
    replace nW:Nw w w7:=Fr.trans nW F7 (fun q hq=>.inr (by have:=hbw.out;omega))
    replace hbl:Hid (base ≤ w7.heap.size):=Nat.le_trans hbl.out F7.size
    clear hown7 hnl7 hfx7 hgx7 hsl7 hbz7 hownq7 hgrow7 hat7 nZ7 F7
    clear a14 a15 hc1 hc2
    obtain ⟨y,hy,-⟩:=img_some hr.out hwf
    have hfs:flds t = headF t ++ [bF (labB t.cdf t.ccats)] ++ L.map nF ++ [nF t.minted,nF t.boot,nF 1]:=by have hk:=hk.out;have hb:=hb.out;unfold flds partF;rw [hL.out];simp [hk,hb]
    have hfa:=l7.at
    rw [← hfs] at hfa
    have hcp:Hid _:=c_packR (shB t.kind) w7 hfa (by rw [shB_list];exact hy) (shB_size _)
    have hsh:shB t.kind = { data:=#[56,49,98,50,98,56,56,56,56,49,49,49] }:=by have hk:=hk.out;simp [shB,hk]
    rw [hsh] at hcp
    replace hy:Hid (imgO t = some y):=hy
    clear hfa hsh hfs
    go_upto_region 42 with fail
    go_wp2_with (first | (go_at_call 48;refine Calls.mono hcp.out ?_;rintro e Vp ⟨u9,rfl,hi9,n9⟩;refine stop_here ?_))
    unfold Hid
    clear hcp
    have fin:Hid (ImgP t (.returned (.tuple #[u9,.int .i64 0])) Vp∧Nw w Vp):=⟨.inl ⟨hr.out,u9,y,hy.out,rfl,hi9⟩,nw_trans nW n9⟩
    clear hi9 n9
    go_wp2
    go_ret2
    exact fin.out

set_option maxHeartbeats 3200000 in
theorem c_rimage {X:Nat→Prop} {t:Th} {uL uC uK uD:Value} (w:World) (h:ThAt X w t uL uC uK uD) (hwf:WfT t) (l1:t.cats.length ≤ 8796093022208) (l2:t.ccats.length ≤ 8796093022208) :
  Calls Try.prog 17 #[(thV t uL uC uK uD)] w fun e w'=>ImgP t e w'∧Nw w w':=by
 by_cases hr:RightT t
 ·rcases hr.parts with ⟨hk,_⟩ | ⟨hk,_⟩ | ⟨hk,_⟩ | ⟨hk,_⟩ | ⟨hk,_⟩ | ⟨hk,_⟩
  ·exact c_ri1 w h hwf hr l2 hk
  ·exact c_ri2 w h hwf hr l2 hk
  ·exact c_ri3 w h hwf hr l2 hk
  ·exact c_ri4 w h hwf hr l2 hk
  ·exact c_ri5 w h hwf hr l2 hk
  ·exact c_ri6 w h hwf hr l2 hk
 ·skip
  obtain ⟨W,hW⟩:∃ W,Hid (W = w.alloc (.cells (thC t uL uC uK uD).toArray 34)):=⟨_,rfl⟩
  have nW:Nw w W:=by rw [hW.out];exact nw_alloc (nw_refl w) _
  have hA:W.heap[w.heap.size]? = some (.cells (thC t uL uC uK uD).toArray 34 (0,0)):=by rw [hW.out];exact heap_alloc_new w _
  have ht:=(h.mono (X':=fun b=>b < w.heap.size) (fun b _ hb=>hb)).nw nW
  clear h
  have hcq:Hid _:=c_rtright W ht hwf l1 l2
  unfold AnsP at hcq
  have hrA:=range_all hA
  replace hr:Hid (¬ RightT t):=hr
  go_enter Try.func17,Try.ntmps17
  go_upto_region 1 with (refine wpList_box_agg rfl 34 _ rfl (thV t uL uC uK uD) _ rfl rfl ?_)
  rw [← hW.out]
  clear hW
  go_wp2_with (first | (refine wpList_load_as rfl 34 _ rfl (w.heap.size) 0 rfl (thV t uL uC uK uD) _ rfl hrA Try.rowT Try.sizeT ?_) | (go_at_call 12;refine Calls.mono hcq.out ?_;rintro e W1 ⟨r,rfl,q,n1⟩;refine stop_here ?_))
  unfold Hid
  clear hcq
  obtain rfl:r = false:=by cases r with | false=>rfl | true=>exact absurd (q.1 rfl) hr.out
  have fin:Hid (ImgP t (.returned (.tuple #[.slice none 0 0,.int .i64 111])) W1∧Nw w W1):=⟨.inr ⟨hr.out,rfl⟩,nw_trans nW n1⟩
  clear q hrA n1
  go_wp2
  go_ret2
  exact fin.out
end Go.Proofs.Ytghlilncdfiojaa
