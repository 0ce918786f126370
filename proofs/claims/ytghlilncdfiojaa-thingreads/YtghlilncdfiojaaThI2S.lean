/-
  Image: a label's bytes, the links' bytes.
-/
import Derived.Test.YtghlilncdfiojaaThI1S
import Derived.Test.YtghlilncdfiojaaThC1S
namespace Go.Proofs.Ytghlilncdfiojaa
set_option linter.unusedVariables false
set_option linter.unusedSimpArgs false
set_option maxRecDepth 20000
open Go.RowKit

def prF (cs:List Cat):List Fld:=cs.flatMap fun c=>[nF c.1,nF c.2]
def repS (a b:UInt8) (n:Nat):List UInt8:=Lib.repeatL [a,b] n

theorem prF_take {cs:List Cat} {k:Nat} (h:k < cs.length):prF (cs.take (k + 1)) = prF (cs.take k) ++ [nF cs[k].1,nF cs[k].2]:=by
 unfold prF
 rw [List.take_succ_eq_append_getElem h,List.flatMap_append]
 simp
theorem prF_length:∀ cs:List Cat,(prF cs).length = cs.length * 2
 | []=>rfl
 | c :: cs=>by
  have:=prF_length cs
  show (nF c.1 :: nF c.2 :: prF cs).length = _
  simp [this];omega

theorem packL_pairs {b:UInt8} {k:Nat} (hb:b ≠ 98) (hw:wdt b = some k):∀ {cs:List Cat},FitsB k cs→packL ((repS 56 b cs.length).zip (prF cs)) = some (pairB k cs)
 | [],_=>rfl
 | c :: cs,h=>by
  obtain ⟨h1,h2,h3,h4⟩:=h 0 (by simp)
  have ih:=packL_pairs hb hw (fits_tail h)
  have e:(repS 56 b (c :: cs).length).zip (prF (c :: cs)) = (56,nF c.1) :: (b,nF c.2) :: (repS 56 b cs.length).zip (prF cs):=rfl
  have e2:pairB k (c :: cs) = be 8 c.1.toNat ++ (be k c.2.toNat ++ pairB k cs):=by
   show (be 8 c.1.toNat ++ be k c.2.toNat) ++ pairB k cs = _
   rw [List.append_assoc]
  rw [e,e2]
  exact packL_cons (packF_n (by decide) (by decide) h2) (packL_cons (packF_n hb hw h4) ih)

theorem pack_lab {d:Int} {xs:List Cat} (h:Rgt d xs):pack (49 :: repS 56 49 xs.length) (nF d :: prF xs) = some (labB d xs):=by
 have hl:=h.len
 unfold pack
 have l1:(repS 56 49 xs.length).length = xs.length * 2:=Lib.repeatL_length _ _
 rw [if_pos ⟨by simp [l1];omega,by simp [l1,prF_length]⟩]
 exact packL_cons (p1 (by have:=h.hi;omega)) (packL_pairs (by decide) (by decide) (fits_rgt h))

theorem pack_lnk {ls:List Cat} (h:LkOk ls) (hl:ls.length ≤ 16):pack (repS 56 50 ls.length) (prF ls) = some (pairB 2 ls):=by
 unfold pack
 have l1:(repS 56 50 ls.length).length = ls.length * 2:=Lib.repeatL_length _ _
 rw [if_pos ⟨by rw [l1];omega,by rw [l1,prF_length]⟩]
 exact packL_pairs (by decide) (by decide) (fits_lk h)

theorem fldx_any {X':Nat→Prop} {w w':World} {fs:List Fld} {cs:List Value} (h:FldX (fun _=>False) w fs cs):FldX X' w' fs cs:=h.keep (fun b hb=>hb.elim)
theorem slp_nil (X:Nat→Prop) (w:World):Slp X w (.slice none 0 0) ([]:List UInt8).length (([]:List UInt8).map bv):=⟨none,0,rfl,⟨Nat.le_refl _,Nat.zero_le _⟩,fun _=>rfl,fun i c h=>by simp at h⟩
theorem fldx_num {X:Nat→Prop} {w:World} {fs:List Fld} {cs:List Value} (h:FldX X w fs cs) (x:Int) (h0:0 ≤ x) (h1:x < 18446744073709551616):FldX X w (fs ++ [nF x]) (cs ++ [.int .u64 x,.slice none 0 0]):=by
 have:=h.push (nF x) (.slice none 0 0) (slp_nil _ _) (by show x.toNat < _;omega) (by simp [nF])
 rwa [show (((nF x).num:Nat):Int) = x by show ((x.toNat:Nat):Int) = x;omega] at this
set_option maxHeartbeats 3200000 in
theorem c_lnkB {X:Nat→Prop} {v:Value} {xs:List Cat} (w:World) (h:CSl X w v xs) (hr:LkOk xs) (hl16:xs.length ≤ 16) :
  Calls Try.prog 72 #[v] w fun e w'=>∃ u,e = .returned u∧BSl (fun b=>b < w'.heap.size) w' u (pairB 2 xs)∧Nw w w':=by
 obtain ⟨i4,hj,hj0,hj1,hj2⟩:=info_parts3 Try.infoFd
 obtain ⟨ao,cap,rfl,ha1,ha2⟩:=h.form
 have hl6:xs.length ≤ 16:=hl16
 have hfits:Hid (FitsB 2 xs):=fits_lk hr
 have hi64:Hid (∀ i (h:i < xs.length),xs[i].2 < 9223372036854775808):=fun i hi=>by have:=(hr.each i hi).2;unfold btw at this;omega
 have hown0:w.ownsRow w.heap.size 74 2 (.slice none 0 0) 0 []:=⟨rfl,.inl ⟨rfl,rfl⟩⟩
 have hfx0:FldX (fun _=>False) w [] []:=⟨rfl,fun i f hi=>by simp at hi⟩
 have h2:=h
 have n2:=nw_refl w
 replace hr:Hid _:=hr
 replace hown0:Hid (w.ownsRow w.heap.size 74 2 (.slice none 0 0) 0 []):=hown0
 go_enter Try.func72,Try.ntmps72
 go_wp2
 go_loopw [10,3] (fun kv fv wr=>∃ (k:Nat) (va:Option Addr) (vc N:Nat) (cs:List Value),k ≤ xs.length∧kv = .int .i64 k∧fv = .slice va N vc∧N = k * 2∧wr.ownsRow w.heap.size 74 2 (.slice va N vc) N cs∧FldX (fun _=>False) w (prF (xs.take k)) cs∧Nw w wr) (fun kv _ _=>xs.length - (intOf kv).toNat)
 case atStart=>exact ⟨0,_,_,0,[],Nat.zero_le _,rfl,rfl,rfl,hown0.out,hfx0,n2⟩
 case round =>
  obtain ⟨k,va,vc,N,cs,hk,rfl,rfl,hN0,hown,hfx,hw⟩:=hrel
  replace hN0:Hid _:=hN0
  by_cases hlt:k < xs.length
  ·obtain ⟨q,off,e1,_,d1,d2⟩:=(h2.nw hw).get k hlt
   subst e1
   obtain ⟨hb1,hb2,hb3,hb5⟩:=hfits.out k hlt
   have hb4:=hi64.out k hlt
   have hb2':xs[k].1 < 18446744073709551616:=by have h9:xs[k].1.toNat < 18446744073709551616:=hb2;omega
   have hfx':Hid (FldX (fun _=>False) w (prF (xs.take (k + 1))) (cs ++ [.int .u64 xs[k].1,.slice none 0 0,.int .u64 xs[k].2,.slice none 0 0])):=by
    have g:=fldx_num (fldx_num hfx xs[k].1 hb1 hb2') xs[k].2 hb3 (by omega)
    unfold Hid
    rw [prF_take hlt]
    simpa using g
   clear hb2 hb5 hb2' hfx
   generalize xs[k] = x at *
   have hNs:N ≤ 1000:=by rw [hN0.out];omega
   have hown5:(wr.alloc (.cells #[.int .u64 x.1,.int .i64 x.2] 50)).ownsRow w.heap.size 74 2 (.slice va N vc) N cs:=owns_nw hown (nw_alloc (nw_refl wr) _)
   have hC:(wr.alloc (.cells #[.int .u64 x.1,.int .i64 x.2] 50)).heap[wr.heap.size]? = some (.cells #[.int .u64 x.1,.int .i64 x.2] 50 (0,0)):=heap_alloc_new wr _
   have nW5:Nw w (wr.alloc (.cells #[.int .u64 x.1,.int .i64 x.2] 50)):=nw_alloc hw _
   go_upto_region 5 with fail
   generalize wr.alloc (.cells #[.int .u64 x.1,.int .i64 x.2] 50) = W5 at *
   clear d1 d2 hown
   have hSof:∀ w',Nw W5 w'→(fun w':World=>Nw W5 w'∧w'.heap[wr.heap.size]? = some (.cells #[.int .u64 x.1,.int .i64 x.2] 50 (0,0))) w':=fun w' hw=>⟨hw,(hw.block _ (heap_lt hC) (fun h=>h)).trans hC⟩
   have hW0:Nw W5 W5.drew:=Fr.drew (Fr.refl _ W5)
   have hS:=hSof _ hW0
   replace hSof:Hid _:=hSof
   refine wp_region_ord [] 8 [(0,true),(1,true),(4,true),(2,true),(5,true),(3,false),(6,false),(7,false)] (fun w':World=>Nw W5 w'∧w'.heap[wr.heap.size]? = some (.cells #[.int .u64 x.1,.int .i64 x.2] 50 (0,0))) (by kernel_rfl) (by kernel_rfl) ?_
   refine ord_quietL _ ?_ rfl hS rfl ?_ ?_
   rotate_left
   ·rintro w' ⟨hn,rhC⟩;go_simp;first | rfl | (rw [if_pos (by omega)];done) | (rw [if_pos (by omega)];rfl) | (rw [if_pos (by omega)];go_simp;rfl)
   simp only [pL,List.set]
   refine ord_quietL _ ?_ rfl hS rfl ?_ ?_
   rotate_left
   ·rintro w' ⟨hn,rhC⟩;go_simp;first | rfl | (rw [if_pos (by omega)];done) | (rw [if_pos (by omega)];rfl) | (rw [if_pos (by omega)];go_simp;rfl)
   simp only [pL,List.set]
   refine ord_quietL _ ?_ rfl hS rfl ?_ ?_
   rotate_left
   ·rintro w' ⟨hn,rhC⟩;go_simp;first | rfl | (rw [if_pos (by omega)];done) | (rw [if_pos (by omega)];rfl) | (rw [if_pos (by omega)];go_simp;rfl)
   simp only [pL,List.set]
   refine ord_quietL _ ?_ rfl hS rfl ?_ ?_
   rotate_left
   ·rintro w' ⟨hn,rhC⟩;have g0:w'.cell? ⟨wr.heap.size,0,none⟩ = some (.int .u64 x.1):=cell_blk rhC rfl;go_simp;first | rfl | (rw [if_pos (by omega)];done) | (rw [if_pos (by omega)];rfl) | (rw [if_pos (by omega)];go_simp;rfl)
   simp only [pL,List.set]
   refine ord_quietL _ ?_ rfl hS rfl ?_ ?_
   rotate_left
   ·rintro w' ⟨hn,rhC⟩;have g0:w'.cell? ⟨wr.heap.size,1,none⟩ = some (.int .i64 x.2):=cell_blk rhC rfl;go_simp;first | rfl | (rw [if_pos (by omega)];done) | (rw [if_pos (by omega)];rfl) | (rw [if_pos (by omega)];go_simp;rfl)
   simp only [pL,List.set]
   refine ord_actL _ rfl (fun K1 hK1=>?_)
   have hcon:Hid _:=c_num x.1 W5.drew
   go_wp2_with (go_at_call 68;refine Calls.mono hcon.out ?_;rintro e wk0 ⟨rfl,qn⟩)
   have m0:=nw_trans hW0 qn
   refine hK1 _ _ (hSof.out _ m0) ?_
   clear hK1 K1 hcon qn hS hW0
   have hS:=hSof.out _ m0
   refine ord_actL _ rfl (fun K1 hK1=>?_)
   have hcon:Hid _:=c_cnt x.2 hb3 hb4 wk0
   go_wp2_with (go_at_call 69;refine Calls.mono hcon.out ?_;rintro e wk1 ⟨rfl,qn⟩)
   have m1:=nw_trans m0 qn
   refine hK1 _ _ (hSof.out _ m1) ?_
   clear hK1 K1 hcon qn hS m0
   have hS:=hSof.out _ m1
   refine ord_actL _ rfl (fun K1 hK1=>?_)
   go_wp2
   have mB:=nw_alloc m1 (.cells #[.int .u64 x.1,.slice none 0 0,.int .u64 x.2,.slice none 0 0] 74)
   refine hK1 _ _ (hSof.out _ mB) ?_
   clear hK1 K1 hS
   have hS:=hSof.out _ mB
   refine ord_tail ?_
   simp only [List.drop_succ_cons,List.drop_zero]
   have hownB:=owns_nw hown5 mB
   have hslB:Sl (wk1.heap.size + 1) (wk1.alloc (.cells #[.int .u64 x.1,.slice none 0 0,.int .u64 x.2,.slice none 0 0] 74)) (.slice (some ⟨wk1.heap.size,0,none⟩) 2 2) 2 [.int .u64 x.1,.slice none 0 0,.int .u64 x.2,.slice none 0 0]:=sl_lit wk1 _ 74 2 (by omega)
   have hsz:w.heap.size ≤ wk1.heap.size:=by have q1:=nW5.size;have q2:=m1.size;omega
   clear hSof hS hC
   go_wp2_with (at_builtin;refine wpList_append_sl _ rfl _ _ 71 rfl w.heap.size 74 i4 _ 2 32 Try.underlying71 hj hj0 hj1 hj2 rfl (by decide) _ _ _ rfl hownB _ _ 2 _ rfl hslB rfl ?d1 ?d2 ?d3 ?d4 ?_)
   case d1=>intro u hu;simp at hu;rcases hu with rfl | rfl | rfl | rfl <;> rfl
   case d2=>unfold maxLen;omega
   case d3=>omega
   case d4=>simp;omega
   intro v9 w9 hown9 hgrow9 hat9
   have nw9:Nw w w9:=Fr.grown (nw_trans nW5 mB) hgrow9 (fun q hq=>.inr (hownB.lt q hq).1)
   obtain ⟨va9,vc9,hv9⟩:=owns_form hown9
   subst hv9
   have hN:N + 2 = ((k + 1) * 2):=by rw [hN0.out];omega
   replace hown9:Hid _:=hown9
   clear hgrow9 hat9 hownB hslB mB m1
   go_wp2
   go_roundw
   case rel=>exact ⟨k + 1,va9,vc9,N + 2,_,by omega,by go_num,rfl,hN,hown9.out,hfx'.out,nw9⟩
   case measure=>simp [intOf];omega
  ·have hk0:k = xs.length:=by omega
   subst hk0
   rw [List.take_length] at hfx
   have hN:N = xs.length * 2:=hN0.out
   obtain ⟨R,hR⟩:∃ R:ByteArray,Hid (R = ⟨(Lib.repeatL [56,50] xs.length).toArray⟩):=⟨_,rfl⟩
   have hrep:Hid (Calls Try.prog 87 #[.string ⟨#[56,50]⟩,.int .i64 (xs.length:Int)] wr fun e w'=>e = .returned (.string R)∧Nw wr w'):=by
    have:=c_repeat ⟨#[56,50]⟩ xs.length wr (by omega) (by show 2 * xs.length ≤ _;omega)
    refine this.mono (fun e w' h9=>⟨?_,fr_of_below h9.2⟩)
    rw [hR.out]
    exact h9.1
   obtain ⟨S,hS0⟩:∃ S:ByteArray,Hid (S = R):=⟨_,rfl⟩
   have hSl:S.data.toList = repS 56 50 xs.length:=by rw [hS0.out,hR.out];rfl
   have hSz:S.size = 2 * xs.length:=by rw [hS0.out,hR.out];show (Lib.repeatL [56,50] xs.length).toArray.size = _;simp [Lib.repeatL_length];omega
   replace hSl:Hid _:=hSl
   replace hSz:Hid _:=hSz
   have hpk:Hid (∀ w3,Nw wr w3→Calls Try.prog 41 #[.string S,.slice va N vc] w3 fun e w'=>∃ u,e = .returned (.tuple #[u,.int .i64 0])∧BSl (fun b=>b < w'.heap.size) w' u (pairB 2 xs)∧Nw w3 w'):=fun w3 hn3=>by
    have hlen:(prF xs).length = N:=by rw [hN];simp [prF_length]
    have ho3:w3.ownsRow w.heap.size 74 2 (.slice va N vc) (prF xs).length cs:=by rw [hlen];exact owns_nw hown hn3
    have hf3:=fieldsAt_of_own ho3 (fldx_any (X':=fun _=>False) hfx) (fun b hb=>hb.elim)
    have hp:=c_pack (S) w3.heap.size _ _ w3 (by rw [hSz.out];unfold maxLen;omega) (by rw [hlen,hN];unfold maxLen;omega) hf3 (Nat.le_refl _)
    refine hp.mono (fun e w' h9=>?_)
    obtain ⟨hb,⟨ys,u,h1,h2,h3⟩ | ⟨h1,h2⟩⟩:=h9
    ·rw [hSl.out,pack_lnk hr.out hl16] at h1
     cases h1
     exact ⟨u,h2,h3,fr_of_below hb⟩
    ·rw [hSl.out,pack_lnk hr.out hl16] at h1
     cases h1
   rw [← hS0.out] at hrep
   clear hown hfx hN hR hfits hi64
   go_wp2_with (go_at_call 87;refine Calls.mono hrep.out ?_;rintro e w3 ⟨rfl,qn⟩;refine stop_here ?_)
   unfold Hid
   have hpk3:Hid _:=hpk.out w3 qn
   clear hpk hrep
   go_wp2_with (go_at_call 41;refine Calls.mono hpk3.out ?_;rintro e w4 ⟨u,rfl,hu,qn2⟩;refine stop_here ?_)
   unfold Hid
   clear hpk3
   obtain ⟨ua,uc,hu0,-⟩:=hu.form
   subst hu0
   replace hu:Hid _:=hu
   go_wp2
   go_ret
   exact ⟨_,rfl,hu.out,nw_trans hw (nw_trans qn qn2)⟩

set_option maxHeartbeats 3200000 in
theorem c_labB {X:Nat→Prop} {v:Value} {xs:List Cat} (d:Int) (w:World) (h:CSl X w v xs) (hr:Rgt d xs) :
  Calls Try.prog 71 #[labV d v] w fun e w'=>∃ u,e = .returned u∧BSl (fun b=>b < w'.heap.size) w' u (labB d xs)∧Nw w w':=by
 obtain ⟨i4,hj,hj0,hj1,hj2⟩:=info_parts3 Try.infoFd
 obtain ⟨ao,cap,rfl,ha1,ha2⟩:=h.form
 have hl6:xs.length ≤ 16:=by have:=hr.len;omega
 have hfits:Hid (FitsB 1 xs):=fits_rgt hr
 have hi64:Hid (∀ i (h:i < xs.length),xs[i].2 < 9223372036854775808):=fun i hi=>by have:=hr.each i hi;omega
 have hd0:0 ≤ d:=by have:=hr.lo;omega
 have hd1:d < 9223372036854775808:=by have:=hr.hi;omega
 have hA:(w.alloc (.cells #[.int .i64 d,.slice ao xs.length cap] 26)).heap[w.heap.size]? = some (.cells #[.int .i64 d,.slice ao xs.length cap] 26 (0,0)):=heap_alloc_new w _
 have nW:Nw w (w.alloc (.cells #[.int .i64 d,.slice ao xs.length cap] 26)):=nw_alloc (nw_refl w) _
 replace h:=h.nw nW
 unfold labV
 have hcon:Hid (∀ w,Calls Try.prog 69 #[.int .i64 d] w fun e w'=>e = .returned (.agg #[.int .u64 d,.slice none 0 0])∧Nw w w'):=fun w=>c_cnt d hd0 hd1 w
 replace hr:Hid _:=hr
 go_enter Try.func71,Try.ntmps71
 go_upto_region 1 with fail
 generalize w.alloc (.cells #[.int .i64 d,.slice ao xs.length cap] 26) = W at *
 have a0:W.cell? ⟨w.heap.size,0,none⟩ = some (.int .i64 d):=cell_blk hA rfl
 go_wp2_with (go_at_call 69;refine Calls.mono (hcon.out _) ?_;rintro e w1 ⟨rfl,qn⟩;refine stop_here ?_)
 unfold Hid
 clear a0 hcon
 replace hA:=(qn.block _ (heap_lt hA) (fun h=>h)).trans hA
 replace h:=h.nw qn
 replace nW:=nw_trans nW qn
 have hs1:w.heap.size ≤ w1.heap.size:=nW.size
 clear qn
 have hown0:(w1.alloc (.cells #[.int .u64 d,.slice none 0 0] 74)).ownsRow w1.heap.size 74 2 (.slice (some ⟨w1.heap.size,0,none⟩) 1 1) 1 [.int .u64 d,.slice none 0 0]:=⟨rfl,.inr ⟨w1.heap.size,1,#[.int .u64 d,.slice none 0 0],rfl,Nat.le_refl _,heap_alloc_new w1 _,Nat.le_refl _,by decide,rfl,rfl⟩⟩
 have hfx0:FldX (fun _=>False) w1 [nF d] [.int .u64 d,.slice none 0 0]:=fldx_num (fs:=[]) (cs:=[]) ⟨rfl,fun i f hi=>by simp at hi⟩ d hd0 (by omega)
 have hA2:=(Below.heap_alloc w1 (.cells #[.int .u64 d,.slice none 0 0] 74) _ (heap_lt hA)).trans hA
 have n2:=nw_alloc (nw_refl w1) (.cells #[.int .u64 d,.slice none 0 0] 74)
 have h2:=h
 have a1:w1.cell? ⟨w.heap.size,1,none⟩ = some (.slice ao xs.length cap):=cell_blk hA rfl
 go_upto_region 2 with fail
 generalize w1.alloc (.cells #[.int .u64 d,.slice none 0 0] 74) = W2 at *
 replace hown0:Hid (W2.ownsRow w1.heap.size 74 2 (.slice (some ⟨w1.heap.size,0,none⟩) 1 1) 1 [.int .u64 d,.slice none 0 0]):=hown0
 clear a1
 have a1:W2.cell? ⟨w.heap.size,1,none⟩ = some (.slice ao xs.length cap):=cell_blk hA2 rfl
 clear h hA2
 go_wp2
 clear a1
 go_loopw [15,3] (fun kv fv wr=>∃ (k:Nat) (va:Option Addr) (vc N:Nat) (cs:List Value),k ≤ xs.length∧kv = .int .i64 k∧fv = .slice va N vc∧N = k * 2 + 1∧wr.ownsRow w1.heap.size 74 2 (.slice va N vc) N cs∧FldX (fun _=>False) w (nF d :: prF (xs.take k)) cs∧Nw w1 wr) (fun kv _ _=>xs.length - (intOf kv).toNat)
 case atStart=>exact ⟨0,_,_,1,[.int .u64 d,.slice none 0 0],Nat.zero_le _,rfl,rfl,rfl,hown0.out,fldx_any hfx0,n2⟩
 case round =>
  obtain ⟨k,va,vc,N,cs,hk,rfl,rfl,hN0,hown,hfx,hw⟩:=hrel
  replace hN0:Hid _:=hN0
  by_cases hlt:k < xs.length
  ·obtain ⟨q,off,e1,_,d1,d2⟩:=(h2.nw hw).get k hlt
   subst e1
   obtain ⟨hb1,hb2,hb3,hb5⟩:=hfits.out k hlt
   have hb4:=hi64.out k hlt
   have hb2':xs[k].1 < 18446744073709551616:=by have h9:xs[k].1.toNat < 18446744073709551616:=hb2;omega
   have hfx':Hid (FldX (fun _=>False) w (nF d :: prF (xs.take (k + 1))) (cs ++ [.int .u64 xs[k].1,.slice none 0 0,.int .u64 xs[k].2,.slice none 0 0])):=by
    have g:=fldx_num (fldx_num hfx xs[k].1 hb1 hb2') xs[k].2 hb3 (by omega)
    unfold Hid
    rw [prF_take hlt]
    simpa using g
   clear hb2 hb5 hb2' hfx
   generalize xs[k] = x at *
   have hNs:N ≤ 1000:=by rw [hN0.out];omega
   have hown5:(wr.alloc (.cells #[.int .u64 x.1,.int .i64 x.2] 52)).ownsRow w1.heap.size 74 2 (.slice va N vc) N cs:=owns_nw hown (nw_alloc (nw_refl wr) _)
   have hC:(wr.alloc (.cells #[.int .u64 x.1,.int .i64 x.2] 52)).heap[wr.heap.size]? = some (.cells #[.int .u64 x.1,.int .i64 x.2] 52 (0,0)):=heap_alloc_new wr _
   have nW5:Nw w1 (wr.alloc (.cells #[.int .u64 x.1,.int .i64 x.2] 52)):=nw_alloc hw _
   go_upto_region 5 with fail
   generalize wr.alloc (.cells #[.int .u64 x.1,.int .i64 x.2] 52) = W5 at *
   clear d1 d2 hown
   have hSof:∀ w',Nw W5 w'→(fun w':World=>Nw W5 w'∧w'.heap[wr.heap.size]? = some (.cells #[.int .u64 x.1,.int .i64 x.2] 52 (0,0))) w':=fun w' hw=>⟨hw,(hw.block _ (heap_lt hC) (fun h=>h)).trans hC⟩
   have hW0:Nw W5 W5.drew:=Fr.drew (Fr.refl _ W5)
   have hS:=hSof _ hW0
   replace hSof:Hid _:=hSof
   refine wp_region_ord [] 8 [(0,true),(1,true),(4,true),(2,true),(5,true),(3,false),(6,false),(7,false)] (fun w':World=>Nw W5 w'∧w'.heap[wr.heap.size]? = some (.cells #[.int .u64 x.1,.int .i64 x.2] 52 (0,0))) (by kernel_rfl) (by kernel_rfl) ?_
   refine ord_quietL _ ?_ rfl hS rfl ?_ ?_
   rotate_left
   ·rintro w' ⟨hn,rhC⟩;go_simp;first | rfl | (rw [if_pos (by omega)];done) | (rw [if_pos (by omega)];rfl) | (rw [if_pos (by omega)];go_simp;rfl)
   simp only [pL,List.set]
   refine ord_quietL _ ?_ rfl hS rfl ?_ ?_
   rotate_left
   ·rintro w' ⟨hn,rhC⟩;go_simp;first | rfl | (rw [if_pos (by omega)];done) | (rw [if_pos (by omega)];rfl) | (rw [if_pos (by omega)];go_simp;rfl)
   simp only [pL,List.set]
   refine ord_quietL _ ?_ rfl hS rfl ?_ ?_
   rotate_left
   ·rintro w' ⟨hn,rhC⟩;go_simp;first | rfl | (rw [if_pos (by omega)];done) | (rw [if_pos (by omega)];rfl) | (rw [if_pos (by omega)];go_simp;rfl)
   simp only [pL,List.set]
   refine ord_quietL _ ?_ rfl hS rfl ?_ ?_
   rotate_left
   ·rintro w' ⟨hn,rhC⟩;have g0:w'.cell? ⟨wr.heap.size,0,none⟩ = some (.int .u64 x.1):=cell_blk rhC rfl;go_simp;first | rfl | (rw [if_pos (by omega)];done) | (rw [if_pos (by omega)];rfl) | (rw [if_pos (by omega)];go_simp;rfl)
   simp only [pL,List.set]
   refine ord_quietL _ ?_ rfl hS rfl ?_ ?_
   rotate_left
   ·rintro w' ⟨hn,rhC⟩;have g0:w'.cell? ⟨wr.heap.size,1,none⟩ = some (.int .i64 x.2):=cell_blk rhC rfl;go_simp;first | rfl | (rw [if_pos (by omega)];done) | (rw [if_pos (by omega)];rfl) | (rw [if_pos (by omega)];go_simp;rfl)
   simp only [pL,List.set]
   refine ord_actL _ rfl (fun K1 hK1=>?_)
   have hcon:Hid _:=c_num x.1 W5.drew
   go_wp2_with (go_at_call 68;refine Calls.mono hcon.out ?_;rintro e wk0 ⟨rfl,qn⟩)
   have m0:=nw_trans hW0 qn
   refine hK1 _ _ (hSof.out _ m0) ?_
   clear hK1 K1 hcon qn hS hW0
   have hS:=hSof.out _ m0
   refine ord_actL _ rfl (fun K1 hK1=>?_)
   have hcon:Hid _:=c_cnt x.2 hb3 hb4 wk0
   go_wp2_with (go_at_call 69;refine Calls.mono hcon.out ?_;rintro e wk1 ⟨rfl,qn⟩)
   have m1:=nw_trans m0 qn
   refine hK1 _ _ (hSof.out _ m1) ?_
   clear hK1 K1 hcon qn hS m0
   have hS:=hSof.out _ m1
   refine ord_actL _ rfl (fun K1 hK1=>?_)
   go_wp2
   have mB:=nw_alloc m1 (.cells #[.int .u64 x.1,.slice none 0 0,.int .u64 x.2,.slice none 0 0] 74)
   refine hK1 _ _ (hSof.out _ mB) ?_
   clear hK1 K1 hS
   have hS:=hSof.out _ mB
   refine ord_tail ?_
   simp only [List.drop_succ_cons,List.drop_zero]
   have hownB:=owns_nw hown5 mB
   have hslB:Sl (wk1.heap.size + 1) (wk1.alloc (.cells #[.int .u64 x.1,.slice none 0 0,.int .u64 x.2,.slice none 0 0] 74)) (.slice (some ⟨wk1.heap.size,0,none⟩) 2 2) 2 [.int .u64 x.1,.slice none 0 0,.int .u64 x.2,.slice none 0 0]:=sl_lit wk1 _ 74 2 (by omega)
   have hsz:w1.heap.size ≤ wk1.heap.size:=by have q1:=nW5.size;have q2:=m1.size;omega
   clear hSof hS hC
   go_wp2_with (at_builtin;refine wpList_append_sl _ rfl _ _ 71 rfl w1.heap.size 74 i4 _ 2 32 Try.underlying71 hj hj0 hj1 hj2 rfl (by decide) _ _ _ rfl hownB _ _ 2 _ rfl hslB rfl ?d1 ?d2 ?d3 ?d4 ?_)
   case d1=>intro u hu;simp at hu;rcases hu with rfl | rfl | rfl | rfl <;> rfl
   case d2=>unfold maxLen;omega
   case d3=>omega
   case d4=>simp;omega
   intro v9 w9 hown9 hgrow9 hat9
   have nw9:Nw w1 w9:=Fr.grown (nw_trans nW5 mB) hgrow9 (fun q hq=>.inr (hownB.lt q hq).1)
   obtain ⟨va9,vc9,hv9⟩:=owns_form hown9
   subst hv9
   have hN:N + 2 = ((k + 1) * 2 + 1):=by rw [hN0.out];omega
   replace hown9:Hid _:=hown9
   clear hgrow9 hat9 hownB hslB mB m1
   go_wp2
   go_roundw
   case rel=>exact ⟨k + 1,va9,vc9,N + 2,_,by omega,by go_num,rfl,hN,hown9.out,hfx'.out,nw9⟩
   case measure=>simp [intOf];omega
  ·have hk0:k = xs.length:=by omega
   subst hk0
   rw [List.take_length] at hfx
   have hN:N = xs.length * 2 + 1:=hN0.out
   obtain ⟨R,hR⟩:∃ R:ByteArray,Hid (R = ⟨(Lib.repeatL [56,49] xs.length).toArray⟩):=⟨_,rfl⟩
   have hrep:Hid (Calls Try.prog 87 #[.string ⟨#[56,49]⟩,.int .i64 (xs.length:Int)] wr fun e w'=>e = .returned (.string R)∧Nw wr w'):=by
    have:=c_repeat ⟨#[56,49]⟩ xs.length wr (by omega) (by show 2 * xs.length ≤ _;omega)
    refine this.mono (fun e w' h9=>⟨?_,fr_of_below h9.2⟩)
    rw [hR.out]
    exact h9.1
   have hRz:R.size = 2 * xs.length:=by rw [hR.out];show (Lib.repeatL [56,49] xs.length).toArray.size = _;simp [Lib.repeatL_length];omega
   have hSl:((⟨#[49]⟩:ByteArray) ++ R).data.toList = 49 :: repS 56 49 xs.length:=by rw [hR.out];simp [repS,ByteArray.data_append]
   have hSz:((⟨#[49]⟩:ByteArray) ++ R).size = 1 + 2 * xs.length:=by rw [ByteArray.size_append,hRz];rfl
   have hRb:1 + R.size ≤ 9223372036854775807:=by omega
   replace hRz:Hid _:=hRz
   replace hSl:Hid _:=hSl
   replace hSz:Hid _:=hSz
   have hpk:Hid (∀ w3,Nw wr w3→Calls Try.prog 41 #[.string ((⟨#[49]⟩:ByteArray) ++ R),.slice va N vc] w3 fun e w'=>∃ u,e = .returned (.tuple #[u,.int .i64 0])∧BSl (fun b=>b < w'.heap.size) w' u (labB d xs)∧Nw w3 w'):=fun w3 hn3=>by
    have hlen:(nF d :: prF xs).length = N:=by rw [hN];simp [prF_length]
    have ho3:w3.ownsRow w1.heap.size 74 2 (.slice va N vc) (nF d :: prF xs).length cs:=by rw [hlen];exact owns_nw hown hn3
    have hf3:=fieldsAt_of_own ho3 (fldx_any (X':=fun _=>False) hfx) (fun b hb=>hb.elim)
    have hp:=c_pack (((⟨#[49]⟩:ByteArray) ++ R)) w3.heap.size _ _ w3 (by rw [hSz.out];unfold maxLen;omega) (by rw [hlen,hN];unfold maxLen;omega) hf3 (Nat.le_refl _)
    refine hp.mono (fun e w' h9=>?_)
    obtain ⟨hb,⟨ys,u,h1,h2,h3⟩ | ⟨h1,h2⟩⟩:=h9
    ·rw [hSl.out,pack_lab hr.out] at h1
     cases h1
     exact ⟨u,h2,h3,fr_of_below hb⟩
    ·rw [hSl.out,pack_lab hr.out] at h1
     cases h1
   have hA3:=(hw.block _ (heap_lt hA) (fun h=>h)).trans hA
   have a1:wr.cell? ⟨w.heap.size,1,none⟩ = some (.slice ao xs.length cap):=cell_blk hA3 rfl
   clear hown hfx hN hR hfits hi64
   go_wp2_with (go_at_call 87;refine Calls.mono hrep.out ?_;rintro e w3 ⟨rfl,qn⟩;refine stop_here ?_)
   unfold Hid
   have hpk3:Hid _:=hpk.out w3 qn
   clear hpk hrep
   go_wp2_with (go_at_call 41;refine Calls.mono hpk3.out ?_;rintro e w4 ⟨u,rfl,hu,qn2⟩;refine stop_here ?_)
   unfold Hid
   clear hpk3
   obtain ⟨ua,uc,hu0,-⟩:=hu.form
   subst hu0
   replace hu:Hid _:=hu
   go_wp2
   go_ret
   exact ⟨_,rfl,hu.out,nw_trans nW (nw_trans hw (nw_trans qn qn2))⟩

end Go.Proofs.Ytghlilncdfiojaa
