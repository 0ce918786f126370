/-
  Image: the slots' fields; Image as a whole.
-/
import Derived.Test.YtghlilncdfiojaaThI4S
namespace Go.Proofs.Ytghlilncdfiojaa
set_option linter.unusedVariables false
set_option linter.unusedSimpArgs false
set_option maxRecDepth 20000
open Go.RowKit

theorem slots_at (t:Th) (h:SpcOk t):∀ k:Nat,k < 4→∃ x y,(∀ w,(Instr.index 32 (slV t) (.int .i64 (k:Int))).run Try.prog w = .ok (.agg #[.int .u64 x,.int .u64 y]) w)∧(slotsL t.s0 t.s1 t.s2 t.s3 t.s4 t.s5 t.s6 t.s7)[k]? = some (x,y)∧0 ≤ x∧x < 18446744073709551616∧0 ≤ y∧y < 18446744073709551616:=fun k hk=>by
 obtain ⟨x,y,h1,h2⟩:=idx8 t.s0 t.s1 t.s2 t.s3 t.s4 t.s5 t.s6 t.s7 k hk
 refine ⟨x,y,h1,h2,?_⟩
 have hb:∀ {d s:Int},slOk d s→0 ≤ d∧d < 18446744073709551616∧0 ≤ s∧s < 18446744073709551616:=fun {d s} h=>by
  rcases h with ⟨h1,h2⟩ | ⟨⟨h1,h2⟩,h3,h4⟩ <;> omega
 obtain ⟨g0,g1,g2,g3⟩:=h.slots
 rcases k with _ | _ | _ | _ | k
 ·cases h2;exact hb g0
 ·cases h2;exact hb g1
 ·cases h2;exact hb g2
 ·cases h2;exact hb g3
 ·omega

theorem prF_succ {cs:List Cat} {k:Nat} {x y:Int} (h:cs[k]? = some (x,y)):prF (cs.take (k + 1)) = prF (cs.take k) ++ [nF x,nF y]:=by
 obtain ⟨hlt,he⟩:=List.getElem?_eq_some_iff.1 h
 rw [prF_take hlt,he]

set_option maxHeartbeats 3200000 in
theorem c_part5 {X:Nat→Prop} {t:Th} {uL uC uK uD:Value} (w:World) (h:ThAt X w t uL uC uK uD) (hr:RightT t) (hk:t.kind = 5) :
  Calls Try.prog 45 #[thV t uL uC uK uD] w fun e w'=>∃ v,e = .returned v∧FldS w'.heap.size w' v (partF t)∧Nw w w':=by
 obtain ⟨i4,hj,hj0,hj1,hj2⟩:=info_parts3 Try.infoFd
 have hpf:partF t = prF (slotsL t.s0 t.s1 t.s2 t.s3 t.s4 t.s5 t.s6 t.s7):=by
  unfold partF;rw [hk];rfl
 rw [hpf]
 have hsl:Hid _:=slots_at t ((kd5 hk).1 hr.parts)
 have hL4:Hid ((slotsL t.s0 t.s1 t.s2 t.s3 t.s4 t.s5 t.s6 t.s7).length = 4):=rfl
 clear hpf
 generalize slotsL t.s0 t.s1 t.s2 t.s3 t.s4 t.s5 t.s6 t.s7 = LL at *
 have bk1:(t.kind == 1) = false:=by simp;omega
 have bk2:(t.kind == 2) = false:=by simp;omega
 have bk3:(t.kind == 3) = false:=by simp;omega
 have bk4:(t.kind == 4) = false:=by simp;omega
 have bk5:(t.kind == 5) = true:=by simp [hk]
 replace hk:Hid _:=hk
 obtain ⟨W,hW⟩:∃ W,Hid (W = w.alloc (.cells (thC t uL uC uK uD).toArray 34)):=⟨_,rfl⟩
 have nW:Nw w W:=by rw [hW.out];exact nw_alloc (nw_refl w) _
 have hA:W.heap[w.heap.size]? = some (.cells (thC t uL uC uK uD).toArray 34 (0,0)):=by rw [hW.out];exact heap_alloc_new w _
 clear h
 have a1:W.cell? ⟨w.heap.size,1,none⟩ = some (.int .i64 t.kind):=cell_blk hA rfl
 go_enter Try.func45,Try.ntmps45
 go_upto_region 1 with (refine wpList_box_agg rfl 34 _ rfl (thV t uL uC uK uD) _ rfl rfl ?_)
 rw [← hW.out]
 clear hW
 go_upto_region 11 with fail
 clear a1 bk1 bk2 bk3 bk4 bk5
 go_wp2_with (refine wpList_load_as ?_ 32 _ rfl w.heap.size 18 rfl (slV t) _ rfl (range_sl hA) Try.row8 Try.size8 ?_;exact rfl)
 go_loopw [70,3] (fun kv fv wr=>∃ (k:Nat) (va:Option Addr) (vc N:Nat) (cs:List Value),k ≤ 4∧kv = .int .i64 k∧fv = .slice va N vc∧N = k * 2∧wr.ownsRow W.heap.size 74 2 (.slice va N vc) N cs∧FldX (fun _=>False) w (prF (LL.take k)) cs∧Nw W wr) (fun kv _ _=>4 - (intOf kv).toNat)
 case atStart=>exact ⟨0,_,_,0,[],Nat.zero_le _,rfl,rfl,rfl,⟨rfl,.inl ⟨rfl,rfl⟩⟩,fldx_zero _ _,nw_refl _⟩
 case round =>
  obtain ⟨k,va,vc,N,cs,hk4,rfl,rfl,hN0,hown,hfx,hw⟩:=hrel
  replace hN0:Hid _:=hN0
  by_cases hlt:k < 4
  ·obtain ⟨x,y,hix,hp,x0,x1,y0,y1⟩:=hsl.out k hlt
   have hfx':Hid (FldX (fun _=>False) w (prF (LL.take (k + 1))) (cs ++ [.int .u64 x,.slice none 0 0,.int .u64 y,.slice none 0 0])):=by
    have g:=fldx_num (fldx_num hfx x x0 x1) y y0 y1
    unfold Hid
    rw [prF_succ hp]
    simpa using g
   replace hp:Hid _:=hp
   clear hfx
   have hNs:N ≤ 1000:=by rw [hN0.out];omega
   have hown5:(wr.alloc (.cells #[.int .u64 x,.int .u64 y] 31)).ownsRow W.heap.size 74 2 (.slice va N vc) N cs:=owns_nw hown (nw_alloc (nw_refl wr) _)
   have hC:(wr.alloc (.cells #[.int .u64 x,.int .u64 y] 31)).heap[wr.heap.size]? = some (.cells #[.int .u64 x,.int .u64 y] 31 (0,0)):=heap_alloc_new wr _
   have nW5:Nw W (wr.alloc (.cells #[.int .u64 x,.int .u64 y] 31)):=nw_alloc hw _
   clear hown
   replace hown5:Hid ((wr.alloc (.cells #[.int .u64 x,.int .u64 y] 31)).ownsRow W.heap.size 74 2 (.slice va N vc) N cs):=hown5
   go_upto_region 15 with fail
   replace hown5:=hown5.out
   generalize wr.alloc (.cells #[.int .u64 x,.int .u64 y] 31) = W5 at *
   clear hix
   have hSof:∀ w',Nw W5 w'→(fun w':World=>Nw W5 w'∧w'.heap[wr.heap.size]? = some (.cells #[.int .u64 x,.int .u64 y] 31 (0,0))) w':=fun w' hw=>⟨hw,(hw.block _ (heap_lt hC) (fun h=>h)).trans hC⟩
   have hW0:Nw W5 W5.drew:=Fr.drew (Fr.refl _ W5)
   have hS:=hSof _ hW0
   replace hSof:Hid _:=hSof
   refine wp_region_ord [] 8 [(0,true),(1,true),(4,true),(2,true),(5,true),(3,false),(6,false),(7,false)] (fun w':World=>Nw W5 w'∧w'.heap[wr.heap.size]? = some (.cells #[.int .u64 x,.int .u64 y] 31 (0,0))) (by kernel_rfl) (by kernel_rfl) ?_
   refine ord_quietL _ ?_ rfl hS rfl ?_ ?_
   rotate_left
   ·rintro w' ⟨hn,rhC⟩;go_simp;first | rfl | (rw [if_pos (by omega)];done) | (rw [if_pos (by omega)];rfl) | (rw [if_pos (by omega)];go_simp;rfl)
   simp only [pL,List.set]
   refine ord_quietL _ ?_ rfl hS rfl ?_ ?_
   rotate_left
   ·rintro w' ⟨hn,rhC⟩;go_simp;first | rfl | (rw [if_pos (by omega)];done) | (rw [if_pos (by omega)];rfl) | (rw [if_pos (by omega)];go_simp;rfl)
   simp only [pL,List.set]
   refine ord_quietL _ ?_ rfl hS rfl ?_ ?_
   rotate_left
   ·rintro w' ⟨hn,rhC⟩;go_simp;first | rfl | (rw [if_pos (by omega)];done) | (rw [if_pos (by omega)];rfl) | (rw [if_pos (by omega)];go_simp;rfl)
   simp only [pL,List.set]
   refine ord_quietL _ ?_ rfl hS rfl ?_ ?_
   rotate_left
   ·rintro w' ⟨hn,rhC⟩;have g0:w'.cell? ⟨wr.heap.size,0,none⟩ = some (.int .u64 x):=cell_blk rhC rfl;go_simp;first | rfl | (rw [if_pos (by omega)];done) | (rw [if_pos (by omega)];rfl) | (rw [if_pos (by omega)];go_simp;rfl)
   simp only [pL,List.set]
   refine ord_quietL _ ?_ rfl hS rfl ?_ ?_
   rotate_left
   ·rintro w' ⟨hn,rhC⟩;have g0:w'.cell? ⟨wr.heap.size,1,none⟩ = some (.int .u64 y):=cell_blk rhC rfl;go_simp;first | rfl | (rw [if_pos (by omega)];done) | (rw [if_pos (by omega)];rfl) | (rw [if_pos (by omega)];go_simp;rfl)
   simp only [pL,List.set]
   refine ord_actL _ rfl (fun K1 hK1=>?_)
   have hcon:Hid _:=c_num x W5.drew
   go_wp2_with (go_at_call 68;refine Calls.mono hcon.out ?_;rintro e wk0 ⟨rfl,qn⟩)
   have m0:=nw_trans hW0 qn
   refine hK1 _ _ (hSof.out _ m0) ?_
   clear hK1 K1 hcon qn hS hW0
   have hS:=hSof.out _ m0
   refine ord_actL _ rfl (fun K1 hK1=>?_)
   have hcon:Hid _:=c_num y wk0
   go_wp2_with (go_at_call 68;refine Calls.mono hcon.out ?_;rintro e wk1 ⟨rfl,qn⟩)
   have m1:=nw_trans m0 qn
   refine hK1 _ _ (hSof.out _ m1) ?_
   clear hK1 K1 hcon qn hS m0
   have hS:=hSof.out _ m1
   refine ord_actL _ rfl (fun K1 hK1=>?_)
   go_wp2
   have mB:=nw_alloc m1 (.cells #[.int .u64 x,.slice none 0 0,.int .u64 y,.slice none 0 0] 74)
   refine hK1 _ _ (hSof.out _ mB) ?_
   clear hK1 K1 hS
   have hS:=hSof.out _ mB
   refine ord_tail ?_
   simp only [List.drop_succ_cons,List.drop_zero]
   have hownB:=owns_nw hown5 mB
   have hslB:Sl (wk1.heap.size + 1) (wk1.alloc (.cells #[.int .u64 x,.slice none 0 0,.int .u64 y,.slice none 0 0] 74)) (.slice (some ⟨wk1.heap.size,0,none⟩) 2 2) 2 [.int .u64 x,.slice none 0 0,.int .u64 y,.slice none 0 0]:=sl_lit wk1 _ 74 2 (by omega)
   have hsz:W.heap.size ≤ wk1.heap.size:=by have q1:=nW5.size;have q2:=m1.size;omega
   clear hSof hS hC
   go_wp2_with (at_builtin;refine wpList_append_sl _ rfl _ _ 71 rfl W.heap.size 74 i4 _ 2 32 Try.underlying71 hj hj0 hj1 hj2 rfl (by decide) _ _ _ rfl hownB _ _ 2 _ rfl hslB rfl ?d1 ?d2 ?d3 ?d4 ?_)
   case d1=>intro u hu;simp at hu;rcases hu with rfl | rfl | rfl | rfl <;> rfl
   case d2=>unfold maxLen;omega
   case d3=>omega
   case d4=>simp;omega
   intro v9 w9 hown9 hgrow9 hat9
   have nw9:Nw W w9:=Fr.grown (nw_trans nW5 mB) hgrow9 (fun q hq=>.inr (hownB.lt q hq).1)
   obtain ⟨va9,vc9,hv9⟩:=owns_form hown9
   subst hv9
   have hN:N + 2 = ((k + 1) * 2):=by rw [hN0.out];omega
   replace hown9:Hid (w9.ownsRow W.heap.size 74 2 (.slice va9 (N + 2) vc9) (N + 2) (cs ++ [.int .u64 x,.slice none 0 0,.int .u64 y,.slice none 0 0])):=hown9
   clear hgrow9 hat9 hownB hslB mB m1
   go_wp2
   go_roundw
   case rel=>exact ⟨k + 1,va9,vc9,N + 2,_,by omega,by go_num,rfl,hN,hown9.out,hfx'.out,nw9⟩
   case measure=>simp [intOf];omega
  ·have hk0:k = 4:=by omega
   subst hk0
   rw [List.take_of_length_le (by rw [hL4.out];omega)] at hfx
   have hfin:Hid (FldS wr.heap.size wr (.slice va N vc) (prF LL)):=by
    have h8:N = (prF LL).length:=by rw [prF_length,hL4.out,hN0.out]
    have hs9:Sl wr.heap.size wr (.slice va (prF LL).length vc) (prF LL).length cs:=by rw [← h8];exact sl_of_owns hown
    unfold Hid
    rw [h8]
    refine fields_sl (fieldsAt_of_own (X:=fun _=>False) (by rw [← h8];exact hown) (fldx_any hfx) (fun b hb=>hb.elim)) (fun ao cap e=>?_)
    obtain ⟨a7,c7,e7,⟨_,h7⟩,_⟩:=hs9
    rw [e] at e7
    cases e7
    exact h7
   clear hown hfx
   go_wp2
   go_ret
   exact ⟨_,rfl,hfin.out,nw_trans nW hw⟩
end Go.Proofs.Ytghlilncdfiojaa
