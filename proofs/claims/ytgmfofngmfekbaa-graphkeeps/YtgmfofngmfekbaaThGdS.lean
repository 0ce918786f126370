/-
  ThC1, ThC2, ThX0: in one text.
-/
import Derived.Test.YtgmfofngmfekbaaThGcS
import Derived.Test.YtgmfofngmfekbaaLabS
import Derived.Test.YtgmfofngmfekbaaThGbS
namespace Go.Proofs.Ytgmfofngmfekbaa
set_option linter.unusedVariables false
set_option linter.unusedSimpArgs false
set_option maxRecDepth 20000
open Go.RowKit

theorem Try.infoLk:(Try.prog.info? 54).map (fun i=>(i.zero,i.size,i.bytes)) = some (some (.agg #[.int .u64 0,.int .i64 0]),2,16):=by kernel_rfl
theorem Try.infoBy:(Try.prog.info? 5).map (fun i=>(i.zero,i.size,i.bytes)) = some (some (.int .u8 0),1,1):=by kernel_rfl

theorem slp_mono {X X':Nat→Prop} {w:World} {v:Value} {n:Nat} {cs:List Value} (h:Slp X w v n cs) (hX:∀ b,X b→X' b):Slp X' w v n cs:=by
 obtain ⟨ao,cap,hv,hc,hn,hcs⟩:=h
 refine ⟨ao,cap,hv,hc,hn,fun i c hi=>?_⟩
 obtain ⟨b,off,h1,h2,h3⟩:=hcs i c hi
 exact ⟨b,off,h1,hX b h2,h3⟩
theorem csl_of_own {w:World} {base e:Nat} {v:Value} {ls:List Cat} (h:w.ownsRow base e 2 v ls.length (ccells ls)):CSl (fun b=>base ≤ b) w v ls:=slp_mono (slp_of_owns h) (owns_ge h)
theorem bsl_of_own {w:World} {base e:Nat} {v:Value} {bs:List UInt8} (h:w.ownsRow base e 1 v bs.length (bs.map bv)):BSl (fun b=>base ≤ b) w v bs:=slp_mono (slp_of_owns h) (owns_ge h)
theorem owns_nw {W w1:World} {base e size n:Nat} {v:Value} {xs:List Value} (h:W.ownsRow base e size v n xs) (hb:Nw W w1):w1.ownsRow base e size v n xs:=owns_of_block h (fun k hk=>hb.block k (h.lt k hk).2 (fun h=>h))

set_option maxHeartbeats 1600000 in
theorem c_clC {X:Nat→Prop} {v:Value} {ks:List Cat} (w:World) (h:CSl X w v ks) (hl:ks.length ≤ 8796093022208) :
  Calls Try.prog 70 #[v] w fun e w'=>∃ u,e = .returned u∧w'.ownsRow w.heap.size 91 2 u ks.length (ccells ks)∧Nw w w':=by
 obtain ⟨i0,hj,hj0,hj1,hj2⟩:=info_parts3 Try.infoC
 have hsl:=h.sl
 obtain ⟨ao,cap,rfl,⟨hc,hm⟩,hn,hcs⟩:=h
 have hq:∀ (w:World) (a:Option Addr) (n c n' c':Nat),(binOp .eql 24 (.slice a n c) (.slice none n' c')).run Try.prog w = .ok (.bool a.isNone) w:=fun w a n c n' c'=>Lib.run_eql_slice_nil w _ _ a n c n' c' Try.underlying24
 cases ao with
 | none =>
  have h0:=hn rfl
  subst h0
  have hk0:ks = []:=List.eq_nil_of_length_eq_zero (by omega)
  subst hk0
  go_enter Try.func70,Try.ntmps70
  go_wp2
  go_ret
  exact ⟨_,rfl,⟨rfl,.inl ⟨rfl,rfl⟩⟩,nw_refl w⟩
 | some ad =>
  have hrA:(w.alloc (.cells #[] 91)).ownsRow w.heap.size 91 2 (.slice (some ⟨w.heap.size,0,none⟩) 0 0) 0 []:=⟨rfl,.inr ⟨w.heap.size,0,#[],rfl,Nat.le_refl _,heap_alloc_new w _,Nat.le_refl _,Nat.zero_le _,rfl,rfl⟩⟩
  have hslA:Sl w.heap.size (w.alloc (.cells #[] 91)) (.slice (some ad) ks.length cap) ks.length (ccells ks):=hsl.keep ((Below.refl _ w).alloc (Nat.le_refl _) _)
  have hkl:(ccells ks).length = ks.length * 2:=ccells_length ks
  have hone:=ccells_oneCell ks
  clear hsl hcs hn
  generalize ccells ks = cs at *
  generalize ks.length = n at *
  go_enter Try.func70,Try.ntmps70
  go_upto_region 3 with fail
  go_wp2_with (first | (refine wpList_buildSlice0 rfl 24 91 rfl Try.underlying24 (by kernel_rfl) ?_) | (at_builtin;refine wpList_append_sl _ rfl _ _ 24 rfl w.heap.size 91 i0 _ 2 16 Try.underlying24 hj hj0 hj1 hj2 rfl (by decide) _ _ _ rfl hrA _ _ _ _ rfl hslA hkl hone ?d2 ?d3 ?d4 ?_))
  case d2=>unfold maxLen;omega
  case d3=>omega
  case d4=>simp
  intro v9 w9 hown9 hgrow9 hat9
  have hf:Nw w w9:=Fr.grown (nw_alloc (nw_refl w) _) hgrow9 (fun q hq=>.inr (hrA.lt q hq).1)
  obtain ⟨ao9,cap9,rfl⟩:=owns_form hown9
  replace hown9:Hid _:=hown9
  clear hgrow9 hat9 hrA hslA
  go_wp2
  go_ret
  exact ⟨_,rfl,hown9.out,hf⟩

set_option maxHeartbeats 1600000 in
theorem c_clL {X:Nat→Prop} {v:Value} {ks:List Cat} (w:World) (h:CSl X w v ks) (hl:ks.length ≤ 8796093022208) :
  Calls Try.prog 71 #[v] w fun e w'=>∃ u,e = .returned u∧w'.ownsRow w.heap.size 54 2 u ks.length (ccells ks)∧Nw w w':=by
 obtain ⟨i0,hj,hj0,hj1,hj2⟩:=info_parts3 Try.infoLk
 have hsl:=h.sl
 obtain ⟨ao,cap,rfl,⟨hc,hm⟩,hn,hcs⟩:=h
 have hq:∀ (w:World) (a:Option Addr) (n c n' c':Nat),(binOp .eql 27 (.slice a n c) (.slice none n' c')).run Try.prog w = .ok (.bool a.isNone) w:=fun w a n c n' c'=>Lib.run_eql_slice_nil w _ _ a n c n' c' Try.underlying27
 cases ao with
 | none =>
  have h0:=hn rfl
  subst h0
  have hk0:ks = []:=List.eq_nil_of_length_eq_zero (by omega)
  subst hk0
  go_enter Try.func71,Try.ntmps71
  go_wp2
  go_ret
  exact ⟨_,rfl,⟨rfl,.inl ⟨rfl,rfl⟩⟩,nw_refl w⟩
 | some ad =>
  have hrA:(w.alloc (.cells #[] 54)).ownsRow w.heap.size 54 2 (.slice (some ⟨w.heap.size,0,none⟩) 0 0) 0 []:=⟨rfl,.inr ⟨w.heap.size,0,#[],rfl,Nat.le_refl _,heap_alloc_new w _,Nat.le_refl _,Nat.zero_le _,rfl,rfl⟩⟩
  have hslA:Sl w.heap.size (w.alloc (.cells #[] 54)) (.slice (some ad) ks.length cap) ks.length (ccells ks):=hsl.keep ((Below.refl _ w).alloc (Nat.le_refl _) _)
  have hkl:(ccells ks).length = ks.length * 2:=ccells_length ks
  have hone:=ccells_oneCell ks
  clear hsl hcs hn
  generalize ccells ks = cs at *
  generalize ks.length = n at *
  go_enter Try.func71,Try.ntmps71
  go_upto_region 3 with fail
  go_wp2_with (first | (refine wpList_buildSlice0 rfl 27 54 rfl Try.underlying27 (by kernel_rfl) ?_) | (at_builtin;refine wpList_append_sl _ rfl _ _ 27 rfl w.heap.size 54 i0 _ 2 16 Try.underlying27 hj hj0 hj1 hj2 rfl (by decide) _ _ _ rfl hrA _ _ _ _ rfl hslA hkl hone ?d2 ?d3 ?d4 ?_))
  case d2=>unfold maxLen;omega
  case d3=>omega
  case d4=>simp
  intro v9 w9 hown9 hgrow9 hat9
  have hf:Nw w w9:=Fr.grown (nw_alloc (nw_refl w) _) hgrow9 (fun q hq=>.inr (hrA.lt q hq).1)
  obtain ⟨ao9,cap9,rfl⟩:=owns_form hown9
  replace hown9:Hid _:=hown9
  clear hgrow9 hat9 hrA hslA
  go_wp2
  go_ret
  exact ⟨_,rfl,hown9.out,hf⟩

set_option maxHeartbeats 1600000 in
theorem c_clB {X:Nat→Prop} {v:Value} {ks:List UInt8} (w:World) (h:BSl X w v ks) (hl:ks.length ≤ 140737488355328) :
  Calls Try.prog 72 #[v] w fun e w'=>∃ u,e = .returned u∧w'.ownsRow w.heap.size 5 1 u ks.length (ks.map bv)∧Nw w w':=by
 obtain ⟨i0,hj,hj0,hj1,hj2⟩:=info_parts3 Try.infoBy
 have hsl:=h.sl
 obtain ⟨ao,cap,rfl,⟨hc,hm⟩,hn,hcs⟩:=h
 have hq:∀ (w:World) (a:Option Addr) (n c n' c':Nat),(binOp .eql 28 (.slice a n c) (.slice none n' c')).run Try.prog w = .ok (.bool a.isNone) w:=fun w a n c n' c'=>Lib.run_eql_slice_nil w _ _ a n c n' c' Try.underlying28
 cases ao with
 | none =>
  have h0:=hn rfl
  subst h0
  have hk0:ks = []:=List.eq_nil_of_length_eq_zero (by omega)
  subst hk0
  go_enter Try.func72,Try.ntmps72
  go_wp2
  go_ret
  exact ⟨_,rfl,⟨rfl,.inl ⟨rfl,rfl⟩⟩,nw_refl w⟩
 | some ad =>
  have hrA:(w.alloc (.cells #[] 5)).ownsRow w.heap.size 5 1 (.slice (some ⟨w.heap.size,0,none⟩) 0 0) 0 []:=⟨rfl,.inr ⟨w.heap.size,0,#[],rfl,Nat.le_refl _,heap_alloc_new w _,Nat.le_refl _,Nat.zero_le _,rfl,rfl⟩⟩
  have hslA:Sl w.heap.size (w.alloc (.cells #[] 5)) (.slice (some ad) ks.length cap) ks.length (ks.map bv):=hsl.keep ((Below.refl _ w).alloc (Nat.le_refl _) _)
  have hkl:(ks.map bv).length = ks.length * 1:=by simp
  have hone:=bv_oneCell ks
  clear hsl hcs hn
  generalize ks.map bv = cs at *
  generalize ks.length = n at *
  go_enter Try.func72,Try.ntmps72
  go_upto_region 3 with fail
  go_wp2_with (first | (refine wpList_buildSlice0 rfl 28 5 rfl Try.underlying28 (by kernel_rfl) ?_) | (at_builtin;refine wpList_append_sl _ rfl _ _ 28 rfl w.heap.size 5 i0 _ 1 1 Try.underlying28 hj hj0 hj1 hj2 rfl (by decide) _ _ _ rfl hrA _ _ _ _ rfl hslA hkl hone ?d2 ?d3 ?d4 ?_))
  case d2=>unfold maxLen;omega
  case d3=>omega
  case d4=>simp
  intro v9 w9 hown9 hgrow9 hat9
  have hf:Nw w w9:=Fr.grown (nw_alloc (nw_refl w) _) hgrow9 (fun q hq=>.inr (hrA.lt q hq).1)
  obtain ⟨ao9,cap9,rfl⟩:=owns_form hown9
  replace hown9:Hid _:=hown9
  clear hgrow9 hat9 hrA hslA
  go_wp2
  go_ret
  exact ⟨_,rfl,hown9.out,hf⟩

theorem owns_fr {S:Nat→Prop} {W w1:World} {base e size n:Nat} {v:Value} {xs:List Value} (h:W.ownsRow base e size v n xs) (hb:Fr S W w1) (hS:∀ k,S k→k < base):w1.ownsRow base e size v n xs:=owns_of_block h (fun k hk=>hb.block k (h.lt k hk).2 (fun hs=>by have:=hS k hs;have:=(h.lt k hk).1;omega))
theorem owns_mono {w:World} {base base' e size n:Nat} {v:Value} {xs:List Value} (h:w.ownsRow base e size v n xs) (hb:base' ≤ base):w.ownsRow base' e size v n xs:=by
 refine ⟨h.1,?_⟩
 rcases h.2 with h2 | ⟨g,cap,cur,h1,h2,r⟩
 ·exact .inl h2
 ·exact .inr ⟨g,cap,cur,h1,Nat.le_trans hb h2,r⟩

/-- A copy: each list in a row of its own. -/
structure CopT (base:Nat) (w:World) (t:Th) (u1 u2 u3 u4:Value):Prop where
 l:w.ownsRow base 91 2 u1 t.cats.length (ccells t.cats)
 c:w.ownsRow base 91 2 u2 t.ccats.length (ccells t.ccats)
 k:w.ownsRow base 54 2 u3 t.links.length (ccells t.links)
 d:w.ownsRow base 5 1 u4 t.data.length (t.data.map bv)

theorem CopT.fr {S:Nat→Prop} {base:Nat} {w w':World} {t:Th} {u1 u2 u3 u4:Value} (h:CopT base w t u1 u2 u3 u4) (hb:Fr S w w') (hS:∀ k,S k→k < base):CopT base w' t u1 u2 u3 u4:=⟨owns_fr h.l hb hS,owns_fr h.c hb hS,owns_fr h.k hb hS,owns_fr h.d hb hS⟩
theorem CopT.mono {base base':Nat} {w:World} {t:Th} {u1 u2 u3 u4:Value} (h:CopT base w t u1 u2 u3 u4) (hb:base' ≤ base):CopT base' w t u1 u2 u3 u4:=⟨owns_mono h.l hb,owns_mono h.c hb,owns_mono h.k hb,owns_mono h.d hb⟩
theorem CopT.at {base:Nat} {w:World} {t:Th} {u1 u2 u3 u4:Value} (h:CopT base w t u1 u2 u3 u4):ThAt (fun b=>base ≤ b) w t u1 u2 u3 u4:=⟨csl_of_own h.l,csl_of_own h.c,csl_of_own h.k,bsl_of_own h.d⟩

end Go.Proofs.Ytgmfofngmfekbaa

namespace Go.Proofs.Ytgmfofngmfekbaa
set_option linter.unusedVariables false
set_option linter.unusedSimpArgs false
set_option maxRecDepth 20000
open Go.RowKit

theorem th_one (t:Th) (a b c d:Value) (ha:a.oneCell' = true) (hb:b.oneCell' = true) (hc:c.oneCell' = true) (hd:d.oneCell' = true):∀ v ∈ thC t a b c d,v.oneCell' = true:=by
 simp only [thC,List.mem_cons,List.not_mem_nil,or_false,forall_eq_or_imp,forall_eq]
 exact ⟨rfl,rfl,rfl,ha,rfl,hb,rfl,rfl,hc,hd,rfl,rfl,rfl,rfl,rfl,rfl,rfl,rfl,rfl,rfl,rfl,rfl,rfl,rfl,rfl,rfl⟩

set_option maxHeartbeats 3200000 in
theorem c_tcopy {X:Nat→Prop} {t:Th} {uL uC uK uD:Value} (w:World) (h:ThAt X w t uL uC uK uD) (l1:t.cats.length ≤ 8796093022208) (l2:t.ccats.length ≤ 8796093022208) (l3:t.links.length ≤ 8796093022208) (l4:t.data.length ≤ 140737488355328) :
  Calls Try.prog 39 #[thV t uL uC uK uD] w fun e w'=>∃ u1 u2 u3 u4,e = .returned (thV t u1 u2 u3 u4)∧CopT (w.heap.size) w' t u1 u2 u3 u4∧Nw w w':=by
 obtain ⟨W,hW⟩:∃ W,Hid (W = (w.alloc (.cells (thC t uL uC uK uD).toArray 34)).alloc (.cells (thC zeroT (.slice none 0 0) (.slice none 0 0) (.slice none 0 0) (.slice none 0 0)).toArray 34)):=⟨_,rfl⟩
 have nW:Nw w W:=by rw [hW.out];exact nw_alloc (nw_alloc (nw_refl w) _) _
 have hA:W.heap[w.heap.size]? = some (.cells (thC t uL uC uK uD).toArray 34 (0,0)):=by rw [hW.out];exact heap_alloc2_old w _ _
 have hZ:W.heap[w.heap.size + 1]? = some (.cells (thC zeroT (.slice none 0 0) (.slice none 0 0) (.slice none 0 0) (.slice none 0 0)).toArray 34 (0,0)):=by rw [hW.out];exact heap_alloc2_new w _ _
 have ht:=(h.mono (X':=fun b=>b < w.heap.size) (fun b _ hb=>hb)).nw nW
 go_enter Try.func39,Try.ntmps39
 go_upto_region 1 with (first | refine wpList_box_agg rfl 34 _ rfl (thV t uL uC uK uD) _ rfl rfl ?_ | (refine wpList_alloc_agg rfl 34 rfl _ Try.zeroTh ?_;rw [← hW.out]))
 clear hW
 have hSof:∀ w',Nw W w'→(fun w':World=>Nw W w'∧w'.heap[w.heap.size]? = some (.cells (thC t uL uC uK uD).toArray 34 (0,0))) w':=fun w' hw=>⟨hw,(hw.block _ (heap_lt hA) (fun h=>h)).trans hA⟩
 have hW0:Nw W W.drew:=Fr.drew (Fr.refl _ W)
 have hS:=hSof _ hW0
 replace ht:=ht.nw hW0
 replace hSof:Hid _:=hSof
 refine wp_region_ord [] 10 [(0,true),(4,true),(1,true),(5,true),(2,true),(6,true),(3,false),(8,true),(9,true),(7,false)] (fun w':World=>Nw W w'∧w'.heap[w.heap.size]? = some (.cells (thC t uL uC uK uD).toArray 34 (0,0))) (by kernel_rfl) (by kernel_rfl) ?_
 refine ord_quietL _ ?_ rfl hS rfl ?_ ?_
 rotate_left
 ·rintro w' ⟨hn,rhA⟩;go_simp;first | rfl | (rw [if_pos (by omega)];done) | (rw [if_pos (by omega)];rfl) | (rw [if_pos (by omega)];go_simp;rfl)
 simp only [pL,List.set]
 refine ord_quietL _ ?_ rfl hS rfl ?_ ?_
 rotate_left
 ·rintro w' ⟨hn,rhA⟩;go_simp;first | rfl | (rw [if_pos (by omega)];done) | (rw [if_pos (by omega)];rfl) | (rw [if_pos (by omega)];go_simp;rfl)
 simp only [pL,List.set]
 refine ord_quietL _ ?_ rfl hS rfl ?_ ?_
 rotate_left
 ·rintro w' ⟨hn,rhA⟩;go_simp;first | rfl | (rw [if_pos (by omega)];done) | (rw [if_pos (by omega)];rfl) | (rw [if_pos (by omega)];go_simp;rfl)
 simp only [pL,List.set]
 refine ord_quietL _ ?_ rfl hS rfl ?_ ?_
 rotate_left
 ·rintro w' ⟨hn,rhA⟩;go_simp;first | rfl | (rw [if_pos (by omega)];done) | (rw [if_pos (by omega)];rfl) | (rw [if_pos (by omega)];go_simp;rfl)
 simp only [pL,List.set]
 refine ord_quietL _ ?_ rfl hS rfl ?_ ?_
 rotate_left
 ·rintro w' ⟨hn,rhA⟩;have g0:w'.cell? ⟨w.heap.size,3,none⟩ = some (uL):=cell_blk rhA rfl;go_simp;first | rfl | (rw [if_pos (by omega)];done) | (rw [if_pos (by omega)];rfl) | (rw [if_pos (by omega)];go_simp;rfl)
 simp only [pL,List.set]
 refine ord_quietL _ ?_ rfl hS rfl ?_ ?_
 rotate_left
 ·rintro w' ⟨hn,rhA⟩;have g0:w'.cell? ⟨w.heap.size,5,none⟩ = some (uC):=cell_blk rhA rfl;go_simp;first | rfl | (rw [if_pos (by omega)];done) | (rw [if_pos (by omega)];rfl) | (rw [if_pos (by omega)];go_simp;rfl)
 simp only [pL,List.set]
 refine ord_actL _ rfl (fun K1 hK1=>?_)
 have hcon:Hid _:=c_clC W.drew ht.l (by omega)
 go_wp2_with (go_at_call 70;refine Calls.mono hcon.out ?_;rintro e wk0 ⟨u1,rfl,ou1,qn⟩)
 have m0:=nw_trans hW0 qn
 replace ht:=ht.nw qn
 replace ou1:Hid _:=ou1
 have zu1:Hid (w.heap.size + 1 < W.drew.heap.size):=by have q1:=hW0.size;have q2:=heap_lt hZ;unfold Hid;omega
 refine hK1 _ _ (hSof.out _ m0) ?_
 clear hK1 K1 hcon qn hS hW0
 have hS:=hSof.out _ m0
 refine ord_quietL _ ?_ rfl hS rfl ?_ ?_
 rotate_left
 ·rintro w' ⟨hn,rhA⟩;go_simp;first | rfl | (rw [if_pos (by omega)];done) | (rw [if_pos (by omega)];rfl) | (rw [if_pos (by omega)];go_simp;rfl)
 simp only [pL,List.set]
 refine ord_quietL _ ?_ rfl hS rfl ?_ ?_
 rotate_left
 ·rintro w' ⟨hn,rhA⟩;go_simp;first | rfl | (rw [if_pos (by omega)];done) | (rw [if_pos (by omega)];rfl) | (rw [if_pos (by omega)];go_simp;rfl)
 simp only [pL,List.set]
 refine ord_actL _ rfl (fun K1 hK1=>?_)
 have hcon:Hid _:=c_clC wk0 ht.c (by omega)
 go_wp2_with (go_at_call 70;refine Calls.mono hcon.out ?_;rintro e wk1 ⟨u2,rfl,ou2,qn⟩)
 have m1:=nw_trans m0 qn
 replace ht:=ht.nw qn
 replace ou2:Hid _:=ou2
 have zu2:Hid (w.heap.size + 1 < wk0.heap.size):=by have q1:=m0.size;have q2:=heap_lt hZ;unfold Hid;omega
 have n12:Hid _:=qn
 refine hK1 _ _ (hSof.out _ m1) ?_
 clear hK1 K1 hcon qn hS m0
 have hS:=hSof.out _ m1
 refine ord_tail ?_
 simp only [List.drop_succ_cons,List.drop_zero]
 have hA1:=(m1.block _ (heap_lt hA) (fun h=>h)).trans hA
 have g3:wk1.cell? ⟨w.heap.size,3,none⟩ = some uL:=cell_blk hA1 rfl
 have g5:wk1.cell? ⟨w.heap.size,5,none⟩ = some uC:=cell_blk hA1 rfl
 have gf:∀ k,wk1.frozen? ⟨w.heap.size,k,none⟩ = false:=fun k=>free_blk hA1
 obtain ⟨V,hV⟩:∃ V,Hid (V = (wk1.setCell ⟨w.heap.size,3,none⟩ u1).setCell ⟨w.heap.size,5,none⟩ u2):=⟨_,rfl⟩
 have fV:Fr (fun k=>k = w.heap.size) wk1 V:=by rw [hV.out];exact ((Fr.refl (fun k=>k = w.heap.size) wk1).setCell (p:=⟨w.heap.size,3,none⟩) (.inl rfl) _).setCell (p:=⟨w.heap.size,5,none⟩) (.inl rfl) _
 have hAV:V.heap[w.heap.size]? = some (.cells (thC t u1 u2 uK uD).toArray 34 (0,0)):=by rw [hV.out,blk_setCell (blk_setCell hA1)];rfl
 obtain ⟨u1a,u1n,u1c,hu1⟩:∃ a n c,u1 = .slice a n c:=by obtain ⟨a,c,h⟩:=owns_form ou1.out;exact ⟨a,_,c,h⟩
 obtain ⟨u2a,u2n,u2c,hu2⟩:∃ a n c,u2 = .slice a n c:=by obtain ⟨a,c,h⟩:=owns_form ou2.out;exact ⟨a,_,c,h⟩
 subst hu1;subst hu2
 go_upto_region 2 with fail
 rw [← hV.out]
 clear hV g3 g5 gf
 have hZV:=(fV.block _ (heap_lt ((m1.block _ (heap_lt hZ) (fun h=>h)).trans hZ)) (by omega)).trans ((m1.block _ (heap_lt hZ) (fun h=>h)).trans hZ)
 have htV:ThAt (fun b=>b < w.heap.size) V t uL uC uK uD:=ht.keep fV (fun b hb _ e=>by omega) (fun b hb _=>hb)
 have m0s:Hid _:=m1
 clear hA ht hA1
 have hSof:∀ w',Nw V w'→(fun w':World=>Nw V w'∧w'.heap[w.heap.size]? = some (.cells (thC t (.slice u1a u1n u1c) (.slice u2a u2n u2c) uK uD).toArray 34 (0,0))) w':=fun w' hw=>⟨hw,(hw.block _ (heap_lt hAV) (fun h=>h)).trans hAV⟩
 have hW0:Nw V V.drew:=Fr.drew (Fr.refl _ V)
 have hS:=hSof _ hW0
 replace htV:=htV.nw hW0
 replace hSof:Hid _:=hSof
 refine wp_region_ord [] 7 [(0,true),(3,true),(1,true),(4,true),(2,false),(6,true),(5,false)] (fun w':World=>Nw V w'∧w'.heap[w.heap.size]? = some (.cells (thC t (.slice u1a u1n u1c) (.slice u2a u2n u2c) uK uD).toArray 34 (0,0))) (by kernel_rfl) (by kernel_rfl) ?_
 refine ord_quietL _ ?_ rfl hS rfl ?_ ?_
 rotate_left
 ·rintro w' ⟨hn,rhAV⟩;go_simp;first | rfl | (rw [if_pos (by omega)];done) | (rw [if_pos (by omega)];rfl) | (rw [if_pos (by omega)];go_simp;rfl)
 simp only [pL,List.set]
 refine ord_quietL _ ?_ rfl hS rfl ?_ ?_
 rotate_left
 ·rintro w' ⟨hn,rhAV⟩;go_simp;first | rfl | (rw [if_pos (by omega)];done) | (rw [if_pos (by omega)];rfl) | (rw [if_pos (by omega)];go_simp;rfl)
 simp only [pL,List.set]
 refine ord_quietL _ ?_ rfl hS rfl ?_ ?_
 rotate_left
 ·rintro w' ⟨hn,rhAV⟩;have g0:w'.cell? ⟨w.heap.size,8,none⟩ = some (uK):=cell_blk rhAV rfl;go_simp;first | rfl | (rw [if_pos (by omega)];done) | (rw [if_pos (by omega)];rfl) | (rw [if_pos (by omega)];go_simp;rfl)
 simp only [pL,List.set]
 refine ord_quietL _ ?_ rfl hS rfl ?_ ?_
 rotate_left
 ·rintro w' ⟨hn,rhAV⟩;have g0:w'.cell? ⟨w.heap.size,9,none⟩ = some (uD):=cell_blk rhAV rfl;go_simp;first | rfl | (rw [if_pos (by omega)];done) | (rw [if_pos (by omega)];rfl) | (rw [if_pos (by omega)];go_simp;rfl)
 simp only [pL,List.set]
 refine ord_actL _ rfl (fun K1 hK1=>?_)
 have hcon:Hid _:=c_clL V.drew htV.k (by omega)
 go_wp2_with (go_at_call 71;refine Calls.mono hcon.out ?_;rintro e wk0 ⟨u3,rfl,ou3,qn⟩)
 have m0:=nw_trans hW0 qn
 replace htV:=htV.nw qn
 replace ou3:Hid _:=ou3
 have zu3:Hid (w.heap.size + 1 < V.drew.heap.size):=by have q1:=hW0.size;have q2:=heap_lt hZV;unfold Hid;omega
 refine hK1 _ _ (hSof.out _ m0) ?_
 clear hK1 K1 hcon qn hS hW0
 have hS:=hSof.out _ m0
 refine ord_quietL _ ?_ rfl hS rfl ?_ ?_
 rotate_left
 ·rintro w' ⟨hn,rhAV⟩;go_simp;first | rfl | (rw [if_pos (by omega)];done) | (rw [if_pos (by omega)];rfl) | (rw [if_pos (by omega)];go_simp;rfl)
 simp only [pL,List.set]
 refine ord_actL _ rfl (fun K1 hK1=>?_)
 have hcon:Hid _:=c_clB wk0 htV.d (by omega)
 go_wp2_with (go_at_call 72;refine Calls.mono hcon.out ?_;rintro e wk1 ⟨u4,rfl,ou4,qn⟩)
 have m1:=nw_trans m0 qn
 replace htV:=htV.nw qn
 replace ou4:Hid _:=ou4
 have zu4:Hid (w.heap.size + 1 < wk0.heap.size):=by have q1:=m0.size;have q2:=heap_lt hZV;unfold Hid;omega
 have n34:Hid _:=qn
 refine hK1 _ _ (hSof.out _ m1) ?_
 clear hK1 K1 hcon qn hS m0
 have hS:=hSof.out _ m1
 refine ord_tail ?_
 simp only [List.drop_succ_cons,List.drop_zero]
 have hA1:=(m1.block _ (heap_lt hAV) (fun h=>h)).trans hAV
 have g8:wk1.cell? ⟨w.heap.size,8,none⟩ = some uK:=cell_blk hA1 rfl
 have g9:wk1.cell? ⟨w.heap.size,9,none⟩ = some uD:=cell_blk hA1 rfl
 have gf:∀ k,wk1.frozen? ⟨w.heap.size,k,none⟩ = false:=fun k=>free_blk hA1
 obtain ⟨V2,hV⟩:∃ V2,Hid (V2 = (wk1.setCell ⟨w.heap.size,8,none⟩ u3).setCell ⟨w.heap.size,9,none⟩ u4):=⟨_,rfl⟩
 have fV2:Fr (fun k=>k = w.heap.size) wk1 V2:=by rw [hV.out];exact ((Fr.refl (fun k=>k = w.heap.size) wk1).setCell (p:=⟨w.heap.size,8,none⟩) (.inl rfl) _).setCell (p:=⟨w.heap.size,9,none⟩) (.inl rfl) _
 obtain ⟨u3a,u3n,u3c,hu3⟩:∃ a n c,u3 = .slice a n c:=by obtain ⟨a,c,h⟩:=owns_form ou3.out;exact ⟨a,_,c,h⟩
 obtain ⟨u4a,u4n,u4c,hu4⟩:∃ a n c,u4 = .slice a n c:=by obtain ⟨a,c,h⟩:=owns_form ou4.out;exact ⟨a,_,c,h⟩
 subst hu3;subst hu4
 have hAV2:V2.heap[w.heap.size]? = some (.cells (thC t (.slice u1a u1n u1c) (.slice u2a u2n u2c) (.slice u3a u3n u3c) (.slice u4a u4n u4c)).toArray 34 (0,0)):=by rw [hV.out,blk_setCell (blk_setCell hA1)];rfl
 go_upto_region 3 with fail
 rw [← hV.out]
 clear hV g8 g9 gf
 have hZ2:=(fV2.block _ (heap_lt ((m1.block _ (heap_lt hZV) (fun h=>h)).trans hZV)) (by omega)).trans ((m1.block _ (heap_lt hZV) (fun h=>h)).trans hZV)
 have s0:=heap_lt hZ
 have s1:=m0s.out.size
 have s2:=fV.size
 have s3:=m1.size
 have s4:=fV2.size
 have q1:=zu1.out
 have q2:=zu2.out
 have q3:=zu3.out
 have q4:=zu4.out
 have oo1:CopT (w.heap.size + 2) V2 t (.slice u1a u1n u1c) (.slice u2a u2n u2c) (.slice u3a u3n u3c) (.slice u4a u4n u4c):=⟨owns_mono (owns_fr (owns_nw (owns_fr (owns_nw ou1.out n12.out) fV (by intro k hk;omega)) m1) fV2 (by intro k hk;omega)) (by omega),owns_mono (owns_fr (owns_nw (owns_fr ou2.out fV (by intro k hk;omega)) m1) fV2 (by intro k hk;omega)) (by omega),owns_mono (owns_fr (owns_nw ou3.out n34.out) fV2 (by intro k hk;omega)) (by omega),owns_mono (owns_fr ou4.out fV2 (by intro k hk;omega)) (by omega)⟩
 have hN2:Nw w V2:=Fr.trans (nw_trans (Fr.trans (nw_trans nW m0s.out) fV (fun k hk=>.inr (by omega))) m1) fV2 (fun k hk=>.inr (by omega))
 clear fV fV2 ou1 ou2 ou3 ou4 zu1 zu2 zu3 zu4 n12 n34 m0s hZV hAV hZ nW htV q1 q2 q3 q4 s0 s1 s2 s3 s4 hA1 hSof hS
 have hr0:V2.rangeAt w.heap.size 0 (thC t (.slice u1a u1n u1c) (.slice u2a u2n u2c) (.slice u3a u3n u3c) (.slice u4a u4n u4c)):=range_all hAV2
 have hfin:Hid ((V2.setRow (w.heap.size + 1) (thC t (.slice u1a u1n u1c) (.slice u2a u2n u2c) (.slice u3a u3n u3c) (.slice u4a u4n u4c)).toArray).rangeAt (w.heap.size + 1) 0 (thC t (.slice u1a u1n u1c) (.slice u2a u2n u2c) (.slice u3a u3n u3c) (.slice u4a u4n u4c))∧Fr (fun k=>k = w.heap.size + 1) V2 (V2.setRow (w.heap.size + 1) (thC t (.slice u1a u1n u1c) (.slice u2a u2n u2c) (.slice u3a u3n u3c) (.slice u4a u4n u4c)).toArray)):=⟨range_all (setRow_heap _ _ _ _ _ _ hZ2),(Fr.refl (fun k=>k = w.heap.size + 1) V2).setRow (.inl rfl) _⟩
 go_wp2_with (refine wpList_load_as rfl 34 _ rfl (w.heap.size) 0 rfl (thV t (.slice u1a u1n u1c) (.slice u2a u2n u2c) (.slice u3a u3n u3c) (.slice u4a u4n u4c)) _ rfl hr0 Try.rowT Try.sizeT ?_;refine stop_here ?_)
 unfold Hid
 refine wpList_store_all rfl 34 _ _ rfl (w.heap.size + 1) rfl (thV t (.slice u1a u1n u1c) (.slice u2a u2n u2c) (.slice u3a u3n u3c) (.slice u4a u4n u4c)) rfl (thC t (.slice u1a u1n u1c) (.slice u2a u2n u2c) (.slice u3a u3n u3c) (.slice u4a u4n u4c)) rfl (thC zeroT (.slice none 0 0) (.slice none 0 0) (.slice none 0 0) (.slice none 0 0)) 34 hZ2 rfl (th_one _ _ _ _ _ rfl rfl rfl rfl) Try.sizeT ?_
 go_wp2
 refine bodyPost_ret (results_cell1 rfl _ (w.heap.size + 1) _ (thV t (.slice u1a u1n u1c) (.slice u2a u2n u2c) (.slice u3a u3n u3c) (.slice u4a u4n u4c)) rfl rfl hfin.out.1 Try.rowT Try.sizeT) rfl ?_
 exact ⟨_,_,_,_,rfl,(oo1.fr hfin.out.2 (fun k hk=>by omega)).mono (by omega),Fr.trans hN2 hfin.out.2 (fun k hk=>.inr (by omega))⟩
end Go.Proofs.Ytgmfofngmfekbaa

namespace Go.Proofs.Ytgmfofngmfekbaa
set_option linter.unusedVariables false
set_option linter.unusedSimpArgs false
set_option maxRecDepth 20000
open Go.RowKit

theorem builtTh (t:Th) (v:Value) (a:Option Addr) (n c:Nat) (hv:v = .slice a n c):Try.prog.built 34 [(0,.int .u64 t.id),(1,.int .i64 t.kind),(2,.agg #[.int .i64 t.df,v]),(4,.int .i64 t.quota)] = some (thC (baseT t) v (.slice none 0 0) (.slice none 0 0) (.slice none 0 0)).toArray:=by
 subst hv
 kernel_rfl
theorem ofk1 (t:Th)  (h1:t.kind = 1):ofK t = { baseT t with next:=t.next,links:=t.links }:=by
 unfold ofK;rw [if_pos h1]
theorem ofk2 (t:Th) (h1:¬ t.kind = 1) (h2:t.kind = 2):ofK t = { baseT t with cdf:=t.cdf,ccats:=t.ccats,r0:=t.r0,r1:=t.r1,r2:=t.r2,r3:=t.r3,minted:=t.minted,boot:=t.boot,halted:=t.halted }:=by
 unfold ofK;rw [if_neg h1,if_pos h2]
theorem ofk3 (t:Th) (h1:¬ t.kind = 1) (h2:¬ t.kind = 2) (h3:t.kind = 3):ofK t = { baseT t with cdf:=t.cdf,ccats:=t.ccats,value:=t.value }:=by
 unfold ofK;rw [if_neg h1,if_neg h2,if_pos h3]
theorem ofk4 (t:Th) (h1:¬ t.kind = 1) (h2:¬ t.kind = 2) (h3:¬ t.kind = 3) (h4:t.kind = 4):ofK t = { baseT t with data:=t.data }:=by
 unfold ofK;rw [if_neg h1,if_neg h2,if_neg h3,if_pos h4]
theorem ofk5 (t:Th) (h1:¬ t.kind = 1) (h2:¬ t.kind = 2) (h3:¬ t.kind = 3) (h4:¬ t.kind = 4) (h5:t.kind = 5):ofK t = { baseT t with s0:=t.s0,s1:=t.s1,s2:=t.s2,s3:=t.s3,s4:=t.s4,s5:=t.s5,s6:=t.s6,s7:=t.s7 }:=by
 unfold ofK;rw [if_neg h1,if_neg h2,if_neg h3,if_neg h4,if_pos h5]
theorem ofk6 (t:Th) (h1:¬ t.kind = 1) (h2:¬ t.kind = 2) (h3:¬ t.kind = 3) (h4:¬ t.kind = 4) (h5:¬ t.kind = 5)  : ofK t = baseT t:=by
 unfold ofK;rw [if_neg h1,if_neg h2,if_neg h3,if_neg h4,if_neg h5]

theorem run_rem32 (n:Nat) (w:World):(binOp .rem 3 (.int .i64 n) (.int .i64 32)).run Try.prog w = .ok (.int .i64 ((n % 32:Nat):Int)) w:=by
 simp [go_sem]
 exact Int.tmod_eq_emod_of_nonneg (by omega)
theorem run_quo32 (n:Nat) (hn:n ≤ 9223372036854775807) (w:World):(binOp .quo 3 (.int .i64 n) (.int .i64 32)).run Try.prog w = .ok (.int .i64 ((n / 32:Nat):Int)) w:=by
 simp [go_sem]
 rw [IntKind.wrap_i64]
 omega
theorem run_eq4 (t s:Th) (w:World):(binOp .eql 29 (rgV t) (rgV s)).run Try.prog w = .ok (.bool (e4 t s)) w:=by
 unfold rgV rgC
 rw [run_eql_struct,eq4 9998]
 rfl

theorem kd {t:Th} {k:Int} (h:t.kind = k):KindOk t↔((k = 1∧DirOk t)∨(k = 2∧ThrOk t)∨(k = 3∧GatOk t)∨(k = 4∧SegOk t)∨(k = 5∧SpcOk t)∨(k = 6∧t.quota = 1)):=by
 unfold KindOk;rw [h]
theorem kd1 {t:Th} (h:t.kind = 1):KindOk t↔DirOk t:=by rw [kd h];simp
theorem kd2 {t:Th} (h:t.kind = 2):KindOk t↔ThrOk t:=by rw [kd h];simp
theorem kd3 {t:Th} (h:t.kind = 3):KindOk t↔GatOk t:=by rw [kd h];simp
theorem kd4 {t:Th} (h:t.kind = 4):KindOk t↔SegOk t:=by rw [kd h];simp
theorem kd5 {t:Th} (h:t.kind = 5):KindOk t↔SpcOk t:=by rw [kd h];simp
theorem kd6 {t:Th} (h:t.kind = 6):KindOk t↔t.quota = 1:=by rw [kd h];simp

def cnT (t:Th):Th:={ t with r0:=Num.canonV t.r0,r1:=Num.canonV t.r1,r2:=Num.canonV t.r2,r3:=Num.canonV t.r3 }
theorem e4_can (t:Th):e4 t (cnT t) = true↔can t.r0∧can t.r1∧can t.r2∧can t.r3:=by
 simp only [e4,cnT,can,Bool.and_eq_true,beq_iff_eq]
 exact ⟨fun ⟨a,b,c,d⟩=>⟨a.symm,b.symm,c.symm,d.symm⟩,fun ⟨a,b,c,d⟩=>⟨a.symm,b.symm,c.symm,d.symm⟩⟩
theorem run_add1 (n:Nat) (hn:n ≤ 9223372036854775807) (w:World):(binOp .add 3 (.int .i64 1) (.int .i64 ((n / 32:Nat):Int))).run Try.prog w = .ok (.int .i64 (1 + ((n / 32:Nat):Int))) w:=by
 simp [go_sem]
 try rw [IntKind.wrap_i64]
 omega

theorem CSl.one {X:Nat→Prop} {w:World} {v:Value} {xs:List Cat} (h:CSl X w v xs):v.oneCell' = true:=by obtain ⟨_,_,rfl,_⟩:=h.form;rfl
theorem BSl.one {X:Nat→Prop} {w:World} {v:Value} {xs:List UInt8} (h:BSl X w v xs):v.oneCell' = true:=by obtain ⟨_,_,rfl,_⟩:=h.form;rfl
theorem ThAt.one {X:Nat→Prop} {w:World} {t:Th} {uL uC uK uD:Value} (h:ThAt X w t uL uC uK uD):∀ v ∈ thC t uL uC uK uD,v.oneCell' = true:=th_one t uL uC uK uD h.l.one h.c.one h.k.one h.d.one

theorem idx8 (s0 s1 s2 s3 s4 s5 s6 s7:Int) (k:Nat) (hk:k < 4):∃ x y,(∀ w,(Instr.index 32 (.agg #[.int .u64 s0,.int .u64 s1,.int .u64 s2,.int .u64 s3,.int .u64 s4,.int .u64 s5,.int .u64 s6,.int .u64 s7]) (.int .i64 (k:Int))).run Try.prog w = .ok (.agg #[.int .u64 x,.int .u64 y]) w)∧[(s0,s1),(s2,s3),(s4,s5),(s6,s7)][k]? = some (x,y):=by
 rcases k with _ | _ | _ | _ | k
 ·exact ⟨s0,s1,fun w=>by simp [Instr.index,go_sem],rfl⟩
 ·exact ⟨s2,s3,fun w=>by simp [Instr.index,go_sem],rfl⟩
 ·exact ⟨s4,s5,fun w=>by simp [Instr.index,go_sem],rfl⟩
 ·exact ⟨s6,s7,fun w=>by simp [Instr.index,go_sem],rfl⟩
 ·omega

theorem run_neq_slot (x y:Int) (w:World):(binOp .neq 31 (.agg #[.int .u64 x,.int .u64 y]) (.agg #[.int .u64 0,.int .u64 0])).run Try.prog w = .ok (.bool (!(x == 0 && y == 0))) w:=by
 simp [go_sem]
 by_cases h1:x = 0 <;> by_cases h2:y = 0 <;> simp [h1,h2]

/-- The first slots are as they must be. -/
def okTo (l:List (Int × Int)) (k:Nat):Prop:=∀ j p,j < k→l[j]? = some p→slOk p.1 p.2
theorem okTo_succ {l:List (Int × Int)} {k:Nat} {p:Int × Int} (h:okTo l k) (hp:l[k]? = some p) (h2:slOk p.1 p.2):okTo l (k + 1):=fun j q hj hq=>by
 by_cases e:j = k
 ·subst e;rw [hp] at hq;cases hq;exact h2
 ·exact h j q (by omega) hq
def slotsL (s0 s1 s2 s3 s4 s5 s6 s7:Int):List (Int × Int):=[(s0,s1),(s2,s3),(s4,s5),(s6,s7)]
theorem okTo_all (s0 s1 s2 s3 s4 s5 s6 s7:Int):okTo (slotsL s0 s1 s2 s3 s4 s5 s6 s7) 4↔(slOk s0 s1∧slOk s2 s3∧slOk s4 s5∧slOk s6 s7) :=
 ⟨fun h=>⟨h 0 _ (by decide) rfl,h 1 _ (by decide) rfl,h 2 _ (by decide) rfl,h 3 _ (by decide) rfl⟩,fun ⟨h0,h1,h2,h3⟩ j p hj hp=>by
  rcases j with _ | _ | _ | _ | j
  ·cases hp;exact h0
  ·cases hp;exact h1
  ·cases hp;exact h2
  ·cases hp;exact h3
  ·omega⟩

/-- The first k links are as they must be. -/
def LkTo (ls:List Cat) (k:Nat):Prop:=(∀ i (h:i < ls.length),i < k→idOk ls[i].1∧btw 1 ls[i].2 48)∧∀ i (h:i + 1 < ls.length),i + 1 < k→ls[i].1 < ls[i + 1].1
def lastOf (ls:List Cat) (k:Nat):Int:=match k with
 | 0=>0
 | k + 1=>(ls[k]?.map (·.1)).getD 0

theorem lkTo_zero (ls:List Cat):LkTo ls 0:=⟨fun i h hi=>by omega,fun i h hi=>by omega⟩
theorem sumL_take {ls:List Cat} {k:Nat} (h:k < ls.length):sumL (ls.take (k + 1)) = sumL (ls.take k) + ls[k].2:=by
 unfold sumL
 rw [List.take_succ_eq_append_getElem h,List.map_append,List.sum_append]
 simp
theorem lkTo_succ {ls:List Cat} {k:Nat} {last used:Int} (hlt:k < ls.length) (h:LkTo ls k∧last = lastOf ls k∧used = 1 + sumL (ls.take k)) (h1:last < ls[k].1) (h2:idOk ls[k].1) (h3:btw 1 ls[k].2 48) :
  LkTo ls (k + 1)∧ls[k].1 = lastOf ls (k + 1)∧used + ls[k].2 = 1 + sumL (ls.take (k + 1)):=by
 obtain ⟨⟨a1,a2⟩,a3,a4⟩:=h
 refine ⟨⟨fun i hi hik=>?_,fun i hi hik=>?_⟩,by simp [lastOf,hlt],by rw [sumL_take hlt,a4];omega⟩
 ·by_cases e:i = k
  ·subst e;exact ⟨h2,h3⟩
  ·exact a1 i hi (by omega)
 ·by_cases e:i + 1 = k
  ·subst e
   have:lastOf ls (i + 1) = ls[i].1:=by simp [lastOf,show i < ls.length by omega]
   rw [a3,this] at h1
   exact h1
  ·exact a2 i hi (by omega)
theorem lkTo_must {ls:List Cat} {k:Nat} {last:Int} (hlt:k < ls.length) (h:LkOk ls) (hl:last = lastOf ls k):last < ls[k].1∧idOk ls[k].1∧btw 1 ls[k].2 48:=by
 obtain ⟨h1,h2⟩:=h.each k hlt
 refine ⟨?_,h1,h2⟩
 cases k with
 | zero=>rw [hl];unfold idOk at h1;simp only [lastOf];omega
 | succ k =>
  have:lastOf ls (k + 1) = ls[k].1:=by simp [lastOf,show k < ls.length by omega]
  rw [hl,this]
  exact h.rise k hlt

theorem fr_cell {S:Nat→Prop} {w w':World} (h:Fr S w w') {b i:Nat} (hb:b < w.heap.size) (hS:¬ S b):w'.cell? ⟨b,i,none⟩ = w.cell? ⟨b,i,none⟩:=World.cell?_of_block (w:=w) (h.block b hb hS)

end Go.Proofs.Ytgmfofngmfekbaa
