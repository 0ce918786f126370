/-
  Image: the fields.
-/
import Derived.Test.YtghlilncdfiojaaThI2S
import Derived.Test.YtghlilncdfiojaaThR6S
namespace Go.Proofs.Ytghlilncdfiojaa
set_option linter.unusedVariables false
set_option linter.unusedSimpArgs false
set_option maxRecDepth 20000
open Go.RowKit

theorem fldx_zero (X:Nat→Prop) (w:World):FldX X w [] []:=⟨rfl,fun i f hi=>by simp at hi⟩
theorem fldx_bytes {X:Nat→Prop} {w:World} {fs:List Fld} {cs:List Value} (h:FldX X w fs cs) (a:Option Addr) (n c:Nat) (bs:List UInt8) (hs:BSl X w (.slice a n c) bs) (hl:bs.length ≤ 1024):FldX X w (fs ++ [bF bs]) (cs ++ [.int .u64 0,.slice a n c]) :=
 h.push (bF bs) (.slice a n c) hs (by show 0 < _;omega) (by show bs.length ≤ _;omega)
theorem fields_sl {K:Nat} {w:World} {v:Value} {fs:List Fld} (h:FieldsAt K w v fs) (hc:∀ ao cap,v = .slice ao fs.length cap→cap ≤ maxLen):∃ cs,Sl K w v fs.length cs∧FldX (fun b=>b < K) w fs cs∧∀ u ∈ cs,u.oneCell' = true:=by
 obtain ⟨ao,cap,rfl,h1,h2,h3⟩:=h
 have key:∀ k,k ≤ fs.length→∃ cs:List Value,FldX (fun b=>b < K) w (fs.take k) cs∧(∀ u ∈ cs,u.oneCell' = true)∧∀ i c,cs[i]? = some c→∃ b off,ao = some ⟨b,off,none⟩∧b < K∧w.cell? ⟨b,off + i,none⟩ = some c:=by
  intro k
  induction k with
  | zero=>intro _;exact ⟨[],fldx_zero _ _,fun u hu=>by simp at hu,fun i c hi=>by simp at hi⟩
  | succ k ih =>
   intro hk
   obtain ⟨cs,c1,c2,c3⟩:=ih (by omega)
   have hlt:k < fs.length:=by omega
   obtain ⟨b,off,bvv,g1,g2,g3,g4,g5,g6,g7⟩:=h3 k fs[k] (by simp [hlt])
   have hlen:cs.length = k * 2:=by rw [c1.1,List.length_take,Nat.min_eq_left (by omega)]
   refine ⟨cs ++ [.int .u64 (fs[k].num:Nat),bvv],?_,?_,?_⟩
   ·rw [List.take_succ_eq_append_getElem hlt]
    exact c1.push fs[k] bvv g5 g6 g7
   ·intro u hu
    rcases List.mem_append.1 hu with hu | hu
    ·exact c2 u hu
    ·obtain ⟨a9,p9,rfl,_⟩:=g5
     simp at hu
     rcases hu with rfl | rfl <;> rfl
   ·intro i c hi
    by_cases hik:i < k * 2
    ·rw [List.getElem?_append_left (by omega)] at hi
     exact c3 i c hi
    ·rw [List.getElem?_append_right (by omega),hlen] at hi
     refine ⟨b,off,g1,g2,?_⟩
     rcases Nat.lt_or_ge (i - k * 2) 1 with e | e
     ·have e0:i - k * 2 = 0:=by omega
      rw [e0] at hi
      simp only [List.getElem?_cons_zero,Option.some.injEq] at hi
      rw [← hi,show off + i = off + k * 2 by omega];exact g3
     ·rcases Nat.lt_or_ge (i - k * 2) 2 with e' | e'
      ·have e0:i - k * 2 = 1:=by omega
       rw [e0] at hi
       simp only [List.getElem?_cons_succ,List.getElem?_cons_zero,Option.some.injEq] at hi
       rw [← hi,show off + i = off + k * 2 + 1 by omega];exact g4
      ·rw [List.getElem?_eq_none (by simp;omega)] at hi
       cases hi
 obtain ⟨cs,c1,c2,c3⟩:=key fs.length (Nat.le_refl _)
 rw [List.take_length] at c1
 exact ⟨cs,⟨ao,cap,rfl,⟨h1,hc ao cap rfl⟩,h2,c3⟩,c1,c2⟩
theorem fldx_append {X:Nat→Prop} {w:World} {fs gs:List Fld} {cs ds:List Value} (h:FldX X w fs cs) (g:FldX X w gs ds):FldX X w (fs ++ gs) (cs ++ ds):=by
 refine ⟨by rw [List.length_append,List.length_append,h.1,g.1];omega,fun i f hi=>?_⟩
 by_cases hl:i < fs.length
 ·rw [List.getElem?_append_left hl] at hi
  obtain ⟨b,e1,e2,e3⟩:=h.2 i f hi
  have hl2:=h.1
  exact ⟨b,by rw [List.getElem?_append_left (by omega)];exact e1,by rw [List.getElem?_append_left (by omega)];exact e2,e3⟩
 ·rw [List.getElem?_append_right (by omega)] at hi
  obtain ⟨b,e1,e2,e3⟩:=g.2 _ f hi
  have hl2:=h.1
  refine ⟨b,?_,?_,e3⟩
  ·rw [List.getElem?_append_right (by omega),show i * 2 - cs.length = (i - fs.length) * 2 by omega];exact e1
  ·rw [List.getElem?_append_right (by omega),show i * 2 + 1 - cs.length = (i - fs.length) * 2 + 1 by omega];exact e2
/-- A slice holds the fields, in blocks below K. -/
def FldS (K:Nat) (w:World) (v:Value) (fs:List Fld):Prop:=∃ cs,Sl K w v fs.length cs∧FldX (fun b=>b < K) w fs cs∧∀ u ∈ cs,u.oneCell' = true
theorem flds_lit {K m:Nat} {w:World} {a:Option Addr} {fs:List Fld} (h:FieldsAt K w (.slice a m m) fs) (hm:m ≤ 1000):FldS K w (.slice a m m) fs:=fields_sl h (fun ao cap e=>by cases e;unfold maxLen;omega)
theorem flds_nil (w:World):FldS w.heap.size w (.slice none 0 0) []:=⟨[],⟨none,0,rfl,⟨Nat.le_refl _,Nat.zero_le _⟩,fun _=>rfl,fun i c h=>by simp at h⟩,fldx_zero _ _,fun u hu=>by simp at hu⟩

theorem c_truthV (b:Bool) (x:Int) (hx:x = if b then 1 else 0) (w:World):Calls Try.prog 73 #[.bool b] w fun e w'=>e = .returned (.agg #[.int .u64 x,.slice none 0 0])∧Nw w w':=by
 subst hx
 exact c_truth b w
theorem bsl_top {X:Nat→Prop} {w:World} {v:Value} {bs:List UInt8} (h:BSl X w v bs):BSl (fun b=>b < w.heap.size) w v bs:=h.mono (fun b _ hb=>hb)

set_option maxHeartbeats 3200000 in
theorem c_head {X:Nat→Prop} {t:Th} {uL uC uK uD:Value} (w:World) (h:ThAt X w t uL uC uK uD) (hr:RightT t) :
  Calls Try.prog 44 #[thV t uL uC uK uD] w fun e w'=>∃ v,e = .returned v∧FldS w'.heap.size w' v (headF t)∧Nw w w':=by
 have hi0:0 ≤ t.id:=by have:=hr.id.1;omega
 have hi1:t.id ≤ 281474976710655:=hr.id.2
 have hkk:=kind_of hr.parts
 have hk0:0 ≤ t.kind:=by omega
 have hk1:t.kind < 9223372036854775808:=by omega
 obtain ⟨hq,hq'⟩:=quota_of hr.parts
 have hq0:0 ≤ t.quota:=by omega
 have hq1:t.quota < 9223372036854775808:=by omega
 have hl6:=hr.rgt.len
 have hlb:Hid _:=labB_length t.df t.cats
 clear hkk hq hq'
 obtain ⟨W,hW⟩:∃ W,Hid (W = w.alloc (.cells (thC t uL uC uK uD).toArray 34)):=⟨_,rfl⟩
 have nW:Nw w W:=by rw [hW.out];exact nw_alloc (nw_refl w) _
 have hA:W.heap[w.heap.size]? = some (.cells (thC t uL uC uK uD).toArray 34 (0,0)):=by rw [hW.out];exact heap_alloc_new w _
 have ht:=h.nw nW
 clear h
 go_enter Try.func44,Try.ntmps44
 go_upto_region 1 with (refine wpList_box_agg rfl 34 _ rfl (thV t uL uC uK uD) _ rfl rfl ?_)
 rw [← hW.out]
 clear hW
 have hSof:∀ w',Nw W w'→(fun w':World=>Nw W w'∧w'.heap[w.heap.size]? = some (.cells (thC t uL uC uK uD).toArray 34 (0,0))) w':=fun w' hw=>⟨hw,(hw.block _ (heap_lt hA) (fun h=>h)).trans hA⟩
 have hW0:Nw W W.drew:=Fr.drew (Fr.refl _ W)
 have hS:=hSof _ hW0
 replace ht:=ht.nw hW0
 replace hSof:Hid _:=hSof
 refine wp_region_ord [] 13 [(0,true),(3,true),(6,true),(10,true),(1,true),(4,true),(7,true),(11,true),(2,false),(5,false),(8,false),(9,false),(12,false)] (fun w':World=>Nw W w'∧w'.heap[w.heap.size]? = some (.cells (thC t uL uC uK uD).toArray 34 (0,0))) (by kernel_rfl) (by kernel_rfl) ?_
 refine ord_quietL _ ?_ rfl hS rfl ?_ ?_
 rotate_left
 ·rintro w' ⟨hn,rhA⟩;go_simp;rfl
 simp only [pL,List.set]
 refine ord_quietL _ ?_ rfl hS rfl ?_ ?_
 rotate_left
 ·rintro w' ⟨hn,rhA⟩;go_simp;rfl
 simp only [pL,List.set]
 refine ord_quietL _ ?_ rfl hS rfl ?_ ?_
 rotate_left
 ·rintro w' ⟨hn,rhA⟩;go_simp;rfl
 simp only [pL,List.set]
 refine ord_quietL _ ?_ rfl hS rfl ?_ ?_
 rotate_left
 ·rintro w' ⟨hn,rhA⟩;go_simp;rfl
 simp only [pL,List.set]
 refine ord_quietL _ ?_ rfl hS rfl ?_ ?_
 rotate_left
 ·rintro w' ⟨hn,rhA⟩;have g0:w'.cell? ⟨w.heap.size,0,none⟩ = some (.int .u64 t.id):=cell_blk rhA rfl;go_simp;rfl
 simp only [pL,List.set]
 refine ord_quietL _ ?_ rfl hS rfl ?_ ?_
 rotate_left
 ·rintro w' ⟨hn,rhA⟩;have g0:w'.cell? ⟨w.heap.size,1,none⟩ = some (.int .i64 t.kind):=cell_blk rhA rfl;go_simp;rfl
 simp only [pL,List.set]
 refine ord_quietL _ ?_ rfl hS rfl ?_ ?_
 rotate_left
 ·rintro w' ⟨hn,rhA⟩;have g0:w'.cell? ⟨w.heap.size,2,none⟩ = some (.int .i64 t.df):=cell_blk rhA rfl;have g1:w'.cell? ⟨w.heap.size,3,none⟩ = some (uL):=cell_blk rhA rfl;go_simp;rfl
 simp only [pL,List.set]
 refine ord_quietL _ ?_ rfl hS rfl ?_ ?_
 rotate_left
 ·rintro w' ⟨hn,rhA⟩;have g0:w'.cell? ⟨w.heap.size,6,none⟩ = some (.int .i64 t.quota):=cell_blk rhA rfl;go_simp;rfl
 simp only [pL,List.set]
 refine ord_actL _ rfl (fun K1 hK1=>?_)
 have hcon:Hid _:=c_num t.id W.drew
 go_wp2_with (go_at_call 68;refine Calls.mono hcon.out ?_;rintro e wk0 ⟨rfl,qn⟩)
 have m0:=nw_trans hW0 qn
 replace ht:=ht.nw qn
 refine hK1 _ _ (hSof.out _ m0) ?_
 clear hK1 K1 hcon qn hS hW0
 have hS:=hSof.out _ m0
 refine ord_actL _ rfl (fun K1 hK1=>?_)
 have hcon:Hid _:=c_cnt t.kind hk0 hk1 wk0
 go_wp2_with (go_at_call 69;refine Calls.mono hcon.out ?_;rintro e wk1 ⟨rfl,qn⟩)
 have m1:=nw_trans m0 qn
 replace ht:=ht.nw qn
 refine hK1 _ _ (hSof.out _ m1) ?_
 clear hK1 K1 hcon qn hS m0
 have hS:=hSof.out _ m1
 refine ord_actL _ rfl (fun K1 hK1=>?_)
 have hcon:Hid _:=c_labB t.df wk1 ht.l hr.rgt
 unfold labV at hcon
 go_wp2_with (go_at_call 71;refine Calls.mono hcon.out ?_;rintro e wk2 ⟨u,rfl,hu,qn⟩)
 have m2:=nw_trans m1 qn
 replace ht:=ht.nw qn
 obtain ⟨ua,uc,hu0,-⟩:=hu.form
 subst hu0
 refine hK1 _ _ (hSof.out _ m2) ?_
 clear hK1 K1 hcon qn hS m1
 have hS:=hSof.out _ m2
 refine ord_actL _ rfl (fun K1 hK1=>?_)
 have hcon:Hid _:=c_txt ua ((labB t.df t.cats).length) uc wk2
 go_wp2_with (go_at_call 70;refine Calls.mono hcon.out ?_;rintro e wk3 ⟨rfl,qn⟩)
 have m3:=nw_trans m2 qn
 replace ht:=ht.nw qn
 replace hu:=hu.nw qn
 refine hK1 _ _ (hSof.out _ m3) ?_
 clear hK1 K1 hcon qn hS m2
 have hS:=hSof.out _ m3
 refine ord_actL _ rfl (fun K1 hK1=>?_)
 have hcon:Hid _:=c_cnt t.quota hq0 hq1 wk3
 go_wp2_with (go_at_call 69;refine Calls.mono hcon.out ?_;rintro e wk4 ⟨rfl,qn⟩)
 have m4:=nw_trans m3 qn
 replace ht:=ht.nw qn
 replace hu:=hu.nw qn
 refine hK1 _ _ (hSof.out _ m4) ?_
 clear hK1 K1 hcon qn hS m3
 have hS:=hSof.out _ m4
 refine ord_tail ?_
 simp only [List.drop_succ_cons,List.drop_zero]
 have hfx:FldX (fun b=>b < wk4.heap.size) wk4 [nF t.id,nF t.kind,bF (labB t.df t.cats),nF t.quota] [.int .u64 t.id,.slice none 0 0,.int .u64 t.kind,.slice none 0 0,.int .u64 0,.slice ua ((labB t.df t.cats).length) uc,.int .u64 t.quota,.slice none 0 0]:=by
  have:=(fldx_num (fldx_bytes (fldx_num (fldx_num (fldx_zero _ _) t.id hi0 (by omega)) t.kind hk0 (by omega)) ua ((labB t.df t.cats).length) uc (labB t.df t.cats) (bsl_top hu) (by first | (have h9:=hlb.out;omega) | omega)) t.quota hq0 (by omega))
  simpa using this
 have hown:(wk4.alloc (.cells #[.int .u64 t.id,.slice none 0 0,.int .u64 t.kind,.slice none 0 0,.int .u64 0,.slice ua ((labB t.df t.cats).length) uc,.int .u64 t.quota,.slice none 0 0] 74)).ownsRow wk4.heap.size 74 2 (.slice (some ⟨wk4.heap.size,0,none⟩) 4 4) 4 [.int .u64 t.id,.slice none 0 0,.int .u64 t.kind,.slice none 0 0,.int .u64 0,.slice ua ((labB t.df t.cats).length) uc,.int .u64 t.quota,.slice none 0 0]:=⟨rfl,.inr ⟨wk4.heap.size,4,#[.int .u64 t.id,.slice none 0 0,.int .u64 t.kind,.slice none 0 0,.int .u64 0,.slice ua ((labB t.df t.cats).length) uc,.int .u64 t.quota,.slice none 0 0],rfl,Nat.le_refl _,heap_alloc_new wk4 _,Nat.le_refl _,by decide,rfl,rfl⟩⟩
 have hfa:Hid (FieldsAt (wk4.alloc (.cells #[.int .u64 t.id,.slice none 0 0,.int .u64 t.kind,.slice none 0 0,.int .u64 0,.slice ua ((labB t.df t.cats).length) uc,.int .u64 t.quota,.slice none 0 0] 74)).heap.size (wk4.alloc (.cells #[.int .u64 t.id,.slice none 0 0,.int .u64 t.kind,.slice none 0 0,.int .u64 0,.slice ua ((labB t.df t.cats).length) uc,.int .u64 t.quota,.slice none 0 0] 74)) (.slice (some ⟨wk4.heap.size,0,none⟩) 4 4) [nF t.id,nF t.kind,bF (labB t.df t.cats),nF t.quota]):=fieldsAt_of_own hown (hfx.keep (fun b hb=>⟨hb,Below.heap_alloc wk4 _ _ hb⟩)) (fun b hb=>by have h9:b < wk4.heap.size:=hb;simp;omega)
 have nfin:Hid (Nw w (wk4.alloc (.cells #[.int .u64 t.id,.slice none 0 0,.int .u64 t.kind,.slice none 0 0,.int .u64 0,.slice ua ((labB t.df t.cats).length) uc,.int .u64 t.quota,.slice none 0 0] 74))):=nw_alloc (nw_trans nW m4) _
 clear hfx hown hSof hS
 go_wp2
 go_ret
 exact ⟨_,rfl,flds_lit hfa.out (by decide),nfin.out⟩

set_option maxHeartbeats 3200000 in
theorem c_part1 {X:Nat→Prop} {t:Th} {uL uC uK uD:Value} (w:World) (h:ThAt X w t uL uC uK uD) (hr:RightT t) (hw:WfT t) (hk:t.kind = 1) :
  Calls Try.prog 45 #[thV t uL uC uK uD] w fun e w'=>∃ v,e = .returned v∧FldS w'.heap.size w' v (partF t)∧Nw w w':=by
 have hpf:partF t = [nF t.next,bF (pairB 2 t.links)]:=by
  unfold partF;rw [hk];rfl
 rw [hpf]
 have bk1:(t.kind == 1) = true:=by simp [hk]
 have hd:=(kd1 hk).1 hr.parts
 have x0:0 ≤ t.next:=hd.next.1
 have x1:t.next < 9223372036854775808:=by have:=hd.next.2;omega
 have hlb:Hid _:=pairB_length 2 t.links
 have hl6:=hd.len
 replace hk:Hid _:=hk
 obtain ⟨da,dc,rfl,hd1,hd2⟩:=h.d.form
 obtain ⟨W,hW⟩:∃ W,Hid (W = w.alloc (.cells (thC t uL uC uK (.slice da t.data.length dc)).toArray 34)):=⟨_,rfl⟩
 have nW:Nw w W:=by rw [hW.out];exact nw_alloc (nw_refl w) _
 have hA:W.heap[w.heap.size]? = some (.cells (thC t uL uC uK (.slice da t.data.length dc)).toArray 34 (0,0)):=by rw [hW.out];exact heap_alloc_new w _
 have ht:=h.nw nW
 clear h
 have a1:W.cell? ⟨w.heap.size,1,none⟩ = some (.int .i64 t.kind):=cell_blk hA rfl
 go_enter Try.func45,Try.ntmps45
 go_upto_region 1 with (refine wpList_box_agg rfl 34 _ rfl (thV t uL uC uK (.slice da t.data.length dc)) _ rfl rfl ?_)
 rw [← hW.out]
 clear hW
 go_upto_region 3 with fail
 clear a1
 have hSof:∀ w',Nw W w'→(fun w':World=>Nw W w'∧w'.heap[w.heap.size]? = some (.cells (thC t uL uC uK (.slice da t.data.length dc)).toArray 34 (0,0))) w':=fun w' hw=>⟨hw,(hw.block _ (heap_lt hA) (fun h=>h)).trans hA⟩
 have hW0:Nw W W.drew:=Fr.drew (Fr.refl _ W)
 have hS:=hSof _ hW0
 replace ht:=ht.nw hW0
 replace hSof:Hid _:=hSof
 refine wp_region_ord [] 7 [(0,true),(3,true),(1,true),(4,true),(2,false),(5,false),(6,false)] (fun w':World=>Nw W w'∧w'.heap[w.heap.size]? = some (.cells (thC t uL uC uK (.slice da t.data.length dc)).toArray 34 (0,0))) (by kernel_rfl) (by kernel_rfl) ?_
 refine ord_quietL _ ?_ rfl hS rfl ?_ ?_
 rotate_left
 ·rintro w' ⟨hn,rhA⟩;go_simp;rfl
 simp only [pL,List.set]
 refine ord_quietL _ ?_ rfl hS rfl ?_ ?_
 rotate_left
 ·rintro w' ⟨hn,rhA⟩;go_simp;rfl
 simp only [pL,List.set]
 refine ord_quietL _ ?_ rfl hS rfl ?_ ?_
 rotate_left
 ·rintro w' ⟨hn,rhA⟩;have g0:w'.cell? ⟨w.heap.size,7,none⟩ = some (.int .i64 t.next):=cell_blk rhA rfl;go_simp;rfl
 simp only [pL,List.set]
 refine ord_quietL _ ?_ rfl hS rfl ?_ ?_
 rotate_left
 ·rintro w' ⟨hn,rhA⟩;have g0:w'.cell? ⟨w.heap.size,8,none⟩ = some (uK):=cell_blk rhA rfl;go_simp;rfl
 simp only [pL,List.set]
 refine ord_actL _ rfl (fun K1 hK1=>?_)
 have hcon:Hid _:=c_cnt t.next x0 x1 W.drew
 go_wp2_with (go_at_call 69;refine Calls.mono hcon.out ?_;rintro e wk0 ⟨rfl,qn⟩)
 have m0:=nw_trans hW0 qn
 replace ht:=ht.nw qn
 refine hK1 _ _ (hSof.out _ m0) ?_
 clear hK1 K1 hcon qn hS hW0
 have hS:=hSof.out _ m0
 refine ord_actL _ rfl (fun K1 hK1=>?_)
 have hcon:Hid _:=c_lnkB wk0 ht.k hd.lk hd.len
 go_wp2_with (go_at_call 72;refine Calls.mono hcon.out ?_;rintro e wk1 ⟨u,rfl,hu,qn⟩)
 have m1:=nw_trans m0 qn
 replace ht:=ht.nw qn
 obtain ⟨ua,uc,hu0,-⟩:=hu.form
 subst hu0
 refine hK1 _ _ (hSof.out _ m1) ?_
 clear hK1 K1 hcon qn hS m0
 have hS:=hSof.out _ m1
 refine ord_actL _ rfl (fun K1 hK1=>?_)
 have hcon:Hid _:=c_txt ua ((pairB 2 t.links).length) uc wk1
 go_wp2_with (go_at_call 70;refine Calls.mono hcon.out ?_;rintro e wk2 ⟨rfl,qn⟩)
 have m2:=nw_trans m1 qn
 replace ht:=ht.nw qn
 replace hu:=hu.nw qn
 refine hK1 _ _ (hSof.out _ m2) ?_
 clear hK1 K1 hcon qn hS m1
 have hS:=hSof.out _ m2
 refine ord_tail ?_
 simp only [List.drop_succ_cons,List.drop_zero]
 have hfx:FldX (fun b=>b < wk2.heap.size) wk2 [nF t.next,bF (pairB 2 t.links)] [.int .u64 t.next,.slice none 0 0,.int .u64 0,.slice ua ((pairB 2 t.links).length) uc]:=by
  have:=(fldx_bytes (fldx_num (fldx_zero _ _) t.next x0 (by omega)) ua ((pairB 2 t.links).length) uc (pairB 2 t.links) (bsl_top hu) (by first | (have h9:=hlb.out;omega) | omega))
  simpa using this
 have hown:(wk2.alloc (.cells #[.int .u64 t.next,.slice none 0 0,.int .u64 0,.slice ua ((pairB 2 t.links).length) uc] 74)).ownsRow wk2.heap.size 74 2 (.slice (some ⟨wk2.heap.size,0,none⟩) 2 2) 2 [.int .u64 t.next,.slice none 0 0,.int .u64 0,.slice ua ((pairB 2 t.links).length) uc]:=⟨rfl,.inr ⟨wk2.heap.size,2,#[.int .u64 t.next,.slice none 0 0,.int .u64 0,.slice ua ((pairB 2 t.links).length) uc],rfl,Nat.le_refl _,heap_alloc_new wk2 _,Nat.le_refl _,by decide,rfl,rfl⟩⟩
 have hfa:Hid (FieldsAt (wk2.alloc (.cells #[.int .u64 t.next,.slice none 0 0,.int .u64 0,.slice ua ((pairB 2 t.links).length) uc] 74)).heap.size (wk2.alloc (.cells #[.int .u64 t.next,.slice none 0 0,.int .u64 0,.slice ua ((pairB 2 t.links).length) uc] 74)) (.slice (some ⟨wk2.heap.size,0,none⟩) 2 2) [nF t.next,bF (pairB 2 t.links)]):=fieldsAt_of_own hown (hfx.keep (fun b hb=>⟨hb,Below.heap_alloc wk2 _ _ hb⟩)) (fun b hb=>by have h9:b < wk2.heap.size:=hb;simp;omega)
 have nfin:Hid (Nw w (wk2.alloc (.cells #[.int .u64 t.next,.slice none 0 0,.int .u64 0,.slice ua ((pairB 2 t.links).length) uc] 74))):=nw_alloc (nw_trans nW m2) _
 clear hfx hown hSof hS
 go_wp2
 go_ret
 exact ⟨_,rfl,flds_lit hfa.out (by decide),nfin.out⟩

set_option maxHeartbeats 3200000 in
theorem c_part2 {X:Nat→Prop} {t:Th} {uL uC uK uD:Value} (w:World) (h:ThAt X w t uL uC uK uD) (hr:RightT t) (hw:WfT t) (hk:t.kind = 2) :
  Calls Try.prog 45 #[thV t uL uC uK uD] w fun e w'=>∃ v,e = .returned v∧FldS w'.heap.size w' v (partF t)∧Nw w w':=by
 have hpf:partF t = [bF (labB t.cdf t.ccats),nF t.r0,nF t.r1,nF t.r2,nF t.r3,nF t.minted,nF t.boot,nF (if t.halted then 1 else 0)]:=by
  unfold partF;rw [hk];rfl
 rw [hpf]
 obtain ⟨tv,htv⟩:∃ tv:Int,Hid (tv = if t.halted then 1 else 0):=⟨_,rfl⟩
 rw [← htv.out]
 have tv0:0 ≤ tv:=by rw [htv.out];cases t.halted <;> decide
 have tv1:tv ≤ 1:=by rw [htv.out];cases t.halted <;> decide
 clear hpf
 have bk1:(t.kind == 1) = false:=by simp;omega
 have bk2:(t.kind == 2) = true:=by simp [hk]
 have hd:=(kd2 hk).1 hr.parts
 have m0:0 ≤ t.minted:=hd.minted.1
 have m1b:t.minted < 9223372036854775808:=by have:=hd.minted.2;omega
 have b0:0 ≤ t.boot:=hd.boot.1
 have b1:t.boot < 9223372036854775808:=by have:=hd.boot.2;omega
 have hlb:Hid _:=labB_length t.cdf t.ccats
 have hl6:=hd.rgt.len
 have y0:=hw.r0.2
 have y1:=hw.r1.2
 have y2:=hw.r2.2
 have y3:=hw.r3.2
 replace hk:Hid _:=hk
 obtain ⟨da,dc,rfl,hd1,hd2⟩:=h.d.form
 obtain ⟨W,hW⟩:∃ W,Hid (W = w.alloc (.cells (thC t uL uC uK (.slice da t.data.length dc)).toArray 34)):=⟨_,rfl⟩
 have nW:Nw w W:=by rw [hW.out];exact nw_alloc (nw_refl w) _
 have hA:W.heap[w.heap.size]? = some (.cells (thC t uL uC uK (.slice da t.data.length dc)).toArray 34 (0,0)):=by rw [hW.out];exact heap_alloc_new w _
 have ht:=h.nw nW
 clear h
 have a1:W.cell? ⟨w.heap.size,1,none⟩ = some (.int .i64 t.kind):=cell_blk hA rfl
 go_enter Try.func45,Try.ntmps45
 go_upto_region 1 with (refine wpList_box_agg rfl 34 _ rfl (thV t uL uC uK (.slice da t.data.length dc)) _ rfl rfl ?_)
 rw [← hW.out]
 clear hW
 go_upto_region 5 with fail
 clear a1
 have hSof:∀ w',Nw W w'→(fun w':World=>Nw W w'∧w'.heap[w.heap.size]? = some (.cells (thC t uL uC uK (.slice da t.data.length dc)).toArray 34 (0,0))) w':=fun w' hw=>⟨hw,(hw.block _ (heap_lt hA) (fun h=>h)).trans hA⟩
 have hW0:Nw W W.drew:=Fr.drew (Fr.refl _ W)
 have hS:=hSof _ hW0
 replace ht:=ht.nw hW0
 replace hSof:Hid _:=hSof
 refine wp_region_ord [] 29 [(0,true),(4,true),(8,true),(12,true),(16,true),(20,true),(23,true),(26,true),(1,true),(5,true),(9,true),(13,true),(17,true),(21,true),(24,true),(27,true),(6,true),(10,true),(14,true),(18,true),(2,false),(3,false),(7,false),(11,false),(15,false),(19,false),(22,false),(25,false),(28,false)] (fun w':World=>Nw W w'∧w'.heap[w.heap.size]? = some (.cells (thC t uL uC uK (.slice da t.data.length dc)).toArray 34 (0,0))) (by kernel_rfl) (by kernel_rfl) ?_
 refine ord_quietL _ ?_ rfl hS rfl ?_ ?_
 rotate_left
 ·rintro w' ⟨hn,rhA⟩;go_simp;rfl
 simp only [pL,List.set]
 refine ord_quietL _ ?_ rfl hS rfl ?_ ?_
 rotate_left
 ·rintro w' ⟨hn,rhA⟩;go_simp;rfl
 simp only [pL,List.set]
 refine ord_quietL _ ?_ rfl hS rfl ?_ ?_
 rotate_left
 ·rintro w' ⟨hn,rhA⟩;go_simp;rfl
 simp only [pL,List.set]
 refine ord_quietL _ ?_ rfl hS rfl ?_ ?_
 rotate_left
 ·rintro w' ⟨hn,rhA⟩;go_simp;rfl
 simp only [pL,List.set]
 refine ord_quietL _ ?_ rfl hS rfl ?_ ?_
 rotate_left
 ·rintro w' ⟨hn,rhA⟩;go_simp;rfl
 simp only [pL,List.set]
 refine ord_quietL _ ?_ rfl hS rfl ?_ ?_
 rotate_left
 ·rintro w' ⟨hn,rhA⟩;go_simp;rfl
 simp only [pL,List.set]
 refine ord_quietL _ ?_ rfl hS rfl ?_ ?_
 rotate_left
 ·rintro w' ⟨hn,rhA⟩;go_simp;rfl
 simp only [pL,List.set]
 refine ord_quietL _ ?_ rfl hS rfl ?_ ?_
 rotate_left
 ·rintro w' ⟨hn,rhA⟩;go_simp;rfl
 simp only [pL,List.set]
 refine ord_quietL _ ?_ rfl hS rfl ?_ ?_
 rotate_left
 ·rintro w' ⟨hn,rhA⟩;have g0:w'.cell? ⟨w.heap.size,4,none⟩ = some (.int .i64 t.cdf):=cell_blk rhA rfl;have g1:w'.cell? ⟨w.heap.size,5,none⟩ = some (uC):=cell_blk rhA rfl;go_simp;rfl
 simp only [pL,List.set]
 refine ord_quietL _ ?_ rfl hS rfl ?_ ?_
 rotate_left
 ·rintro w' ⟨hn,rhA⟩;go_simp;rfl
 simp only [pL,List.set]
 refine ord_quietL _ ?_ rfl hS rfl ?_ ?_
 rotate_left
 ·rintro w' ⟨hn,rhA⟩;go_simp;rfl
 simp only [pL,List.set]
 refine ord_quietL _ ?_ rfl hS rfl ?_ ?_
 rotate_left
 ·rintro w' ⟨hn,rhA⟩;go_simp;rfl
 simp only [pL,List.set]
 refine ord_quietL _ ?_ rfl hS rfl ?_ ?_
 rotate_left
 ·rintro w' ⟨hn,rhA⟩;go_simp;rfl
 simp only [pL,List.set]
 refine ord_quietL _ ?_ rfl hS rfl ?_ ?_
 rotate_left
 ·rintro w' ⟨hn,rhA⟩;have g0:w'.cell? ⟨w.heap.size,14,none⟩ = some (.int .i64 t.minted):=cell_blk rhA rfl;go_simp;rfl
 simp only [pL,List.set]
 refine ord_quietL _ ?_ rfl hS rfl ?_ ?_
 rotate_left
 ·rintro w' ⟨hn,rhA⟩;have g0:w'.cell? ⟨w.heap.size,15,none⟩ = some (.int .i64 t.boot):=cell_blk rhA rfl;go_simp;rfl
 simp only [pL,List.set]
 refine ord_quietL _ ?_ rfl hS rfl ?_ ?_
 rotate_left
 ·rintro w' ⟨hn,rhA⟩;have g0:w'.cell? ⟨w.heap.size,16,none⟩ = some (.bool t.halted):=cell_blk rhA rfl;go_simp;rfl
 simp only [pL,List.set]
 refine ord_quietL _ ?_ rfl hS rfl ?_ ?_
 rotate_left
 ·rintro w' ⟨hn,rhA⟩;have g0:w'.cell? ⟨w.heap.size,10,none⟩ = some (.int .u64 t.r0):=cell_blk rhA rfl;go_simp;rfl
 simp only [pL,List.set]
 refine ord_quietL _ ?_ rfl hS rfl ?_ ?_
 rotate_left
 ·rintro w' ⟨hn,rhA⟩;have g0:w'.cell? ⟨w.heap.size,11,none⟩ = some (.int .u64 t.r1):=cell_blk rhA rfl;go_simp;rfl
 simp only [pL,List.set]
 refine ord_quietL _ ?_ rfl hS rfl ?_ ?_
 rotate_left
 ·rintro w' ⟨hn,rhA⟩;have g0:w'.cell? ⟨w.heap.size,12,none⟩ = some (.int .u64 t.r2):=cell_blk rhA rfl;go_simp;rfl
 simp only [pL,List.set]
 refine ord_quietL _ ?_ rfl hS rfl ?_ ?_
 rotate_left
 ·rintro w' ⟨hn,rhA⟩;have g0:w'.cell? ⟨w.heap.size,13,none⟩ = some (.int .u64 t.r3):=cell_blk rhA rfl;go_simp;rfl
 simp only [pL,List.set]
 refine ord_actL _ rfl (fun K1 hK1=>?_)
 have hcon:Hid _:=c_labB t.cdf W.drew ht.c hd.rgt
 unfold labV at hcon
 go_wp2_with (go_at_call 71;refine Calls.mono hcon.out ?_;rintro e wk0 ⟨u,rfl,hu,qn⟩)
 have m0:=nw_trans hW0 qn
 replace ht:=ht.nw qn
 obtain ⟨ua,uc,hu0,-⟩:=hu.form
 subst hu0
 refine hK1 _ _ (hSof.out _ m0) ?_
 clear hK1 K1 hcon qn hS hW0
 have hS:=hSof.out _ m0
 refine ord_actL _ rfl (fun K1 hK1=>?_)
 have hcon:Hid _:=c_txt ua ((labB t.cdf t.ccats).length) uc wk0
 go_wp2_with (go_at_call 70;refine Calls.mono hcon.out ?_;rintro e wk1 ⟨rfl,qn⟩)
 have m1:=nw_trans m0 qn
 replace ht:=ht.nw qn
 replace hu:=hu.nw qn
 refine hK1 _ _ (hSof.out _ m1) ?_
 clear hK1 K1 hcon qn hS m0
 have hS:=hSof.out _ m1
 refine ord_actL _ rfl (fun K1 hK1=>?_)
 have hcon:Hid _:=c_num t.r0 wk1
 go_wp2_with (go_at_call 68;refine Calls.mono hcon.out ?_;rintro e wk2 ⟨rfl,qn⟩)
 have m2:=nw_trans m1 qn
 replace ht:=ht.nw qn
 replace hu:=hu.nw qn
 refine hK1 _ _ (hSof.out _ m2) ?_
 clear hK1 K1 hcon qn hS m1
 have hS:=hSof.out _ m2
 refine ord_actL _ rfl (fun K1 hK1=>?_)
 have hcon:Hid _:=c_num t.r1 wk2
 go_wp2_with (go_at_call 68;refine Calls.mono hcon.out ?_;rintro e wk3 ⟨rfl,qn⟩)
 have m3:=nw_trans m2 qn
 replace ht:=ht.nw qn
 replace hu:=hu.nw qn
 refine hK1 _ _ (hSof.out _ m3) ?_
 clear hK1 K1 hcon qn hS m2
 have hS:=hSof.out _ m3
 refine ord_actL _ rfl (fun K1 hK1=>?_)
 have hcon:Hid _:=c_num t.r2 wk3
 go_wp2_with (go_at_call 68;refine Calls.mono hcon.out ?_;rintro e wk4 ⟨rfl,qn⟩)
 have m4:=nw_trans m3 qn
 replace ht:=ht.nw qn
 replace hu:=hu.nw qn
 refine hK1 _ _ (hSof.out _ m4) ?_
 clear hK1 K1 hcon qn hS m3
 have hS:=hSof.out _ m4
 refine ord_actL _ rfl (fun K1 hK1=>?_)
 have hcon:Hid _:=c_num t.r3 wk4
 go_wp2_with (go_at_call 68;refine Calls.mono hcon.out ?_;rintro e wk5 ⟨rfl,qn⟩)
 have m5:=nw_trans m4 qn
 replace ht:=ht.nw qn
 replace hu:=hu.nw qn
 refine hK1 _ _ (hSof.out _ m5) ?_
 clear hK1 K1 hcon qn hS m4
 have hS:=hSof.out _ m5
 refine ord_actL _ rfl (fun K1 hK1=>?_)
 have hcon:Hid _:=c_cnt t.minted m0 m1b wk5
 go_wp2_with (go_at_call 69;refine Calls.mono hcon.out ?_;rintro e wk6 ⟨rfl,qn⟩)
 have m6:=nw_trans m5 qn
 replace ht:=ht.nw qn
 replace hu:=hu.nw qn
 refine hK1 _ _ (hSof.out _ m6) ?_
 clear hK1 K1 hcon qn hS m5
 have hS:=hSof.out _ m6
 refine ord_actL _ rfl (fun K1 hK1=>?_)
 have hcon:Hid _:=c_cnt t.boot b0 b1 wk6
 go_wp2_with (go_at_call 69;refine Calls.mono hcon.out ?_;rintro e wk7 ⟨rfl,qn⟩)
 have m7:=nw_trans m6 qn
 replace ht:=ht.nw qn
 replace hu:=hu.nw qn
 refine hK1 _ _ (hSof.out _ m7) ?_
 clear hK1 K1 hcon qn hS m6
 have hS:=hSof.out _ m7
 refine ord_actL _ rfl (fun K1 hK1=>?_)
 have hcon:Hid _:=c_truthV t.halted tv htv.out wk7
 go_wp2_with (go_at_call 73;refine Calls.mono hcon.out ?_;rintro e wk8 ⟨rfl,qn⟩)
 have m8:=nw_trans m7 qn
 replace ht:=ht.nw qn
 replace hu:=hu.nw qn
 refine hK1 _ _ (hSof.out _ m8) ?_
 clear hK1 K1 hcon qn hS m7
 have hS:=hSof.out _ m8
 refine ord_tail ?_
 simp only [List.drop_succ_cons,List.drop_zero]
 have hfx:FldX (fun b=>b < wk8.heap.size) wk8 [bF (labB t.cdf t.ccats),nF t.r0,nF t.r1,nF t.r2,nF t.r3,nF t.minted,nF t.boot,nF tv] [.int .u64 0,.slice ua ((labB t.cdf t.ccats).length) uc,.int .u64 t.r0,.slice none 0 0,.int .u64 t.r1,.slice none 0 0,.int .u64 t.r2,.slice none 0 0,.int .u64 t.r3,.slice none 0 0,.int .u64 t.minted,.slice none 0 0,.int .u64 t.boot,.slice none 0 0,.int .u64 tv,.slice none 0 0]:=by
  have:=(fldx_num (fldx_num (fldx_num (fldx_num (fldx_num (fldx_num (fldx_num (fldx_bytes (fldx_zero _ _) ua ((labB t.cdf t.ccats).length) uc (labB t.cdf t.ccats) (bsl_top hu) (by first | (have h9:=hlb.out;omega) | omega)) t.r0 hw.r0.1 (by omega)) t.r1 hw.r1.1 (by omega)) t.r2 hw.r2.1 (by omega)) t.r3 hw.r3.1 (by omega)) t.minted m0 (by omega)) t.boot b0 (by omega)) tv tv0 (by omega))
  simpa using this
 have hown:(wk8.alloc (.cells #[.int .u64 0,.slice ua ((labB t.cdf t.ccats).length) uc,.int .u64 t.r0,.slice none 0 0,.int .u64 t.r1,.slice none 0 0,.int .u64 t.r2,.slice none 0 0,.int .u64 t.r3,.slice none 0 0,.int .u64 t.minted,.slice none 0 0,.int .u64 t.boot,.slice none 0 0,.int .u64 tv,.slice none 0 0] 74)).ownsRow wk8.heap.size 74 2 (.slice (some ⟨wk8.heap.size,0,none⟩) 8 8) 8 [.int .u64 0,.slice ua ((labB t.cdf t.ccats).length) uc,.int .u64 t.r0,.slice none 0 0,.int .u64 t.r1,.slice none 0 0,.int .u64 t.r2,.slice none 0 0,.int .u64 t.r3,.slice none 0 0,.int .u64 t.minted,.slice none 0 0,.int .u64 t.boot,.slice none 0 0,.int .u64 tv,.slice none 0 0]:=⟨rfl,.inr ⟨wk8.heap.size,8,#[.int .u64 0,.slice ua ((labB t.cdf t.ccats).length) uc,.int .u64 t.r0,.slice none 0 0,.int .u64 t.r1,.slice none 0 0,.int .u64 t.r2,.slice none 0 0,.int .u64 t.r3,.slice none 0 0,.int .u64 t.minted,.slice none 0 0,.int .u64 t.boot,.slice none 0 0,.int .u64 tv,.slice none 0 0],rfl,Nat.le_refl _,heap_alloc_new wk8 _,Nat.le_refl _,by decide,rfl,rfl⟩⟩
 have hfa:Hid (FieldsAt (wk8.alloc (.cells #[.int .u64 0,.slice ua ((labB t.cdf t.ccats).length) uc,.int .u64 t.r0,.slice none 0 0,.int .u64 t.r1,.slice none 0 0,.int .u64 t.r2,.slice none 0 0,.int .u64 t.r3,.slice none 0 0,.int .u64 t.minted,.slice none 0 0,.int .u64 t.boot,.slice none 0 0,.int .u64 tv,.slice none 0 0] 74)).heap.size (wk8.alloc (.cells #[.int .u64 0,.slice ua ((labB t.cdf t.ccats).length) uc,.int .u64 t.r0,.slice none 0 0,.int .u64 t.r1,.slice none 0 0,.int .u64 t.r2,.slice none 0 0,.int .u64 t.r3,.slice none 0 0,.int .u64 t.minted,.slice none 0 0,.int .u64 t.boot,.slice none 0 0,.int .u64 tv,.slice none 0 0] 74)) (.slice (some ⟨wk8.heap.size,0,none⟩) 8 8) [bF (labB t.cdf t.ccats),nF t.r0,nF t.r1,nF t.r2,nF t.r3,nF t.minted,nF t.boot,nF tv]):=fieldsAt_of_own hown (hfx.keep (fun b hb=>⟨hb,Below.heap_alloc wk8 _ _ hb⟩)) (fun b hb=>by have h9:b < wk8.heap.size:=hb;simp;omega)
 have nfin:Hid (Nw w (wk8.alloc (.cells #[.int .u64 0,.slice ua ((labB t.cdf t.ccats).length) uc,.int .u64 t.r0,.slice none 0 0,.int .u64 t.r1,.slice none 0 0,.int .u64 t.r2,.slice none 0 0,.int .u64 t.r3,.slice none 0 0,.int .u64 t.minted,.slice none 0 0,.int .u64 t.boot,.slice none 0 0,.int .u64 tv,.slice none 0 0] 74))):=nw_alloc (nw_trans nW m8) _
 clear hfx hown hSof hS
 go_wp2
 go_ret
 exact ⟨_,rfl,flds_lit hfa.out (by decide),nfin.out⟩

set_option maxHeartbeats 3200000 in
theorem c_part3 {X:Nat→Prop} {t:Th} {uL uC uK uD:Value} (w:World) (h:ThAt X w t uL uC uK uD) (hr:RightT t) (hw:WfT t) (hk:t.kind = 3) :
  Calls Try.prog 45 #[thV t uL uC uK uD] w fun e w'=>∃ v,e = .returned v∧FldS w'.heap.size w' v (partF t)∧Nw w w':=by
 have hpf:partF t = [bF (labB t.cdf t.ccats),nF t.value]:=by
  unfold partF;rw [hk];rfl
 rw [hpf]
 have bk1:(t.kind == 1) = false:=by simp;omega
 have bk2:(t.kind == 2) = false:=by simp;omega
 have bk3:(t.kind == 3) = true:=by simp [hk]
 have hd:=(kd3 hk).1 hr.parts
 have hlb:Hid _:=labB_length t.cdf t.ccats
 have hl6:=hd.rgt.len
 have y0:=hw.value.2
 replace hk:Hid _:=hk
 obtain ⟨da,dc,rfl,hd1,hd2⟩:=h.d.form
 obtain ⟨W,hW⟩:∃ W,Hid (W = w.alloc (.cells (thC t uL uC uK (.slice da t.data.length dc)).toArray 34)):=⟨_,rfl⟩
 have nW:Nw w W:=by rw [hW.out];exact nw_alloc (nw_refl w) _
 have hA:W.heap[w.heap.size]? = some (.cells (thC t uL uC uK (.slice da t.data.length dc)).toArray 34 (0,0)):=by rw [hW.out];exact heap_alloc_new w _
 have ht:=h.nw nW
 clear h
 have a1:W.cell? ⟨w.heap.size,1,none⟩ = some (.int .i64 t.kind):=cell_blk hA rfl
 go_enter Try.func45,Try.ntmps45
 go_upto_region 1 with (refine wpList_box_agg rfl 34 _ rfl (thV t uL uC uK (.slice da t.data.length dc)) _ rfl rfl ?_)
 rw [← hW.out]
 clear hW
 go_upto_region 7 with fail
 clear a1
 have hSof:∀ w',Nw W w'→(fun w':World=>Nw W w'∧w'.heap[w.heap.size]? = some (.cells (thC t uL uC uK (.slice da t.data.length dc)).toArray 34 (0,0))) w':=fun w' hw=>⟨hw,(hw.block _ (heap_lt hA) (fun h=>h)).trans hA⟩
 have hW0:Nw W W.drew:=Fr.drew (Fr.refl _ W)
 have hS:=hSof _ hW0
 replace ht:=ht.nw hW0
 replace hSof:Hid _:=hSof
 refine wp_region_ord [] 7 [(0,true),(4,true),(1,true),(5,true),(2,false),(3,false),(6,false)] (fun w':World=>Nw W w'∧w'.heap[w.heap.size]? = some (.cells (thC t uL uC uK (.slice da t.data.length dc)).toArray 34 (0,0))) (by kernel_rfl) (by kernel_rfl) ?_
 refine ord_quietL _ ?_ rfl hS rfl ?_ ?_
 rotate_left
 ·rintro w' ⟨hn,rhA⟩;go_simp;rfl
 simp only [pL,List.set]
 refine ord_quietL _ ?_ rfl hS rfl ?_ ?_
 rotate_left
 ·rintro w' ⟨hn,rhA⟩;go_simp;rfl
 simp only [pL,List.set]
 refine ord_quietL _ ?_ rfl hS rfl ?_ ?_
 rotate_left
 ·rintro w' ⟨hn,rhA⟩;have g0:w'.cell? ⟨w.heap.size,4,none⟩ = some (.int .i64 t.cdf):=cell_blk rhA rfl;have g1:w'.cell? ⟨w.heap.size,5,none⟩ = some (uC):=cell_blk rhA rfl;go_simp;rfl
 simp only [pL,List.set]
 refine ord_quietL _ ?_ rfl hS rfl ?_ ?_
 rotate_left
 ·rintro w' ⟨hn,rhA⟩;have g0:w'.cell? ⟨w.heap.size,17,none⟩ = some (.int .u64 t.value):=cell_blk rhA rfl;go_simp;rfl
 simp only [pL,List.set]
 refine ord_actL _ rfl (fun K1 hK1=>?_)
 have hcon:Hid _:=c_labB t.cdf W.drew ht.c hd.rgt
 unfold labV at hcon
 go_wp2_with (go_at_call 71;refine Calls.mono hcon.out ?_;rintro e wk0 ⟨u,rfl,hu,qn⟩)
 have m0:=nw_trans hW0 qn
 replace ht:=ht.nw qn
 obtain ⟨ua,uc,hu0,-⟩:=hu.form
 subst hu0
 refine hK1 _ _ (hSof.out _ m0) ?_
 clear hK1 K1 hcon qn hS hW0
 have hS:=hSof.out _ m0
 refine ord_actL _ rfl (fun K1 hK1=>?_)
 have hcon:Hid _:=c_txt ua ((labB t.cdf t.ccats).length) uc wk0
 go_wp2_with (go_at_call 70;refine Calls.mono hcon.out ?_;rintro e wk1 ⟨rfl,qn⟩)
 have m1:=nw_trans m0 qn
 replace ht:=ht.nw qn
 replace hu:=hu.nw qn
 refine hK1 _ _ (hSof.out _ m1) ?_
 clear hK1 K1 hcon qn hS m0
 have hS:=hSof.out _ m1
 refine ord_actL _ rfl (fun K1 hK1=>?_)
 have hcon:Hid _:=c_num t.value wk1
 go_wp2_with (go_at_call 68;refine Calls.mono hcon.out ?_;rintro e wk2 ⟨rfl,qn⟩)
 have m2:=nw_trans m1 qn
 replace ht:=ht.nw qn
 replace hu:=hu.nw qn
 refine hK1 _ _ (hSof.out _ m2) ?_
 clear hK1 K1 hcon qn hS m1
 have hS:=hSof.out _ m2
 refine ord_tail ?_
 simp only [List.drop_succ_cons,List.drop_zero]
 have hfx:FldX (fun b=>b < wk2.heap.size) wk2 [bF (labB t.cdf t.ccats),nF t.value] [.int .u64 0,.slice ua ((labB t.cdf t.ccats).length) uc,.int .u64 t.value,.slice none 0 0]:=by
  have:=(fldx_num (fldx_bytes (fldx_zero _ _) ua ((labB t.cdf t.ccats).length) uc (labB t.cdf t.ccats) (bsl_top hu) (by first | (have h9:=hlb.out;omega) | omega)) t.value hw.value.1 (by omega))
  simpa using this
 have hown:(wk2.alloc (.cells #[.int .u64 0,.slice ua ((labB t.cdf t.ccats).length) uc,.int .u64 t.value,.slice none 0 0] 74)).ownsRow wk2.heap.size 74 2 (.slice (some ⟨wk2.heap.size,0,none⟩) 2 2) 2 [.int .u64 0,.slice ua ((labB t.cdf t.ccats).length) uc,.int .u64 t.value,.slice none 0 0]:=⟨rfl,.inr ⟨wk2.heap.size,2,#[.int .u64 0,.slice ua ((labB t.cdf t.ccats).length) uc,.int .u64 t.value,.slice none 0 0],rfl,Nat.le_refl _,heap_alloc_new wk2 _,Nat.le_refl _,by decide,rfl,rfl⟩⟩
 have hfa:Hid (FieldsAt (wk2.alloc (.cells #[.int .u64 0,.slice ua ((labB t.cdf t.ccats).length) uc,.int .u64 t.value,.slice none 0 0] 74)).heap.size (wk2.alloc (.cells #[.int .u64 0,.slice ua ((labB t.cdf t.ccats).length) uc,.int .u64 t.value,.slice none 0 0] 74)) (.slice (some ⟨wk2.heap.size,0,none⟩) 2 2) [bF (labB t.cdf t.ccats),nF t.value]):=fieldsAt_of_own hown (hfx.keep (fun b hb=>⟨hb,Below.heap_alloc wk2 _ _ hb⟩)) (fun b hb=>by have h9:b < wk2.heap.size:=hb;simp;omega)
 have nfin:Hid (Nw w (wk2.alloc (.cells #[.int .u64 0,.slice ua ((labB t.cdf t.ccats).length) uc,.int .u64 t.value,.slice none 0 0] 74))):=nw_alloc (nw_trans nW m2) _
 clear hfx hown hSof hS
 go_wp2
 go_ret
 exact ⟨_,rfl,flds_lit hfa.out (by decide),nfin.out⟩

set_option maxHeartbeats 3200000 in
theorem c_part4 {X:Nat→Prop} {t:Th} {uL uC uK uD:Value} (w:World) (h:ThAt X w t uL uC uK uD) (hr:RightT t) (hw:WfT t) (hk:t.kind = 4) :
  Calls Try.prog 45 #[thV t uL uC uK uD] w fun e w'=>∃ v,e = .returned v∧FldS w'.heap.size w' v (partF t)∧Nw w w':=by
 have hpf:partF t = [bF t.data]:=by
  unfold partF;rw [hk];rfl
 rw [hpf]
 have bk1:(t.kind == 1) = false:=by simp;omega
 have bk2:(t.kind == 2) = false:=by simp;omega
 have bk3:(t.kind == 3) = false:=by simp;omega
 have bk4:(t.kind == 4) = true:=by simp [hk]
 have hd:=(kd4 hk).1 hr.parts
 have hl6:=hd.hi
 replace hk:Hid _:=hk
 obtain ⟨da,dc,rfl,hd1,hd2⟩:=h.d.form
 obtain ⟨W,hW⟩:∃ W,Hid (W = w.alloc (.cells (thC t uL uC uK (.slice da t.data.length dc)).toArray 34)):=⟨_,rfl⟩
 have nW:Nw w W:=by rw [hW.out];exact nw_alloc (nw_refl w) _
 have hA:W.heap[w.heap.size]? = some (.cells (thC t uL uC uK (.slice da t.data.length dc)).toArray 34 (0,0)):=by rw [hW.out];exact heap_alloc_new w _
 have ht:=h.nw nW
 clear h
 have a1:W.cell? ⟨w.heap.size,1,none⟩ = some (.int .i64 t.kind):=cell_blk hA rfl
 go_enter Try.func45,Try.ntmps45
 go_upto_region 1 with (refine wpList_box_agg rfl 34 _ rfl (thV t uL uC uK (.slice da t.data.length dc)) _ rfl rfl ?_)
 rw [← hW.out]
 clear hW
 go_upto_region 9 with fail
 clear a1
 refine wp_region_list ?_
 simp only [List.toList_toArray,List.append_eq,List.cons_append,List.nil_append]
 refine nd_quiet ?_ rfl ?_ ?_
 rotate_left
 ·go_simp;rfl
 simp only [pL,List.set]
 refine nd_quiet ?_ rfl ?_ ?_
 rotate_left
 ·have g0:W.cell? ⟨w.heap.size,9,none⟩ = some (.slice da t.data.length dc):=cell_blk hA rfl;go_simp;rfl
 simp only [pL,List.set]
 have hcon:Hid _:=c_txt da (t.data.length) dc W
 refine nd_call _ _ rfl hcon.out ?_ ?_
 ·first | (go_simp;done) | (go_simp;rfl)
 rintro e wk0 ⟨rfl,qn⟩
 refine ⟨_,rfl,?_⟩
 simp only [pL,List.set]
 have m0:=qn
 replace ht:=ht.nw qn
 clear hcon qn
 have hfx:FldX (fun b=>b < wk0.heap.size) wk0 [bF t.data] [.int .u64 0,.slice da (t.data.length) dc]:=by
  have:=(fldx_bytes (fldx_zero _ _) da (t.data.length) dc t.data (bsl_top ht.d) (by first | (have h9:=hlb.out;omega) | omega))
  simpa using this
 have hown:(wk0.alloc (.cells #[.int .u64 0,.slice da (t.data.length) dc] 74)).ownsRow wk0.heap.size 74 2 (.slice (some ⟨wk0.heap.size,0,none⟩) 1 1) 1 [.int .u64 0,.slice da (t.data.length) dc]:=⟨rfl,.inr ⟨wk0.heap.size,1,#[.int .u64 0,.slice da (t.data.length) dc],rfl,Nat.le_refl _,heap_alloc_new wk0 _,Nat.le_refl _,by decide,rfl,rfl⟩⟩
 have hfa:Hid (FieldsAt (wk0.alloc (.cells #[.int .u64 0,.slice da (t.data.length) dc] 74)).heap.size (wk0.alloc (.cells #[.int .u64 0,.slice da (t.data.length) dc] 74)) (.slice (some ⟨wk0.heap.size,0,none⟩) 1 1) [bF t.data]):=fieldsAt_of_own hown (hfx.keep (fun b hb=>⟨hb,Below.heap_alloc wk0 _ _ hb⟩)) (fun b hb=>by have h9:b < wk0.heap.size:=hb;simp;omega)
 have nfin:Hid (Nw w (wk0.alloc (.cells #[.int .u64 0,.slice da (t.data.length) dc] 74))):=nw_alloc (nw_trans nW m0) _
 clear hfx hown
 go_wp2
 go_ret
 exact ⟨_,rfl,flds_lit hfa.out (by decide),nfin.out⟩

set_option maxHeartbeats 3200000 in
theorem c_part6 {X:Nat→Prop} {t:Th} {uL uC uK uD:Value} (w:World) (h:ThAt X w t uL uC uK uD) (hk:t.kind = 6) :
  Calls Try.prog 45 #[thV t uL uC uK uD] w fun e w'=>∃ v,e = .returned v∧FldS w'.heap.size w' v (partF t)∧Nw w w':=by
 have hpf:partF t = []:=by
  unfold partF;rw [hk];rfl
 rw [hpf]
 have bk1:(t.kind == 1) = false:=by simp;omega
 have bk2:(t.kind == 2) = false:=by simp;omega
 have bk3:(t.kind == 3) = false:=by simp;omega
 have bk4:(t.kind == 4) = false:=by simp;omega
 have bk5:(t.kind == 5) = false:=by simp;omega
 replace hk:Hid _:=hk
 obtain ⟨da,dc,rfl,hd1,hd2⟩:=h.d.form
 obtain ⟨W,hW⟩:∃ W,Hid (W = w.alloc (.cells (thC t uL uC uK (.slice da t.data.length dc)).toArray 34)):=⟨_,rfl⟩
 have nW:Nw w W:=by rw [hW.out];exact nw_alloc (nw_refl w) _
 have hA:W.heap[w.heap.size]? = some (.cells (thC t uL uC uK (.slice da t.data.length dc)).toArray 34 (0,0)):=by rw [hW.out];exact heap_alloc_new w _
 have ht:=h.nw nW
 clear h
 have a1:W.cell? ⟨w.heap.size,1,none⟩ = some (.int .i64 t.kind):=cell_blk hA rfl
 go_enter Try.func45,Try.ntmps45
 go_upto_region 1 with (refine wpList_box_agg rfl 34 _ rfl (thV t uL uC uK (.slice da t.data.length dc)) _ rfl rfl ?_)
 rw [← hW.out]
 clear hW
 go_wp2
 go_ret
 exact ⟨_,rfl,flds_nil _,nW⟩
end Go.Proofs.Ytghlilncdfiojaa
