/-
  ThW2, ThW3: in one text.
-/
import Derived.Laws.StructEq
import Derived.Test.YtgmfofngmfekbaaThGbS
import Derived.Test.YtgmfofngmfekbaaLabS
namespace Go.Proofs.Ytgmfofngmfekbaa
set_option linter.unusedVariables false
set_option linter.unusedSimpArgs false
set_option maxRecDepth 20000
open Go.RowKit

theorem run_neq_cs (x y:Cat) (w:World):(binOp .neq 91 (.agg #[.int .u64 x.1,.int .i64 x.2]) (.agg #[.int .u64 y.1,.int .i64 y.2])).run Try.prog w = .ok (.bool (!(x.1 == y.1 && x.2 == y.2))) w:=by
 simp [go_sem]
 by_cases h1:x.1 = y.1 <;> by_cases h2:x.2 = y.2 <;> simp [h1,h2]

set_option maxHeartbeats 1600000 in
theorem c_eqcs {X Y:Nat→Prop} {va vb:Value} {xa xb:List Cat} (w:World) (ha:CSl X w va xa) (hb:CSl Y w vb xb) :
  Calls Try.prog 77 #[va,vb] w (AnsP (xa = xb) w):=by
 obtain ⟨aa,ac,rfl,ha1,ha2⟩:=ha.form
 obtain ⟨ba,bc,rfl,hb1,hb2⟩:=hb.form
 go_enter Try.func77,Try.ntmps77
 by_cases hl:xa.length = xb.length
 ·have hlb:(((xa.length:Nat):Int) != ((xb.length:Nat):Int)) = false:=by simp [hl]
  have hl':xb.length ≤ xa.length:=by omega
  have hl'':xa.length ≤ xb.length:=by omega
  replace hl:Hid (xa.length = xb.length):=hl
  go_wp2
  clear hlb
  go_loopw [13] (fun kv wr=>∃ k:Nat,k ≤ xa.length∧kv = .int .i64 k∧Hid (xa.take k = xb.take k)∧Nw w wr) (fun kv _=>xa.length - (intOf kv).toNat)
  case atStart=>exact ⟨0,Nat.zero_le _,rfl,rfl,nw_refl _⟩
  case round =>
   obtain ⟨k,hk,rfl,ht,hw⟩:=hrel
   by_cases hlt:k < xa.length
   ·obtain ⟨q,off,rfl,_,d1,d2⟩:=(ha.nw hw).get k hlt
    obtain ⟨q',off',rfl,_,d3,d4⟩:=(hb.nw hw).get k (by omega)
    have hltb:k < xb.length:=by omega
    have hstep:Hid (xa[k] = xb[k]→xa.take (k + 1) = xb.take (k + 1)):=fun he=>take_eq_succ ht.out hlt hltb he
    have hbad:Hid (xa[k] ≠ xb[k]→xa ≠ xb):=fun he hx=>he (by subst hx;rfl)
    generalize xa[k] = x at *
    generalize xb[k] = y at *
    have hne:=run_neq_cs x y
    have D1:∀ z,(wr.drewN z).cell? ⟨q,off + k * 2,none⟩ = some (.int .u64 x.1):=fun z=>d1
    have D2:∀ z,(wr.drewN z).cell? ⟨q,off + k * 2 + 1,none⟩ = some (.int .i64 x.2):=fun z=>d2
    have D3:∀ z,(wr.drewN z).cell? ⟨q',off' + k * 2,none⟩ = some (.int .u64 y.1):=fun z=>d3
    have D4:∀ z,(wr.drewN z).cell? ⟨q',off' + k * 2 + 1,none⟩ = some (.int .i64 y.2):=fun z=>d4
    clear d1 d2 d3 d4
    by_cases hxy:x = y
    ·have hb2:(!(x.1 == y.1 && x.2 == y.2)) = false:=by simp [hxy]
     rw [hb2] at hne
     have ht':Hid (xa.take (k + 1) = xb.take (k + 1)):=hstep.out hxy
     clear hxy hstep hbad hb2
     go_wp2
     go_quiet (fail)
     go_wp2
     go_roundw
     case rel=>exact ⟨k + 1,by omega,by go_num,ht',nw_trans hw (nw_drewN wr _)⟩
     case measure=>simp [intOf];omega
    ·have hb2:(!(x.1 == y.1 && x.2 == y.2)) = true:=by
      by_cases h1:x.1 = y.1
      ·have h2:¬ x.2 = y.2:=fun h2=>hxy (Prod.ext h1 h2)
       simp [h1,h2]
      ·simp [h1]
     rw [hb2] at hne
     have hbad':Hid (xa ≠ xb):=hbad.out hxy
     clear hxy hstep hbad hb2
     go_wp2
     go_quiet (fail)
     go_wp2
     go_ret
     exact ans_no hbad'.out (nw_trans hw (nw_drewN wr _))
   ·have hfin:Hid (xa = xb):=by
     have h1:=ht.out
     have h2:=hl.out
     rw [List.take_of_length_le (by omega),List.take_of_length_le (by omega)] at h1
     exact h1
    clear ht
    go_wp2
    go_ret
    exact ans_yes hfin.out hw
 ·have hlb:(((xa.length:Nat):Int) != ((xb.length:Nat):Int)) = true:=by simp;omega
  have hno:Hid (xa ≠ xb):=fun h=>hl (by rw [h])
  clear hl
  go_wp2
  go_ret
  exact ans_no hno.out (nw_refl w)

theorem run_neq_ls (x y:Cat) (w:World):(binOp .neq 54 (.agg #[.int .u64 x.1,.int .i64 x.2]) (.agg #[.int .u64 y.1,.int .i64 y.2])).run Try.prog w = .ok (.bool (!(x.1 == y.1 && x.2 == y.2))) w:=by
 simp [go_sem]
 by_cases h1:x.1 = y.1 <;> by_cases h2:x.2 = y.2 <;> simp [h1,h2]

set_option maxHeartbeats 1600000 in
theorem c_eqls {X Y:Nat→Prop} {va vb:Value} {xa xb:List Cat} (w:World) (ha:CSl X w va xa) (hb:CSl Y w vb xb) :
  Calls Try.prog 78 #[va,vb] w (AnsP (xa = xb) w):=by
 obtain ⟨aa,ac,rfl,ha1,ha2⟩:=ha.form
 obtain ⟨ba,bc,rfl,hb1,hb2⟩:=hb.form
 go_enter Try.func78,Try.ntmps78
 by_cases hl:xa.length = xb.length
 ·have hlb:(((xa.length:Nat):Int) != ((xb.length:Nat):Int)) = false:=by simp [hl]
  have hl':xb.length ≤ xa.length:=by omega
  have hl'':xa.length ≤ xb.length:=by omega
  replace hl:Hid (xa.length = xb.length):=hl
  go_wp2
  clear hlb
  go_loopw [13] (fun kv wr=>∃ k:Nat,k ≤ xa.length∧kv = .int .i64 k∧Hid (xa.take k = xb.take k)∧Nw w wr) (fun kv _=>xa.length - (intOf kv).toNat)
  case atStart=>exact ⟨0,Nat.zero_le _,rfl,rfl,nw_refl _⟩
  case round =>
   obtain ⟨k,hk,rfl,ht,hw⟩:=hrel
   by_cases hlt:k < xa.length
   ·obtain ⟨q,off,rfl,_,d1,d2⟩:=(ha.nw hw).get k hlt
    obtain ⟨q',off',rfl,_,d3,d4⟩:=(hb.nw hw).get k (by omega)
    have hltb:k < xb.length:=by omega
    have hstep:Hid (xa[k] = xb[k]→xa.take (k + 1) = xb.take (k + 1)):=fun he=>take_eq_succ ht.out hlt hltb he
    have hbad:Hid (xa[k] ≠ xb[k]→xa ≠ xb):=fun he hx=>he (by subst hx;rfl)
    generalize xa[k] = x at *
    generalize xb[k] = y at *
    have hne:=run_neq_ls x y
    have D1:∀ z,(wr.drewN z).cell? ⟨q,off + k * 2,none⟩ = some (.int .u64 x.1):=fun z=>d1
    have D2:∀ z,(wr.drewN z).cell? ⟨q,off + k * 2 + 1,none⟩ = some (.int .i64 x.2):=fun z=>d2
    have D3:∀ z,(wr.drewN z).cell? ⟨q',off' + k * 2,none⟩ = some (.int .u64 y.1):=fun z=>d3
    have D4:∀ z,(wr.drewN z).cell? ⟨q',off' + k * 2 + 1,none⟩ = some (.int .i64 y.2):=fun z=>d4
    clear d1 d2 d3 d4
    by_cases hxy:x = y
    ·have hb2:(!(x.1 == y.1 && x.2 == y.2)) = false:=by simp [hxy]
     rw [hb2] at hne
     have ht':Hid (xa.take (k + 1) = xb.take (k + 1)):=hstep.out hxy
     clear hxy hstep hbad hb2
     go_wp2
     go_quiet (fail)
     go_wp2
     go_roundw
     case rel=>exact ⟨k + 1,by omega,by go_num,ht',nw_trans hw (nw_drewN wr _)⟩
     case measure=>simp [intOf];omega
    ·have hb2:(!(x.1 == y.1 && x.2 == y.2)) = true:=by
      by_cases h1:x.1 = y.1
      ·have h2:¬ x.2 = y.2:=fun h2=>hxy (Prod.ext h1 h2)
       simp [h1,h2]
      ·simp [h1]
     rw [hb2] at hne
     have hbad':Hid (xa ≠ xb):=hbad.out hxy
     clear hxy hstep hbad hb2
     go_wp2
     go_quiet (fail)
     go_wp2
     go_ret
     exact ans_no hbad'.out (nw_trans hw (nw_drewN wr _))
   ·have hfin:Hid (xa = xb):=by
     have h1:=ht.out
     have h2:=hl.out
     rw [List.take_of_length_le (by omega),List.take_of_length_le (by omega)] at h1
     exact h1
    clear ht
    go_wp2
    go_ret
    exact ans_yes hfin.out hw
 ·have hlb:(((xa.length:Nat):Int) != ((xb.length:Nat):Int)) = true:=by simp;omega
  have hno:Hid (xa ≠ xb):=fun h=>hl (by rw [h])
  clear hl
  go_wp2
  go_ret
  exact ans_no hno.out (nw_refl w)

set_option maxHeartbeats 1600000 in
theorem c_eqbs {X Y:Nat→Prop} {va vb:Value} {xa xb:List UInt8} (w:World) (ha:BSl X w va xa) (hb:BSl Y w vb xb) :
  Calls Try.prog 79 #[va,vb] w (AnsP (xa = xb) w):=by
 have r1:=run_string_sl (P:=Try.prog) 28 5 9 Try.underlying28 Try.underlying5 Try.underlying9 ha.sl
 have r2:=run_string_sl (P:=Try.prog) 28 5 9 Try.underlying28 Try.underlying5 Try.underlying9 hb.sl
 obtain ⟨aa,ac,rfl,ha1,ha2⟩:=ha.form
 obtain ⟨ba,bc,rfl,hb1,hb2⟩:=hb.form
 go_enter Try.func79,Try.ntmps79
 go_wp2
 go_ret
 refine ⟨_,rfl,?_,nw_refl w⟩
 simp [ByteArray.toList_mk]
end Go.Proofs.Ytgmfofngmfekbaa

namespace Go.Proofs.Ytgmfofngmfekbaa
set_option linter.unusedVariables false
set_option linter.unusedSimpArgs false
set_option maxRecDepth 20000
open Go.RowKit

section
variable {o:Oper} {a:Act}
theorem run_load_th {t:Th} {uL uC uK uD:Value} (x:Operand) (w:World) (ho:o.op = .load 34 x) (b:Nat) (hx:a.eval x = .pointer (some ⟨b,0,none⟩)) (hA:w.heap[b]? = some (.cells (thC t uL uC uK uD).toArray 34 (0,0))) :
  (execOp a.eval o).run Try.prog w = .ok (.value (thV t uL uC uK uD)) w:=run_load_quiet _ x w ho b 0 hx _ (range_all hA) Try.rowT Try.sizeT
theorem range_rg {t:Th} {uL uC uK uD:Value} {w:World} {b:Nat} (hA:w.heap[b]? = some (.cells (thC t uL uC uK uD).toArray 34 (0,0))):w.rangeAt b 10 (rgC t):=range_blk hA 10 _ (fun j v hj=>by rcases j with _ | _ | _ | _ | j <;> first | exact hj | (simp [rgC] at hj;done))
theorem range_sl {t:Th} {uL uC uK uD:Value} {w:World} {b:Nat} (hA:w.heap[b]? = some (.cells (thC t uL uC uK uD).toArray 34 (0,0))):w.rangeAt b 18 (slC t):=range_blk hA 18 _ (fun j v hj=>by rcases j with _ | _ | _ | _ | _ | _ | _ | _ | j <;> first | exact hj | (simp [slC] at hj;done))
theorem run_load_rg {t:Th} {uL uC uK uD:Value} (x:Operand) (w:World) (ho:o.op = .load 29 x) (b:Nat) (hx:a.eval x = .pointer (some ⟨b,10,none⟩)) (hA:w.heap[b]? = some (.cells (thC t uL uC uK uD).toArray 34 (0,0))) :
  (execOp a.eval o).run Try.prog w = .ok (.value (rgV t)) w:=run_load_quiet _ x w ho b 10 hx _ (range_rg hA) Try.row4 Try.size4
theorem run_load_sl {t:Th} {uL uC uK uD:Value} (x:Operand) (w:World) (ho:o.op = .load 32 x) (b:Nat) (hx:a.eval x = .pointer (some ⟨b,18,none⟩)) (hA:w.heap[b]? = some (.cells (thC t uL uC uK uD).toArray 34 (0,0))) :
  (execOp a.eval o).run Try.prog w = .ok (.value (slV t)) w:=run_load_quiet _ x w ho b 18 hx _ (range_sl hA) Try.row8 Try.size8
end

theorem fl_inj {t s:Th} (h:flC t = flC s) (h1:t.cats = s.cats) (h2:t.ccats = s.ccats) (h3:t.links = s.links) (h4:t.data = s.data):t = s:=by
 cases t;cases s
 simp only [flC,List.cons.injEq,Value.int.injEq,Value.bool.injEq,true_and,and_true] at h
 simp only at h1 h2 h3 h4
 simp_all
theorem same_of {t s:Th} (h:eFl t s = true) (h1:t.cats = s.cats) (h2:t.ccats = s.ccats) (h3:t.links = s.links) (h4:t.data = s.data):t = s:=fl_inj ((eFl_iff t s).1 h) h1 h2 h3 h4

set_option maxHeartbeats 3200000 in
theorem c_tsame {X Y:Nat→Prop} {t s:Th} {uL uC uK uD vL vC vK vD:Value} (w:World) (ht:ThAt X w t uL uC uK uD) (hs:ThAt Y w s vL vC vK vD) :
  Calls Try.prog 47 #[thV t uL uC uK uD,thV s vL vC vK vD] w (AnsP (t = s) w):=by
 obtain ⟨W,hW⟩:∃ W,Hid (W = (w.alloc (.cells (thC t uL uC uK uD).toArray 34)).alloc (.cells (thC s vL vC vK vD).toArray 34)):=⟨_,rfl⟩
 have nW:Nw w W:=by rw [hW.out];exact nw_alloc (nw_alloc (nw_refl w) _) _
 have hA:W.heap[w.heap.size]? = some (.cells (thC t uL uC uK uD).toArray 34 (0,0)):=by rw [hW.out];exact heap_alloc2_old w _ _
 have hB:W.heap[w.heap.size + 1]? = some (.cells (thC s vL vC vK vD).toArray 34 (0,0)):=by rw [hW.out];exact heap_alloc2_new w _ _
 replace ht:=ht.nw nW
 replace hs:=hs.nw nW
 go_enter Try.func47,Try.ntmps47
 go_upto_region 1 with (first | refine wpList_box_agg rfl 34 _ rfl (thV t uL uC uK uD) _ rfl rfl ?_ | (refine wpList_box_agg rfl 34 _ rfl (thV s vL vC vK vD) _ rfl rfl ?_;rw [← hW.out]))
 clear hW
 have hne0:=run_eq_flat t s
 have hgd:∀ w x y,(eqGuard .eql 97 x y (flV t) (flV s)).run Try.prog w = .ok () w:=fun w x y=>run_eqGuard_agg w .eql 97 x y _ _ (by kernel_rfl)
 cases hE:eFl t s with
 | true =>
  have hne:∀ w,(binOp .eql 97 (flV t) (flV s)).run Try.prog w = .ok (.bool true) w:=fun w=>by rw [hne0,hE]
  replace hE:Hid (eFl t s = true):=hE
  clear hne0
  have hSof:∀ w',Nw W w'→(fun w':World=>Nw W w'∧w'.heap[w.heap.size]? = some (.cells (thC t uL uC uK uD).toArray 34 (0,0))∧w'.heap[w.heap.size + 1]? = some (.cells (thC s vL vC vK vD).toArray 34 (0,0))) w':=fun w' hw=>⟨hw,(hw.block _ (heap_lt hA) (fun h=>h)).trans hA,(hw.block _ (heap_lt hB) (fun h=>h)).trans hB⟩
  have hW0:Nw W W.drew:=Fr.drew (Fr.refl _ W)
  have hS:=hSof _ hW0
  replace ht:=ht.nw hW0
  replace hs:=hs.nw hW0
  replace hSof:Hid _:=hSof
  refine wp_region_ord [] 37 [(0,true),(2,true),(1,false),(3,false),(4,true),(5,true),(6,true),(9,true),(7,true),(10,true),(8,true),(11,true),(12,false),(13,true),(14,true),(15,true),(18,true),(16,true),(19,true),(17,true),(20,true),(21,false),(22,true),(23,true),(24,true),(26,true),(25,true),(27,true),(28,false),(29,true),(30,true),(31,true),(33,true),(32,true),(34,true),(35,false),(36,true)] (fun w':World=>Nw W w'∧w'.heap[w.heap.size]? = some (.cells (thC t uL uC uK uD).toArray 34 (0,0))∧w'.heap[w.heap.size + 1]? = some (.cells (thC s vL vC vK vD).toArray 34 (0,0))) (by kernel_rfl) (by kernel_rfl) ?_
  refine ord_quietL _ ?_ rfl hS rfl ?_ ?_
  rotate_left
  ·rintro w' ⟨hn,rhA,rhB⟩;refine (run_load_th _ w' rfl (w.heap.size) rfl rhA).trans ?_;rfl
  simp only [pL,List.set]
  refine ord_quietL _ ?_ rfl hS rfl ?_ ?_
  rotate_left
  ·rintro w' ⟨hn,rhA,rhB⟩;refine (run_load_th _ w' rfl (w.heap.size + 1) rfl rhB).trans ?_;rfl
  simp only [pL,List.set]
  refine ord_actL _ rfl (fun K1 hK1=>?_)
  have hcon:Hid _:=c_flatOf t uL uC uK uD W.drew
  go_wp2_with (go_at_call 76;refine Calls.mono hcon.out ?_;rintro e wk0 ⟨rfl,qn⟩)
  have m0:=nw_trans hW0 qn
  replace ht:=ht.nw qn
  replace hs:=hs.nw qn
  refine hK1 _ _ (hSof.out _ m0) ?_
  clear hK1 K1 hcon qn hS hW0
  have hS:=hSof.out _ m0
  refine ord_actL _ rfl (fun K1 hK1=>?_)
  have hcon:Hid _:=c_flatOf s vL vC vK vD wk0
  go_wp2_with (go_at_call 76;refine Calls.mono hcon.out ?_;rintro e wk1 ⟨rfl,qn⟩)
  have m1:=nw_trans m0 qn
  replace ht:=ht.nw qn
  replace hs:=hs.nw qn
  refine hK1 _ _ (hSof.out _ m1) ?_
  clear hK1 K1 hcon qn hS m0
  have hS:=hSof.out _ m1
  refine ord_quietL _ ?_ rfl hS rfl ?_ ?_
  rotate_left
  ·rintro w' ⟨hn,rhA,rhB⟩;go_simp;rfl
  simp only [pL,List.set]
  refine ord_quietL _ ?_ rfl hS rfl ?_ ?_
  rotate_left
  ·rintro w' ⟨hn,rhA,rhB⟩;go_simp;rfl
  simp only [pL,List.set]
  refine ord_quietL _ ?_ rfl hS rfl ?_ ?_
  rotate_left
  ·rintro w' ⟨hn,rhA,rhB⟩;go_simp;rfl
  simp only [pL,List.set]
  refine ord_quietL _ ?_ rfl hS rfl ?_ ?_
  rotate_left
  ·rintro w' ⟨hn,rhA,rhB⟩;go_simp;rfl
  simp only [pL,List.set]
  refine ord_quietL _ ?_ rfl hS rfl ?_ ?_
  rotate_left
  ·rintro w' ⟨hn,rhA,rhB⟩;go_simp;rfl
  simp only [pL,List.set]
  refine ord_quietL _ ?_ rfl hS rfl ?_ ?_
  rotate_left
  ·rintro w' ⟨hn,rhA,rhB⟩;go_simp;rfl
  simp only [pL,List.set]
  refine ord_quietL _ ?_ rfl hS rfl ?_ ?_
  rotate_left
  ·rintro w' ⟨hn,rhA,rhB⟩;have g0:w'.cell? ⟨w.heap.size,3,none⟩ = some (uL):=cell_blk rhA rfl;go_simp;rfl
  simp only [pL,List.set]
  refine ord_quietL _ ?_ rfl hS rfl ?_ ?_
  rotate_left
  ·rintro w' ⟨hn,rhA,rhB⟩;have g0:w'.cell? ⟨w.heap.size + 1,3,none⟩ = some (vL):=cell_blk rhB rfl;go_simp;rfl
  simp only [pL,List.set]
  refine ord_actL _ rfl (fun K1 hK1=>?_)
  have hcon:Hid _:=c_eqcs wk1 ht.l hs.l
  unfold AnsP at hcon
  go_wp2_with (go_at_call 77;refine Calls.mono hcon.out ?_;rintro e wk2 ⟨r,rfl,q1,qn⟩)
  have m2:=nw_trans m1 qn
  replace ht:=ht.nw qn
  replace hs:=hs.nw qn
  cases r with
  | true =>
   have y1:Hid (t.cats = s.cats):=q1.1 rfl
   refine hK1 _ _ (hSof.out _ m2) ?_
   clear hK1 K1 hcon qn hS m1 q1
   have hS:=hSof.out _ m2
   refine ord_quietL _ ?_ rfl hS rfl ?_ ?_
   rotate_left
   ·rintro w' ⟨hn,rhA,rhB⟩;go_simp;rfl
   simp only [pL,List.set]
   refine ord_quietL _ ?_ rfl hS rfl ?_ ?_
   rotate_left
   ·rintro w' ⟨hn,rhA,rhB⟩;go_simp;rfl
   simp only [pL,List.set]
   refine ord_quietL _ ?_ rfl hS rfl ?_ ?_
   rotate_left
   ·rintro w' ⟨hn,rhA,rhB⟩;go_simp;rfl
   simp only [pL,List.set]
   refine ord_quietL _ ?_ rfl hS rfl ?_ ?_
   rotate_left
   ·rintro w' ⟨hn,rhA,rhB⟩;go_simp;rfl
   simp only [pL,List.set]
   refine ord_quietL _ ?_ rfl hS rfl ?_ ?_
   rotate_left
   ·rintro w' ⟨hn,rhA,rhB⟩;go_simp;rfl
   simp only [pL,List.set]
   refine ord_quietL _ ?_ rfl hS rfl ?_ ?_
   rotate_left
   ·rintro w' ⟨hn,rhA,rhB⟩;go_simp;rfl
   simp only [pL,List.set]
   refine ord_quietL _ ?_ rfl hS rfl ?_ ?_
   rotate_left
   ·rintro w' ⟨hn,rhA,rhB⟩;have g0:w'.cell? ⟨w.heap.size,5,none⟩ = some (uC):=cell_blk rhA rfl;go_simp;rfl
   simp only [pL,List.set]
   refine ord_quietL _ ?_ rfl hS rfl ?_ ?_
   rotate_left
   ·rintro w' ⟨hn,rhA,rhB⟩;have g0:w'.cell? ⟨w.heap.size + 1,5,none⟩ = some (vC):=cell_blk rhB rfl;go_simp;rfl
   simp only [pL,List.set]
   refine ord_actL _ rfl (fun K1 hK1=>?_)
   have hcon:Hid _:=c_eqcs wk2 ht.c hs.c
   unfold AnsP at hcon
   go_wp2_with (go_at_call 77;refine Calls.mono hcon.out ?_;rintro e wk3 ⟨r,rfl,q1,qn⟩)
   have m3:=nw_trans m2 qn
   replace ht:=ht.nw qn
   replace hs:=hs.nw qn
   cases r with
   | true =>
    have y2:Hid (t.ccats = s.ccats):=q1.1 rfl
    refine hK1 _ _ (hSof.out _ m3) ?_
    clear hK1 K1 hcon qn hS m2 q1
    have hS:=hSof.out _ m3
    refine ord_quietL _ ?_ rfl hS rfl ?_ ?_
    rotate_left
    ·rintro w' ⟨hn,rhA,rhB⟩;go_simp;rfl
    simp only [pL,List.set]
    refine ord_quietL _ ?_ rfl hS rfl ?_ ?_
    rotate_left
    ·rintro w' ⟨hn,rhA,rhB⟩;go_simp;rfl
    simp only [pL,List.set]
    refine ord_quietL _ ?_ rfl hS rfl ?_ ?_
    rotate_left
    ·rintro w' ⟨hn,rhA,rhB⟩;go_simp;rfl
    simp only [pL,List.set]
    refine ord_quietL _ ?_ rfl hS rfl ?_ ?_
    rotate_left
    ·rintro w' ⟨hn,rhA,rhB⟩;go_simp;rfl
    simp only [pL,List.set]
    refine ord_quietL _ ?_ rfl hS rfl ?_ ?_
    rotate_left
    ·rintro w' ⟨hn,rhA,rhB⟩;have g0:w'.cell? ⟨w.heap.size,8,none⟩ = some (uK):=cell_blk rhA rfl;go_simp;rfl
    simp only [pL,List.set]
    refine ord_quietL _ ?_ rfl hS rfl ?_ ?_
    rotate_left
    ·rintro w' ⟨hn,rhA,rhB⟩;have g0:w'.cell? ⟨w.heap.size + 1,8,none⟩ = some (vK):=cell_blk rhB rfl;go_simp;rfl
    simp only [pL,List.set]
    refine ord_actL _ rfl (fun K1 hK1=>?_)
    have hcon:Hid _:=c_eqls wk3 ht.k hs.k
    unfold AnsP at hcon
    go_wp2_with (go_at_call 78;refine Calls.mono hcon.out ?_;rintro e wk4 ⟨r,rfl,q1,qn⟩)
    have m4:=nw_trans m3 qn
    replace ht:=ht.nw qn
    replace hs:=hs.nw qn
    cases r with
    | true =>
     have y3:Hid (t.links = s.links):=q1.1 rfl
     refine hK1 _ _ (hSof.out _ m4) ?_
     clear hK1 K1 hcon qn hS m3 q1
     have hS:=hSof.out _ m4
     refine ord_quietL _ ?_ rfl hS rfl ?_ ?_
     rotate_left
     ·rintro w' ⟨hn,rhA,rhB⟩;go_simp;rfl
     simp only [pL,List.set]
     refine ord_quietL _ ?_ rfl hS rfl ?_ ?_
     rotate_left
     ·rintro w' ⟨hn,rhA,rhB⟩;go_simp;rfl
     simp only [pL,List.set]
     refine ord_quietL _ ?_ rfl hS rfl ?_ ?_
     rotate_left
     ·rintro w' ⟨hn,rhA,rhB⟩;go_simp;rfl
     simp only [pL,List.set]
     refine ord_quietL _ ?_ rfl hS rfl ?_ ?_
     rotate_left
     ·rintro w' ⟨hn,rhA,rhB⟩;go_simp;rfl
     simp only [pL,List.set]
     refine ord_quietL _ ?_ rfl hS rfl ?_ ?_
     rotate_left
     ·rintro w' ⟨hn,rhA,rhB⟩;have g0:w'.cell? ⟨w.heap.size,9,none⟩ = some (uD):=cell_blk rhA rfl;go_simp;rfl
     simp only [pL,List.set]
     refine ord_quietL _ ?_ rfl hS rfl ?_ ?_
     rotate_left
     ·rintro w' ⟨hn,rhA,rhB⟩;have g0:w'.cell? ⟨w.heap.size + 1,9,none⟩ = some (vD):=cell_blk rhB rfl;go_simp;rfl
     simp only [pL,List.set]
     refine ord_actL _ rfl (fun K1 hK1=>?_)
     have hcon:Hid _:=c_eqbs wk4 ht.d hs.d
     unfold AnsP at hcon
     go_wp2_with (go_at_call 79;refine Calls.mono hcon.out ?_;rintro e wk5 ⟨r,rfl,q1,qn⟩)
     have m5:=nw_trans m4 qn
     replace ht:=ht.nw qn
     replace hs:=hs.nw qn
     cases r with
     | true =>
      have y4:Hid (t.data = s.data):=q1.1 rfl
      refine hK1 _ _ (hSof.out _ m5) ?_
      clear hK1 K1 hcon qn hS m4 q1
      have hS:=hSof.out _ m5
      refine ord_quietL _ ?_ rfl hS rfl ?_ ?_
      rotate_left
      ·rintro w' ⟨hn,rhA,rhB⟩;go_simp;rfl
      simp only [pL,List.set]
      refine ord_tail ?_
      simp only [List.drop_succ_cons,List.drop_zero]
      go_wp2
      go_ret
      exact ans_yes (same_of hE.out y1.out y2.out y3.out y4.out) (nw_trans nW m5)
     | false =>
      have hno:Hid (¬ t = s):=fun h=>not_of_false q1 (by subst h;rfl)
      refine hK1 _ _ (hSof.out _ m5) ?_
      clear hK1 K1 hcon qn hS m4 q1
      have hS:=hSof.out _ m5
      refine ord_quietL _ ?_ rfl hS rfl ?_ ?_
      rotate_left
      ·rintro w' ⟨hn,rhA,rhB⟩;go_simp;rfl
      simp only [pL,List.set]
      refine ord_tail ?_
      simp only [List.drop_succ_cons,List.drop_zero]
      go_wp2
      go_ret
      exact ans_no hno.out (nw_trans nW m5)
    | false =>
     have hno:Hid (¬ t = s):=fun h=>not_of_false q1 (by subst h;rfl)
     refine hK1 _ _ (hSof.out _ m4) ?_
     clear hK1 K1 hcon qn hS m3 q1
     have hS:=hSof.out _ m4
     refine ord_quietL _ ?_ rfl hS rfl ?_ ?_
     rotate_left
     ·rintro w' ⟨hn,rhA,rhB⟩;go_simp;rfl
     simp only [pL,List.set]
     refine ord_quietL _ ?_ rfl hS rfl ?_ ?_
     rotate_left
     ·rintro w' ⟨hn,rhA,rhB⟩;go_simp;rfl
     simp only [pL,List.set]
     refine ord_skipL _ rfl hS rfl ?_
     simp only [pL,List.set]
     refine ord_skipL _ rfl hS rfl ?_
     simp only [pL,List.set]
     refine ord_skipL _ rfl hS rfl ?_
     simp only [pL,List.set]
     refine ord_skipL _ rfl hS rfl ?_
     simp only [pL,List.set]
     refine ord_actL _ rfl (fun K1 hK1=>?_)
     go_wp2
     refine hK1 _ _ (hSof.out _ m4) ?_
     clear hK1 K1
     refine ord_quietL _ ?_ rfl hS rfl ?_ ?_
     rotate_left
     ·rintro w' ⟨hn,rhA,rhB⟩;go_simp;rfl
     simp only [pL,List.set]
     refine ord_tail ?_
     simp only [List.drop_succ_cons,List.drop_zero]
     go_wp2
     go_ret
     exact ans_no hno.out (nw_trans nW m4)
   | false =>
    have hno:Hid (¬ t = s):=fun h=>not_of_false q1 (by subst h;rfl)
    refine hK1 _ _ (hSof.out _ m3) ?_
    clear hK1 K1 hcon qn hS m2 q1
    have hS:=hSof.out _ m3
    refine ord_quietL _ ?_ rfl hS rfl ?_ ?_
    rotate_left
    ·rintro w' ⟨hn,rhA,rhB⟩;go_simp;rfl
    simp only [pL,List.set]
    refine ord_quietL _ ?_ rfl hS rfl ?_ ?_
    rotate_left
    ·rintro w' ⟨hn,rhA,rhB⟩;go_simp;rfl
    simp only [pL,List.set]
    refine ord_skipL _ rfl hS rfl ?_
    simp only [pL,List.set]
    refine ord_skipL _ rfl hS rfl ?_
    simp only [pL,List.set]
    refine ord_skipL _ rfl hS rfl ?_
    simp only [pL,List.set]
    refine ord_skipL _ rfl hS rfl ?_
    simp only [pL,List.set]
    refine ord_actL _ rfl (fun K1 hK1=>?_)
    go_wp2
    refine hK1 _ _ (hSof.out _ m3) ?_
    clear hK1 K1
    refine ord_quietL _ ?_ rfl hS rfl ?_ ?_
    rotate_left
    ·rintro w' ⟨hn,rhA,rhB⟩;go_simp;rfl
    simp only [pL,List.set]
    refine ord_quietL _ ?_ rfl hS rfl ?_ ?_
    rotate_left
    ·rintro w' ⟨hn,rhA,rhB⟩;go_simp;rfl
    simp only [pL,List.set]
    refine ord_skipL _ rfl hS rfl ?_
    simp only [pL,List.set]
    refine ord_skipL _ rfl hS rfl ?_
    simp only [pL,List.set]
    refine ord_skipL _ rfl hS rfl ?_
    simp only [pL,List.set]
    refine ord_skipL _ rfl hS rfl ?_
    simp only [pL,List.set]
    refine ord_actL _ rfl (fun K1 hK1=>?_)
    go_wp2
    refine hK1 _ _ (hSof.out _ m3) ?_
    clear hK1 K1
    refine ord_quietL _ ?_ rfl hS rfl ?_ ?_
    rotate_left
    ·rintro w' ⟨hn,rhA,rhB⟩;go_simp;rfl
    simp only [pL,List.set]
    refine ord_tail ?_
    simp only [List.drop_succ_cons,List.drop_zero]
    go_wp2
    go_ret
    exact ans_no hno.out (nw_trans nW m3)
  | false =>
   have hno:Hid (¬ t = s):=fun h=>not_of_false q1 (by subst h;rfl)
   refine hK1 _ _ (hSof.out _ m2) ?_
   clear hK1 K1 hcon qn hS m1 q1
   have hS:=hSof.out _ m2
   refine ord_quietL _ ?_ rfl hS rfl ?_ ?_
   rotate_left
   ·rintro w' ⟨hn,rhA,rhB⟩;go_simp;rfl
   simp only [pL,List.set]
   refine ord_quietL _ ?_ rfl hS rfl ?_ ?_
   rotate_left
   ·rintro w' ⟨hn,rhA,rhB⟩;go_simp;rfl
   simp only [pL,List.set]
   refine ord_skipL _ rfl hS rfl ?_
   simp only [pL,List.set]
   refine ord_skipL _ rfl hS rfl ?_
   simp only [pL,List.set]
   refine ord_skipL _ rfl hS rfl ?_
   simp only [pL,List.set]
   refine ord_skipL _ rfl hS rfl ?_
   simp only [pL,List.set]
   refine ord_skipL _ rfl hS rfl ?_
   simp only [pL,List.set]
   refine ord_skipL _ rfl hS rfl ?_
   simp only [pL,List.set]
   refine ord_actL _ rfl (fun K1 hK1=>?_)
   go_wp2
   refine hK1 _ _ (hSof.out _ m2) ?_
   clear hK1 K1
   refine ord_quietL _ ?_ rfl hS rfl ?_ ?_
   rotate_left
   ·rintro w' ⟨hn,rhA,rhB⟩;go_simp;rfl
   simp only [pL,List.set]
   refine ord_quietL _ ?_ rfl hS rfl ?_ ?_
   rotate_left
   ·rintro w' ⟨hn,rhA,rhB⟩;go_simp;rfl
   simp only [pL,List.set]
   refine ord_skipL _ rfl hS rfl ?_
   simp only [pL,List.set]
   refine ord_skipL _ rfl hS rfl ?_
   simp only [pL,List.set]
   refine ord_skipL _ rfl hS rfl ?_
   simp only [pL,List.set]
   refine ord_skipL _ rfl hS rfl ?_
   simp only [pL,List.set]
   refine ord_actL _ rfl (fun K1 hK1=>?_)
   go_wp2
   refine hK1 _ _ (hSof.out _ m2) ?_
   clear hK1 K1
   refine ord_quietL _ ?_ rfl hS rfl ?_ ?_
   rotate_left
   ·rintro w' ⟨hn,rhA,rhB⟩;go_simp;rfl
   simp only [pL,List.set]
   refine ord_quietL _ ?_ rfl hS rfl ?_ ?_
   rotate_left
   ·rintro w' ⟨hn,rhA,rhB⟩;go_simp;rfl
   simp only [pL,List.set]
   refine ord_skipL _ rfl hS rfl ?_
   simp only [pL,List.set]
   refine ord_skipL _ rfl hS rfl ?_
   simp only [pL,List.set]
   refine ord_skipL _ rfl hS rfl ?_
   simp only [pL,List.set]
   refine ord_skipL _ rfl hS rfl ?_
   simp only [pL,List.set]
   refine ord_actL _ rfl (fun K1 hK1=>?_)
   go_wp2
   refine hK1 _ _ (hSof.out _ m2) ?_
   clear hK1 K1
   refine ord_quietL _ ?_ rfl hS rfl ?_ ?_
   rotate_left
   ·rintro w' ⟨hn,rhA,rhB⟩;go_simp;rfl
   simp only [pL,List.set]
   refine ord_tail ?_
   simp only [List.drop_succ_cons,List.drop_zero]
   go_wp2
   go_ret
   exact ans_no hno.out (nw_trans nW m2)
 | false =>
  have hne:∀ w,(binOp .eql 97 (flV t) (flV s)).run Try.prog w = .ok (.bool false) w:=fun w=>by rw [hne0,hE]
  have hno:Hid (¬ t = s):=fun h=>by
   have:=(eFl_iff t s).2 (by rw [h])
   rw [hE] at this
   cases this
  clear hne0 hE
  have hSof:∀ w',Nw W w'→(fun w':World=>Nw W w'∧w'.heap[w.heap.size]? = some (.cells (thC t uL uC uK uD).toArray 34 (0,0))∧w'.heap[w.heap.size + 1]? = some (.cells (thC s vL vC vK vD).toArray 34 (0,0))) w':=fun w' hw=>⟨hw,(hw.block _ (heap_lt hA) (fun h=>h)).trans hA,(hw.block _ (heap_lt hB) (fun h=>h)).trans hB⟩
  have hW0:Nw W W.drew:=Fr.drew (Fr.refl _ W)
  have hS:=hSof _ hW0
  replace ht:=ht.nw hW0
  replace hs:=hs.nw hW0
  replace hSof:Hid _:=hSof
  refine wp_region_ord [] 37 [(0,true),(2,true),(1,false),(3,false),(4,true),(5,true),(6,true),(9,true),(7,true),(10,true),(8,true),(11,true),(12,false),(13,true),(14,true),(15,true),(18,true),(16,true),(19,true),(17,true),(20,true),(21,false),(22,true),(23,true),(24,true),(26,true),(25,true),(27,true),(28,false),(29,true),(30,true),(31,true),(33,true),(32,true),(34,true),(35,false),(36,true)] (fun w':World=>Nw W w'∧w'.heap[w.heap.size]? = some (.cells (thC t uL uC uK uD).toArray 34 (0,0))∧w'.heap[w.heap.size + 1]? = some (.cells (thC s vL vC vK vD).toArray 34 (0,0))) (by kernel_rfl) (by kernel_rfl) ?_
  refine ord_quietL _ ?_ rfl hS rfl ?_ ?_
  rotate_left
  ·rintro w' ⟨hn,rhA,rhB⟩;refine (run_load_th _ w' rfl (w.heap.size) rfl rhA).trans ?_;rfl
  simp only [pL,List.set]
  refine ord_quietL _ ?_ rfl hS rfl ?_ ?_
  rotate_left
  ·rintro w' ⟨hn,rhA,rhB⟩;refine (run_load_th _ w' rfl (w.heap.size + 1) rfl rhB).trans ?_;rfl
  simp only [pL,List.set]
  refine ord_actL _ rfl (fun K1 hK1=>?_)
  have hcon:Hid _:=c_flatOf t uL uC uK uD W.drew
  go_wp2_with (go_at_call 76;refine Calls.mono hcon.out ?_;rintro e wk0 ⟨rfl,qn⟩)
  have m0:=nw_trans hW0 qn
  replace ht:=ht.nw qn
  replace hs:=hs.nw qn
  refine hK1 _ _ (hSof.out _ m0) ?_
  clear hK1 K1 hcon qn hS hW0
  have hS:=hSof.out _ m0
  refine ord_actL _ rfl (fun K1 hK1=>?_)
  have hcon:Hid _:=c_flatOf s vL vC vK vD wk0
  go_wp2_with (go_at_call 76;refine Calls.mono hcon.out ?_;rintro e wk1 ⟨rfl,qn⟩)
  have m1:=nw_trans m0 qn
  replace ht:=ht.nw qn
  replace hs:=hs.nw qn
  refine hK1 _ _ (hSof.out _ m1) ?_
  clear hK1 K1 hcon qn hS m0
  have hS:=hSof.out _ m1
  refine ord_quietL _ ?_ rfl hS rfl ?_ ?_
  rotate_left
  ·rintro w' ⟨hn,rhA,rhB⟩;go_simp;rfl
  simp only [pL,List.set]
  refine ord_quietL _ ?_ rfl hS rfl ?_ ?_
  rotate_left
  ·rintro w' ⟨hn,rhA,rhB⟩;go_simp;rfl
  simp only [pL,List.set]
  refine ord_skipL _ rfl hS rfl ?_
  simp only [pL,List.set]
  refine ord_skipL _ rfl hS rfl ?_
  simp only [pL,List.set]
  refine ord_skipL _ rfl hS rfl ?_
  simp only [pL,List.set]
  refine ord_skipL _ rfl hS rfl ?_
  simp only [pL,List.set]
  refine ord_skipL _ rfl hS rfl ?_
  simp only [pL,List.set]
  refine ord_skipL _ rfl hS rfl ?_
  simp only [pL,List.set]
  refine ord_actL _ rfl (fun K1 hK1=>?_)
  go_wp2
  refine hK1 _ _ (hSof.out _ m1) ?_
  clear hK1 K1
  refine ord_quietL _ ?_ rfl hS rfl ?_ ?_
  rotate_left
  ·rintro w' ⟨hn,rhA,rhB⟩;go_simp;rfl
  simp only [pL,List.set]
  refine ord_quietL _ ?_ rfl hS rfl ?_ ?_
  rotate_left
  ·rintro w' ⟨hn,rhA,rhB⟩;go_simp;rfl
  simp only [pL,List.set]
  refine ord_skipL _ rfl hS rfl ?_
  simp only [pL,List.set]
  refine ord_skipL _ rfl hS rfl ?_
  simp only [pL,List.set]
  refine ord_skipL _ rfl hS rfl ?_
  simp only [pL,List.set]
  refine ord_skipL _ rfl hS rfl ?_
  simp only [pL,List.set]
  refine ord_skipL _ rfl hS rfl ?_
  simp only [pL,List.set]
  refine ord_skipL _ rfl hS rfl ?_
  simp only [pL,List.set]
  refine ord_actL _ rfl (fun K1 hK1=>?_)
  go_wp2
  refine hK1 _ _ (hSof.out _ m1) ?_
  clear hK1 K1
  refine ord_quietL _ ?_ rfl hS rfl ?_ ?_
  rotate_left
  ·rintro w' ⟨hn,rhA,rhB⟩;go_simp;rfl
  simp only [pL,List.set]
  refine ord_quietL _ ?_ rfl hS rfl ?_ ?_
  rotate_left
  ·rintro w' ⟨hn,rhA,rhB⟩;go_simp;rfl
  simp only [pL,List.set]
  refine ord_skipL _ rfl hS rfl ?_
  simp only [pL,List.set]
  refine ord_skipL _ rfl hS rfl ?_
  simp only [pL,List.set]
  refine ord_skipL _ rfl hS rfl ?_
  simp only [pL,List.set]
  refine ord_skipL _ rfl hS rfl ?_
  simp only [pL,List.set]
  refine ord_actL _ rfl (fun K1 hK1=>?_)
  go_wp2
  refine hK1 _ _ (hSof.out _ m1) ?_
  clear hK1 K1
  refine ord_quietL _ ?_ rfl hS rfl ?_ ?_
  rotate_left
  ·rintro w' ⟨hn,rhA,rhB⟩;go_simp;rfl
  simp only [pL,List.set]
  refine ord_quietL _ ?_ rfl hS rfl ?_ ?_
  rotate_left
  ·rintro w' ⟨hn,rhA,rhB⟩;go_simp;rfl
  simp only [pL,List.set]
  refine ord_skipL _ rfl hS rfl ?_
  simp only [pL,List.set]
  refine ord_skipL _ rfl hS rfl ?_
  simp only [pL,List.set]
  refine ord_skipL _ rfl hS rfl ?_
  simp only [pL,List.set]
  refine ord_skipL _ rfl hS rfl ?_
  simp only [pL,List.set]
  refine ord_actL _ rfl (fun K1 hK1=>?_)
  go_wp2
  refine hK1 _ _ (hSof.out _ m1) ?_
  clear hK1 K1
  refine ord_quietL _ ?_ rfl hS rfl ?_ ?_
  rotate_left
  ·rintro w' ⟨hn,rhA,rhB⟩;go_simp;rfl
  simp only [pL,List.set]
  refine ord_tail ?_
  simp only [List.drop_succ_cons,List.drop_zero]
  go_wp2
  go_ret
  exact ans_no hno.out (nw_trans nW m1)
end Go.Proofs.Ytgmfofngmfekbaa
