/-
  GrR7, FlowOpen0, ThOpen: in one text.
-/
import Derived.Test.YtgmfofngmfekbaaGrGdS
import Derived.Test.YtgmfofngmfekbaaLabS
import Derived.Laws.IdiomArrays
import Derived.Test.YtgmfofngmfekbaaThGbS
import Derived.Test.YtgmfofngmfekbaaLibS
namespace Go.Proofs.Ytgmfofngmfekbaa
set_option linter.unusedVariables false
set_option linter.unusedSimpArgs false
set_option maxRecDepth 20000
open Go.RowKit

theorem map_same {xs ys:List TC} {N:Nat} (h1:xs.length = N) (h2:ys.length = N) (h:∀ i (a:i < xs.length) (b:i < ys.length),xs[i].t = ys[i].t):xs.map (·.t) = ys.map (·.t) :=
 List.ext_getElem (by simp [h1,h2]) (fun i a b=>by simp only [List.getElem_map];exact h i _ _)
theorem map_same_at {xs ys:List TC} (h:xs.map (·.t) = ys.map (·.t)) (i:Nat) (a:i < xs.length) (b:i < ys.length):xs[i].t = ys[i].t:=by
 have h1:(xs.map (·.t))[i]? = (ys.map (·.t))[i]?:=by rw [h]
 rw [List.getElem?_map,List.getElem?_map,List.getElem?_eq_getElem a,List.getElem?_eq_getElem b] at h1
 simpa using h1
theorem load_tc {o:Oper} {a:Act} {x:TC} (p:Operand) (w:World) (ho:o.op = .load 34 p) (b off:Nat) (hx:a.eval p = .pointer (some ⟨b,off,none⟩)) (hr:w.rangeAt b off (tcC x)) :
  (execOp a.eval o).run Try.prog w = .ok (.value (thV x.t x.l x.c x.k x.d)) w:=run_load_quiet _ p w ho b off hx _ hr Try.rowT Try.sizeT

set_option maxRecDepth 100000 in
set_option maxHeartbeats 4000000 in
theorem c_rgsame {X Y X' Y':Nat→Prop} {va vb:Value} {xs ys:List TC} (w:World) (ha:TSl X Y w va xs) (hb:TSl X' Y' w vb ys) :
  Calls Try.prog 19 #[va,vb] w (AnsP (xs.map (·.t) = ys.map (·.t)) w):=by
 obtain ⟨ao,cap,rfl,hc1,hc2⟩:=ha.form
 obtain ⟨bo,cap2,rfl,hc3,hc4⟩:=hb.form
 obtain ⟨N,hN⟩:∃ N,xs.length = N:=⟨_,rfl⟩
 obtain ⟨M,hM⟩:∃ M,ys.length = M:=⟨_,rfl⟩
 rw [hN] at ha hc1 ⊢
 rw [hM] at hb hc3 ⊢
 by_cases hl:N = M
 ·subst hl
  replace hN:Hid _:=hN
  replace hM:Hid _:=hM
  go_enter Try.func19,Try.ntmps19
  go_wp2
  go_loopw [13] (fun kv wr=>∃ k:Nat,k ≤ N∧kv = .int .i64 k∧Hid (∀ i (h1:i < xs.length) (h2:i < ys.length),i < k→xs[i].t = ys[i].t)∧Nw w wr) (fun kv _=>N - (intOf kv).toNat)
  case atStart=>exact ⟨0,Nat.zero_le _,rfl,fun i h1 h2 h3=>absurd h3 (Nat.not_lt_zero _),nw_refl _⟩
  case round =>
   obtain ⟨k,hk,rfl,hri,hw⟩:=hrel
   by_cases hltN:k < N
   ·have hlt:k < xs.length:=by rw [hN.out];exact hltN
    have hlt2:k < ys.length:=by rw [hM.out];exact hltN
    obtain ⟨q1,off1,hva,_,r1,at1⟩:=(ha.nw hw).get k hlt
    subst hva
    obtain ⟨q2,off2,hvb,_,r2,at2⟩:=(hb.nw hw).get k hlt2
    subst hvb
    have hup:Hid (xs[k].t = ys[k].t→∀ i (h1:i < xs.length) (h2:i < ys.length),i < k + 1→xs[i].t = ys[i].t):=fun hl i h1 h2 h3=>by
     by_cases e:i = k
     ·subst e;exact hl
     ·exact hri.out i h1 h2 (by omega)
    have hbad:Hid (¬ xs[k].t = ys[k].t→¬ xs.map (·.t) = ys.map (·.t)):=fun hn h=>hn (map_same_at h k hlt hlt2)
    clear hri
    generalize xs[k] = x at *
    generalize ys[k] = y at *
    go_upto_region 6 with fail
    have hSof:∀ w',Nw wr w'→(fun w':World=>Nw wr w') w':=fun w' hw=>hw
    have hW0:Nw wr wr.drew:=Fr.drew (Fr.refl _ wr)
    have hS:=hSof _ hW0
    replace hSof:Hid _:=hSof
    refine wp_region_ord [] 9 [(0,true),(1,true),(4,true),(5,true),(2,true),(6,true),(3,true),(7,true),(8,false)] (fun w':World=>Nw wr w') (by kernel_rfl) (by kernel_rfl) ?_
    refine ord_quietL _ ?_ rfl hS rfl ?_ ?_
    rotate_left
    ·rintro w' hn;go_simp;rfl
    simp only [pL,List.set]
    refine ord_quietL _ ?_ rfl hS rfl ?_ ?_
    rotate_left
    ·rintro w' hn;go_simp;rfl
    simp only [pL,List.set]
    refine ord_quietL _ ?_ rfl hS rfl ?_ ?_
    rotate_left
    ·rintro w' hn;go_simp;rfl
    simp only [pL,List.set]
    refine ord_quietL _ ?_ rfl hS rfl ?_ ?_
    rotate_left
    ·rintro w' hn;go_simp;rfl
    simp only [pL,List.set]
    refine ord_quietL _ ?_ rfl hS rfl ?_ ?_
    rotate_left
    ·rintro w' hn;go_simp;rfl
    simp only [pL,List.set]
    refine ord_quietL _ ?_ rfl hS rfl ?_ ?_
    rotate_left
    ·rintro w' hn;go_simp;rfl
    simp only [pL,List.set]
    refine ord_quietL _ ?_ rfl hS rfl ?_ ?_
    rotate_left
    ·rintro w' hn;refine (load_tc _ w' rfl q1 (off1 + k * 26) rfl (range_nw r1 hn)).trans ?_;rfl
    simp only [pL,List.set]
    refine ord_quietL _ ?_ rfl hS rfl ?_ ?_
    rotate_left
    ·rintro w' hn;refine (load_tc _ w' rfl q2 (off2 + k * 26) rfl (range_nw r2 hn)).trans ?_;rfl
    simp only [pL,List.set]
    refine ord_actL _ rfl (fun K1 hK1=>?_)
    have hcon:Hid _:=c_rtsame wr.drew (ThAt.nw at1 hW0) (ThAt.nw at2 hW0)
    unfold AnsP at hcon
    go_wp2_with (go_at_call 15;refine Calls.mono hcon.out ?_;rintro e wk0 ⟨r,rfl,hr,qn⟩)
    have m0:=nw_trans hW0 qn
    cases r with
    | true =>
     have hq:x.t = y.t:=hr.1 rfl
     clear hr
     refine hK1 _ _ (hSof.out _ m0) ?_
     clear hK1 K1 hcon qn hS hW0
     have hS:=hSof.out _ m0
     refine ord_tail ?_
     simp only [List.drop_succ_cons,List.drop_zero]
     have hfin:Hid (Nw w wk0):=nw_trans hw m0
     clear hSof hS
     have hri2:=hup.out hq
     replace hri2:Hid _:=hri2
     clear hup hbad hq r1 r2 at1 at2 ha hb hw
     go_wp2
     go_roundw
     case rel=>exact ⟨k + 1,by omega,by go_num,hri2,hfin.out⟩
     case measure=>simp [intOf];omega
    | false =>
     have hq:¬ x.t = y.t:=fun h=>Bool.noConfusion (hr.2 h)
     clear hr
     refine hK1 _ _ (hSof.out _ m0) ?_
     clear hK1 K1 hcon qn hS hW0
     have hS:=hSof.out _ m0
     refine ord_tail ?_
     simp only [List.drop_succ_cons,List.drop_zero]
     have hfin:Hid (Nw w wk0):=nw_trans hw m0
     clear hSof hS
     have hno:=hbad.out hq
     replace hno:Hid _:=hno
     clear hup hbad hq r1 r2 at1 at2 ha hb hw
     go_wp2
     go_ret
     exact ans_no hno.out hfin.out
   ·have hyes:Hid (xs.map (·.t) = ys.map (·.t)):=map_same hN.out hM.out (fun i h1 h2=>hri.out i h1 h2 (by have:=hN.out;omega))
    clear hri ha hb
    go_wp2
    go_ret
    exact ans_yes hyes.out hw
 ·have hno:Hid (¬ xs.map (·.t) = ys.map (·.t)):=fun h=>hl (by rw [← hN,← hM];simpa using congrArg List.length h)
  have hbl:((N:Int) != (M:Int)) = true:=by simp;omega
  clear ha hb
  go_enter Try.func19,Try.ntmps19
  go_wp2
  go_ret
  exact ans_no hno.out (nw_refl _)

set_option maxRecDepth 100000 in
set_option maxHeartbeats 4000000 in
theorem c_rids {X Y:Nat→Prop} {va vb:Value} {xs ys:List Int} (w:World) (ha:USl X w va xs) (hb:USl Y w vb ys) :
  Calls Try.prog 25 #[va,vb] w (AnsP (xs = ys) w):=by
 obtain ⟨ao,cap,rfl,hc1,hc2⟩:=ha.form
 obtain ⟨bo,cap2,rfl,hc3,hc4⟩:=hb.form
 obtain ⟨N,hN⟩:∃ N,xs.length = N:=⟨_,rfl⟩
 obtain ⟨M,hM⟩:∃ M,ys.length = M:=⟨_,rfl⟩
 rw [hN] at ha hc1 ⊢
 rw [hM] at hb hc3 ⊢
 by_cases hl:N = M
 ·subst hl
  replace hN:Hid _:=hN
  replace hM:Hid _:=hM
  go_enter Try.func25,Try.ntmps25
  go_wp2
  go_loopw [13] (fun kv wr=>∃ k:Nat,k ≤ N∧kv = .int .i64 k∧Hid (∀ i (h1:i < xs.length) (h2:i < ys.length),i < k→xs[i] = ys[i])∧Nw w wr) (fun kv _=>N - (intOf kv).toNat)
  case atStart=>exact ⟨0,Nat.zero_le _,rfl,fun i h1 h2 h3=>absurd h3 (Nat.not_lt_zero _),nw_refl _⟩
  case round =>
   obtain ⟨k,hk,rfl,hri,hw⟩:=hrel
   by_cases hltN:k < N
   ·have hlt:k < xs.length:=by rw [hN.out];exact hltN
    have hlt2:k < ys.length:=by rw [hM.out];exact hltN
    obtain ⟨q1,off1,hva,_,r1⟩:=(ha.nw hw).get k hlt
    subst hva
    obtain ⟨q2,off2,hvb,_,r2⟩:=(hb.nw hw).get k hlt2
    subst hvb
    have hup:Hid (xs[k] = ys[k]→∀ i (h1:i < xs.length) (h2:i < ys.length),i < k + 1→xs[i] = ys[i]):=fun hl i h1 h2 h3=>by
     by_cases e:i = k
     ·subst e;exact hl
     ·exact hri.out i h1 h2 (by omega)
    have hbad:Hid (¬ xs[k] = ys[k]→¬ xs = ys):=fun hn h=>hn (by subst h;rfl)
    clear hri
    generalize xs[k] = x at *
    generalize ys[k] = y at *
    have D1:∀ z,(wr.drewN z).cell? ⟨q1,off1 + k,none⟩ = some (.int .u64 x):=fun z=>r1
    have D2:∀ z,(wr.drewN z).cell? ⟨q2,off2 + k,none⟩ = some (.int .u64 y):=fun z=>r2
    clear r1 r2 ha hb
    by_cases hq:x = y
    ·have hbq:(x != y) = false:=by simp [hq]
     have hri2:=hup.out hq
     replace hri2:Hid _:=hri2
     replace hq:Hid _:=hq
     clear hup hbad
     go_wp2
     go_quiet (fail)
     go_wp2
     go_roundw
     case rel=>exact ⟨k + 1,by omega,by go_num,hri2,nw_trans hw (nw_drewN wr _)⟩
     case measure=>simp [intOf];omega
    ·have hbq:(x != y) = true:=by simpa using hq
     have hno:=hbad.out hq
     replace hno:Hid _:=hno
     replace hq:Hid _:=hq
     clear hup hbad
     go_wp2
     go_quiet (fail)
     go_wp2
     go_ret
     exact ans_no hno.out (nw_trans hw (nw_drewN wr _))
   ·have hyes:Hid (xs = ys):=List.ext_getElem (by rw [hN.out,hM.out]) (fun i h1 h2=>hri.out i h1 h2 (by have:=hN.out;omega))
    clear hri ha hb
    go_wp2
    go_ret
    exact ans_yes hyes.out hw
 ·have hno:Hid (¬ xs = ys):=fun h=>hl (by rw [← hN,← hM,h])
  have hbl:((N:Int) != (M:Int)) = true:=by simp;omega
  clear ha hb
  go_enter Try.func25,Try.ntmps25
  go_wp2
  go_ret
  exact ans_no hno.out (nw_refl _)
end Go.Proofs.Ytgmfofngmfekbaa

namespace Go.Proofs.Ytgmfofngmfekbaa
set_option linter.unusedVariables false
set_option linter.unusedSimpArgs false
set_option maxRecDepth 20000
open Go.RowKit Go.ChangeShapes Go.WideShapes Go.Deep

/-- A label's cells. -/
theorem open_label0 {H:Type} {enc:TypeId × Value→H} {W:World} {fuel:Nat} {b0 b1:Value} {d:DataW H} {p:List MemPlace}
  (h:DataW.trod enc Try.prog W 0 (fun _=>true) true fuel 26 [b0,b1] = some (d,p)) (hw:∀ n ∈ d.weights Try.prog 26,n ≤ reachBytes) :
  ∃ (z:Int) (xs:List Cat),b0 = .int .i64 z∧CSl (fun b=>b < W.heap.size) W b1 xs∧xs.length ≤ 8796093021952∧xs.length + 1 ≤ Rows.uptoBulk d:=by
 obtain ⟨xs,k,hk,hxy,_,hxl,hf⟩:=DataW.trod_struct Try.underlying26 h
 obtain ⟨y0,y1,rfl⟩:∃ y0 y1,xs = [y0,y1]:=by
  match xs,hxl with
  | [y0,y1],_=>exact ⟨y0,y1,rfl⟩
 have g0:DataW.trod enc Try.prog W 0 (fun _=>true) true k 3 (([b0,b1].drop 0).take (Try.prog.cellsOf 3)) = some y0:=hf 0 _ rfl
 have g1:DataW.trod enc Try.prog W 0 (fun _=>true) true k 24 (([b0,b1].drop 1).take (Try.prog.cellsOf 24)) = some y1:=hf 1 _ rfl
 rw [Try.cellsInt] at g0
 rw [Try.cellsCs] at g1
 obtain ⟨z0,e0,_,wf0⟩:=DataW.trod_int Try.underlying3 g0
 have q0:b0 = .int .i64 z0:=(List.cons.inj (show [b0] = [Value.int .i64 z0] from e0)).1
 subst q0
 have g1:DataW.trod enc Try.prog W 0 (fun _=>true) true k 24 [b1] = some (y1.1,y1.2):=g1
 simp only [Prod.mk.injEq] at hxy
 have hd:d = .agg [y0.1,y1.1]:=by simpa using hxy.1
 obtain ⟨xs,k1,k2,k3⟩:=open_cats g1 (fun n hn=>hw n (by
  rw [hd]
  simp [DataW.weights,Try.underlying26,DataW.weightsEach,hn]))
 refine ⟨z0,xs,rfl,k1,k2,?_⟩
 rw [hd]
 simp only [Rows.uptoBulk,Rows.uptoBulkAll]
 omega
end Go.Proofs.Ytgmfofngmfekbaa

namespace Go.Proofs.Ytgmfofngmfekbaa
set_option linter.unusedVariables false
set_option linter.unusedSimpArgs false
set_option maxRecDepth 20000
open Go.RowKit Go.ChangeShapes Go.WideShapes Go.Deep

theorem Try.cellsKs:Try.prog.cellsOf 27 = 1:=by kernel_rfl
theorem Try.cellsBs:Try.prog.cellsOf 28 = 1:=by kernel_rfl
theorem Try.cellsR4:Try.prog.cellsOf 29 = 4:=by kernel_rfl
theorem Try.cellsBo:Try.prog.cellsOf 4 = 1:=by kernel_rfl
theorem Try.cellsS4:Try.prog.cellsOf 32 = 8:=by kernel_rfl
theorem Try.cellsSl1:Try.prog.cellsOf 31 = 2:=by kernel_rfl
theorem Try.cellsT:Try.prog.cellsOf 34 = 26:=by kernel_rfl
theorem Try.cellsLk:Try.prog.cellsOf 54 = 2:=by kernel_rfl
theorem Try.bytesLk:Try.prog.bytesOf 54 = 16:=by kernel_rfl
theorem Try.cellsBy:Try.prog.cellsOf 5 = 1:=by kernel_rfl
theorem Try.bytesBy:Try.prog.bytesOf 5 = 1:=by kernel_rfl

theorem u64b {n:Int} (h:(Lit.int .u64 n).wf = true):0 ≤ n∧n < 18446744073709551616:=by
 simp [Lit.wf,IntKind.min,IntKind.max,IntKind.signed,IntKind.bits] at h
 omega

theorem list26 {l:List Value} (h:l.length = 26):∃ b0 b1 b2 b3 b4 b5 b6 b7 b8 b9 b10 b11 b12 b13 b14 b15 b16 b17 b18 b19 b20 b21 b22 b23 b24 b25,l = [b0,b1,b2,b3,b4,b5,b6,b7,b8,b9,b10,b11,b12,b13,b14,b15,b16,b17,b18,b19,b20,b21,b22,b23,b24,b25]:=by
 match l,h with
 | [b0,b1,b2,b3,b4,b5,b6,b7,b8,b9,b10,b11,b12,b13,b14,b15,b16,b17,b18,b19,b20,b21,b22,b23,b24,b25],_=>exact ⟨b0,b1,b2,b3,b4,b5,b6,b7,b8,b9,b10,b11,b12,b13,b14,b15,b16,b17,b18,b19,b20,b21,b22,b23,b24,b25,rfl⟩

theorem open_two0 {H:Type} {enc:TypeId × Value→H} {W:World} {fuel:Nat} {b0 b1:Value} {x:DataW H × List MemPlace}
  (h2:DataW.trod enc Try.prog W 0 (fun _=>true) true fuel 54 [b0,b1] = some x):∃ c:Cat,b0 = .int .u64 c.1∧b1 = .int .i64 c.2:=by
 obtain ⟨xs,k,hk,hxy,_,hxl,hf⟩:=DataW.trod_struct Try.underlying54 h2
 obtain ⟨y0,y1,rfl⟩:∃ y0 y1,xs = [y0,y1]:=by
  match xs,hxl with
  | [y0,y1],_=>exact ⟨y0,y1,rfl⟩
 have g0:DataW.trod enc Try.prog W 0 (fun _=>true) true k 23 (([b0,b1].drop 0).take (Try.prog.cellsOf 23)) = some y0:=hf 0 _ rfl
 have g1:DataW.trod enc Try.prog W 0 (fun _=>true) true k 3 (([b0,b1].drop 1).take (Try.prog.cellsOf 3)) = some y1:=hf 1 _ rfl
 rw [Try.cellsU] at g0
 rw [Try.cellsInt] at g1
 obtain ⟨z0,e0,_,wf0⟩:=DataW.trod_int Try.underlying23 g0
 obtain ⟨z1,e1,_,wf1⟩:=DataW.trod_int Try.underlying3 g1
 exact ⟨(z0,z1),(List.cons.inj (show [b0] = [Value.int .u64 z0] from e0)).1,(List.cons.inj (show [b1] = [Value.int .i64 z1] from e1)).1⟩

theorem open_slot0 {H:Type} {enc:TypeId × Value→H} {W:World} {fuel:Nat} {b0 b1:Value} {x:DataW H × List MemPlace}
  (h2:DataW.trod enc Try.prog W 0 (fun _=>true) true fuel 31 [b0,b1] = some x):∃ a b:Int,b0 = .int .u64 a∧b1 = .int .u64 b:=by
 obtain ⟨xs,k,hk,hxy,_,hxl,hf⟩:=DataW.trod_struct Try.underlying31 h2
 obtain ⟨y0,y1,rfl⟩:∃ y0 y1,xs = [y0,y1]:=by
  match xs,hxl with
  | [y0,y1],_=>exact ⟨y0,y1,rfl⟩
 have g0:DataW.trod enc Try.prog W 0 (fun _=>true) true k 23 (([b0,b1].drop 0).take (Try.prog.cellsOf 23)) = some y0:=hf 0 _ rfl
 have g1:DataW.trod enc Try.prog W 0 (fun _=>true) true k 23 (([b0,b1].drop 1).take (Try.prog.cellsOf 23)) = some y1:=hf 1 _ rfl
 rw [Try.cellsU] at g0 g1
 obtain ⟨z0,e0,_,wf0⟩:=DataW.trod_int Try.underlying23 g0
 obtain ⟨z1,e1,_,wf1⟩:=DataW.trod_int Try.underlying23 g1
 exact ⟨z0,z1,(List.cons.inj (show [b0] = [Value.int .u64 z0] from e0)).1,(List.cons.inj (show [b1] = [Value.int .u64 z1] from e1)).1⟩

theorem open_links {H:Type} {enc:TypeId × Value→H} {W:World} {fuel:Nat} {v:Value} {d:DataW H} {p:List MemPlace}
  (h:DataW.trod enc Try.prog W 0 (fun _=>true) true fuel 27 [v] = some (d,p)) (hw:∀ n ∈ d.weights Try.prog 27,n ≤ reachBytes):∃ xs:List Cat,CSl (fun b=>b < W.heap.size) W v xs∧xs.length ≤ 8796093021952:=by
 obtain ⟨xs,h1,h2,_⟩:=open_rows ((0,0):Cat) ccell 2 16 (fun _=>True) (fun _=>0) Try.underlying27 Try.cellsLk Try.bytesLk (by decide) (fun _=>rfl) h hw (fun k cs dd pp hk hl _=>by
  obtain ⟨b0,b1,rfl⟩:=list2 hl
  obtain ⟨c,rfl,rfl⟩:=open_two0 hk
  exact ⟨c,rfl,trivial,Nat.zero_le _⟩)
 refine ⟨xs,?_,by unfold reachBytes at h2;omega⟩
 have e:xs.flatMap ccell = ccells xs:=by simp [ccells,List.flatMap_def]
 rw [e] at h1
 exact h1

theorem open_bytes {H:Type} {enc:TypeId × Value→H} {W:World} {fuel:Nat} {v:Value} {d:DataW H} {p:List MemPlace}
  (h:DataW.trod enc Try.prog W 0 (fun _=>true) true fuel 28 [v] = some (d,p)) (hw:∀ n ∈ d.weights Try.prog 28,n ≤ reachBytes):∃ xs:List UInt8,Sl W.heap.size W v xs.length (xs.map bv)∧xs.length ≤ 140737488351232∧xs.length + 1 ≤ Rows.uptoBulk d:=by
 obtain ⟨xs,h1,h2,_,h3,_⟩:=open_rows (0:UInt8) (fun x=>[bv x]) 1 1 (fun _=>True) (fun _=>0) Try.underlying28 Try.cellsBy Try.bytesBy (by decide) (fun _=>rfl) h hw (fun k cs dd pp hk hl _=>by
  obtain ⟨z,rfl,_,wf⟩:=DataW.trod_int Try.underlying5 hk
  have hz:0 ≤ z∧z < 256:=by
   simp [Lit.wf,IntKind.min,IntKind.max,IntKind.signed,IntKind.bits] at wf
   omega
  refine ⟨UInt8.ofNat z.toNat,?_,trivial,Nat.zero_le _⟩
  show [Value.int .u8 z] = [Value.int .u8 _]
  congr 2
  simp
  omega)
 refine ⟨xs,?_,by unfold reachBytes at h2;omega,h3⟩
 have e:∀ l:List UInt8,l.flatMap (fun x=>[bv x]) = l.map bv:=fun l=>by induction l with | nil=>rfl | cons x l ih=>rw [List.flatMap_cons,ih];rfl
 rw [e] at h1
 exact h1

set_option maxHeartbeats 1600000 in
/-- A thing that came in. -/
theorem open_thing {H:Type} {enc:TypeId × Value→H} {W:World} {b0:Nat} {v:Value} {d:DataW H} {p:List MemPlace} (hval:Value.okWide Try.prog W .any b0 34 v) (h:DataW.Trod enc Try.prog W 0 (fun _=>true) true 34 v d p)
  (hw:∀ n ∈ d.weights Try.prog 34,n ≤ reachBytes) :
  ∃ (t:Th) (uL uC uK uD:Value),v = thV t uL uC uK uD∧ThAt (fun b=>b < W.heap.size) W t uL uC uK uD∧WfT t∧t.cats.length ≤ 8796093021952∧t.ccats.length ≤ 8796093021952∧t.links.length ≤ 8796093021952∧t.data.length ≤ 140737488351232:=by
 obtain ⟨⟨l⟩,rfl,hsz⟩:=okWide_struct Try.underlying34 hval
 rw [Try.cellsT] at hsz
 obtain ⟨b0,b1,b2,b3,b4,b5,b6,b7,b8,b9,b10,b11,b12,b13,b14,b15,b16,b17,b18,b19,b20,b21,b22,b23,b24,b25,rfl⟩:=list26 (l:=l) (by simpa using hsz)
 obtain ⟨fuel,hf⟩:=h
 obtain ⟨xs,k,hk,hxy,_,hxl,hf⟩:=DataW.trod_struct Try.underlying34 (show DataW.trod enc Try.prog W 0 (fun _=>true) true fuel 34 [b0,b1,b2,b3,b4,b5,b6,b7,b8,b9,b10,b11,b12,b13,b14,b15,b16,b17,b18,b19,b20,b21,b22,b23,b24,b25] = some (d,p) from hf)
 obtain ⟨y0,y1,y2,y3,y4,y5,y6,y7,y8,y9,y10,y11,y12,y13,rfl⟩:∃ y0 y1 y2 y3 y4 y5 y6 y7 y8 y9 y10 y11 y12 y13,xs = [y0,y1,y2,y3,y4,y5,y6,y7,y8,y9,y10,y11,y12,y13]:=by
  match xs,hxl with
  | [y0,y1,y2,y3,y4,y5,y6,y7,y8,y9,y10,y11,y12,y13],_=>exact ⟨y0,y1,y2,y3,y4,y5,y6,y7,y8,y9,y10,y11,y12,y13,rfl⟩
 have g0:DataW.trod enc Try.prog W 0 (fun _=>true) true k 23 (([b0,b1,b2,b3,b4,b5,b6,b7,b8,b9,b10,b11,b12,b13,b14,b15,b16,b17,b18,b19,b20,b21,b22,b23,b24,b25].drop 0).take (Try.prog.cellsOf 23)) = some y0:=hf 0 _ rfl
 rw [Try.cellsU] at g0
 have g0:DataW.trod enc Try.prog W 0 (fun _=>true) true k 23 [b0] = some (y0.1,y0.2):=g0
 have g1:DataW.trod enc Try.prog W 0 (fun _=>true) true k 3 (([b0,b1,b2,b3,b4,b5,b6,b7,b8,b9,b10,b11,b12,b13,b14,b15,b16,b17,b18,b19,b20,b21,b22,b23,b24,b25].drop 1).take (Try.prog.cellsOf 3)) = some y1:=hf 1 _ rfl
 rw [Try.cellsInt] at g1
 have g1:DataW.trod enc Try.prog W 0 (fun _=>true) true k 3 [b1] = some (y1.1,y1.2):=g1
 have g2:DataW.trod enc Try.prog W 0 (fun _=>true) true k 26 (([b0,b1,b2,b3,b4,b5,b6,b7,b8,b9,b10,b11,b12,b13,b14,b15,b16,b17,b18,b19,b20,b21,b22,b23,b24,b25].drop 2).take (Try.prog.cellsOf 26)) = some y2:=hf 2 _ rfl
 rw [Try.cellsL] at g2
 have g2:DataW.trod enc Try.prog W 0 (fun _=>true) true k 26 [b2,b3] = some (y2.1,y2.2):=g2
 have g3:DataW.trod enc Try.prog W 0 (fun _=>true) true k 26 (([b0,b1,b2,b3,b4,b5,b6,b7,b8,b9,b10,b11,b12,b13,b14,b15,b16,b17,b18,b19,b20,b21,b22,b23,b24,b25].drop 4).take (Try.prog.cellsOf 26)) = some y3:=hf 3 _ rfl
 rw [Try.cellsL] at g3
 have g3:DataW.trod enc Try.prog W 0 (fun _=>true) true k 26 [b4,b5] = some (y3.1,y3.2):=g3
 have g4:DataW.trod enc Try.prog W 0 (fun _=>true) true k 3 (([b0,b1,b2,b3,b4,b5,b6,b7,b8,b9,b10,b11,b12,b13,b14,b15,b16,b17,b18,b19,b20,b21,b22,b23,b24,b25].drop 6).take (Try.prog.cellsOf 3)) = some y4:=hf 4 _ rfl
 rw [Try.cellsInt] at g4
 have g4:DataW.trod enc Try.prog W 0 (fun _=>true) true k 3 [b6] = some (y4.1,y4.2):=g4
 have g5:DataW.trod enc Try.prog W 0 (fun _=>true) true k 3 (([b0,b1,b2,b3,b4,b5,b6,b7,b8,b9,b10,b11,b12,b13,b14,b15,b16,b17,b18,b19,b20,b21,b22,b23,b24,b25].drop 7).take (Try.prog.cellsOf 3)) = some y5:=hf 5 _ rfl
 rw [Try.cellsInt] at g5
 have g5:DataW.trod enc Try.prog W 0 (fun _=>true) true k 3 [b7] = some (y5.1,y5.2):=g5
 have g6:DataW.trod enc Try.prog W 0 (fun _=>true) true k 27 (([b0,b1,b2,b3,b4,b5,b6,b7,b8,b9,b10,b11,b12,b13,b14,b15,b16,b17,b18,b19,b20,b21,b22,b23,b24,b25].drop 8).take (Try.prog.cellsOf 27)) = some y6:=hf 6 _ rfl
 rw [Try.cellsKs] at g6
 have g6:DataW.trod enc Try.prog W 0 (fun _=>true) true k 27 [b8] = some (y6.1,y6.2):=g6
 have g7:DataW.trod enc Try.prog W 0 (fun _=>true) true k 28 (([b0,b1,b2,b3,b4,b5,b6,b7,b8,b9,b10,b11,b12,b13,b14,b15,b16,b17,b18,b19,b20,b21,b22,b23,b24,b25].drop 9).take (Try.prog.cellsOf 28)) = some y7:=hf 7 _ rfl
 rw [Try.cellsBs] at g7
 have g7:DataW.trod enc Try.prog W 0 (fun _=>true) true k 28 [b9] = some (y7.1,y7.2):=g7
 have g8:DataW.trod enc Try.prog W 0 (fun _=>true) true k 29 (([b0,b1,b2,b3,b4,b5,b6,b7,b8,b9,b10,b11,b12,b13,b14,b15,b16,b17,b18,b19,b20,b21,b22,b23,b24,b25].drop 10).take (Try.prog.cellsOf 29)) = some y8:=hf 8 _ rfl
 rw [Try.cellsR4] at g8
 have g8:DataW.trod enc Try.prog W 0 (fun _=>true) true k 29 [b10,b11,b12,b13] = some (y8.1,y8.2):=g8
 have g9:DataW.trod enc Try.prog W 0 (fun _=>true) true k 3 (([b0,b1,b2,b3,b4,b5,b6,b7,b8,b9,b10,b11,b12,b13,b14,b15,b16,b17,b18,b19,b20,b21,b22,b23,b24,b25].drop 14).take (Try.prog.cellsOf 3)) = some y9:=hf 9 _ rfl
 rw [Try.cellsInt] at g9
 have g9:DataW.trod enc Try.prog W 0 (fun _=>true) true k 3 [b14] = some (y9.1,y9.2):=g9
 have g10:DataW.trod enc Try.prog W 0 (fun _=>true) true k 3 (([b0,b1,b2,b3,b4,b5,b6,b7,b8,b9,b10,b11,b12,b13,b14,b15,b16,b17,b18,b19,b20,b21,b22,b23,b24,b25].drop 15).take (Try.prog.cellsOf 3)) = some y10:=hf 10 _ rfl
 rw [Try.cellsInt] at g10
 have g10:DataW.trod enc Try.prog W 0 (fun _=>true) true k 3 [b15] = some (y10.1,y10.2):=g10
 have g11:DataW.trod enc Try.prog W 0 (fun _=>true) true k 4 (([b0,b1,b2,b3,b4,b5,b6,b7,b8,b9,b10,b11,b12,b13,b14,b15,b16,b17,b18,b19,b20,b21,b22,b23,b24,b25].drop 16).take (Try.prog.cellsOf 4)) = some y11:=hf 11 _ rfl
 rw [Try.cellsBo] at g11
 have g11:DataW.trod enc Try.prog W 0 (fun _=>true) true k 4 [b16] = some (y11.1,y11.2):=g11
 have g12:DataW.trod enc Try.prog W 0 (fun _=>true) true k 23 (([b0,b1,b2,b3,b4,b5,b6,b7,b8,b9,b10,b11,b12,b13,b14,b15,b16,b17,b18,b19,b20,b21,b22,b23,b24,b25].drop 17).take (Try.prog.cellsOf 23)) = some y12:=hf 12 _ rfl
 rw [Try.cellsU] at g12
 have g12:DataW.trod enc Try.prog W 0 (fun _=>true) true k 23 [b17] = some (y12.1,y12.2):=g12
 have g13:DataW.trod enc Try.prog W 0 (fun _=>true) true k 32 (([b0,b1,b2,b3,b4,b5,b6,b7,b8,b9,b10,b11,b12,b13,b14,b15,b16,b17,b18,b19,b20,b21,b22,b23,b24,b25].drop 18).take (Try.prog.cellsOf 32)) = some y13:=hf 13 _ rfl
 rw [Try.cellsS4] at g13
 have g13:DataW.trod enc Try.prog W 0 (fun _=>true) true k 32 [b18,b19,b20,b21,b22,b23,b24,b25] = some (y13.1,y13.2):=g13
 simp only [Prod.mk.injEq] at hxy
 have hd:d = .agg [y0.1,y1.1,y2.1,y3.1,y4.1,y5.1,y6.1,y7.1,y8.1,y9.1,y10.1,y11.1,y12.1,y13.1]:=by simpa using hxy.1
 obtain ⟨z0,e0,_,wf0⟩:=DataW.trod_int Try.underlying23 g0
 have q0:b0 = .int .u64 z0:=(List.cons.inj (show [b0] = [Value.int .u64 z0] from e0)).1
 subst q0
 obtain ⟨z1,e1,_,wf1⟩:=DataW.trod_int Try.underlying3 g1
 have q1:b1 = .int .i64 z1:=(List.cons.inj (show [b1] = [Value.int .i64 z1] from e1)).1
 subst q1
 obtain ⟨z2,xs2,rfl,kk2,l2,_⟩:=open_label0 g2 (fun n hn=>hw n (by
  rw [hd]
  simp [DataW.weights,Try.underlying34,DataW.weightsEach,hn]))
 obtain ⟨z4,xs4,rfl,kk4,l4,_⟩:=open_label0 g3 (fun n hn=>hw n (by
  rw [hd]
  simp [DataW.weights,Try.underlying34,DataW.weightsEach,hn]))
 obtain ⟨z6,e6,_,wf6⟩:=DataW.trod_int Try.underlying3 g4
 have q6:b6 = .int .i64 z6:=(List.cons.inj (show [b6] = [Value.int .i64 z6] from e6)).1
 subst q6
 obtain ⟨z7,e7,_,wf7⟩:=DataW.trod_int Try.underlying3 g5
 have q7:b7 = .int .i64 z7:=(List.cons.inj (show [b7] = [Value.int .i64 z7] from e7)).1
 subst q7
 obtain ⟨xs8,kk8,l8⟩:=open_links g6 (fun n hn=>hw n (by
  rw [hd]
  simp [DataW.weights,Try.underlying34,DataW.weightsEach,hn]))
 obtain ⟨xs9,kk9,l9,_⟩:=open_bytes g7 (fun n hn=>hw n (by
  rw [hd]
  simp [DataW.weights,Try.underlying34,DataW.weightsEach,hn]))
 obtain ⟨r0,r1,r2,r3,m4,_,h0,h1,h2,h3⟩:=trod_array4 Try.underlying29 Try.cellsU g8
 obtain ⟨z10,e10,_,wf10⟩:=DataW.trod_int Try.underlying23 h0
 have q10:b10 = .int .u64 z10:=(List.cons.inj (show [b10] = [Value.int .u64 z10] from e10)).1
 subst q10
 obtain ⟨z11,e11,_,wf11⟩:=DataW.trod_int Try.underlying23 h1
 have q11:b11 = .int .u64 z11:=(List.cons.inj (show [b11] = [Value.int .u64 z11] from e11)).1
 subst q11
 obtain ⟨z12,e12,_,wf12⟩:=DataW.trod_int Try.underlying23 h2
 have q12:b12 = .int .u64 z12:=(List.cons.inj (show [b12] = [Value.int .u64 z12] from e12)).1
 subst q12
 obtain ⟨z13,e13,_,wf13⟩:=DataW.trod_int Try.underlying23 h3
 have q13:b13 = .int .u64 z13:=(List.cons.inj (show [b13] = [Value.int .u64 z13] from e13)).1
 subst q13
 obtain ⟨z14,e14,_,wf14⟩:=DataW.trod_int Try.underlying3 g9
 have q14:b14 = .int .i64 z14:=(List.cons.inj (show [b14] = [Value.int .i64 z14] from e14)).1
 subst q14
 obtain ⟨z15,e15,_,wf15⟩:=DataW.trod_int Try.underlying3 g10
 have q15:b15 = .int .i64 z15:=(List.cons.inj (show [b15] = [Value.int .i64 z15] from e15)).1
 subst q15
 obtain ⟨z16,e16,_⟩:=DataW.trod_bool Try.underlying4 g11
 have q16:b16 = .bool z16:=(List.cons.inj (show [b16] = [Value.bool z16] from e16)).1
 subst q16
 obtain ⟨z17,e17,_,wf17⟩:=DataW.trod_int Try.underlying23 g12
 have q17:b17 = .int .u64 z17:=(List.cons.inj (show [b17] = [Value.int .u64 z17] from e17)).1
 subst q17
 obtain ⟨ss,m8,_,_,_,hl8,h8⟩:=DataW.trod_array Try.underlying32 g13
 have s0:=h8 0 (by omega)
 rw [Try.cellsSl1,List.getElem?_eq_getElem (show 0 < ss.length by omega)] at s0
 obtain ⟨z18,z19,q18,q19⟩:=open_slot0 (show DataW.trod enc Try.prog W 0 (fun _=>true) true m8 31 [b18,b19] = some _ from s0)
 subst q18
 subst q19
 have s1:=h8 1 (by omega)
 rw [Try.cellsSl1,List.getElem?_eq_getElem (show 1 < ss.length by omega)] at s1
 obtain ⟨z20,z21,q20,q21⟩:=open_slot0 (show DataW.trod enc Try.prog W 0 (fun _=>true) true m8 31 [b20,b21] = some _ from s1)
 subst q20
 subst q21
 have s2:=h8 2 (by omega)
 rw [Try.cellsSl1,List.getElem?_eq_getElem (show 2 < ss.length by omega)] at s2
 obtain ⟨z22,z23,q22,q23⟩:=open_slot0 (show DataW.trod enc Try.prog W 0 (fun _=>true) true m8 31 [b22,b23] = some _ from s2)
 subst q22
 subst q23
 have s3:=h8 3 (by omega)
 rw [Try.cellsSl1,List.getElem?_eq_getElem (show 3 < ss.length by omega)] at s3
 obtain ⟨z24,z25,q24,q25⟩:=open_slot0 (show DataW.trod enc Try.prog W 0 (fun _=>true) true m8 31 [b24,b25] = some _ from s3)
 subst q24
 subst q25
 refine ⟨⟨z0,z1,z2,xs2,z4,xs4,z6,z7,xs8,xs9,z10,z11,z12,z13,z14,z15,z16,z17,z18,z19,z20,z21,z22,z23,z24,z25⟩,b3,b5,b8,b9,rfl,⟨kk2,kk4,kk8,bsl_of_sl kk9⟩,⟨u64b wf10,u64b wf11,u64b wf12,u64b wf13,u64b wf17⟩,l2,l4,l8,l9⟩
end Go.Proofs.Ytgmfofngmfekbaa
