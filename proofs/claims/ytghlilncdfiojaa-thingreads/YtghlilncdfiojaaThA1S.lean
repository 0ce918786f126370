/-
  The chapter's example.
-/
import Derived.Test.YtghlilncdfiojaaThG7S
import Derived.Test.YtghlilncdfiojaaThW3S
namespace Go.Proofs.Ytghlilncdfiojaa
set_option linter.unusedVariables false
set_option linter.unusedSimpArgs false
set_option maxRecDepth 20000
open Go.RowKit

def devT:Th:={ zeroT with id:=65,kind:=6,df:=2,quota:=1 }
def devB:List UInt8:=[0,0,0,0,0,0,0,65,6,0,1,2,0,1]

theorem dev_right:RightT devT:=by
 refine ⟨⟨by decide,by decide⟩,?_,.inr (.inr ⟨by decide,fun i h=>by simp [devT,zeroT] at h⟩),rfl,.inr (.inr (.inr (.inr (.inr ⟨rfl,rfl⟩))))⟩
 exact ⟨by decide,by decide,by decide,⟨List.Pairwise.nil,fun c hc=>(List.not_mem_nil hc).elim⟩,fun i h=>(Nat.not_lt_zero i h).elim⟩
theorem dev_wf:WfT devT:=⟨by decide,by decide,by decide,by decide,by decide⟩
theorem dev_img:imgO devT = some devB:=by decide
theorem dev_at (X:Nat→Prop) (w:World):ThAt X w devT (.slice none 0 0) (.slice none 0 0) (.slice none 0 0) (.slice none 0 0):=⟨csl_nil _ _,csl_nil _ _,csl_nil _ _,bsl_nil _ _⟩

theorem CSl.one {X:Nat→Prop} {w:World} {v:Value} {xs:List Cat} (h:CSl X w v xs):v.oneCell' = true:=by obtain ⟨_,_,rfl,_⟩:=h.form;rfl
theorem BSl.one {X:Nat→Prop} {w:World} {v:Value} {xs:List UInt8} (h:BSl X w v xs):v.oneCell' = true:=by obtain ⟨_,_,rfl,_⟩:=h.form;rfl
theorem ThAt.one {X:Nat→Prop} {w:World} {t:Th} {uL uC uK uD:Value} (h:ThAt X w t uL uC uK uD):∀ v ∈ thC t uL uC uK uD,v.oneCell' = true:=th_one t uL uC uK uD h.l.one h.c.one h.k.one h.d.one

theorem sl_dev (w:World):Sl (w.heap.size + 1) (w.alloc (.cells #[.int .u8 0,.int .u8 0,.int .u8 0,.int .u8 0,.int .u8 0,.int .u8 0,.int .u8 0,.int .u8 65,.int .u8 6,.int .u8 0,.int .u8 1,.int .u8 2,.int .u8 0,.int .u8 1] 5)) (.slice (some ⟨w.heap.size,0,none⟩) 14 14) devB.length (devB.map bv):=sl_lit w #[.int .u8 0,.int .u8 0,.int .u8 0,.int .u8 0,.int .u8 0,.int .u8 0,.int .u8 0,.int .u8 65,.int .u8 6,.int .u8 0,.int .u8 1,.int .u8 2,.int .u8 0,.int .u8 1] 5 14 (by omega)

theorem c_device (w:World):Calls Try.prog 20 #[] w fun e w'=>e = .returned (thV devT (.slice none 0 0) (.slice none 0 0) (.slice none 0 0) (.slice none 0 0))∧Nw w w':=by
 obtain ⟨W,hW⟩:∃ W,Hid (W = w.alloc (.cells (thC zeroT (.slice none 0 0) (.slice none 0 0) (.slice none 0 0) (.slice none 0 0)).toArray 34)):=⟨_,rfl⟩
 have nW:Nw w W:=by rw [hW.out];exact nw_alloc (nw_refl w) _
 have hZ:W.heap[w.heap.size]? = some (.cells (thC zeroT (.slice none 0 0) (.slice none 0 0) (.slice none 0 0) (.slice none 0 0)).toArray 34 (0,0)):=by rw [hW.out];exact heap_alloc_new w _
 go_enter Try.func20,Try.ntmps20
 go_upto_region 1 with (refine wpList_alloc_agg rfl 34 rfl _ Try.zeroTh ?_)
 rw [← hW.out]
 clear hW
 refine wp_region_list ?_
 simp only [List.toList_toArray,List.append_eq,List.cons_append,List.nil_append]
 refine wpList_build_as rfl 26 _ rfl (.agg #[.int .i64 2,.slice none 0 0]) #[.int .i64 2,.slice none 0 0] rfl ?z0 ?_
 case z0 =>
  simp only [List.map_cons,List.map_nil,Act.eval]
  kernel_rfl
 simp only [pL,List.set]
 refine wpList_build_as rfl 34 _ rfl (thV devT (.slice none 0 0) (.slice none 0 0) (.slice none 0 0) (.slice none 0 0)) (thC devT (.slice none 0 0) (.slice none 0 0) (.slice none 0 0) (.slice none 0 0)).toArray rfl ?z ?_
 case z =>
  simp only [List.map_cons,List.map_nil,Act.eval]
  exact builtTh devT _ _ _ _ rfl
 simp only [pL,List.set]
 refine wpList_store_all rfl 34 _ _ rfl w.heap.size rfl (thV devT (.slice none 0 0) (.slice none 0 0) (.slice none 0 0) (.slice none 0 0)) rfl (thC devT (.slice none 0 0) (.slice none 0 0) (.slice none 0 0) (.slice none 0 0)) rfl (thC zeroT (.slice none 0 0) (.slice none 0 0) (.slice none 0 0) (.slice none 0 0)) 34 hZ rfl (th_one _ _ _ _ _ rfl rfl rfl rfl) Try.sizeT ?_
 go_wp2
 refine bodyPost_ret (results_cell1 rfl _ w.heap.size _ (thV devT (.slice none 0 0) (.slice none 0 0) (.slice none 0 0) (.slice none 0 0)) rfl rfl (range_all (setRow_heap _ _ _ _ _ _ hZ)) Try.rowT Try.sizeT) rfl ?_
 exact ⟨rfl,Fr.setRow nW (.inr (Nat.le_refl _)) _⟩

theorem read_dev {e:Ending} {w':World} (h:ReadP devB e w'):∃ uL uC uK uD,e = .returned (.tuple #[thV devT uL uC uK uD,.int .i64 0])∧ThAt (fun b=>b < w'.heap.size) w' devT uL uC uK uD:=by
 rcases h with ⟨t,vL,vC,vK,vD,h1,h2,h3,rfl,h5⟩ | ⟨h1,_⟩
 ·obtain rfl:=img_inj h1 dev_right h2 dev_wf h3 dev_img
  exact ⟨_,_,_,_,rfl,h5⟩
 ·exact absurd dev_img (h1 devT dev_right dev_wf)

theorem strdev (w:World) {a:Option Addr} {n c:Nat} {X:Nat→Prop} (h:BSl X w (.slice a n c) devB):(convert 28 9 (.slice a n c)).run Try.prog w = .ok (.string { data:=#[0,0,0,0,0,0,0,65,6,0,1,2,0,1] }) w :=
 run_string_sl (P:=Try.prog) 28 5 9 Try.underlying28 Try.underlying5 Try.underlying9 h.sl

set_option maxHeartbeats 3200000 in
theorem c_alive (w:World):Calls Try.prog 9 #[] w fun e w'=>e = .returned (.bool true)∧Nw w w':=by
 go_enter Try.func9,Try.ntmps9
 go_wp2_with (go_at_call 20;refine (c_device _).mono ?_;rintro e w1 ⟨rfl,n1⟩;refine stop_here ?_)
 unfold Hid
 have hci:Hid _:=c_timage w1 (dev_at (fun _=>False) w1) dev_wf (by decide) (by decide)
 go_wp2_with (go_at_call 16;refine Calls.mono hci.out ?_;rintro e w2 ⟨hip,n2⟩;obtain ⟨p1,p2,p3,rfl,hbs⟩:=img_yes hip dev_right dev_img;refine stop_here ?_)
 unfold Hid
 clear hci
 have hcr:Hid _:=c_tread (w2.alloc (.cells #[.int .u8 0,.int .u8 0,.int .u8 0,.int .u8 0,.int .u8 0,.int .u8 0,.int .u8 0,.int .u8 65,.int .u8 6,.int .u8 0,.int .u8 1,.int .u8 2,.int .u8 0,.int .u8 1] 5)) (sl_dev w2) (by simp)
 have nA:Nw w2 (w2.alloc (.cells #[.int .u8 0,.int .u8 0,.int .u8 0,.int .u8 0,.int .u8 0,.int .u8 0,.int .u8 0,.int .u8 65,.int .u8 6,.int .u8 0,.int .u8 1,.int .u8 2,.int .u8 0,.int .u8 1] 5)):=nw_alloc (nw_refl w2) _
 replace hbs:=hbs.nw nA
 replace hbs:Hid (BSl (fun b=>b < w2.heap.size) (w2.alloc (.cells #[.int .u8 0,.int .u8 0,.int .u8 0,.int .u8 0,.int .u8 0,.int .u8 0,.int .u8 0,.int .u8 65,.int .u8 6,.int .u8 0,.int .u8 1,.int .u8 2,.int .u8 0,.int .u8 1] 5)) (.slice p1 p2 p3) devB):=hbs
 go_wp2_with (go_at_call 18;refine Calls.mono hcr.out ?_;rintro e R ⟨hrd,n3⟩;obtain ⟨uL,uC,uK,uD,rfl,ht⟩:=read_dev hrd;refine stop_here ?_)
 unfold Hid
 clear hcr
 replace hbs:Hid (BSl (fun b=>b < w2.heap.size) R (.slice p1 p2 p3) devB):=hbs.out.nw n3
 obtain ⟨Y,hY⟩:∃ Y,Hid (Y = R.alloc (.cells (thC zeroT (.slice none 0 0) (.slice none 0 0) (.slice none 0 0) (.slice none 0 0)).toArray 34)):=⟨_,rfl⟩
 have hP:Y.heap[R.heap.size]? = some (.cells (thC zeroT (.slice none 0 0) (.slice none 0 0) (.slice none 0 0) (.slice none 0 0)).toArray 34 (0,0)):=by rw [hY.out];exact heap_alloc_new R _
 have nY:Nw R Y:=by rw [hY.out];exact nw_alloc (nw_refl _) _
 obtain ⟨W3,hW3⟩:∃ W3,Hid (W3 = Y.setRow R.heap.size (thC devT uL uC uK uD).toArray):=⟨_,rfl⟩
 have hT:W3.heap[R.heap.size]? = some (.cells (thC devT uL uC uK uD).toArray 34 (0,0)):=by rw [hW3.out];exact setRow_heap _ _ _ _ _ _ hP
 have nR:Nw R W3:=by rw [hW3.out];exact Fr.setRow nY (.inr (Nat.le_refl _)) _
 have hone:=ht.one
 replace ht:=ht.nw nR
 have nW3:Nw w W3:=nw_trans (nw_trans (nw_trans (nw_trans n1 n2) nA) n3) nR
 replace hbs:Hid (BSl (fun b=>b < w2.heap.size) W3 (.slice p1 p2 p3) devB):=hbs.out.nw nR
 go_wp2_with (refine wpList_alloc_agg rfl 34 rfl _ Try.zeroTh ?_;rw [← hY.out];refine stop_here ?_)
 unfold Hid
 refine wpList_store_all rfl 34 _ _ rfl R.heap.size rfl (thV devT uL uC uK uD) rfl (thC devT uL uC uK uD) rfl (thC zeroT (.slice none 0 0) (.slice none 0 0) (.slice none 0 0) (.slice none 0 0)) 34 hP rfl hone Try.sizeT ?_
 rw [← hW3.out]
 clear hY hW3 hP nY nR n3 nA n2 n1 hone
 go_upto_region 3 with fail
 have hSof:∀ w',Nw W3 w'→(fun w':World=>Nw W3 w'∧w'.heap[R.heap.size]? = some (.cells (thC devT uL uC uK uD).toArray 34 (0,0))) w':=fun w' hw=>⟨hw,(hw.block _ (heap_lt hT) (fun h=>h)).trans hT⟩
 have hW0:Nw W3 W3.drew:=Fr.drew (Fr.refl _ W3)
 have hS:=hSof _ hW0
 replace ht:=ht.nw hW0
 replace hSof:Hid _:=hSof
 refine wp_region_ord [] 20 [(0,false),(1,false),(2,true),(3,true),(4,true),(5,true),(6,true),(7,true),(8,true),(9,true),(10,true),(11,true),(12,true),(13,true),(14,true),(15,true),(16,true),(17,false),(18,false),(19,true)] (fun w':World=>Nw W3 w'∧w'.heap[R.heap.size]? = some (.cells (thC devT uL uC uK uD).toArray 34 (0,0))) (by kernel_rfl) (by kernel_rfl) ?_
 refine ord_actL _ rfl (fun K1 hK1=>?_)
 have hcon:Hid _:=c_device W3.drew
 go_wp2_with (go_at_call 20;refine Calls.mono hcon.out ?_;rintro e wk0 ⟨rfl,qn⟩)
 have m0:=nw_trans hW0 qn
 replace ht:=ht.nw qn
 refine hK1 _ _ (hSof.out _ m0) ?_
 clear hK1 K1 hcon qn hS hW0
 have hS:=hSof.out _ m0
 refine ord_actL _ rfl (fun K1 hK1=>?_)
 have hcon:Hid _:=c_tright wk0 (dev_at (fun _=>False) _) (by decide) (by decide)
 unfold AnsP at hcon
 go_wp2_with (go_at_call 11;refine Calls.mono hcon.out ?_;rintro e wk1 ⟨r1,rfl,q1,qn⟩)
 have m1:=nw_trans m0 qn
 replace ht:=ht.nw qn
 obtain rfl:=q1.2 dev_right
 clear q1
 refine hK1 _ _ (hSof.out _ m1) ?_
 clear hK1 K1 hcon qn hS m0
 have hS:=hSof.out _ m1
 refine ord_quietL _ ?_ rfl hS rfl ?_ ?_
 rotate_left
 ·rintro w' ⟨hn,rhT⟩;go_simp;first | rfl | (rw [if_pos (by omega)];done) | (rw [if_pos (by omega)];rfl) | (rw [if_pos (by omega)];go_simp;rfl)
 simp only [pL,List.set]
 refine ord_quietL _ ?_ rfl hS rfl ?_ ?_
 rotate_left
 ·rintro w' ⟨hn,rhT⟩;go_simp;first | rfl | (rw [if_pos (by omega)];done) | (rw [if_pos (by omega)];rfl) | (rw [if_pos (by omega)];go_simp;rfl)
 simp only [pL,List.set]
 refine ord_quietL _ ?_ rfl hS rfl ?_ ?_
 rotate_left
 ·rintro w' ⟨hn,rhT⟩;go_simp;first | rfl | (rw [if_pos (by omega)];done) | (rw [if_pos (by omega)];rfl) | (rw [if_pos (by omega)];go_simp;rfl)
 simp only [pL,List.set]
 refine ord_quietL _ ?_ rfl hS rfl ?_ ?_
 rotate_left
 ·rintro w' ⟨hn,rhT⟩;go_simp;first | rfl | (rw [if_pos (by omega)];done) | (rw [if_pos (by omega)];rfl) | (rw [if_pos (by omega)];go_simp;rfl)
 simp only [pL,List.set]
 refine ord_quietL _ ?_ rfl hS rfl ?_ ?_
 rotate_left
 ·rintro w' ⟨hn,rhT⟩;go_simp;first | rfl | (rw [if_pos (by omega)];done) | (rw [if_pos (by omega)];rfl) | (rw [if_pos (by omega)];go_simp;rfl)
 simp only [pL,List.set]
 refine ord_quietL _ ?_ rfl hS rfl ?_ ?_
 rotate_left
 ·rintro w' ⟨hn,rhT⟩;go_simp;first | rfl | (rw [if_pos (by omega)];done) | (rw [if_pos (by omega)];rfl) | (rw [if_pos (by omega)];go_simp;rfl)
 simp only [pL,List.set]
 refine ord_quietL _ ?_ rfl hS rfl ?_ ?_
 rotate_left
 ·rintro w' ⟨hn,rhT⟩;have hc:=strdev w' (hbs.out.nw hn);go_simp;rfl
 simp only [pL,List.set]
 refine ord_quietL _ ?_ rfl hS rfl ?_ ?_
 rotate_left
 ·rintro w' ⟨hn,rhT⟩;go_simp;first | rfl | (rw [if_pos (by omega)];done) | (rw [if_pos (by omega)];rfl) | (rw [if_pos (by omega)];go_simp;rfl)
 simp only [pL,List.set]
 refine ord_quietL _ ?_ rfl hS rfl ?_ ?_
 rotate_left
 ·rintro w' ⟨hn,rhT⟩;go_simp;first | rfl | (rw [if_pos (by omega)];done) | (rw [if_pos (by omega)];rfl) | (rw [if_pos (by omega)];go_simp;rfl)
 simp only [pL,List.set]
 refine ord_quietL _ ?_ rfl hS rfl ?_ ?_
 rotate_left
 ·rintro w' ⟨hn,rhT⟩;go_simp;first | rfl | (rw [if_pos (by omega)];done) | (rw [if_pos (by omega)];rfl) | (rw [if_pos (by omega)];go_simp;rfl)
 simp only [pL,List.set]
 refine ord_quietL _ ?_ rfl hS rfl ?_ ?_
 rotate_left
 ·rintro w' ⟨hn,rhT⟩;go_simp;first | rfl | (rw [if_pos (by omega)];done) | (rw [if_pos (by omega)];rfl) | (rw [if_pos (by omega)];go_simp;rfl)
 simp only [pL,List.set]
 refine ord_quietL _ ?_ rfl hS rfl ?_ ?_
 rotate_left
 ·rintro w' ⟨hn,rhT⟩;go_simp;first | rfl | (rw [if_pos (by omega)];done) | (rw [if_pos (by omega)];rfl) | (rw [if_pos (by omega)];go_simp;rfl)
 simp only [pL,List.set]
 refine ord_quietL _ ?_ rfl hS rfl ?_ ?_
 rotate_left
 ·rintro w' ⟨hn,rhT⟩;go_simp;first | rfl | (rw [if_pos (by omega)];done) | (rw [if_pos (by omega)];rfl) | (rw [if_pos (by omega)];go_simp;rfl)
 simp only [pL,List.set]
 refine ord_quietL _ ?_ rfl hS rfl ?_ ?_
 rotate_left
 ·rintro w' ⟨hn,rhT⟩;go_simp;first | rfl | (rw [if_pos (by omega)];done) | (rw [if_pos (by omega)];rfl) | (rw [if_pos (by omega)];go_simp;rfl)
 simp only [pL,List.set]
 refine ord_quietL _ ?_ rfl hS rfl ?_ ?_
 rotate_left
 ·rintro w' ⟨hn,rhT⟩;refine (run_load_th _ w' rfl (R.heap.size) rfl rhT).trans ?_;rfl
 simp only [pL,List.set]
 refine ord_actL _ rfl (fun K1 hK1=>?_)
 have hcon:Hid _:=c_device wk1
 go_wp2_with (go_at_call 20;refine Calls.mono hcon.out ?_;rintro e wk2 ⟨rfl,qn⟩)
 have m2:=nw_trans m1 qn
 replace ht:=ht.nw qn
 refine hK1 _ _ (hSof.out _ m2) ?_
 clear hK1 K1 hcon qn hS m1
 have hS:=hSof.out _ m2
 refine ord_actL _ rfl (fun K1 hK1=>?_)
 have hcon:Hid _:=c_tsame wk2 ht (dev_at (fun _=>False) _)
 unfold AnsP at hcon
 go_wp2_with (go_at_call 13;refine Calls.mono hcon.out ?_;rintro e wk3 ⟨r2,rfl,q2,qn⟩)
 have m3:=nw_trans m2 qn
 replace ht:=ht.nw qn
 obtain rfl:=q2.2 (by trivial)
 clear q2
 refine hK1 _ _ (hSof.out _ m3) ?_
 clear hK1 K1 hcon qn hS m2
 have hS:=hSof.out _ m3
 refine ord_quietL _ ?_ rfl hS rfl ?_ ?_
 rotate_left
 ·rintro w' ⟨hn,rhT⟩;go_simp;first | rfl | (rw [if_pos (by omega)];done) | (rw [if_pos (by omega)];rfl) | (rw [if_pos (by omega)];go_simp;rfl)
 simp only [pL,List.set]
 refine ord_tail ?_
 simp only [List.drop_succ_cons,List.drop_zero]
 have hfin:Hid (Nw w wk3):=nw_trans nW3 m3
 clear hSof hS
 go_wp2
 go_ret
 exact ⟨rfl,hfin.out⟩
end Go.Proofs.Ytghlilncdfiojaa
