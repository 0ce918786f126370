/-
  Image, as a whole.
-/
import Derived.Test.YtghlilncdfiojaaThI5S
namespace Go.Proofs.Ytghlilncdfiojaa
set_option linter.unusedVariables false
set_option linter.unusedSimpArgs false
set_option maxRecDepth 20000
open Go.RowKit

def FldA (w:World) (v:Value) (fs:List Fld):Prop:=FldS w.heap.size w v fs
theorem FldA.nw {w w':World} {v:Value} {fs:List Fld} (h:FldA w v fs) (hf:Nw w w'):FldA w' v fs:=by
 obtain ⟨cs,h1,h2,h3⟩:=h
 have hs:=hf.size
 exact ⟨cs,(h1.keep (hf.below (Nat.le_refl _) (fun _ h=>h.elim))).mono hs,h2.keep (fun b hb=>⟨by have h9:b < w.heap.size:=hb;show b < _;omega,hf.block b hb (fun h=>h)⟩),h3⟩
theorem FldA.form {w:World} {v:Value} {fs:List Fld} (h:FldA w v fs):∃ a c,v = .slice a fs.length c:=by
 obtain ⟨cs,h1,_⟩:=h
 exact sl_form h1
theorem FldA.at {w:World} {v:Value} {fs:List Fld} (h:FldA w v fs):FieldsAt w.heap.size w v fs:=by
 obtain ⟨cs,⟨ao,cap,rfl,hc,hn,hcs⟩,h2,_⟩:=h
 refine ⟨ao,cap,rfl,hc.1,hn,fun i f hi=>?_⟩
 obtain ⟨bvv,g1,g2,g3,g4⟩:=h2.2 i f hi
 obtain ⟨b,off,ha,hb,hcell⟩:=hcs _ _ g1
 obtain ⟨b',off',ha',_,hcell'⟩:=hcs _ _ g2
 rw [ha] at ha'
 simp only [Option.some.injEq,Addr.mk.injEq,and_true] at ha'
 obtain ⟨rfl,rfl⟩:=ha'
 exact ⟨b,off,bvv,ha,hb,hcell,by rw [Nat.add_assoc];exact hcell',g3.sl (fun b hb=>hb),g4⟩

theorem headF_len (t:Th):(headF t).length = 4:=rfl
theorem partF_len (t:Th):(partF t).length ≤ 100:=by
 unfold partF
 split
 ·simp
 ·split
  ·simp
  ·split
   ·simp
   ·split
    ·simp
    ·split <;> simp

theorem c_packA (sh:ByteArray) {w:World} {v:Value} {fs:List Fld} {y:List UInt8} (h:FldA w v fs) (hp:pack sh.data.toList fs = some y) (hs:sh.size ≤ 200) :
  Calls Try.prog 41 #[.string sh,v] w fun e w'=>∃ u,e = .returned (.tuple #[u,.int .i64 0])∧BSl (fun b=>b < w'.heap.size) w' u y∧Nw w w':=by
 have hl:fs.length ≤ maxLen:=by have:=(pack_some hp).2.1;have h2:sh.data.toList.length = sh.size:=Array.length_toList;unfold maxLen;omega
 refine (c_pack sh w.heap.size v fs w (by unfold maxLen;omega) hl h.at (Nat.le_refl _)).mono (fun e w' h9=>?_)
 obtain ⟨hb,⟨ys,u,h1,h2,h3⟩ | ⟨h1,h2⟩⟩:=h9
 ·rw [hp] at h1;cases h1
  exact ⟨u,h2,h3,fr_of_below hb⟩
 ·rw [hp] at h1;cases h1

theorem c_partA {X:Nat→Prop} {t:Th} {uL uC uK uD:Value} (w:World) (h:ThAt X w t uL uC uK uD) (hr:RightT t) (hw:WfT t) :
  Calls Try.prog 45 #[thV t uL uC uK uD] w fun e w'=>∃ v,e = .returned v∧FldS w'.heap.size w' v (partF t)∧Nw w w':=by
 rcases kind_of hr.parts with e | e | e | e | e | e
 ·exact c_part1 w h hr hw e
 ·exact c_part2 w h hr hw e
 ·exact c_part3 w h hr hw e
 ·exact c_part4 w h hr hw e
 ·exact c_part5 w h hr e
 ·exact c_part6 w h e

/-- What Image answers. -/
def ImgP (t:Th) (e:Ending) (w':World):Prop:=(RightT t∧∃ v y,imgO t = some y∧e = .returned (.tuple #[v,.int .i64 0])∧BSl (fun b=>b < w'.heap.size) w' v y)∨(¬ RightT t∧e = .returned (.tuple #[.slice none 0 0,.int .i64 111]))

set_option maxHeartbeats 3200000 in
theorem c_timage {X:Nat→Prop} {t:Th} {uL uC uK uD:Value} (w:World) (h:ThAt X w t uL uC uK uD) (hwf:WfT t) (l1:t.cats.length ≤ 8796093022208) (l2:t.ccats.length ≤ 8796093022208) :
  Calls Try.prog 16 #[thV t uL uC uK uD] w fun e w'=>ImgP t e w'∧Nw w w':=by
 obtain ⟨W,hW⟩:∃ W,Hid (W = w.alloc (.cells (thC t uL uC uK uD).toArray 34)):=⟨_,rfl⟩
 have nW:Nw w W:=by rw [hW.out];exact nw_alloc (nw_refl w) _
 have hA:W.heap[w.heap.size]? = some (.cells (thC t uL uC uK uD).toArray 34 (0,0)):=by rw [hW.out];exact heap_alloc_new w _
 have ht:=h.nw nW
 clear h
 have hcon:Hid _:=c_tright W ht l1 l2
 unfold AnsP at hcon
 go_enter Try.func16,Try.ntmps16
 go_upto_region 1 with (refine wpList_box_agg rfl 34 _ rfl (thV t uL uC uK uD) _ rfl rfl ?_)
 rw [← hW.out]
 clear hW
 go_wp2_with (first | (refine wpList_load_as ?_ 34 _ rfl w.heap.size 0 rfl (thV t uL uC uK uD) _ rfl (range_all hA) Try.rowT Try.sizeT ?_;exact rfl) | (go_at_call 11;refine Calls.mono hcon.out ?_;rintro e V ⟨r,rfl,q1,q0⟩;refine stop_here ?_))
 unfold Hid
 clear hcon
 replace hA:=(q0.block _ (heap_lt hA) (fun h=>h)).trans hA
 replace ht:=ht.nw q0
 replace q0:Hid (Nw W V):=q0
 cases r with
 | false =>
  have hno:Hid (¬ RightT t):=not_of_false q1
  clear q1
  go_wp2
  go_ret2
  exact ⟨.inr ⟨hno.out,rfl⟩,nw_trans nW q0.out⟩
 | true =>
  have hr:Hid (RightT t):=q1.1 rfl
  obtain ⟨y,hy,-⟩:=img_some hr.out hwf
  replace hy:Hid (imgO t = some y):=hy
  clear q1
  go_upto_region 3 with fail
  have hSof:∀ w',Nw V w'→(fun w':World=>Nw V w'∧w'.heap[w.heap.size]? = some (.cells (thC t uL uC uK uD).toArray 34 (0,0))) w':=fun w' hw=>⟨hw,(hw.block _ (heap_lt hA) (fun h=>h)).trans hA⟩
  have hW0:Nw V V.drew:=Fr.drew (Fr.refl _ V)
  have hS:=hSof _ hW0
  replace ht:=ht.nw hW0
  replace hSof:Hid _:=hSof
  refine wp_region_ord [] 14 [(0,true),(3,true),(5,true),(1,true),(2,false),(4,false),(6,false),(7,false),(8,false),(9,false),(10,true),(11,true),(12,true),(13,true)] (fun w':World=>Nw V w'∧w'.heap[w.heap.size]? = some (.cells (thC t uL uC uK uD).toArray 34 (0,0))) (by kernel_rfl) (by kernel_rfl) ?_
  refine ord_quietL _ ?_ rfl hS rfl ?_ ?_
  rotate_left
  ·rintro w' ⟨hn,rhA⟩;go_simp;first | rfl | (rw [if_pos (by omega)];done) | (rw [if_pos (by omega)];rfl) | (rw [if_pos (by omega)];go_simp;rfl)
  simp only [pL,List.set]
  refine ord_quietL _ ?_ rfl hS rfl ?_ ?_
  rotate_left
  ·rintro w' ⟨hn,rhA⟩;refine (run_load_th _ w' rfl (w.heap.size) rfl rhA).trans ?_;rfl
  simp only [pL,List.set]
  refine ord_quietL _ ?_ rfl hS rfl ?_ ?_
  rotate_left
  ·rintro w' ⟨hn,rhA⟩;refine (run_load_th _ w' rfl (w.heap.size) rfl rhA).trans ?_;rfl
  simp only [pL,List.set]
  refine ord_quietL _ ?_ rfl hS rfl ?_ ?_
  rotate_left
  ·rintro w' ⟨hn,rhA⟩;have g0:w'.cell? ⟨w.heap.size,1,none⟩ = some (.int .i64 t.kind):=cell_blk rhA rfl;go_simp;first | rfl | (rw [if_pos (by omega)];done) | (rw [if_pos (by omega)];rfl) | (rw [if_pos (by omega)];go_simp;rfl)
  simp only [pL,List.set]
  refine ord_actL _ rfl (fun K1 hK1=>?_)
  have hcon:Hid _:=c_shape t.kind V.drew
  go_wp2_with (go_at_call 42;refine Calls.mono hcon.out ?_;rintro e wk0 ⟨rfl,qn⟩)
  have m0:=nw_trans hW0 qn
  replace ht:=ht.nw qn
  refine hK1 _ _ (hSof.out _ m0) ?_
  clear hK1 K1 hcon qn hS hW0
  have hS:=hSof.out _ m0
  refine ord_actL _ rfl (fun K1 hK1=>?_)
  have hcon:Hid _:=c_head wk0 ht hr.out
  go_wp2_with (go_at_call 44;refine Calls.mono hcon.out ?_;rintro e wk1 ⟨vh,rfl,hh,qn⟩)
  have m1:=nw_trans m0 qn
  replace ht:=ht.nw qn
  replace hh:FldA _ _ _:=hh
  obtain ⟨ha,hc,hve⟩:=hh.form
  subst hve
  refine hK1 _ _ (hSof.out _ m1) ?_
  clear hK1 K1 hcon qn hS m0
  have hS:=hSof.out _ m1
  refine ord_actL _ rfl (fun K1 hK1=>?_)
  have hcon:Hid _:=c_partA wk1 ht hr.out hwf
  go_wp2_with (go_at_call 45;refine Calls.mono hcon.out ?_;rintro e wk2 ⟨vp,rfl,hp,qn⟩)
  have m2:=nw_trans m1 qn
  replace ht:=ht.nw qn
  replace hh:=hh.nw qn
  replace hp:FldA _ _ _:=hp
  obtain ⟨pa,pc,hve⟩:=hp.form
  subst hve
  refine hK1 _ _ (hSof.out _ m2) ?_
  clear hK1 K1 hcon qn hS m1
  have hS:=hSof.out _ m2
  refine ord_actL _ rfl (fun K1 hK1=>?_)
  go_wp2
  have mB:=nw_alloc m2 (.cells #[.slice ha (headF t).length hc,.slice pa (partF t).length pc] 71)
  have hB:=heap_alloc_new wk2 (.cells #[.slice ha (headF t).length hc,.slice pa (partF t).length pc] 71)
  replace ht:=ht.nw (nw_alloc (nw_refl wk2) (.cells #[.slice ha (headF t).length hc,.slice pa (partF t).length pc] 71))
  replace hh:=hh.nw (nw_alloc (nw_refl wk2) (.cells #[.slice ha (headF t).length hc,.slice pa (partF t).length pc] 71))
  replace hp:=hp.nw (nw_alloc (nw_refl wk2) (.cells #[.slice ha (headF t).length hc,.slice pa (partF t).length pc] 71))
  refine hK1 _ _ (hSof.out _ mB) ?_
  clear hK1 K1 hS
  have hS:=hSof.out _ mB
  refine ord_actL _ rfl (fun K1 hK1=>?_)
  have hcon:Hid _:=c_concat hh hp (Nat.le_refl _) (Nat.le_refl _) hB (by rw [headF_len];decide) ⟨by rw [headF_len];decide,partF_len t⟩
  go_wp2_with (go_at_call 43;refine Calls.mono hcon.out ?_;rintro e wk3 ⟨vv,rfl,hv,qn⟩)
  have m3:=nw_trans mB qn
  replace ht:=ht.nw qn
  replace hh:=hh.nw qn
  replace hp:=hp.nw qn
  replace hv:FldA _ _ _:=hv
  obtain ⟨va,vc,hve⟩:=hv.form
  generalize (headF t ++ partF t).length = nn at hve
  subst hve
  refine hK1 _ _ (hSof.out _ m3) ?_
  clear hK1 K1 hcon qn hS mB
  have hS:=hSof.out _ m3
  refine ord_actL _ rfl (fun K1 hK1=>?_)
  have hcon:Hid _:=c_packA (shB t.kind) hv (by rw [shB_list];exact hy.out) (shB_size _)
  go_wp2_with (go_at_call 41;refine Calls.mono hcon.out ?_;rintro e wk4 ⟨ip,rfl,hi,qn⟩)
  have m4:=nw_trans m3 qn
  replace ht:=ht.nw qn
  replace hh:=hh.nw qn
  replace hp:=hp.nw qn
  replace hv:=hv.nw qn
  obtain ⟨ia,ic,hve,-⟩:=hi.form
  subst hve
  refine hK1 _ _ (hSof.out _ m4) ?_
  clear hK1 K1 hcon qn hS m3
  have hS:=hSof.out _ m4
  refine ord_quietL _ ?_ rfl hS rfl ?_ ?_
  rotate_left
  ·rintro w' ⟨hn,rhA⟩;go_simp;first | rfl | (rw [if_pos (by omega)];done) | (rw [if_pos (by omega)];rfl) | (rw [if_pos (by omega)];go_simp;rfl)
  simp only [pL,List.set]
  refine ord_quietL _ ?_ rfl hS rfl ?_ ?_
  rotate_left
  ·rintro w' ⟨hn,rhA⟩;go_simp;first | rfl | (rw [if_pos (by omega)];done) | (rw [if_pos (by omega)];rfl) | (rw [if_pos (by omega)];go_simp;rfl)
  simp only [pL,List.set]
  refine ord_quietL _ ?_ rfl hS rfl ?_ ?_
  rotate_left
  ·rintro w' ⟨hn,rhA⟩;go_simp;first | rfl | (rw [if_pos (by omega)];done) | (rw [if_pos (by omega)];rfl) | (rw [if_pos (by omega)];go_simp;rfl)
  simp only [pL,List.set]
  refine ord_quietL _ ?_ rfl hS rfl ?_ ?_
  rotate_left
  ·rintro w' ⟨hn,rhA⟩;go_simp;first | rfl | (rw [if_pos (by omega)];done) | (rw [if_pos (by omega)];rfl) | (rw [if_pos (by omega)];go_simp;rfl)
  simp only [pL,List.set]
  refine ord_tail ?_
  simp only [List.drop_succ_cons,List.drop_zero]
  replace hi:Hid _:=hi
  go_wp2
  go_ret2
  exact ⟨.inl ⟨hr.out,_,_,hy.out,rfl,hi.out⟩,nw_trans nW (nw_trans q0.out m4)⟩
end Go.Proofs.Ytghlilncdfiojaa
