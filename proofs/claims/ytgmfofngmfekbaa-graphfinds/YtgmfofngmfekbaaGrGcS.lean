/-
  GrN, ThC3: in one text.
-/
import Derived.Test.YtgmfofngmfekbaaGrR4S
import Derived.Test.YtgmfofngmfekbaaThGdS
namespace Go.Proofs.Ytgmfofngmfekbaa
set_option linter.unusedVariables false
set_option linter.unusedSimpArgs false
set_option maxRecDepth 20000
open Go.RowKit

theorem Try.infoTb:(Try.prog.info? 34).map (fun i=>(i.zero,i.size,i.bytes)) = some (some (thV zeroT (.slice none 0 0) (.slice none 0 0) (.slice none 0 0) (.slice none 0 0)),26,272):=by kernel_rfl
theorem Try.underTs:Try.prog.underlying 22 = some (.slice 34):=by kernel_rfl
theorem Try.zeroSome:((Try.prog.info? 34).bind (·.zero)).isSome = true:=by kernel_rfl
theorem Try.sizeSome:((Try.prog.info? 34).map (·.size)).isSome = true:=by kernel_rfl

theorem range_nw {w w':World} {q off:Nat} {cs:List Value} (h:w.rangeAt q off cs) (n:Nw w w'):w'.rangeAt q off cs:=fun j v hv=>(World.cell?_of_block (w:=w) (n.block q (World.block_lt_of_cell? w _ (h j v hv)) (fun h=>h))).trans (h j v hv)

/-- A row of one's own of the things ys: its cells in a block from S on, what their lists hold in the class Z, and not in the row's own block. -/
structure GRow (S:Nat) (Z:Nat→Prop) (w:World) (v:Value) (ys:List TC):Prop where
 own:w.ownsRow S 34 26 v ys.length (tcs ys)
 its:∀ y ∈ ys,y.At (fun b=>Z b∧¬ v.ownBlock = some b) w

theorem GRow.nw {S:Nat} {Z:Nat→Prop} {w w':World} {v:Value} {ys:List TC} (h:GRow S Z w v ys) (n:Nw w w'):GRow S Z w' v ys:=⟨owns_nw h.own n,fun y hy=>(h.its y hy).nw n⟩
theorem GRow.form {S:Nat} {Z:Nat→Prop} {w:World} {v:Value} {ys:List TC} (h:GRow S Z w v ys):∃ ao cap,v = .slice ao ys.length cap:=owns_form h.own
theorem GRow.sl {S:Nat} {Z:Nat→Prop} {w:World} {v:Value} {ys:List TC} (h:GRow S Z w v ys):TSl (fun b=>v.ownBlock = some b) (fun b=>Z b∧¬ v.ownBlock = some b) w v ys:=tsl_own h.own h.its
theorem grow_new (w:World) (Z:Nat→Prop):GRow w.heap.size Z (w.alloc (.cells #[] 34)) (.slice (some ⟨w.heap.size,0,none⟩) 0 0) [] :=
 ⟨⟨rfl,.inr ⟨w.heap.size,0,#[],rfl,Nat.le_refl _,heap_alloc_new w _,Nat.le_refl _,Nat.zero_le _,rfl,rfl⟩⟩,fun y hy=>by simp at hy⟩

theorem alloc_size (w:World) (o:Obj):(w.alloc o).heap.size = w.heap.size + 1:=by first | exact Array.size_push _ | (simp;done) | (rw [World.alloc_eq];simp;done)
/-- One more is put behind. -/
theorem GRow.push {S:Nat} {Z:Nat→Prop} {w w9:World} {v v9:Value} {ys:List TC} {y:TC} (h:GRow S Z w v ys) (hy:y.At (fun b=>Z b∧¬ v.ownBlock = some b) w)
  (hown:w9.ownsRow S 34 26 v9 (ys.length + 1) (tcs ys ++ tcC y)) (hg:(w.alloc (.cells (tcC y).toArray 34)).grownBy w9 v.ownBlock) (hat:v9.ownBlock = v.ownBlock∨v9.ownBlock = some (w.heap.size + 1)) :
  GRow S Z w9 v9 (ys ++ [y]):=by
 have fr:Fr (fun b=>v.ownBlock = some b) w w9:=Fr.grown (fr_of_nw (nw_alloc (nw_refl w) _)) hg (fun q hq=>.inl hq)
 have key:∀ x:TC,x.At (fun b=>Z b∧¬ v.ownBlock = some b) w→x.At (fun b=>Z b∧¬ v9.ownBlock = some b) w9:=fun x hx =>
  hx.keep fr (fun b hb _=>hb.2) (fun b hb hlt=>⟨hb.1,fun e=>by
   rcases hat with h1 | h1
   ·exact hb.2 (h1 ▸ e)
   ·rw [h1,Option.some.injEq] at e;omega⟩)
 refine ⟨by rw [tcs_append,tcs_one,List.length_append];exact hown,fun x hx=>?_⟩
 rcases List.mem_append.1 hx with h1 | h1
 ·exact key x (h.its x h1)
 ·rw [List.mem_singleton] at h1;subst h1;exact key x hy
theorem GRow.fr {S:Nat} {Z:Nat→Prop} {w0 w w9:World} {v:Value} {ys:List TC} {o:Obj} (h:GRow S Z w v ys) (n:Nw w0 w) (hS:w0.heap.size ≤ S) (hg:(w.alloc o).grownBy w9 v.ownBlock):Nw w0 w9 :=
 Fr.grown (nw_alloc n _) hg (fun q hq=>.inr (by have:=(h.own.lt q hq).1;omega))
theorem push_blk {S:Nat} {Z:Nat→Prop} {w w9:World} {v:Value} {ys:List TC} {o:Obj} {b:Nat} {ob:Obj} (_h:GRow S Z w v ys) (hb:w.heap[b]? = some ob) (hne:¬ v.ownBlock = some b) (hg:(w.alloc o).grownBy w9 v.ownBlock):w9.heap[b]? = some ob :=
 ((Fr.grown (fr_of_nw (nw_alloc (nw_refl w) o)) hg (fun q hq=>.inl hq):Fr (fun b=>v.ownBlock = some b) w w9).block b (heap_lt hb) hne).trans hb
theorem push_old {S B:Nat} {Z:Nat→Prop} {w w9:World} {v:Value} {ys:List TC} {o:Obj} {y:TC} (h:GRow S Z w v ys) (hB:B ≤ S) (hy:y.At (fun b=>b < B) w) (hg:(w.alloc o).grownBy w9 v.ownBlock):y.At (fun b=>b < B) w9 :=
 hy.keep (Fr.grown (fr_of_nw (nw_alloc (nw_refl w) o)) hg (fun q hq=>.inl hq):Fr (fun b=>v.ownBlock = some b) w w9) (fun b hb _ e=>by have h9:=(h.own.lt b e).1;have h8:b < B:=hb;omega) (fun b hb _=>hb)
theorem GRow.old {S B:Nat} {w:World} {v:Value} {ys:List TC} {y:TC} (h:GRow S (fun b=>b < B) w v ys) (hB:B ≤ S) (hy:y.At (fun b=>b < B) w):y.At (fun b=>b < B∧¬ v.ownBlock = some b) w :=
 hy.mono (fun b hb _=>⟨hb,fun e=>by have h9:=(h.own.lt b e).1;have h8:b < B:=hb;omega⟩)
theorem TSl.below {X Y:Nat→Prop} {w:World} {v:Value} {xs:List TC} (h:TSl X Y w v xs):TSl X (fun b=>b < w.heap.size) w v xs:=h.mono (fun _ hb _=>hb) (fun _ _ hl=>hl)

/-- Lists that can be copied. -/
structure TLen (t:Th):Prop where
 l1:t.cats.length ≤ 8796093022208
 l2:t.ccats.length ≤ 8796093022208
 l3:t.links.length ≤ 8796093022208
 l4:t.data.length ≤ 140737488355328
end Go.Proofs.Ytgmfofngmfekbaa

namespace Go.Proofs.Ytgmfofngmfekbaa
set_option linter.unusedVariables false
set_option linter.unusedSimpArgs false
set_option maxRecDepth 20000
open Go.RowKit

set_option maxHeartbeats 3200000 in
theorem c_rtcopy {X:Nat→Prop} {t:Th} {uL uC uK uD:Value} (w:World) (h:ThAt X w t uL uC uK uD) (l1:t.cats.length ≤ 8796093022208) (l2:t.ccats.length ≤ 8796093022208) (l3:t.links.length ≤ 8796093022208) (l4:t.data.length ≤ 140737488355328) :
  Calls Try.prog 29 #[thV t uL uC uK uD] w fun e w'=>∃ u1 u2 u3 u4,e = .returned (thV t u1 u2 u3 u4)∧ThAt (fun b=>w.heap.size ≤ b) w' t u1 u2 u3 u4∧Nw w w':=by
 obtain ⟨W,hW⟩:∃ W,Hid (W = (w.alloc (.cells (thC t uL uC uK uD).toArray 34)).alloc (.cells (thC zeroT (.slice none 0 0) (.slice none 0 0) (.slice none 0 0) (.slice none 0 0)).toArray 34)):=⟨_,rfl⟩
 have nW:Nw w W:=by rw [hW.out];exact nw_alloc (nw_alloc (nw_refl w) _) _
 have hA:W.heap[w.heap.size]? = some (.cells (thC t uL uC uK uD).toArray 34 (0,0)):=by rw [hW.out];exact heap_alloc2_old w _ _
 have hZ:W.heap[w.heap.size + 1]? = some (.cells (thC zeroT (.slice none 0 0) (.slice none 0 0) (.slice none 0 0) (.slice none 0 0)).toArray 34 (0,0)):=by rw [hW.out];exact heap_alloc2_new w _ _
 have ht:=(h.mono (X':=fun b=>b < w.heap.size) (fun b _ hb=>hb)).nw nW
 go_enter Try.func29,Try.ntmps29
 go_upto_region 1 with (first | refine wpList_box_agg rfl 34 _ rfl (thV t uL uC uK uD) _ rfl rfl ?_ | (refine wpList_alloc_agg rfl 34 rfl _ Try.zeroTh ?_;rw [← hW.out]))
 clear hW
 have hZW:=hZ
 have hAW:=hA
 have htW:=ht
 have nwW:=nW
 have s00:=heap_lt hZ
 clear hA hZ ht nW
 have g0:W.cell? ⟨w.heap.size,2,none⟩ = some (.int .i64 t.df):=cell_blk hAW rfl
 have g1:W.cell? ⟨w.heap.size,3,none⟩ = some uL:=cell_blk hAW rfl
 have hcon:Hid _:=c_copy t.df W htW.l (by omega)
 unfold labV at hcon
 obtain ⟨fa1,fc1,hf1,-⟩:=htW.l.form
 subst hf1
 go_wp2_with (go_at_call 55;refine Calls.mono hcon.out ?_;rintro e X1 ⟨u,rfl,o1,qn⟩;refine stop_here ?_)
 unfold Hid
 clear hcon g0 g1
 obtain ⟨ua1,uc1,hu1,-⟩:=o1.form
 subst hu1
 have hA1:=(qn.block _ (heap_lt hAW) (fun h=>h)).trans hAW
 have hZ1:=(qn.block _ (heap_lt hZW) (fun h=>h)).trans hZW
 have g0:X1.cell? ⟨w.heap.size,2,none⟩ = some (.int .i64 t.df):=cell_blk hA1 rfl
 have g1:X1.cell? ⟨w.heap.size,3,none⟩ = some (.slice fa1 t.cats.length fc1):=cell_blk hA1 rfl
 have gf:∀ k,X1.frozen? ⟨w.heap.size,k,none⟩ = false:=fun k=>free_blk hA1
 obtain ⟨V1,hV⟩:∃ V,Hid (V = (X1.setCell ⟨w.heap.size,2,none⟩ (.int .i64 t.df)).setCell ⟨w.heap.size,3,none⟩ (.slice ua1 t.cats.length uc1)):=⟨_,rfl⟩
 have fV:Fr (fun k=>k = w.heap.size) X1 V1:=by rw [hV.out];exact ((Fr.refl (fun k=>k = w.heap.size) X1).setCell (p:=⟨w.heap.size,2,none⟩) (.inl rfl) _).setCell (p:=⟨w.heap.size,3,none⟩) (.inl rfl) _
 have hAV1:V1.heap[w.heap.size]? = some (.cells (thC t (.slice ua1 t.cats.length uc1) uC uK uD).toArray 34 (0,0)):=by rw [hV.out,blk_setCell (blk_setCell hA1)];rfl
 have hZV1:=(fV.block _ (heap_lt hZ1) (by omega)).trans hZ1
 go_upto_region 2 with fail
 rw [← hV.out]
 clear hV g0 g1 gf
 have s1:=qn.size
 have s2:=fV.size
 have htV1:=(htW.nw qn).keep (X':=fun b=>b < w.heap.size) fV (fun b hb _ e=>by omega) (fun b hb _=>hb)
 have nwV1:Nw w V1:=Fr.trans (nw_trans nwW qn) fV (fun k hk=>.inr (by omega))
 have oV1:CSl (fun b=>w.heap.size + 2 ≤ b) V1 (.slice ua1 t.cats.length uc1) _:=o1.keep fV (fun b hb hlt e=>by have h9:W.heap.size ≤ b:=hb;have h8:=heap_lt hZW;omega) (fun b hb _=>by have h9:W.heap.size ≤ b:=hb;have h8:=heap_lt hZW;omega)
 clear s1 s2 fV qn hA1 hZ1 o1 htW nwW hAW hZW
 have g0:V1.cell? ⟨w.heap.size,4,none⟩ = some (.int .i64 t.cdf):=cell_blk hAV1 rfl
 have g1:V1.cell? ⟨w.heap.size,5,none⟩ = some uC:=cell_blk hAV1 rfl
 have hcon:Hid _:=c_copy t.cdf V1 htV1.c (by omega)
 unfold labV at hcon
 obtain ⟨fa2,fc2,hf2,-⟩:=htV1.c.form
 subst hf2
 go_wp2_with (go_at_call 55;refine Calls.mono hcon.out ?_;rintro e X2 ⟨u,rfl,o2,qn⟩;refine stop_here ?_)
 unfold Hid
 clear hcon g0 g1
 obtain ⟨ua2,uc2,hu2,-⟩:=o2.form
 subst hu2
 have hA1:=(qn.block _ (heap_lt hAV1) (fun h=>h)).trans hAV1
 have hZ1:=(qn.block _ (heap_lt hZV1) (fun h=>h)).trans hZV1
 have g0:X2.cell? ⟨w.heap.size,4,none⟩ = some (.int .i64 t.cdf):=cell_blk hA1 rfl
 have g1:X2.cell? ⟨w.heap.size,5,none⟩ = some (.slice fa2 t.ccats.length fc2):=cell_blk hA1 rfl
 have gf:∀ k,X2.frozen? ⟨w.heap.size,k,none⟩ = false:=fun k=>free_blk hA1
 obtain ⟨V2,hV⟩:∃ V,Hid (V = (X2.setCell ⟨w.heap.size,4,none⟩ (.int .i64 t.cdf)).setCell ⟨w.heap.size,5,none⟩ (.slice ua2 t.ccats.length uc2)):=⟨_,rfl⟩
 have fV:Fr (fun k=>k = w.heap.size) X2 V2:=by rw [hV.out];exact ((Fr.refl (fun k=>k = w.heap.size) X2).setCell (p:=⟨w.heap.size,4,none⟩) (.inl rfl) _).setCell (p:=⟨w.heap.size,5,none⟩) (.inl rfl) _
 have hAV2:V2.heap[w.heap.size]? = some (.cells (thC t (.slice ua1 t.cats.length uc1) (.slice ua2 t.ccats.length uc2) uK uD).toArray 34 (0,0)):=by rw [hV.out,blk_setCell (blk_setCell hA1)];rfl
 have hZV2:=(fV.block _ (heap_lt hZ1) (by omega)).trans hZ1
 go_upto_region 3 with fail
 rw [← hV.out]
 clear hV g0 g1 gf
 have s1:=qn.size
 have s2:=fV.size
 have htV2:=(htV1.nw qn).keep (X':=fun b=>b < w.heap.size) fV (fun b hb _ e=>by omega) (fun b hb _=>hb)
 have nwV2:Nw w V2:=Fr.trans (nw_trans nwV1 qn) fV (fun k hk=>.inr (by omega))
 have oV2:CSl (fun b=>w.heap.size + 2 ≤ b) V2 (.slice ua2 t.ccats.length uc2) _:=o2.keep fV (fun b hb hlt e=>by have h9:V1.heap.size ≤ b:=hb;have h8:=heap_lt hZV1;omega) (fun b hb _=>by have h9:V1.heap.size ≤ b:=hb;have h8:=heap_lt hZV1;omega)
 have oo0:CSl (fun b=>w.heap.size + 2 ≤ b) V2 (.slice ua1 t.cats.length uc1) _:=(oV1.nw qn).keep fV (fun b hb _ e=>by omega) (fun b hb _=>hb)
 replace oV1:=oo0
 clear oo0
 clear s1 s2 fV qn hA1 hZ1 o2 htV1 nwV1 hAV1 hZV1
 obtain ⟨i3,hj3,hj30,hj31,hj32⟩:=info_parts3 Try.infoLk
 obtain ⟨i4,hj4,hj40,hj41,hj42⟩:=info_parts3 Try.infoBy
 obtain ⟨fa3,fc3,hf3,-⟩:=htV2.k.form
 subst hf3
 have g1:(V2.alloc (.cells #[] 54)).cell? ⟨w.heap.size,8,none⟩ = some (.slice fa3 t.links.length fc3):=cell_blk ((Below.heap_alloc V2 _ _ (heap_lt hAV2)).trans hAV2) rfl
 have hrA:(V2.alloc (.cells #[] 54)).ownsRow V2.heap.size 54 2 (.slice (some ⟨V2.heap.size,0,none⟩) 0 0) 0 []:=⟨rfl,.inr ⟨V2.heap.size,0,#[],rfl,Nat.le_refl _,heap_alloc_new V2 _,Nat.le_refl _,Nat.zero_le _,rfl,rfl⟩⟩
 have hslA:Sl V2.heap.size (V2.alloc (.cells #[] 54)) (.slice fa3 t.links.length fc3) t.links.length (ccells t.links):=htV2.k.sl.keep ((Below.refl _ V2).alloc (Nat.le_refl _) _)
 have hkl:(ccells t.links).length = t.links.length * 2:=ccells_length _
 have hone:=ccells_oneCell t.links
 go_wp2_with (first | (refine wpList_buildSlice0 rfl 27 54 rfl Try.underlying27 (by kernel_rfl) ?_) | (at_builtin;refine wpList_append_sl _ rfl _ _ 27 rfl V2.heap.size 54 i3 _ 2 16 Try.underlying27 hj3 hj30 hj31 hj32 rfl (by decide) _ _ _ rfl hrA _ _ _ _ rfl hslA hkl hone ?d32 ?d33 ?d34 ?_))
 case d32=>unfold maxLen;omega
 case d33=>omega
 case d34=>simp
 intro v9 X3 hown9 hgrow9 hat9
 have qn:Nw V2 X3:=Fr.grown (nw_alloc (nw_refl V2) _) hgrow9 (fun q hq=>.inr (hrA.lt q hq).1)
 obtain ⟨ua3,uc3,hu3⟩:=owns_form hown9
 subst hu3
 have o3:CSl (fun b=>w.heap.size + 2 ≤ b) X3 _ t.links:=(csl_of_own (show X3.ownsRow V2.heap.size 54 2 _ t.links.length (ccells t.links) by simpa using hown9)).mono (fun b hb _=>by have h9:V2.heap.size ≤ b:=hb;have h8:=heap_lt hZV2;omega)
 clear hgrow9 hat9 hrA hslA hown9 g1 hkl hone
 have hA1:=(qn.block _ (heap_lt hAV2) (fun h=>h)).trans hAV2
 have hZ1:=(qn.block _ (heap_lt hZV2) (fun h=>h)).trans hZV2
 have g1:X3.cell? ⟨w.heap.size,8,none⟩ = some (.slice fa3 t.links.length fc3):=cell_blk hA1 rfl
 have gf:∀ k,X3.frozen? ⟨w.heap.size,k,none⟩ = false:=fun k=>free_blk hA1
 obtain ⟨V3,hV⟩:∃ V,Hid (V = X3.setCell ⟨w.heap.size,8,none⟩ (.slice ua3 t.links.length uc3)):=⟨_,rfl⟩
 have fV:Fr (fun k=>k = w.heap.size) X3 V3:=by rw [hV.out];exact (Fr.refl (fun k=>k = w.heap.size) X3).setCell (p:=⟨w.heap.size,8,none⟩) (.inl rfl) _
 have hAV3:V3.heap[w.heap.size]? = some (.cells (thC t (.slice ua1 t.cats.length uc1) (.slice ua2 t.ccats.length uc2) (.slice ua3 t.links.length uc3) uD).toArray 34 (0,0)):=by rw [hV.out,blk_setCell hA1];rfl
 have hZV3:=(fV.block _ (heap_lt hZ1) (by omega)).trans hZ1
 go_upto_region 4 with fail
 rw [← hV.out]
 clear hV g1 gf
 have s1:=qn.size
 have s2:=fV.size
 have htV3:=(htV2.nw qn).keep (X':=fun b=>b < w.heap.size) fV (fun b hb _ e=>by omega) (fun b hb _=>hb)
 have nwV3:Nw w V3:=Fr.trans (nw_trans nwV2 qn) fV (fun k hk=>.inr (by omega))
 have oV3:CSl (fun b=>w.heap.size + 2 ≤ b) V3 (.slice ua3 t.links.length uc3) _:=o3.keep fV (fun b hb _ e=>by have h9:w.heap.size + 2 ≤ b:=hb;omega) (fun b hb _=>hb)
 have oo0:CSl (fun b=>w.heap.size + 2 ≤ b) V3 (.slice ua1 t.cats.length uc1) _:=(oV1.nw qn).keep fV (fun b hb _ e=>by have h9:w.heap.size + 2 ≤ b:=hb;omega) (fun b hb _=>hb)
 replace oV1:=oo0
 clear oo0
 have oo1:CSl (fun b=>w.heap.size + 2 ≤ b) V3 (.slice ua2 t.ccats.length uc2) _:=(oV2.nw qn).keep fV (fun b hb _ e=>by have h9:w.heap.size + 2 ≤ b:=hb;omega) (fun b hb _=>hb)
 replace oV2:=oo1
 clear oo1
 clear s1 s2 fV qn hA1 hZ1 o3 htV2 nwV2 hAV2 hZV2
 obtain ⟨fa4,fc4,hf4,-⟩:=htV3.d.form
 subst hf4
 have g1:(V3.alloc (.cells #[] 5)).cell? ⟨w.heap.size,9,none⟩ = some (.slice fa4 t.data.length fc4):=cell_blk ((Below.heap_alloc V3 _ _ (heap_lt hAV3)).trans hAV3) rfl
 have hrA:(V3.alloc (.cells #[] 5)).ownsRow V3.heap.size 5 1 (.slice (some ⟨V3.heap.size,0,none⟩) 0 0) 0 []:=⟨rfl,.inr ⟨V3.heap.size,0,#[],rfl,Nat.le_refl _,heap_alloc_new V3 _,Nat.le_refl _,Nat.zero_le _,rfl,rfl⟩⟩
 have hslA:Sl V3.heap.size (V3.alloc (.cells #[] 5)) (.slice fa4 t.data.length fc4) t.data.length (t.data.map bv):=htV3.d.sl.keep ((Below.refl _ V3).alloc (Nat.le_refl _) _)
 have hkl:(t.data.map bv).length = t.data.length * 1:=by simp
 have hone:=bv_oneCell t.data
 go_wp2_with (first | (refine wpList_buildSlice0 rfl 28 5 rfl Try.underlying28 (by kernel_rfl) ?_) | (at_builtin;refine wpList_append_sl _ rfl _ _ 28 rfl V3.heap.size 5 i4 _ 1 1 Try.underlying28 hj4 hj40 hj41 hj42 rfl (by decide) _ _ _ rfl hrA _ _ _ _ rfl hslA hkl hone ?d42 ?d43 ?d44 ?_))
 case d42=>unfold maxLen;omega
 case d43=>omega
 case d44=>simp
 intro v9 X4 hown9 hgrow9 hat9
 have qn:Nw V3 X4:=Fr.grown (nw_alloc (nw_refl V3) _) hgrow9 (fun q hq=>.inr (hrA.lt q hq).1)
 obtain ⟨ua4,uc4,hu4⟩:=owns_form hown9
 subst hu4
 have o4:BSl (fun b=>w.heap.size + 2 ≤ b) X4 _ t.data:=(bsl_of_own (show X4.ownsRow V3.heap.size 5 1 _ t.data.length (t.data.map bv) by simpa using hown9)).mono (fun b hb _=>by have h9:V3.heap.size ≤ b:=hb;have h8:=heap_lt hZV3;omega)
 clear hgrow9 hat9 hrA hslA hown9 g1 hkl hone
 have hA1:=(qn.block _ (heap_lt hAV3) (fun h=>h)).trans hAV3
 have hZ1:=(qn.block _ (heap_lt hZV3) (fun h=>h)).trans hZV3
 have g1:X4.cell? ⟨w.heap.size,9,none⟩ = some (.slice fa4 t.data.length fc4):=cell_blk hA1 rfl
 have gf:∀ k,X4.frozen? ⟨w.heap.size,k,none⟩ = false:=fun k=>free_blk hA1
 obtain ⟨V4,hV⟩:∃ V,Hid (V = X4.setCell ⟨w.heap.size,9,none⟩ (.slice ua4 t.data.length uc4)):=⟨_,rfl⟩
 have fV:Fr (fun k=>k = w.heap.size) X4 V4:=by rw [hV.out];exact (Fr.refl (fun k=>k = w.heap.size) X4).setCell (p:=⟨w.heap.size,9,none⟩) (.inl rfl) _
 have hAV4:V4.heap[w.heap.size]? = some (.cells (thC t (.slice ua1 t.cats.length uc1) (.slice ua2 t.ccats.length uc2) (.slice ua3 t.links.length uc3) (.slice ua4 t.data.length uc4)).toArray 34 (0,0)):=by rw [hV.out,blk_setCell hA1];rfl
 have hZV4:=(fV.block _ (heap_lt hZ1) (by omega)).trans hZ1
 go_upto_region 5 with fail
 rw [← hV.out]
 clear hV g1 gf
 have s1:=qn.size
 have s2:=fV.size
 have htV4:=(htV3.nw qn).keep (X':=fun b=>b < w.heap.size) fV (fun b hb _ e=>by omega) (fun b hb _=>hb)
 have nwV4:Nw w V4:=Fr.trans (nw_trans nwV3 qn) fV (fun k hk=>.inr (by omega))
 have oV4:BSl (fun b=>w.heap.size + 2 ≤ b) V4 (.slice ua4 t.data.length uc4) _:=o4.keep fV (fun b hb _ e=>by have h9:w.heap.size + 2 ≤ b:=hb;omega) (fun b hb _=>hb)
 have oo0:CSl (fun b=>w.heap.size + 2 ≤ b) V4 (.slice ua1 t.cats.length uc1) _:=(oV1.nw qn).keep fV (fun b hb _ e=>by have h9:w.heap.size + 2 ≤ b:=hb;omega) (fun b hb _=>hb)
 replace oV1:=oo0
 clear oo0
 have oo1:CSl (fun b=>w.heap.size + 2 ≤ b) V4 (.slice ua2 t.ccats.length uc2) _:=(oV2.nw qn).keep fV (fun b hb _ e=>by have h9:w.heap.size + 2 ≤ b:=hb;omega) (fun b hb _=>hb)
 replace oV2:=oo1
 clear oo1
 have oo2:CSl (fun b=>w.heap.size + 2 ≤ b) V4 (.slice ua3 t.links.length uc3) _:=(oV3.nw qn).keep fV (fun b hb _ e=>by have h9:w.heap.size + 2 ≤ b:=hb;omega) (fun b hb _=>hb)
 replace oV3:=oo2
 clear oo2
 clear s1 s2 fV qn hA1 hZ1 o4 htV3 nwV3 hAV3 hZV3
 have hall:ThAt (fun b=>w.heap.size + 2 ≤ b) V4 t (.slice ua1 t.cats.length uc1) (.slice ua2 t.ccats.length uc2) (.slice ua3 t.links.length uc3) (.slice ua4 t.data.length uc4):=⟨oV1,oV2,oV3,oV4⟩
 clear oV1 oV2 oV3 oV4
 have hr0:V4.rangeAt w.heap.size 0 (thC t (.slice ua1 t.cats.length uc1) (.slice ua2 t.ccats.length uc2) (.slice ua3 t.links.length uc3) (.slice ua4 t.data.length uc4)):=range_all hAV4
 have hfin:Hid ((V4.setRow (w.heap.size + 1) (thC t (.slice ua1 t.cats.length uc1) (.slice ua2 t.ccats.length uc2) (.slice ua3 t.links.length uc3) (.slice ua4 t.data.length uc4)).toArray).rangeAt (w.heap.size + 1) 0 (thC t (.slice ua1 t.cats.length uc1) (.slice ua2 t.ccats.length uc2) (.slice ua3 t.links.length uc3) (.slice ua4 t.data.length uc4))∧Fr (fun k=>k = w.heap.size + 1) V4 (V4.setRow (w.heap.size + 1) (thC t (.slice ua1 t.cats.length uc1) (.slice ua2 t.ccats.length uc2) (.slice ua3 t.links.length uc3) (.slice ua4 t.data.length uc4)).toArray)):=⟨range_all (setRow_heap _ _ _ _ _ _ hZV4),(Fr.refl (fun k=>k = w.heap.size + 1) V4).setRow (.inl rfl) _⟩
 go_wp2_with (refine wpList_load_as rfl 34 _ rfl (w.heap.size) 0 rfl (thV t (.slice ua1 t.cats.length uc1) (.slice ua2 t.ccats.length uc2) (.slice ua3 t.links.length uc3) (.slice ua4 t.data.length uc4)) _ rfl hr0 Try.rowT Try.sizeT ?_;refine stop_here ?_)
 unfold Hid
 refine wpList_store_all rfl 34 _ _ rfl (w.heap.size + 1) rfl (thV t (.slice ua1 t.cats.length uc1) (.slice ua2 t.ccats.length uc2) (.slice ua3 t.links.length uc3) (.slice ua4 t.data.length uc4)) rfl (thC t (.slice ua1 t.cats.length uc1) (.slice ua2 t.ccats.length uc2) (.slice ua3 t.links.length uc3) (.slice ua4 t.data.length uc4)) rfl (thC zeroT (.slice none 0 0) (.slice none 0 0) (.slice none 0 0) (.slice none 0 0)) 34 hZV4 rfl (th_one _ _ _ _ _ rfl rfl rfl rfl) Try.sizeT ?_
 go_wp2
 refine bodyPost_ret (results_cell1 rfl _ (w.heap.size + 1) _ (thV t (.slice ua1 t.cats.length uc1) (.slice ua2 t.ccats.length uc2) (.slice ua3 t.links.length uc3) (.slice ua4 t.data.length uc4)) rfl rfl hfin.out.1 Try.rowT Try.sizeT) rfl ?_
 exact ⟨_,_,_,_,rfl,hall.keep hfin.out.2 (fun b hb _ e=>by have h9:w.heap.size + 2 ≤ b:=hb;omega) (fun b hb _=>by have h9:w.heap.size + 2 ≤ b:=hb;omega),Fr.trans nwV4 hfin.out.2 (fun k hk=>.inr (by omega))⟩
end Go.Proofs.Ytgmfofngmfekbaa
