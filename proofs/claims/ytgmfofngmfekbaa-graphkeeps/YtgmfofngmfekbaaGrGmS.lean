/-
  GrT11, GrT12, GrT13: in one text.
-/
import Derived.ArgAppend
import Derived.Test.YtgmfofngmfekbaaGrGlS
import Derived.Test.YtgmfofngmfekbaaGrGhS
namespace Go.Proofs.Ytgmfofngmfekbaa
set_option linter.unusedVariables false
set_option linter.unusedSimpArgs false
set_option maxRecDepth 20000
open Go.RowKit

/-- Numbers in a block of one's own, anywhere in it. -/
def QRow (S:Nat) (w:World) (v:Value) (q:List Int):Prop :=
 ∃ g off cap cur,v = .slice (some ⟨g,off,none⟩) q.length cap∧S ≤ g∧w.heap[g]? = some (.cells cur 23 (0,0))∧q.length ≤ cap∧cap ≤ maxLen∧off + cap ≤ cur.size∧∀ i (h:i < q.length),cur[off + i]? = some (.int .u64 q[i])
theorem QRow.form {S:Nat} {w:World} {v:Value} {q:List Int} (h:QRow S w v q):∃ g off cap,v = .slice (some ⟨g,off,none⟩) q.length cap∧S ≤ g:=by
 obtain ⟨g,off,cap,cur,hv,hS,_⟩:=h
 exact ⟨g,off,cap,hv,hS⟩
theorem QRow.lt {S:Nat} {w:World} {v:Value} {q:List Int} (h:QRow S w v q):∀ b,v.ownBlock = some b→S ≤ b∧b < w.heap.size:=by
 obtain ⟨g,off,cap,cur,rfl,hS,hg,_⟩:=h
 intro b e
 have:g = b:=by simpa [Value.ownBlock] using e
 subst this
 exact ⟨hS,heap_lt hg⟩
theorem QRow.fr {S:Nat} {w w':World} {v:Value} {q:List Int} (h:QRow S w v q) {T:Nat→Prop} (n:Fr T w w') (hT:∀ b,v.ownBlock = some b→¬ T b):QRow S w' v q:=by
 obtain ⟨g,off,cap,cur,rfl,hS,hg,r⟩:=h
 exact ⟨g,off,cap,cur,rfl,hS,(n.block g (heap_lt hg) (hT g rfl)).trans hg,r⟩
theorem QRow.nw {S:Nat} {w w':World} {v:Value} {q:List Int} (h:QRow S w v q) (n:Nw w w'):QRow S w' v q:=h.fr n (fun _ _ h=>h)
theorem q_new {S:Nat} (w:World) (x:Int) (h:S ≤ w.heap.size):QRow S (w.alloc (.cells #[.int .u64 x] 23)) (.slice (some ⟨w.heap.size,0,none⟩) 1 1) [x] :=
 ⟨w.heap.size,0,1,_,rfl,h,heap_alloc_new w _,Nat.le_refl _,by unfold maxLen;decide,Nat.le_refl _,fun i hi=>by
  have:i = 0:=by simpa using hi
  subst this
  rfl⟩
theorem q_head {S:Nat} {w:World} {v:Value} {x:Int} {q:List Int} (h:QRow S w v (x :: q)):∃ g off cap,v = .slice (some ⟨g,off,none⟩) (q.length + 1) cap∧S ≤ g∧w.cell? ⟨g,off,none⟩ = some (.int .u64 x):=by
 obtain ⟨g,off,cap,cur,hv,hS,hg,_,_,_,hc⟩:=h
 exact ⟨g,off,cap,hv,hS,cell_blk hg (by have:=hc 0 (by simp);simpa using this)⟩
/-- The queue without its first. -/
theorem q_tail {S:Nat} {w:World} {v:Value} {x:Int} {q:List Int} (h:QRow S w v (x :: q)):∃ v',QRow S w v' q∧v'.ownBlock = v.ownBlock∧∀ (kl:IntKind) (l:Int) (w':World),l = 1→(Instr.sliceAt 45 v (some (.int kl l)) none none).run Try.prog w' = .ok v' w':=by
 obtain ⟨g,off,cap,cur,rfl,hS,hg,hc1,hc2,hc3,hc⟩:=h
 rw [List.length_cons] at hc1
 have he:Try.prog.elem 45 = 23:=by simp [Program.elem,Try.underlying45]
 obtain ⟨i0,hi0,_,hs0,_⟩:=info_parts3 Try.infoU
 have hrun:∀ (kl:IntKind) (w':World),(Instr.sliceAt 45 (.slice (some ⟨g,off,none⟩) (q.length + 1) cap) (some (.int kl 1)) none none).run Try.prog w' = .ok (sliced (some ⟨g,off,none⟩) 1 (q.length + 1) cap 1) w':=fun kl w'=>by
  rw [run_sliceAt_slice w' _ _ _ _ _ (by rw [he];exact Try.underlying45),run_slice_l w' 45 _ _ _ (by rw [he];exact Try.underlying45) kl 1 (by omega) (by omega),he]
  simp [sizeOf,typeInfo,hi0,hs0,Result.andThen]
 by_cases e:cap = 1
 ·subst e
  have hq:q = []:=List.length_eq_zero_iff.1 (by omega)
  subst hq
  refine ⟨.slice (some ⟨g,off,none⟩) 0 0,⟨g,off,0,cur,rfl,hS,hg,Nat.le_refl _,Nat.zero_le _,by omega,fun i hi=>by simp at hi⟩,rfl,fun kl l w' hl=>?_⟩
  subst hl
  have:=hrun kl w'
  simpa [sliced] using this
 ·refine ⟨.slice (some ⟨g,off + 1,none⟩) q.length (cap - 1),⟨g,off + 1,cap - 1,cur,rfl,hS,hg,by omega,by omega,by omega,fun i hi=>?_⟩,rfl,fun kl l w' hl=>?_⟩
  ·have:=hc (i + 1) (by simpa using hi)
   rw [show off + 1 + i = off + (i + 1) by omega]
   simpa using this
  ·subst hl
   have:=hrun kl w'
   simpa [sliced,e,add_plain] using this
/-- One more is put behind. -/
theorem wpList_append_q {w:World} {ops:Array Oper} {rest:List Oper} {o:Oper} {a:Act} {Q:Exit→Act→World→Prop} (hgd:o.guard = none) (s x:Operand)
  (ho:o.op = .call { callee:=.builtin .append,args:=#[s,x],argTypes:=#[45,45] }) {S:Nat} {v:Value} {q:List Int} (hs:a.eval s = v) (hq:QRow S w v q) (hS:S ≤ w.heap.size) (hlen:q.length ≤ 1000000000)
  (y:Int) (B:Nat) (hx:a.eval x = .slice (some ⟨B,0,none⟩) 1 1) (hB:w.heap[B]? = some (.cells #[.int .u64 y] 23 (0,0)))
  (h:∀ v' w',QRow S w' v' (q ++ [y])→Fr (fun b=>v.ownBlock = some b) w w'→wpList Try.prog ops Q rest (a.put o.dst v') w'):wpList Try.prog ops Q (o :: rest) a w:=by
 obtain ⟨g,off,cap,cur,rfl,hSg,hg,hc1,hc2,hc3,hc⟩:=hq
 obtain ⟨i0,hi0,hz0,hs0,hb0⟩:=info_parts3 Try.infoU
 have hlt:∀ j,j < cap→∃ u,cur[off + j]? = some u:=fun j hj=>⟨_,Array.getElem?_eq_getElem (by omega)⟩
 refine wpList_append_arg w hgd s x 45 ho 23 i0 _ 1 8 Try.underlying45 hi0 hz0 hs0 hb0 rfl (by decide) g off q.length cap (q.map uv) hs (by simp) (fun j u hj=>?_) ⟨B,0,none⟩ 1 1 [.int .u64 y] hx rfl (fun j u hj=>?_) (fun u hu=>?_) (fun hr j hj=>?_) (by unfold maxLen;omega) (by omega) (fun hr=>?_) (fun hr v' w' hown hgrow=>?_)
 ·have hjl:=(List.getElem?_eq_some_iff.1 hj).1
  rw [List.length_map] at hjl
  refine cell_blk hg ?_
  rw [hc j hjl]
  rw [List.getElem?_map,List.getElem?_eq_getElem hjl] at hj
  exact hj
 ·have hj0:j = 0:=by have:=(List.getElem?_eq_some_iff.1 hj).1;simpa using this
  subst hj0
  rw [Addr.add_lit]
  exact cell_blk hB (by simpa using hj)
 ·have:u = .int .u64 y:=by simpa using hu
  subst this
  rfl
 ·have hj0:j = 0:=by simpa using hj
  subst hj0
  obtain ⟨u,hu⟩:=hlt q.length (by omega)
  refine ⟨?_,free_blk hg⟩
  have:w.cell? ⟨g,off + q.length * 1 + 0,none⟩ = some u:=cell_blk hg (by rw [Nat.mul_one,Nat.add_zero];exact hu)
  rw [this];rfl
 ·have hset:(w.setCells g (off + q.length * 1) [.int .u64 y]) = w.setCell ⟨g,off + q.length,none⟩ (.int .u64 y):=by rw [Nat.mul_one];rfl
  rw [hset]
  refine h _ _ ⟨g,off,cap,cur.setIfInBounds (off + q.length) (.int .u64 y),by rw [List.length_append];rfl,hSg,blk_setCell hg,by rw [List.length_append];exact hr,hc2,by rw [Array.size_setIfInBounds];exact hc3,fun i hi=>?_⟩ (Fr.setCell (S:=fun b=>(Value.slice (some (⟨g,off,none⟩:Addr)) q.length cap).ownBlock = some b) (p:=⟨g,off + q.length,none⟩) (Fr.refl _ w) (.inl rfl) _)
  rw [List.length_append] at hi
  rw [Array.getElem?_setIfInBounds]
  by_cases e:i = q.length
  ·subst e
   rw [if_pos rfl,if_pos (by omega)]
   simp
  ·have hil:i < q.length:=by simp at hi;omega
   rw [if_neg (by omega),hc i hil,List.getElem_append_left hil]
 ·refine h _ _ ?_ (Fr.grown (Fr.refl _ w) hgrow (fun k hk=>by cases hk))
  rcases hown.2 with ⟨_,e⟩ | ⟨g2,cap2,cur2,rfl,hb2,hg2,hn2,hm2,hs2,ht2⟩
  ·omega
  ·refine ⟨g2,0,cap2,cur2,by rw [List.length_append];rfl,by omega,hg2,by rw [List.length_append];exact hn2,hm2,by omega,fun i hi=>?_⟩
   rw [List.length_append] at hi
   have e1:(q.map uv ++ [Value.int .u64 y])[i]? = some (.int .u64 ((q ++ [y])[i]'(by simpa using hi))):=by
    have e2:q.map uv ++ [Value.int .u64 y] = (q ++ [y]).map uv:=by simp [uv]
    rw [e2,List.getElem?_map,List.getElem?_eq_getElem (by simpa using hi)]
    rfl
   rw [← ht2,List.getElem?_take_of_lt (by simpa using hi)] at e1
   rw [Nat.zero_add]
   simpa using e1

/-- A row of Booleans that fills its block. -/
def BoolB (w:World) (g:Nat) (bs:List Bool):Prop:=w.heap[g]? = some (.cells (bs.map Value.bool).toArray 4 (0,0))
theorem BoolB.fr {w w':World} {g:Nat} {bs:List Bool} (h:BoolB w g bs) {S:Nat→Prop} (n:Fr S w w') (hS:¬ S g):BoolB w' g bs:=(n.block g (heap_lt h) hS).trans h
theorem BoolB.nw {w w':World} {g:Nat} {bs:List Bool} (h:BoolB w g bs) (n:Nw w w'):BoolB w' g bs:=h.fr n (fun h=>h)
theorem BoolB.get {w:World} {g:Nat} {bs:List Bool} (h:BoolB w g bs) {i:Nat} (hi:i < bs.length):w.cell? ⟨g,i,none⟩ = some (.bool (bs.getD i false)):=cell_blk h (by
 rw [List.getD_eq_getElem?_getD,List.getElem?_eq_getElem hi]
 simp [hi])
theorem BoolB.set {w:World} {g:Nat} {bs:List Bool} (h:BoolB w g bs) (i:Nat) (b:Bool):BoolB (w.setCell ⟨g,i,none⟩ (.bool b)) g (bs.set i b):=by
 have:=blk_setCell (i:=i) (v:=.bool b) h
 unfold BoolB
 rw [this]
 congr 2
 rw [List.map_set]
 simp
theorem Try.infoBl:(Try.prog.info? 4).map (fun i=>(i.zero,i.size,i.bytes)) = some (some (.bool false),1,1):=by kernel_rfl
theorem Try.underBl:Try.prog.underlying 77 = some (.slice 4):=by kernel_rfl
theorem made_bool (n:Nat):madeCells (Value.bool false).cells (n * 1) = ((List.replicate n false).map Value.bool).toArray:=by
 apply Array.toList_inj.1
 refine List.ext_getElem (by simp [madeCells]) (fun i h1 h2=>?_)
 simp [madeCells,Value.cells,Nat.mod_one]
end Go.Proofs.Ytgmfofngmfekbaa

namespace Go.Proofs.Ytgmfofngmfekbaa
set_option linter.unusedVariables false
set_option linter.unusedSimpArgs false
set_option maxRecDepth 20000
open Go.RowKit

set_option maxRecDepth 100000 in
set_option maxHeartbeats 6400000 in
theorem c_greached {X Y:Nat→Prop} {v:Value} {xs:List TC} (w:World) (h:TSl X Y w v xs) (hp:PwX xs) (hne:0 < xs.length) (h1:xs[0].t.id = 1) (h16:∀ x ∈ xs,x.t.links.length ≤ 16) (hn:xs.length ≤ 100000) :
  Calls Try.prog 60 #[v] w fun e w'=>e = .returned (rowV w.heap.size xs.length)∧BoolB w' w.heap.size (marksX xs)∧Nw w w':=by
 obtain ⟨ao,cap,rfl,hc1,hc2⟩:=h.form
 obtain ⟨gS,hgS⟩:∃ g,Hid (g = w.heap.size):=⟨_,rfl⟩
 rw [← hgS.out]
 have hstart:=rinv_start xs
 have hrest:=restU_le h16 (List.replicate xs.length false)
 have hend:Hid (∀ bs,RInv xs bs []→bs = marksX xs):=fun bs hb=>rinv_end hp hne h1 hb
 have h16x:Hid _:=h16
 have hpx:Hid (PwX xs):=hp
 have h1x:Hid (xs[0].t.id = 1):=h1
 clear h1 h16
 obtain ⟨N,hN⟩:∃ N,xs.length = N:=⟨_,rfl⟩
 have hNx:Hid (xs.length = N):=hN
 rw [hN] at h hc1 hn hne hstart hrest ⊢
 clear hN
 obtain ⟨Y1,hY⟩:∃ Y,Hid (Y = w.alloc (.cells ((List.replicate N false).map Value.bool).toArray 4)):=⟨_,rfl⟩
 have n0:Nw w Y1:=by rw [hY.out];exact nw_alloc (nw_refl _) _
 have hB0:BoolB Y1 gS (List.replicate N false):=by rw [hY.out,hgS.out];exact heap_alloc_new w _
 have hg1:gS < Y1.heap.size:=heap_lt hB0
 obtain ⟨Z1,hZ⟩:∃ Z,Hid (Z = Y1.alloc (.cells #[.int .u64 1] 23)):=⟨_,rfl⟩
 have nz:Nw w Z1:=by rw [hZ.out];exact nw_alloc n0 _
 have hq0:QRow (gS + 1) Z1 (.slice (some ⟨Y1.heap.size,0,none⟩) 1 1) [1]:=by rw [hZ.out];exact q_new Y1 1 hg1
 have hB1:BoolB Z1 gS (List.replicate N false):=by rw [hZ.out];exact hB0.nw (nw_alloc (nw_refl _) _)
 obtain ⟨i0,hi0,hz0,hs0,hb0⟩:=info_parts3 Try.infoBl
 have hmade:madeCells (Value.bool false).cells (N * i0.size) = ((List.replicate N false).map Value.bool).toArray:=by rw [hs0];exact made_bool N
 clear hB0
 go_enter Try.func60,Try.ntmps60
 go_wp2_with (refine wpList_make_as rfl 77 4 _ _ rfl N rfl rfl i0 _ Try.underBl hi0 hz0 (by omega) (by rw [hb0];omega) _ hmade ?_;rw [← hY.out,← hgS.out];refine stop_here ?_)
 unfold Hid
 clear hY hmade hi0 hz0 hs0 hb0
 go_wp2
 rw [← hZ.out]
 clear hZ
 generalize Y1.heap.size = A0 at *
 go_loopg [4] (1 + restU xs (List.replicate N false)) (fun kx s4 wr=>∃ (q:List Int) (bs:List Bool) (u:Value),s4 = u∧QRow (gS + 1) wr u q∧BoolB wr gS bs∧Hid (RInv xs bs q)∧q.length + restU xs bs ≤ kx∧kx ≤ 2000000∧Nw w wr)
 case atStart=>exact ⟨[1],List.replicate N false,_,rfl,hq0,hB1,hstart,Nat.le_refl _,by omega,nz⟩
 case round =>
  clear hq0 hB1 nz hstart hrest n0 hg1
  obtain ⟨q,bs,u,rfl,hq,hB,hI,hk,hk2,hw⟩:=hrel
  have hs:=h.nw hw
  cases q with
  | nil =>
   have hm:Hid (bs = marksX xs):=hend.out bs hI.out
   obtain ⟨q0,off0,cap0,rfl,_⟩:=hq.form
   rw [hm.out] at hB
   clear hm hI hs hend
   go_wp2
   go_ret
   exact ⟨rfl,hB,hw⟩
  | cons id q =>
   have hbl:bs.length = N:=hI.out.len.trans hNx.out
   have hl32:(id :: q).length = q.length + 1:=rfl
   rw [hl32] at hk
   clear hl32
   obtain ⟨sv,hsv,hob,hrun⟩:=q_tail hq
   obtain ⟨q0,off0,cap0,rfl,hq0S,hq0c⟩:=q_head hq
   have hqb:gS + 1 ≤ q0∧q0 < wr.heap.size:=hq.lt q0 rfl
   clear hq
   have hpl:Hid _:=c_gplace id wr hs hpx.out (by have:=hNx.out;omega)
   clear hs
   have nW:Nw wr wr:=nw_refl _
   obtain ⟨M,hM⟩:∃ M,Hid (M = q.length + 1):=⟨_,rfl⟩
   have hM1:0 < M:=by have:=hM.out;omega
   rw [← hM.out] at hrun ⊢
   cases hf:foundX xs id with
   | false =>
    have hno:∀ j (h:j < xs.length),xs[j].t.id ≠ id:=fun j h=>find_none.1 (find_off hf) _ (List.getElem_mem h)
    have hI2:Hid (RInv xs bs q):=rinv_none hI.out hno (by have:=hNx.out;omega) h1x.out
    rw [hf] at hpl
    replace hf:Hid _:=hf
    clear hno hI
    have hcon:Hid _:=hpl.out
    go_wp2_with ((go_at_call 38;refine Calls.mono hcon.out ?_;rintro e W1 ⟨rfl,n1⟩;refine stop_here ?_))
    unfold Hid
    clear hcon  hpl
    replace hsv:=hsv.nw n1
    replace hB:=hB.nw n1
    replace nW:=nw_trans nW n1
    go_wp2
    go_roundg (gk - 1)
    case measure=>omega
    case rel=>exact ⟨q,bs,_,rfl,hsv,hB,hI2,by omega,by omega,nw_trans hw nW⟩
   | true =>
    obtain ⟨hlt,_,hid⟩:=find_at hpx.out hf
    rw [hf] at hpl
    replace hf:Hid _:=hf
    have hseen:Hid (bs.getD (posX xs id) false = true→RInv xs bs q):=fun e=>rinv_seen hpx.out hI.out hlt hid e
    have hnew:Hid (bs.getD (posX xs id) false = false→RInv xs (bs.set (posX xs id) true) (q ++ (xs[posX xs id]).t.links.map (·.1))∧restU xs (bs.set (posX xs id) true) + (xs[posX xs id]).t.links.length = restU xs bs):=fun e=>⟨rinv_new hpx.out hI.out hlt hid,restU_set xs bs _ hlt (by rw [hbl];have:=hNx.out;omega) e⟩
    have h16k:=h16x.out _ (List.getElem_mem hlt)
    have hltN:posX xs id < N:=by have:=hNx.out;omega
    obtain ⟨qr,offr,hva,_,hrr,hat⟩:=h.get _ hlt
    subst hva
    clear hid hI
    generalize xs[posX xs id] = x at *
    generalize posX xs id = p at *
    unfold tcC at hrr
    have hcon:Hid _:=hpl.out
    go_wp2_with ((go_at_call 38;refine Calls.mono hcon.out ?_;rintro e W1 ⟨rfl,n1⟩;refine stop_here ?_))
    unfold Hid
    clear hcon  hpl
    replace hsv:=hsv.nw n1
    replace hB:=hB.nw n1
    replace nW:=nw_trans nW n1
    have hsc:W1.cell? ⟨gS,p,none⟩ = some (.bool (bs.getD p false)):=hB.get (by rw [hbl];exact hltN)
    cases hb:bs.getD p false with
    | true =>
     have hI2:Hid _:=hseen.out hb
     rw [hb] at hsc
     replace hb:Hid _:=hb
     clear hseen hnew
     go_wp2
     go_roundg (gk - 1)
     case measure=>omega
     case rel=>exact ⟨q,bs,_,rfl,hsv,hB,hI2,by omega,by omega,nw_trans hw nW⟩
    | false =>
     obtain ⟨hI2,hru⟩:=hnew.out hb
     replace hI2:Hid _:=hI2
     rw [hb] at hsc
     replace hb:Hid _:=hb
     clear hseen hnew
     have hfz:W1.frozen? ⟨gS,p,none⟩ = false:=free_blk hB
     obtain ⟨V2,hV2⟩:∃ V,Hid (V = W1.setCell ⟨gS,p,none⟩ (.bool true)):=⟨_,rfl⟩
     have fV:Fr (fun b=>b = gS) W1 V2:=by rw [hV2.out];exact Fr.setCell (S:=fun b=>b = gS) (p:=⟨gS,p,none⟩) (Fr.refl _ _) (.inl rfl) _
     have hB2:BoolB V2 gS (bs.set p true):=by rw [hV2.out];exact hB.set p true
     have hqV:QRow (gS + 1) V2 sv q:=hsv.fr fV (fun b hb e=>by have e2:b = gS:=e;have:=(hsv.lt b hb).1;omega)
     have nVw:Nw w V2:=Fr.trans (nw_trans hw nW) fV (fun b hb=>.inr (by have e2:b = gS:=hb;have:=hgS.out;omega))
     obtain ⟨ka,kc,hku,hk1,hk3⟩:=hat.k.form
     rw [hku] at hrr
     have hks:CSl Y w (.slice ka x.t.links.length kc) x.t.links:=by rw [← hku];exact hat.k
     clear hat hku
     obtain ⟨L,hL⟩:∃ L,x.t.links.length = L:=⟨_,rfl⟩
     have hLx:Hid (x.t.links.length = L):=hL
     rw [hL] at hks hk1 hrr hru h16k
     clear hL
     have c8:V2.cell? ⟨qr,offr + p * 26 + 8,none⟩ = some (.slice ka L kc):=range_nw hrr nVw 8 _ rfl
     go_upto_region 8 with fail
     rw [← hV2.out]
     clear hV2 hsc hfz fV hrr hB hsv nW
     go_wp2
     go_loopw [4,43] (fun s4 jv wr2=>∃ (j:Nat) (u:Value),j ≤ L∧jv = .int .i64 j∧s4 = u∧QRow (gS + 1) wr2 u (q ++ (x.t.links.take j).map (·.1))∧BoolB wr2 gS (bs.set p true)∧Nw w wr2) (fun _ jv _=>L - (intOf jv).toNat)
     case atStart=>exact ⟨0,_,Nat.zero_le _,rfl,rfl,by simpa using hqV,hB2,nVw⟩
     case round =>
      clear hqV hB2 nVw c8
      obtain ⟨j,u,hj,rfl,rfl,hqj,hBj,hwj⟩:=hrel
      by_cases hjL:j < L
      ·have hjl:j < x.t.links.length:=by have:=hLx.out;omega
       obtain ⟨q2,off2,hva2,_,d1,d2⟩:=(hks.nw hwj).get j hjl
       subst hva2
       have hst:Hid (q ++ (x.t.links.take (j + 1)).map (·.1) = (q ++ (x.t.links.take j).map (·.1)) ++ [x.t.links[j].1]):=by unfold Hid;rw [List.take_succ_eq_append_getElem hjl,List.map_append,List.append_assoc];rfl
       have hqlen:(q ++ (x.t.links.take j).map (·.1)).length ≤ 1000000000:=by rw [List.length_append,List.length_map,List.length_take];omega
       generalize x.t.links[j] = l at *
       generalize q ++ (x.t.links.take j).map (·.1) = qq at *
       clear hjl
       obtain ⟨Y2,hY2⟩:∃ Y,Hid (Y = (wr.alloc (.cells #[.int .u64 l.1,.int .i64 l.2] 54)).alloc (.cells #[.int .u64 l.1] 23)):=⟨_,rfl⟩
       have nY2:Nw wr Y2:=by rw [hY2.out];exact nw_alloc (nw_alloc (nw_refl _) _) _
       have hP2:Y2.heap[wr.heap.size + 1]? = some (.cells #[.int .u64 l.1] 23 (0,0)):=by rw [hY2.out];exact heap_alloc2_new wr _ _
       have hqY:=hqj.nw nY2
       have hSY:gS + 1 ≤ Y2.heap.size:=by have:=Fr.size nY2;have:=heap_lt hBj;omega
       have hBY:=hBj.nw nY2
       have nYw:=nw_trans hwj nY2
       obtain ⟨g9,o9,c9,e9,_⟩:=hqj.form
       subst e9
       go_wp2_with (at_builtin;rw [← hY2.out];refine wpList_append_q rfl _ _ rfl rfl hqY hSY hqlen l.1 (wr.heap.size + 1) rfl hP2 ?_)
       intro v9 w9 hq9 f9
       rw [← hst.out] at hq9
       have hB9:=hBY.fr f9 (fun e=>by have:=(hqY.lt gS e).1;omega)
       have n9:Nw w w9:=Fr.trans nYw f9 (fun b hb=>.inr (by have:=(hqY.lt b hb).1;have:=hgS.out;omega))
       clear f9 hqY hBY nYw hP2 hY2 nY2 hqj hBj d1 d2 hst
       go_wp2
       go_roundw
       case rel=>exact ⟨j + 1,_,by omega,by go_num,rfl,hq9,hB9,n9⟩
       case measure=>simp [intOf];omega
      ·obtain rfl:j = L:=by omega
       have hall:Hid (x.t.links.take j = x.t.links):=List.take_of_length_le (by have:=hLx.out;omega)
       rw [hall.out] at hqj
       have hlq:Hid ((q ++ x.t.links.map (·.1)).length = q.length + j):=by unfold Hid;rw [List.length_append,List.length_map,hLx.out]
       clear hall hks
       go_wp2
       go_roundg (gk - 1)
       case measure=>omega
       case rel=>exact ⟨q ++ x.t.links.map (·.1),bs.set p true,_,rfl,hqj,hBj,hI2,by rw [hlq.out];omega,by omega,hwj⟩
end Go.Proofs.Ytgmfofngmfekbaa

namespace Go.Proofs.Ytgmfofngmfekbaa
set_option linter.unusedVariables false
set_option linter.unusedSimpArgs false
set_option maxRecDepth 20000
open Go.RowKit

set_option maxHeartbeats 1600000 in
theorem c_gindexB {g n:Nat} {bs:List Bool} (w:World) (h:BoolB w g bs) (hn:bs.length = n) (hl:n ≤ 1000000) :
  Calls Try.prog 88 #[rowV g n,.bool false] w fun e w'=>∃ r:Int,e = .returned (.int .i64 r)∧(r < 0↔∀ i,i < n→bs.getD i false = true)∧Nw w w':=by
 replace hn:Hid _:=hn
 go_enter Try.func88,Try.ntmps88
 go_wp2
 go_loopw [8] (fun kv wr=>∃ k:Nat,k ≤ n∧kv = .int .i64 k∧Hid (∀ i,i < k→bs.getD i false = true)∧Nw w wr) (fun kv _=>n - (intOf kv).toNat)
 case atStart=>exact ⟨0,Nat.zero_le _,rfl,fun i h=>absurd h (Nat.not_lt_zero _),nw_refl _⟩
 case round =>
  obtain ⟨k,hkn,rfl,hne,hnw⟩:=hrel
  by_cases hlt:k < n
  ·have hc:=(h.nw hnw).get (i:=k) (by have:=hn.out;omega)
   cases hb:bs.getD k false with
   | true =>
    rw [hb] at hc
    have hf:Hid (∀ i,i < k + 1→bs.getD i false = true):=fun i hi=>by
     by_cases e:i = k
     ·subst e;exact hb
     ·exact hne.out i (by omega)
    replace hb:Hid _:=hb
    clear hne
    go_wp2
    go_roundw
    case rel=>exact ⟨k + 1,by omega,by go_num,hf,hnw⟩
    case measure=>simp [intOf];omega
   | false =>
    rw [hb] at hc
    have hf:Hid (¬ ∀ i,i < n→bs.getD i false = true):=fun e=>by rw [e k hlt] at hb;exact Bool.noConfusion hb
    replace hb:Hid _:=hb
    clear hne
    go_wp2
    go_ret
    exact ⟨_,rfl,⟨fun e=>by omega,fun e=>absurd e hf.out⟩,hnw⟩
  ·have hf:Hid (∀ i,i < n→bs.getD i false = true):=fun i hi=>hne.out i (by omega)
   go_wp2
   go_ret
   exact ⟨_,rfl,⟨fun _=>hf.out,fun _=>by decide⟩,hnw⟩

set_option maxHeartbeats 1600000 in
theorem c_gcontainsB {g n:Nat} {bs:List Bool} (w:World) (h:BoolB w g bs) (hn:bs.length = n) (hl:n ≤ 1000000) :
  Calls Try.prog 59 #[rowV g n,.bool false] w fun e w'=>∃ r:Bool,e = .returned (.bool r)∧(r = false↔∀ i,i < n→bs.getD i false = true)∧Nw w w':=by
 have hc:Hid _:=c_gindexB w h hn hl
 clear h hn
 go_enter Try.func59,Try.ntmps59
 go_wp2_with (go_at_call 88;refine Calls.mono hc.out ?_;rintro e w3 ⟨r,rfl,hf,n3⟩)
 go_ret
 refine ⟨decide (0 ≤ r),rfl,?_,n3⟩
 rw [← hf,decide_eq_false_iff_not]
 omega

set_option maxHeartbeats 1600000 in
theorem c_gareLinked {X Y:Nat→Prop} {v:Value} {xs:List TC} (w:World) (h:TSl X Y w v xs) (hp:PwX xs) (hne:0 < xs.length) (h1:xs[0].t.id = 1) (h16:∀ x ∈ xs,x.t.links.length ≤ 16) (hn:xs.length ≤ 100000) :
  Calls Try.prog 33 #[v] w (AnsP (∀ j,j < xs.length→(marksX xs).getD j false = true) w):=by
 have hr:Hid _:=c_greached w h hp hne h1 h16 hn
 obtain ⟨ao,cap,rfl,hc1,hc2⟩:=h.form
 have hcc:Hid (∀ w2,BoolB w2 w.heap.size (marksX xs)→Calls Try.prog 59 #[rowV w.heap.size xs.length,.bool false] w2 fun e w'=>∃ r:Bool,e = .returned (.bool r)∧(r = false↔∀ i,i < xs.length→(marksX xs).getD i false = true)∧Nw w2 w'):=fun w2 hb=>c_gcontainsB w2 hb (marks_len xs) (by omega)
 generalize hP:(∀ j,j < xs.length→(marksX xs).getD j false = true) = P at *
 clear h hp h1 h16 hP hne
 generalize xs.length = N at *
 go_enter Try.func33,Try.ntmps33
 go_wp2_with (go_at_call 60;refine Calls.mono hr.out ?_;rintro e w3 ⟨rfl,hB,n3⟩;refine stop_here ?_)
 unfold Hid
 have hcon:Hid _:=hcc.out w3 hB
 clear hr hcc
 go_wp2_with (go_at_call 59;refine Calls.mono hcon.out ?_;rintro e w4 ⟨r,rfl,hf,n4⟩)
 go_ret
 refine ⟨!r,rfl,?_,nw_trans n3 n4⟩
 rw [← hf]
 cases r <;> simp
end Go.Proofs.Ytgmfofngmfekbaa
