/-
  The document's Unlink.
-/
import Derived.Test.YtgmfofngmfekbaaGrGrS
import Derived.Test.YtgmfofngmfekbaaGrGeS
namespace Go.Proofs.Ytgmfofngmfekbaa
set_option linter.unusedVariables false
set_option linter.unusedSimpArgs false
set_option maxRecDepth 20000
open Go.RowKit

theorem filt_t (q:Th→Bool) (l:List TC):(l.filter (fun y=>q y.t)).map (·.t) = (l.map (·.t)).filter q:=by
 rw [List.filter_map]
 rfl
theorem same_keepU:∀ {a b:List TC} (_:a.map (·.t) = b.map (·.t)),(keepU a).map (·.t) = (keepU b).map (·.t)
 | [],[],_=>rfl
 | [],_ :: _,h=>by simp at h
 | _ :: _,[],h=>by simp at h
 | x :: l,y :: m,h=>by
  obtain ⟨h1,h2⟩:=List.cons.inj h
  have e:(fun t:Th=>decide (0 < refsX (x :: l) t.id)) = (fun t:Th=>decide (0 < refsX (y :: m) t.id)):=by
   funext t
   rw [same_refs h]
  show x.t :: (l.filter (fun z=>decide (0 < refsX (x :: l) z.t.id))).map (·.t) = y.t :: (m.filter (fun z=>decide (0 < refsX (y :: m) z.t.id))).map (·.t)
  rw [filt_t (fun t=>decide (0 < refsX (x :: l) t.id)),filt_t (fun t=>decide (0 < refsX (y :: m) t.id)),e]
  congr 1
  exact congrArg _ h2
theorem same_downU:∀ (n:Nat) {a b:List TC} (_:a.map (·.t) = b.map (·.t)),(downU n a).map (·.t) = (downU n b).map (·.t)
 | 0,_,_,h=>h
 | n + 1,a,b,h=>by
  have hk:=same_keepU h
  have h1:=same_len h
  have h2:=same_len hk
  unfold downU
  by_cases e:(keepU a).length = a.length
  ·rw [if_pos e,if_pos (by omega)];exact h
  ·rw [if_neg e,if_neg (by omega)];exact same_downU n hk
theorem same_downX {a b:List TC} (h:a.map (·.t) = b.map (·.t)):(downX a).map (·.t) = (downX b).map (·.t):=by
 unfold downX
 rw [same_len h]
 exact same_downU _ h
theorem found_none (l:List TC) (id:Int):(findX l id).isNone = !foundX l id:=by
 unfold foundX
 cases findX l id <;> rfl
theorem same_gone {g a b:List TC} (h:a.map (·.t) = b.map (·.t)):goneX g a = goneX g b:=by
 unfold goneX
 congr 1
 refine List.filter_congr (fun y _=>?_)
 rw [found_none,found_none,same_found h]
theorem goneT_at {g now:List TC} {k:Nat} (h:k < g.length):goneT g now (k + 1) = goneT g now k ++ (if foundX now (g[k]).t.id = true then [] else [(g[k]).t.id]):=by
 rw [goneT_step h,found_none]
 cases foundX now (g[k]).t.id <;> rfl
theorem un_run {xs:List TC} (hp:PwX xs) {hold id:Int} {d T:TC} (hf:findX xs hold = some d) (hk:d.t.kind = 1) (hh:hasB d.t.links id = true) (ht:T.t = { d.t with links:=rmL d.t.links id }) :
  (downX (putX xs T)).map (·.t) = (unX xs hold id).1.map (·.t)∧goneX xs (downX (putX xs T)) = (unX xs hold id).2.1∧(unX xs hold id).2.2 = 0:=by
 have hg:(putX xs T).map (·.t) = (putX xs { d with t:={ d.t with links:=rmL d.t.links id } }).map (·.t):=same_put rfl hp ht
 have e0:unX xs hold id = (downX (putX xs { d with t:={ d.t with links:=rmL d.t.links id } }),goneX xs (downX (putX xs { d with t:={ d.t with links:=rmL d.t.links id } })),0):=by
  unfold unX
  simp only [hf,if_pos hk,if_pos hh]
 rw [e0]
 have h1:=same_downX hg
 exact ⟨h1,same_gone h1,rfl⟩
def lenW:Value→Nat
 | .slice _ n _=>n
 | _=>0

/-- What the document's Unlink answers. -/
def RUnP (xs:List TC) (hold id:Int) (w:World) (e:Ending) (w':World):Prop :=
 ∃ u gv zs ids,e = .returned (.tuple #[u,gv,.int .i64 (unX xs hold id).2.2])∧TSl (fun _=>True) (fun _=>True) w' u zs∧USl (fun _=>True) w' gv ids∧zs.map (·.t) = (unX xs hold id).1.map (·.t)∧ids = (unX xs hold id).2.1∧Nw w w'

set_option maxRecDepth 100000 in
set_option maxHeartbeats 12800000 in
theorem c_rgunlink {X Y:Nat→Prop} {v:Value} {xs:List TC} (hold id:Int) (w:World) (h:TSl X Y w v xs) (hS:SoundX xs) (hlen:xs.length ≤ 100000) :
  Calls Try.prog 24 #[v,.int .u64 hold,.int .u64 id] w (RUnP xs hold id w):=by
 replace h:=h.mono (X':=fun b=>b < w.heap.size) (Y':=fun b=>b < w.heap.size) (fun _ _ hl=>hl) (fun _ _ hl=>hl)
 have hp:Hid (PwX xs):=rise_pw hS.rise
 have hright:Hid (∀ x ∈ xs,RightT x.t):=sound_right hS
 clear hS
 obtain ⟨ao,cap,rfl,hc1,hc2⟩:=h.form
 obtain ⟨N,hN⟩:∃ N,xs.length = N:=⟨_,rfl⟩
 rw [hN] at h hc1 hlen ⊢
 replace hN:Hid _:=hN
 have nW:=nw_refl w
 go_enter Try.func24,Try.ntmps24
 have hcon:Hid _:=c_rfind hold w h
 go_wp2_with ((go_at_call 14;refine Calls.mono hcon.out ?_;rintro e W1 hff;obtain ⟨l1,c1,k1,d1,rfl,hy1,n1⟩:=rfind_one hff;refine stop_here ?_))
 unfold Hid
 clear hcon
 replace nW:=nw_trans nW n1
 clear hff
 obtain ⟨Y1,hY⟩:∃ Y,Hid (Y = W1.alloc (.cells (thC zeroT (.slice none 0 0) (.slice none 0 0) (.slice none 0 0) (.slice none 0 0)).toArray 34)):=⟨_,rfl⟩
 have hV1:Y1.heap[W1.heap.size]? = some (.cells (thC zeroT (.slice none 0 0) (.slice none 0 0) (.slice none 0 0) (.slice none 0 0)).toArray 34 (0,0)):=by rw [hY.out];exact heap_alloc_new _ _
 obtain ⟨V2,hV⟩:∃ V,Hid (V = Y1.setRow W1.heap.size (thC (fT xs hold) l1 c1 k1 d1).toArray):=⟨_,rfl⟩
 have nV2:Nw W1 V2:=by rw [hV.out,hY.out];exact Fr.setRow (nw_alloc (nw_refl _) _) (.inr (Nat.le_refl _)) _
 have hnew:V2.heap[W1.heap.size]? = some (.cells (thC (fT xs hold) l1 c1 k1 d1).toArray 34 (0,0)):=by rw [hV.out];exact setRow_heap _ _ _ _ _ _ hV1
 go_wp2_with (refine wpList_alloc_agg rfl 34 rfl _ Try.zeroTh ?_;rw [← hY.out];refine stop_here ?_)
 unfold Hid
 refine wpList_store_all rfl 34 _ _ rfl (W1.heap.size) rfl (thV (fT xs hold) l1 c1 k1 d1) rfl (thC (fT xs hold) l1 c1 k1 d1) rfl (thC zeroT (.slice none 0 0) (.slice none 0 0) (.slice none 0 0) (.slice none 0 0)) 34 hV1 rfl (hy1.one) Try.sizeT ?_
 rw [← hV.out]
 clear hV hY hV1
 have hA1:w.heap.size ≤ W1.heap.size:=Fr.size nW
 replace hy1:=hy1.nw nV2
 replace nW:=nw_trans nW nV2
 have hV1:=hnew
 clear hnew
 generalize W1.heap.size = A1 at *
 go_upto_region 2 with fail
 cases hf:findX xs hold with
 | none =>
  have h1:foundX xs hold = false:=by unfold foundX;rw [hf];rfl
  rw [h1]
  have hq:Hid (unX xs hold id = (xs,[],131)):=by unfold Hid unX;rw [hf]
  replace hf:Hid _:=hf
  have hz:=(h.nw nW).mono (X':=fun _=>True) (Y':=fun _=>True) (fun _ _ _=>trivial) (fun _ _ _=>trivial)
  clear hV1 hy1 h1 h
  go_wp2
  refine bodyPost_ret (results_tmp3 rfl _) rfl ?_
  exact ⟨_,_,xs,[],by rw [hq.out];rfl,hz,usl_nil _ _,by rw [hq.out],by rw [hq.out],nW⟩
 | some d =>
  have h1:foundX xs hold = true:=by unfold foundX;rw [hf];rfl
  have h2:fT xs hold = d.t:=by unfold fT;rw [hf];rfl
  rw [h1]
  rw [h2] at hV1 hy1
  clear h1 h2
  have cK:V2.cell? ⟨A1,1,none⟩ = some (.int .i64 d.t.kind):=cell_blk hV1 rfl
  by_cases hk:d.t.kind = 1
  ·have hkb:(d.t.kind != 1) = false:=by simp [hk]
   have hdt:DirT d.t:=⟨hk,hright.out d (find_mem hf).1⟩
   have hcd:Hid _:=c_rdrop id V2 hy1 hdt
   unfold RcP at hcd
   clear hdt hy1
   cases hh:hasB d.t.links id with
   | false =>
    have hdp:dropT d.t id = (d.t,124):=by unfold dropT;rw [if_neg (by rw [hh];exact Bool.noConfusion)]
    rw [hdp] at hcd
    dsimp only at hcd
    have hq:Hid (unX xs hold id = (xs,[],124)):=by
     unfold Hid unX
     simp only [hf,if_pos hk,if_neg (show ¬ hasB d.t.links id = true by rw [hh];exact Bool.noConfusion)]
    replace hf:Hid _:=hf
    replace hk:Hid _:=hk
    replace hh:Hid _:=hh
    clear hdp
    have hAl:=heap_lt hV1
    have hcon:Hid _:=hcd.out
    have hr0:=range_all hV1
    go_wp2_with (first | (refine wpList_load_as rfl 34 _ rfl (A1) 0 rfl (thV d.t l1 c1 k1 d1) _ rfl hr0 Try.rowT Try.sizeT ?_) | (go_at_call 50;refine Calls.mono hcon.out ?_;rintro e W3 ⟨u1,u2,u3,u4,rfl,hat9,n3⟩;refine stop_here ?_))
    unfold Hid
    clear hcon hr0 hcd cK
    replace hV1:=(n3.block _ (heap_lt hV1) (fun h=>h)).trans hV1
    replace nW:=nw_trans nW n3
    obtain ⟨W4,hV⟩:∃ V,Hid (V = W3.setRow (A1) (thC d.t u1 u2 u3 u4).toArray):=⟨_,rfl⟩
    have fV:Fr (fun k=>k = A1) W3 W4:=by rw [hV.out];exact (Fr.refl (fun k=>k = A1) W3).setRow (.inl rfl) _
    have hnew:W4.heap[A1]? = some (.cells (thC d.t u1 u2 u3 u4).toArray 34 (0,0)):=by rw [hV.out];exact setRow_heap _ _ _ _ _ _ hV1
    go_wp2_with (refine wpList_store_all rfl 34 _ _ rfl (A1) rfl (thV d.t u1 u2 u3 u4) rfl (thC d.t u1 u2 u3 u4) rfl (thC d.t l1 c1 k1 d1) 34 hV1 rfl (hat9.one) Try.sizeT ?_;rw [← hV.out];refine stop_here ?_)
    unfold Hid
    clear hV
    replace hV1:=hnew
    clear hnew
    replace nW:=Fr.trans nW fV (fun k hk=>.inr (by have hk2:k = A1:=hk;omega))
    have hz:=(h.nw nW).mono (X':=fun _=>True) (Y':=fun _=>True) (fun _ _ _=>trivial) (fun _ _ _=>trivial)
    clear fV hat9 hV1 h
    go_wp2
    refine bodyPost_ret (results_tmp3 rfl _) rfl ?_
    exact ⟨_,_,xs,[],by rw [hq.out];rfl,hz,usl_nil _ _,by rw [hq.out],by rw [hq.out],nW⟩
   | true =>
    obtain ⟨t1,ht1⟩:∃ t1,({ d.t with links:=rmL d.t.links id }:Th) = t1:=⟨_,rfl⟩
    have hdp:dropT d.t id = (t1,0):=by rw [← ht1];unfold dropT;rw [if_pos hh]
    rw [hdp] at hcd
    dsimp only at hcd
    have hrun:Hid (∀ u1 u2 u3 u4,(downX (putX xs ⟨t1,u1,u2,u3,u4⟩)).map (·.t) = (unX xs hold id).1.map (·.t)∧goneX xs (downX (putX xs ⟨t1,u1,u2,u3,u4⟩)) = (unX xs hold id).2.1∧(unX xs hold id).2.2 = 0):=fun u1 u2 u3 u4=>un_run hp.out hf hk hh ht1.symm
    replace hf:Hid _:=hf
    replace hk:Hid _:=hk
    replace hh:Hid _:=hh
    clear hdp ht1
    have hAl:=heap_lt hV1
    have hcon:Hid _:=hcd.out
    have hr0:=range_all hV1
    go_wp2_with (first | (refine wpList_load_as rfl 34 _ rfl (A1) 0 rfl (thV d.t l1 c1 k1 d1) _ rfl hr0 Try.rowT Try.sizeT ?_) | (go_at_call 50;refine Calls.mono hcon.out ?_;rintro e W3 ⟨u1,u2,u3,u4,rfl,hat9,n3⟩;refine stop_here ?_))
    unfold Hid
    clear hcon hr0 hcd cK
    replace hV1:=(n3.block _ (heap_lt hV1) (fun h=>h)).trans hV1
    replace nW:=nw_trans nW n3
    obtain ⟨W4,hV⟩:∃ V,Hid (V = W3.setRow (A1) (thC t1 u1 u2 u3 u4).toArray):=⟨_,rfl⟩
    have fV:Fr (fun k=>k = A1) W3 W4:=by rw [hV.out];exact (Fr.refl (fun k=>k = A1) W3).setRow (.inl rfl) _
    have hnew:W4.heap[A1]? = some (.cells (thC t1 u1 u2 u3 u4).toArray 34 (0,0)):=by rw [hV.out];exact setRow_heap _ _ _ _ _ _ hV1
    go_wp2_with (refine wpList_store_all rfl 34 _ _ rfl (A1) rfl (thV t1 u1 u2 u3 u4) rfl (thC t1 u1 u2 u3 u4) rfl (thC d.t l1 c1 k1 d1) 34 hV1 rfl (hat9.one) Try.sizeT ?_;rw [← hV.out];refine stop_here ?_)
    unfold Hid
    clear hV
    replace hV1:=hnew
    clear hnew
    replace hat9:=hat9.keep (X':=fun _=>True) fV (fun b hb _ e=>by
     have e2:b = A1:=e
     rcases hb with hb | hb
     ·have hb2:b < w.heap.size:=hb;omega
     ·have hb2:V2.heap.size ≤ b:=hb;omega) (fun _ _ _=>trivial)
    replace nW:=Fr.trans nW fV (fun k hk=>.inr (by have hk2:k = A1:=hk;omega))
    clear fV hAl
    have hs:=h.nw nW
    obtain ⟨r1,r2,r3⟩:=hrun.out u1 u2 u3 u4
    clear hrun
    have hPl:=put_len hp.out ⟨t1,u1,u2,u3,u4⟩
    rw [hN.out] at hPl
    obtain ⟨P0,hP0⟩:∃ P,putX xs ⟨t1,u1,u2,u3,u4⟩ = P:=⟨_,rfl⟩
    have hcp:Hid _:=c_rgput W4 hs hat9 (by have:=hN.out;omega)
    rw [hP0] at hcp hPl r1 r2
    obtain ⟨R,hR⟩:∃ R,downX P0 = R:=⟨_,rfl⟩
    rw [hR] at r1 r2
    replace r1:Hid _:=r1
    replace r2:Hid _:=r2
    replace r3:Hid _:=r3
    replace hR:Hid _:=hR
    clear hP0 hs
    have hcon:Hid _:=hcp.out
    have hr0:=range_all hV1
    go_wp2_with (first | (refine wpList_load_as rfl 34 _ rfl (A1) 0 rfl (thV t1 u1 u2 u3 u4) _ rfl hr0 Try.rowT Try.sizeT ?_) | (go_at_call 21;refine Calls.mono hcon.out ?_;rintro e W5 ⟨u,rfl,hl,n5⟩;refine stop_here ?_))
    unfold Hid
    clear hcon hr0 hcp
    replace hV1:=(n5.block _ (heap_lt hV1) (fun h=>h)).trans hV1
    replace nW:=nw_trans nW n5
    replace hl:=hl.mono (X':=fun _=>True) (Y':=fun _=>True) (fun _ _ _=>trivial) (fun _ _ _=>trivial)
    clear hV1 hat9 hA1 hkb
    replace h:Hid _:=h
    go_wp2
    go_loopw [12] (fun uv wr=>∃ ls:List TC,TSl (fun _=>True) (fun _=>True) wr uv ls∧Hid (downX ls = R)∧ls.length ≤ N + 1∧Nw w wr) (fun uv _=>lenW uv)
    case atStart=>exact ⟨P0,hl,hR,hPl,nW⟩
    case round =>
     clear hl nW hR hPl
     obtain ⟨ls,hl,hd,hlM,nW⟩:=hrel
     obtain ⟨lo,lc,e1,_,_⟩:=hl.form
     subst e1
     obtain ⟨Rw,hRw⟩:∃ R,R = wr:=⟨_,rfl⟩
     subst hRw
     obtain ⟨L,hL⟩:∃ L,ls.length = L:=⟨_,rfl⟩
     rw [hL] at hl hlM ⊢
     replace hL:Hid _:=hL
     have nO:Hid _:=nW
     clear nW
     obtain ⟨S,hS⟩:∃ S,Hid (S = Rw.heap.size):=⟨_,rfl⟩
     have hrow0:=grow_new Rw (fun b=>b < S)
     have n0:Nw Rw (Rw.alloc (.cells #[] 34)):=nw_alloc (nw_refl _) _
     obtain ⟨Y,hY⟩:∃ Y,Hid (Y = Rw.alloc (.cells #[] 34)):=⟨_,rfl⟩
     rw [← hY.out,← hS.out] at hrow0
     rw [← hY.out] at n0
     go_wp2_with (refine wpList_buildSlice0 rfl 22 34 rfl Try.underTs Try.sizeSome ?_;rw [← hY.out];refine stop_here ?_)
     unfold Hid
     clear hY
     rw [← hS.out]
     go_wp2
     have hlb:=hl.mono (X':=fun _=>True) (Y':=fun b=>b < S) (fun _ _ _=>trivial) (fun b _ hb=>by rw [hS.out];exact hb)
     go_loopw [13,51] (fun uv kv wr=>∃ k:Nat,k ≤ L∧kv = .int .i64 k∧GRow S (fun b=>b < S) wr uv (keepT ls k)∧Nw Rw wr) (fun _ kv _=>L - (intOf kv).toNat)
     case atStart=>exact ⟨0,Nat.zero_le _,rfl,hrow0,n0⟩
     case round =>
      clear hrow0 n0
      obtain ⟨k,hk,rfl,hrow,nW⟩:=hrel
      obtain ⟨oa,oc,e2⟩:=hrow.form
      subst e2
      have hs:=hlb.nw nW
      by_cases hltL:k < L
      ·have hlt:k < ls.length:=by have:=hL.out;omega
       have hst:=keepT_step hlt
       have hkm:=keepT_len ls k
       generalize keepT ls k = ys at *
       generalize hG:keepT ls (k + 1) = ys2 at *
       replace hG:Hid _:=hG
       replace hst:Hid _:=hst
       obtain ⟨m,hyl⟩:∃ m,ys.length = m:=⟨_,rfl⟩
       rw [hyl] at hrow hkm ⊢
       have hs0:=hs
       obtain ⟨q2,off2,hva,_,hrr,hat2⟩:=(hs0).get k hlt
       first | subst hva | (simp only [Option.some.injEq,Addr.mk.injEq,and_true] at hva;obtain ⟨rfl,rfl⟩:=hva)
       generalize ls[k] = x at *
       unfold tcC at hrr
       obtain ⟨Y2,hY⟩:∃ Y,Hid (Y = wr.alloc (.cells (thC zeroT (.slice none 0 0) (.slice none 0 0) (.slice none 0 0) (.slice none 0 0)).toArray 34)):=⟨_,rfl⟩
       have hV2:Y2.heap[wr.heap.size]? = some (.cells (thC zeroT (.slice none 0 0) (.slice none 0 0) (.slice none 0 0) (.slice none 0 0)).toArray 34 (0,0)):=by rw [hY.out];exact heap_alloc_new _ _
       obtain ⟨V6,hV⟩:∃ V,Hid (V = Y2.setRow wr.heap.size (thC x.t x.l x.c x.k x.d).toArray):=⟨_,rfl⟩
       have nV6:Nw wr V6:=by rw [hV.out,hY.out];exact Fr.setRow (nw_alloc (nw_refl _) _) (.inr (Nat.le_refl _)) _
       have hnew:V6.heap[wr.heap.size]? = some (.cells (thC x.t x.l x.c x.k x.d).toArray 34 (0,0)):=by rw [hV.out];exact setRow_heap _ _ _ _ _ _ hV2
       go_wp2_with (first | (refine wpList_load_as rfl 34 _ rfl q2 (off2 + k * 26) rfl (thV x.t x.l x.c x.k x.d) _ rfl hrr Try.rowT Try.sizeT ?_) | (refine wpList_alloc_agg rfl 34 rfl _ Try.zeroTh ?_;rw [← hY.out];refine stop_here ?_))
       unfold Hid
       go_wp2_with (refine wpList_store_all rfl 34 _ _ rfl (wr.heap.size) rfl (thV x.t x.l x.c x.k x.d) rfl (thC x.t x.l x.c x.k x.d) rfl (thC zeroT (.slice none 0 0) (.slice none 0 0) (.slice none 0 0) (.slice none 0 0)) 34 hV2 rfl (ThAt.one hat2) Try.sizeT ?_;rw [← hV.out];refine stop_here ?_)
       unfold Hid
       clear hV hY hV2 hrr
       replace hrow:=hrow.nw nV6
       replace hs:=hs.nw nV6
       replace nW:=nw_trans nW nV6
       replace hat2:=hat2.nw nV6
       have hV2:=hnew
       clear hnew
       have hlA2:wr.heap.size < V6.heap.size:=heap_lt hV2
       generalize wr.heap.size = A2 at *
       clear hs0
       go_upto_region 12 with fail
       have c0:V6.cell? ⟨A2,0,none⟩ = some (.int .u64 x.t.id):=cell_blk hV2 rfl
       have hkl:Hid (m ≤ 1000000):=by unfold Hid;omega
       by_cases hk0:k = 0
       ·have hb0:((k:Int) == 0) = true:=by simp [hk0]
        have hst2:Hid (ys2 = ys ++ [x]):=by unfold Hid;rw [hst.out];rw [if_pos (.inl hk0)]
        clear hst c0
        have hyA:=GRow.old hrow (Nat.le_refl S) hat2
        obtain ⟨i0,hi0,hz0,hs0,hb0⟩:=info_parts3 Try.infoTb
        obtain ⟨cs,hcs⟩:∃ cs,(thC x.t x.l x.c x.k x.d) = cs:=⟨_,rfl⟩
        obtain ⟨vv,hvv⟩:∃ vv,(thV x.t x.l x.c x.k x.d) = vv:=⟨_,rfl⟩
        have hv2:vv = .agg cs.toArray:=by rw [← hvv,← hcs];rfl
        have h26:cs.length = 26:=by rw [← hcs];rfl
        have hone:∀ v ∈ cs,v.oneCell' = true:=by rw [← hcs];exact tc_one hyA
        have hrA:=owns_nw (GRow.own hrow) (nw_alloc (nw_refl V6) (.cells cs.toArray 34))
        have hsl:=sl_lit V6 cs.toArray 34 1 (by omega)
        rw [List.toList_toArray] at hsl
        have hz26:(Try.prog.info? 34).map (·.size) = some cs.length:=by rw [h26];exact Try.sizeT
        have hp26:0 < cs.length:=by omega
        have hq26:cs.length ≤ 1000000:=by omega
        have hl26:cs.length = 1 * 26:=by omega
        have hrl:V6.rangeAt A2 0 cs:=by rw [← hcs];exact range_all hV2
        replace hvv:Hid _:=hvv
        replace hcs:Hid _:=hcs
        go_wp2_with (first | (refine wpList_load_as rfl 34 _ rfl (A2) 0 rfl vv cs hv2 hrl Try.rowT hz26 ?_) | (refine wpList_buildSlice1 rfl 22 34 _ rfl vv rfl cs hv2 Try.underTs hz26 Try.zeroSome hp26 hq26 ?_) | (at_builtin;refine wpList_append_sl _ rfl _ _ 22 rfl S 34 i0 _ 26 272 Try.underTs hi0 hz0 hs0 hb0 rfl (by decide) _ _ _ rfl hrA _ _ 1 _ rfl hsl hl26 ?d1a ?d2a ?d3a ?d4a ?_))
        case d1a=>exact hone
        case d2a=>have:=hkl.out;unfold maxLen;omega
        case d3a=>have:=hkl.out;omega
        case d4a=>have h9:=nW.size;have h8:=hS.out;first | (rw [alloc_size];omega) | omega
        intro v9 w9 hown9 hgrow9 hat9
        have hcs2:=hcs.out
        subst hcs2
        have hvv2:=hvv.out
        subst hvv2
        have hrow9:=GRow.push (y:=x) (v9:=v9) (w9:=w9) hrow hyA (by rw [hyl];exact hown9) hgrow9 hat9
        have m9:Nw Rw w9:=GRow.fr hrow nW (by have:=hS.out;omega) hgrow9
        obtain ⟨a9,cp9,rfl⟩:=owns_form hown9
        clear hown9 hgrow9 hat9 hrA hsl hone hz26 hp26 hq26 hl26 h26 hv2 hvv hcs hi0 hz0 hs0 hb0 hrl
        rw [← hst2.out] at hrow9
        replace hrow9:Hid _:=hrow9
        replace m9:Hid _:=m9
        clear hst2 hyA hV2 hat2 hrow hs nW
        go_wp2
        go_roundw
        case rel=>exact ⟨k + 1,by omega,by go_num,by rw [hG.out];exact hrow9.out,m9.out⟩
        case measure=>simp [intOf];omega
       ·have hb0:((k:Int) == 0) = false:=by simp [hk0]
        have hcon:Hid _:=c_rrefs x.t.id V6 hs (by have:=hL.out;omega)
        go_wp2_with ((go_at_call 18;refine Calls.mono hcon.out ?_;rintro e W7 ⟨rfl,n7⟩;refine stop_here ?_))
        unfold Hid
        clear hcon
        replace hV2:=(n7.block _ (heap_lt hV2) (fun h=>h)).trans hV2
        replace hrow:=hrow.nw n7
        replace hs:=hs.nw n7
        replace hat2:=hat2.nw n7
        replace nW:=nw_trans nW n7
        clear hb0 c0
        have c0:W7.cell? ⟨A2,0,none⟩ = some (.int .u64 x.t.id):=cell_blk hV2 rfl
        obtain ⟨n,hn⟩:∃ n,refsX ls x.t.id = n:=⟨_,rfl⟩
        rw [hn] at hst ⊢
        clear hn
        by_cases hn0:0 < n
        ·have hg1:decide ((0:Int) < (n:Int)) = true:=decide_eq_true (by omega)
         have hg2:decide (0 < n) = true:=decide_eq_true hn0
         have hst2:Hid (ys2 = ys ++ [x]):=by unfold Hid;rw [hst.out];rw [if_pos (.inr hn0)]
         clear hst c0
         have hyA:=GRow.old hrow (Nat.le_refl S) hat2
         obtain ⟨i0,hi0,hz0,hs0,hb0⟩:=info_parts3 Try.infoTb
         obtain ⟨cs,hcs⟩:∃ cs,(thC x.t x.l x.c x.k x.d) = cs:=⟨_,rfl⟩
         obtain ⟨vv,hvv⟩:∃ vv,(thV x.t x.l x.c x.k x.d) = vv:=⟨_,rfl⟩
         have hv2:vv = .agg cs.toArray:=by rw [← hvv,← hcs];rfl
         have h26:cs.length = 26:=by rw [← hcs];rfl
         have hone:∀ v ∈ cs,v.oneCell' = true:=by rw [← hcs];exact tc_one hyA
         have hrA:=owns_nw (GRow.own hrow) (nw_alloc (nw_refl W7) (.cells cs.toArray 34))
         have hsl:=sl_lit W7 cs.toArray 34 1 (by omega)
         rw [List.toList_toArray] at hsl
         have hz26:(Try.prog.info? 34).map (·.size) = some cs.length:=by rw [h26];exact Try.sizeT
         have hp26:0 < cs.length:=by omega
         have hq26:cs.length ≤ 1000000:=by omega
         have hl26:cs.length = 1 * 26:=by omega
         have hrl:W7.rangeAt A2 0 cs:=by rw [← hcs];exact range_all hV2
         replace hvv:Hid _:=hvv
         replace hcs:Hid _:=hcs
         go_wp2_with (first | (refine wpList_load_as rfl 34 _ rfl (A2) 0 rfl vv cs hv2 hrl Try.rowT hz26 ?_) | (refine wpList_buildSlice1 rfl 22 34 _ rfl vv rfl cs hv2 Try.underTs hz26 Try.zeroSome hp26 hq26 ?_) | (at_builtin;refine wpList_append_sl _ rfl _ _ 22 rfl S 34 i0 _ 26 272 Try.underTs hi0 hz0 hs0 hb0 rfl (by decide) _ _ _ rfl hrA _ _ 1 _ rfl hsl hl26 ?d1b ?d2b ?d3b ?d4b ?_))
         case d1b=>exact hone
         case d2b=>have:=hkl.out;unfold maxLen;omega
         case d3b=>have:=hkl.out;omega
         case d4b=>have h9:=nW.size;have h8:=hS.out;first | (rw [alloc_size];omega) | omega
         intro v9 w9 hown9 hgrow9 hat9
         have hcs2:=hcs.out
         subst hcs2
         have hvv2:=hvv.out
         subst hvv2
         have hrow9:=GRow.push (y:=x) (v9:=v9) (w9:=w9) hrow hyA (by rw [hyl];exact hown9) hgrow9 hat9
         have m9:Nw Rw w9:=GRow.fr hrow nW (by have:=hS.out;omega) hgrow9
         obtain ⟨a9,cp9,rfl⟩:=owns_form hown9
         clear hown9 hgrow9 hat9 hrA hsl hone hz26 hp26 hq26 hl26 h26 hv2 hvv hcs hi0 hz0 hs0 hb0 hrl
         rw [← hst2.out] at hrow9
         replace hrow9:Hid _:=hrow9
         replace m9:Hid _:=m9
         clear hst2 hyA hV2 hat2 hrow hs nW
         go_wp2
         go_roundw
         case rel=>exact ⟨k + 1,by omega,by go_num,by rw [hG.out];exact hrow9.out,m9.out⟩
         case measure=>simp [intOf];omega
        ·have hg1:decide ((0:Int) < (n:Int)) = false:=decide_eq_false (by omega)
         have hg2:decide (0 < n) = false:=decide_eq_false hn0
         have hst2:ys2 = ys:=by rw [hst.out,if_neg (by rintro (h1 | h1);exact hk0 h1;exact hn0 h1),List.append_nil]
         rw [← hst2] at hrow
         replace hrow:Hid _:=hrow
         clear hst hst2 c0 hV2 hat2 hs hk0
         go_wp2
         go_roundw
         case rel=>exact ⟨k + 1,by omega,by go_num,by rw [hG.out];exact hrow.out,nW⟩
         case measure=>simp [intOf];omega
      ·obtain rfl:k = L:=by omega
       have hall:keepT ls k = keepU ls:=by have:=keepT_all ls;rw [hL.out] at this;exact this
       rw [hall] at hrow ⊢
       clear hall hltL
       obtain ⟨K,hK⟩:∃ K,(keepU ls).length = K:=⟨_,rfl⟩
       have hsl:=hrow.sl.mono (X':=fun _=>True) (Y':=fun _=>True) (fun _ _ _=>trivial) (fun _ _ _=>trivial)
       rw [hK] at hrow hsl ⊢
       replace hK:Hid _:=hK
       by_cases hKL:K = k
       ·have hbe:((K:Int) == (k:Int)) = true:=by simp [hKL]
        have hls:Hid (ls = R):=(downX_stop (by rw [hK.out,hL.out];exact hKL)).symm.trans hd.out
        clear hsl hrow hlb
        replace hl:=hl.nw nW
        replace nW:=nw_trans nO.out nW
        replace hKL:Hid _:=hKL
        clear nO hS hs
        obtain ⟨R2,hR2⟩:∃ R,R = wr:=⟨_,rfl⟩
        subst hR2
        obtain ⟨i0,hi0,hz0,hs0,hb0⟩:=info_parts3 Try.infoU
        obtain ⟨S,hS⟩:∃ S,Hid (S = R2.heap.size):=⟨_,rfl⟩
        obtain ⟨Y,hY⟩:∃ Y,Hid (Y = R2.alloc (.cells #[] 23)):=⟨_,rfl⟩
        have n0:Nw R2 Y:=by rw [hY.out];exact nw_alloc (nw_refl _) _
        have hids0:Y.ownsRow S 23 1 (.slice (some ⟨R2.heap.size,0,none⟩) 0 0) 0 (([]:List Int).map uv):=by rw [hS.out,hY.out];exact ⟨rfl,.inr ⟨R2.heap.size,0,#[],rfl,Nat.le_refl _,heap_alloc_new R2 _,Nat.le_refl _,Nat.zero_le _,rfl,rfl⟩⟩
        go_wp2_with (refine wpList_buildSlice0 rfl 45 23 rfl Try.underlying45 (by kernel_rfl) ?_;rw [← hY.out];refine stop_here ?_)
        unfold Hid
        clear hY hbe
        go_wp2
        go_loopw [16,79] (fun gv kv wr=>∃ m:Nat,m ≤ N∧kv = .int .i64 m∧wr.ownsRow S 23 1 gv (goneT xs ls m).length ((goneT xs ls m).map uv)∧Nw R2 wr) (fun _ kv _=>N - (intOf kv).toNat)
        case atStart=>exact ⟨0,Nat.zero_le _,rfl,hids0,n0⟩
        case round =>
         clear hids0 n0
         obtain ⟨m,hm,rfl,hids,nV⟩:=hrel
         obtain ⟨oa,oc,e3⟩:=owns_form hids
         subst e3
         have hlr:=hl.nw nV
         by_cases hltN:m < N
         ·have hlt:m < xs.length:=by have:=hN.out;omega
          have hst:=goneT_at (now:=ls) hlt
          have hgl:=goneT_len xs ls m
          generalize goneT xs ls m = is at *
          generalize hG:goneT xs ls (m + 1) = is2 at *
          replace hG:Hid _:=hG
          replace hst:Hid _:=hst
          have hs:=(h.out.nw nW).nw nV
          have nO:Hid _:=nW
          clear nW
          have nW:=nV
          clear nV
          obtain ⟨q3,off3,hva,_,hrr,hat3⟩:=(hs).get m hlt
          first | subst hva | (simp only [Option.some.injEq,Addr.mk.injEq,and_true] at hva;obtain ⟨rfl,rfl⟩:=hva)
          generalize xs[m] = x at *
          unfold tcC at hrr
          obtain ⟨Y3,hY⟩:∃ Y,Hid (Y = wr.alloc (.cells (thC zeroT (.slice none 0 0) (.slice none 0 0) (.slice none 0 0) (.slice none 0 0)).toArray 34)):=⟨_,rfl⟩
          have hV3:Y3.heap[wr.heap.size]? = some (.cells (thC zeroT (.slice none 0 0) (.slice none 0 0) (.slice none 0 0) (.slice none 0 0)).toArray 34 (0,0)):=by rw [hY.out];exact heap_alloc_new _ _
          obtain ⟨V6,hV⟩:∃ V,Hid (V = Y3.setRow wr.heap.size (thC x.t x.l x.c x.k x.d).toArray):=⟨_,rfl⟩
          have nV6:Nw wr V6:=by rw [hV.out,hY.out];exact Fr.setRow (nw_alloc (nw_refl _) _) (.inr (Nat.le_refl _)) _
          have hnew:V6.heap[wr.heap.size]? = some (.cells (thC x.t x.l x.c x.k x.d).toArray 34 (0,0)):=by rw [hV.out];exact setRow_heap _ _ _ _ _ _ hV3
          go_wp2_with (first | (refine wpList_load_as rfl 34 _ rfl q3 (off3 + m * 26) rfl (thV x.t x.l x.c x.k x.d) _ rfl hrr Try.rowT Try.sizeT ?_) | (refine wpList_alloc_agg rfl 34 rfl _ Try.zeroTh ?_;rw [← hY.out];refine stop_here ?_))
          unfold Hid
          refine wpList_store_all rfl 34 _ _ rfl (wr.heap.size) rfl (thV x.t x.l x.c x.k x.d) rfl (thC x.t x.l x.c x.k x.d) rfl (thC zeroT (.slice none 0 0) (.slice none 0 0) (.slice none 0 0) (.slice none 0 0)) 34 hV3 rfl (ThAt.one hat3) Try.sizeT ?_
          rw [← hV.out]
          clear hV hY hV3 hrr
          replace hlr:=hlr.nw nV6
          replace hids:=owns_nw hids nV6
          replace nW:=nw_trans nW nV6
          replace hat3:=hat3.nw nV6
          have hV3:=hnew
          clear hnew
          have hlA3:wr.heap.size < V6.heap.size:=heap_lt hV3
          generalize wr.heap.size = A3 at *
          clear hs hat3
          go_upto_region 21 with fail
          have c0:V6.cell? ⟨A3,0,none⟩ = some (.int .u64 x.t.id):=cell_blk hV3 rfl
          have hcon:Hid _:=c_rfind x.t.id V6 hlr
          go_wp2_with ((go_at_call 14;refine Calls.mono hcon.out ?_;rintro e W7 hff;obtain ⟨l4,c4,k4,d4,rfl,hy4,n7⟩:=rfind_one hff;refine stop_here ?_))
          unfold Hid
          clear hcon
          replace hV3:=(n7.block _ (heap_lt hV3) (fun h=>h)).trans hV3
          replace hlr:=hlr.nw n7
          replace hids:=owns_nw hids n7
          replace nW:=nw_trans nW n7
          clear hff c0
          obtain ⟨Y4,hY⟩:∃ Y,Hid (Y = W7.alloc (.cells (thC zeroT (.slice none 0 0) (.slice none 0 0) (.slice none 0 0) (.slice none 0 0)).toArray 34)):=⟨_,rfl⟩
          have hV4:Y4.heap[W7.heap.size]? = some (.cells (thC zeroT (.slice none 0 0) (.slice none 0 0) (.slice none 0 0) (.slice none 0 0)).toArray 34 (0,0)):=by rw [hY.out];exact heap_alloc_new _ _
          obtain ⟨V8,hV⟩:∃ V,Hid (V = Y4.setRow W7.heap.size (thC (fT ls x.t.id) l4 c4 k4 d4).toArray):=⟨_,rfl⟩
          have nV8:Nw W7 V8:=by rw [hV.out,hY.out];exact Fr.setRow (nw_alloc (nw_refl _) _) (.inr (Nat.le_refl _)) _
          have hnew:V8.heap[W7.heap.size]? = some (.cells (thC (fT ls x.t.id) l4 c4 k4 d4).toArray 34 (0,0)):=by rw [hV.out];exact setRow_heap _ _ _ _ _ _ hV4
          go_wp2_with (refine wpList_alloc_agg rfl 34 rfl _ Try.zeroTh ?_;rw [← hY.out];refine stop_here ?_)
          unfold Hid
          refine wpList_store_all rfl 34 _ _ rfl (W7.heap.size) rfl (thV (fT ls x.t.id) l4 c4 k4 d4) rfl (thC (fT ls x.t.id) l4 c4 k4 d4) rfl (thC zeroT (.slice none 0 0) (.slice none 0 0) (.slice none 0 0) (.slice none 0 0)) 34 hV4 rfl (hy4.one) Try.sizeT ?_
          rw [← hV.out]
          clear hV hY hV4
          replace hV3:=(nV8.block _ (heap_lt hV3) (fun h=>h)).trans hV3
          replace hlr:=hlr.nw nV8
          replace hids:=owns_nw hids nV8
          replace nW:=nw_trans nW nV8
          have hV4:=hnew
          clear hnew
          generalize W7.heap.size = A4 at *
          clear hV4 hy4
          go_upto_region 22 with fail
          have c0:V8.cell? ⟨A3,0,none⟩ = some (.int .u64 x.t.id):=cell_blk hV3 rfl
          clear hV3
          obtain ⟨B,hB⟩:∃ B,foundX ls x.t.id = B:=⟨_,rfl⟩
          rw [hB] at hst ⊢
          clear hB
          cases B with
          | true =>
           have hst2:Hid (is2 = is):=by unfold Hid;rw [hst.out,if_pos rfl,List.append_nil]
           clear hst c0
           replace hids:Hid _:=hids
           go_wp2
           go_roundw
           case rel=>exact ⟨m + 1,by omega,by go_num,by rw [hG.out,hst2.out];exact hids.out,nW⟩
           case measure=>simp [intOf];omega
          | false =>
           have hst2:Hid (is2 = is ++ [x.t.id]):=by unfold Hid;rw [hst.out,if_neg Bool.noConfusion]
           clear hst
           have hrA:=owns_nw hids (nw_alloc (nw_refl V8) (.cells #[.int .u64 x.t.id] 23))
           have hsl:=sl_lit V8 #[.int .u64 x.t.id] 23 1 (by omega)
           go_wp2_with (at_builtin;refine wpList_append_sl _ rfl _ _ 45 rfl S 23 i0 _ 1 8 Try.underlying45 hi0 hz0 hs0 hb0 rfl (by decide) _ _ _ rfl hrA _ _ 1 _ rfl hsl rfl ?e1 ?e2 ?e3 ?e4 ?_)
           case e1=>first | rfl | (intro u hu;simp at hu;subst hu;rfl)
           case e2=>unfold maxLen;omega
           case e3=>omega
           case e4=>have h9:=nW.size;have h8:=hS.out;first | omega | (rw [alloc_size];omega)
           intro v9 w9 hown9 hgrow9 hat9
           have m9:Hid (Nw R2 w9):=Fr.grown (nw_alloc nW _) hgrow9 (fun q hq=>.inr (by have:=(hids.lt q hq).1;have:=hS.out;omega))
           have hids9:Hid (w9.ownsRow S 23 1 v9 is2.length (is2.map uv)):=by unfold Hid;rw [hst2.out,List.length_append,List.map_append];exact hown9
           clear hown9 hgrow9 hat9 hrA hsl hst2 c0 hids hlr nW
           go_wp2
           go_roundw
           case rel=>exact ⟨m + 1,by omega,by go_num,by rw [hG.out];exact hids9.out,m9.out⟩
           case measure=>simp [intOf];omega
         ·obtain rfl:m = N:=by omega
          have hall:goneT xs ls m = goneX xs ls:=by have:=goneT_all xs ls;rw [hN.out] at this;exact this
          rw [hall] at hids ⊢
          have e1:=r1.out
          have e2:=r2.out
          have e4:=hls.out
          rw [← e4] at e1 e2
          have hu:Hid (USl (fun _=>True) wr (.slice oa (goneX xs ls).length oc) (goneX xs ls)):=USl.all (usl_owns hids)
          replace nW:=nw_trans nW nV
          replace e1:Hid _:=e1
          replace e2:Hid _:=e2
          replace hlr:Hid _:=hlr
          clear hids e4 hall nV hl
          go_wp2
          refine bodyPost_ret (results_tmp3 rfl _) rfl ?_
          exact ⟨_,_,ls,goneX xs ls,by rw [r3.out];rfl,hlr.out,hu.out,e1.out,e2.out,nW⟩
       ·have hbe:((K:Int) == (k:Int)) = false:=by rw [beq_eq_false_iff_ne];omega
        have hne:(keepU ls).length ≠ ls.length:=by rw [hK.out,hL.out];exact hKL
        have hd2:Hid (downX (keepU ls) = R):=(downX_step hne).symm.trans hd.out
        have hlt2:K < k:=by have:=downX_less hne;rw [hK.out,hL.out] at this;exact this
        have hle2:(keepU ls).length ≤ N + 1:=by rw [hK.out];omega
        replace nW:=nw_trans nO.out nW
        replace hsl:Hid _:=hsl
        replace hle2:Hid _:=hle2
        clear hl hlb hrow hne hs
        go_wp2
        go_roundw
        case rel=>exact ⟨keepU ls,hsl.out,hd2,hle2.out,nW⟩
        case measure=>simp only [lenW];omega
  ·have hkb:(d.t.kind != 1) = true:=by simp [hk]
   have hq:Hid (unX xs hold id = (xs,[],131)):=by
    unfold Hid unX
    simp only [hf,if_neg hk]
   replace hf:Hid _:=hf
   replace hk:Hid _:=hk
   have hz:=(h.nw nW).mono (X':=fun _=>True) (Y':=fun _=>True) (fun _ _ _=>trivial) (fun _ _ _=>trivial)
   clear hV1 hy1 h
   go_wp2
   refine bodyPost_ret (results_tmp3 rfl _) rfl ?_
   exact ⟨_,_,xs,[],by rw [hq.out];rfl,hz,usl_nil _ _,by rw [hq.out],by rw [hq.out],nW⟩

end Go.Proofs.Ytgmfofngmfekbaa
