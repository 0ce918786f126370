/-
  GrT4, GrT5: in one text.
-/
import Derived.Test.YtgmfofngmfekbaaGrGiS
import Derived.Test.YtgmfofngmfekbaaGrGeS
namespace Go.Proofs.Ytgmfofngmfekbaa
set_option linter.unusedVariables false
set_option linter.unusedSimpArgs false
set_option maxRecDepth 20000
open Go.RowKit

/-- Where the first that is picked stands. -/
def FndP (p:Cat→Bool) (ls:List Cat) (r:Int):Prop:=(r = -1∧∀ i (h:i < ls.length),p ls[i] = false)∨∃ k:Nat,∃ h:k < ls.length,r = (k:Int)∧(∀ i (h2:i < ls.length),i < k→p ls[i] = false)∧p ls[k] = true
theorem fnd_any {p:Cat→Bool} {ls:List Cat} {r:Int} (h:FndP p ls r):decide (0 ≤ r) = ls.any p:=by
 rcases h with ⟨rfl,h⟩ | ⟨k,hk,rfl,_,h⟩
 ·have:ls.any p = false:=List.any_eq_false.2 (fun c hc=>by obtain ⟨i,hi,rfl⟩:=List.getElem_of_mem hc;rw [h i hi];exact Bool.noConfusion)
  rw [this]
  decide
 ·have:ls.any p = true:=List.any_eq_true.2 ⟨_,List.getElem_mem hk,h⟩
  rw [this]
  simp

set_option maxHeartbeats 1600000 in
theorem c_idxR {X:Nat→Prop} {v:Value} {ls:List Cat} (P:Cat→Bool) (p:Nat) (w:World) (h:CSl X w v ls)
  (hv:∀ (w1:World) (c:Cat),Nw w w1→c ∈ ls→Calls Try.prog 42 #[.agg #[.int .u64 c.1,.int .i64 c.2],.pointer (some ⟨p,0,none⟩)] w1 fun e w2=>e = .returned (.bool (P c))∧Nw w1 w2) :
  Calls Try.prog 73 #[v,.func (.func 42) #[] #[.pointer (some ⟨p,0,none⟩)]] w fun e w'=>∃ r,e = .returned (.int .i64 r)∧FndP P ls r∧Nw w w':=by
 obtain ⟨ao,cap,rfl,hcl,hcm⟩:=h.form
 replace hv:Hid _:=hv
 obtain ⟨n,hn⟩:∃ n,ls.length = n:=⟨_,rfl⟩
 rw [hn] at h hcl ⊢
 replace hn:Hid _:=hn
 go_enter Try.func73,Try.ntmps73
 go_wp2
 go_loopw [8] (fun kv wr=>∃ k:Nat,k ≤ n∧kv = .int .i64 k∧Hid (∀ i (h2:i < ls.length),i < k→P ls[i] = false)∧Nw w wr) (fun kv _=>n - (intOf kv).toNat)
 case atStart=>exact ⟨0,Nat.zero_le _,rfl,fun i h h2=>absurd h2 (Nat.not_lt_zero _),nw_refl _⟩
 case round =>
  obtain ⟨k,hkn,rfl,hne,hnw⟩:=hrel
  by_cases hlt:k < n
  ·have hk:k < ls.length:=by have:=hn.out;omega
   obtain ⟨q,off,hao,_,d1,d2⟩:=(h.nw hnw).get k hk
   subst hao
   have hc:Hid _:=hv.out wr ls[k] hnw (List.getElem_mem hk)
   have hstep:Hid (P ls[k] = false→∀ i (h2:i < ls.length),i < k + 1→P ls[i] = false):=fun h0 i h2 h3=>by
    by_cases e:i = k
    ·subst e;exact h0
    ·exact hne.out i h2 (by omega)
   have hhit:Hid (P ls[k] = true→FndP P ls (k:Int)):=fun h0=>.inr ⟨k,hk,rfl,hne.out,h0⟩
   generalize ls[k] = c at *
   clear hk
   cases hb:P c with
   | true =>
    rw [hb] at hc
    have hf:Hid (FndP P ls (k:Int)):=hhit.out hb
    clear hstep hhit hne hb
    go_wp2_with (go_at_call 42;refine Calls.mono hc.out ?_;rintro e w3 ⟨rfl,n3⟩)
    go_ret
    exact ⟨_,rfl,hf.out,nw_trans hnw n3⟩
   | false =>
    rw [hb] at hc
    have hf:Hid (∀ i (h2:i < ls.length),i < k + 1→P ls[i] = false):=hstep.out hb
    clear hstep hhit hne hb
    go_wp2_with (go_at_call 42;refine Calls.mono hc.out ?_;rintro e w3 ⟨rfl,n3⟩)
    go_roundw
    case rel=>exact ⟨k + 1,by omega,by go_num,hf,nw_trans hnw n3⟩
    case measure=>simp [intOf];omega
  ·have hf:Hid (FndP P ls (-1)):=.inl ⟨rfl,fun i hi=>hne.out i hi (by have:=hn.out;omega)⟩
   go_wp2
   go_ret
   exact ⟨_,rfl,hf.out,hnw⟩

set_option maxHeartbeats 1600000 in
theorem c_anyR {X:Nat→Prop} {v:Value} {ls:List Cat} (P:Cat→Bool) (p:Nat) (w:World) (h:CSl X w v ls)
  (hv:∀ (w1:World) (c:Cat),Nw w w1→c ∈ ls→Calls Try.prog 42 #[.agg #[.int .u64 c.1,.int .i64 c.2],.pointer (some ⟨p,0,none⟩)] w1 fun e w2=>e = .returned (.bool (P c))∧Nw w1 w2) :
  Calls Try.prog 41 #[v,.func (.func 42) #[] #[.pointer (some ⟨p,0,none⟩)]] w fun e w'=>e = .returned (.bool (ls.any P))∧Nw w w':=by
 have hc:Hid _:=c_idxR P p w h hv
 clear h hv
 go_enter Try.func41,Try.ntmps41
 go_wp2_with (go_at_call 73;refine Calls.mono hc.out ?_;rintro e w3 ⟨r,rfl,hf,n3⟩)
 go_ret
 exact ⟨by rw [← fnd_any hf];rfl,n3⟩

theorem c_grefs1 (c:Cat) (id:Int) (p:Nat) (w:World) (hp:w.heap[p]? = some (.cells #[.int .u64 id] 23 (0,0))) :
  Calls Try.prog 42 #[.agg #[.int .u64 c.1,.int .i64 c.2],.pointer (some ⟨p,0,none⟩)] w fun e w'=>e = .returned (.bool (c.1 == id))∧Nw w w':=by
 have hn:Hid (Nw w (w.alloc (.cells #[.int .u64 c.1,.int .i64 c.2] 54))):=nw_alloc (nw_refl w) _
 have hc:(w.alloc (.cells #[.int .u64 c.1,.int .i64 c.2] 54)).cell? ⟨p,0,none⟩ = some (.int .u64 id):=cell_blk ((hn.out.block p (heap_lt hp) (fun h=>h)).trans hp) rfl
 go_enter Try.func42,Try.ntmps42
 go_wp2
 go_ret
 exact ⟨rfl,hn.out⟩

set_option maxRecDepth 100000 in
set_option maxHeartbeats 6400000 in
theorem c_grefs {X Y:Nat→Prop} {v:Value} {xs:List TC} (id:Int) (w:World) (h:TSl X Y w v xs) (hr:∀ x ∈ xs,x.t.kind ≠ 1→x.t.links = []) (hn:xs.length ≤ 1000000) :
  Calls Try.prog 17 #[v,.int .u64 id] w fun e w'=>e = .returned (.int .i64 (refsX xs id))∧Nw w w':=by
 obtain ⟨ao,cap,rfl,hc1,hc2⟩:=h.form
 replace hr:Hid _:=hr
 have hfull:Hid (refsX (xs.take xs.length) id = refsX xs id):=by unfold Hid;rw [List.take_length]
 have hbd:Hid (∀ k,refsX (xs.take k) id ≤ k):=fun k=>Nat.le_trans List.countP_le_length (by rw [List.length_take];exact Nat.min_le_left _ _)
 obtain ⟨N,hN⟩:∃ N,xs.length = N:=⟨_,rfl⟩
 rw [hN] at h hc1 hn hfull ⊢
 replace hN:Hid _:=hN
 obtain ⟨W,hW⟩:∃ W,Hid (W = w.alloc (.cells #[.int .u64 id] 23)):=⟨_,rfl⟩
 have nW:Nw w W:=by rw [hW.out];exact nw_alloc (nw_refl w) _
 have hP:W.heap[w.heap.size]? = some (.cells #[.int .u64 id] 23 (0,0)):=by rw [hW.out];exact heap_alloc_new w _
 go_enter Try.func17,Try.ntmps17
 go_upto_region 1 with fail
 rw [← hW.out]
 clear hW
 generalize w.heap.size = p at *
 go_wp2
 go_loopw [5,10] (fun nv kv wr=>∃ k:Nat,k ≤ N∧kv = .int .i64 k∧nv = .int .i64 (refsX (xs.take k) id)∧Nw W wr) (fun _ kv _=>N - (intOf kv).toNat)
 case atStart=>exact ⟨0,Nat.zero_le _,rfl,rfl,nw_refl _⟩
 case round =>
  obtain ⟨k,hk,rfl,rfl,hw⟩:=hrel
  have hbk:=hbd.out k
  have nWr:=nw_trans nW hw
  replace hP:=(hw.block _ (heap_lt hP) (fun h=>h)).trans hP
  have hs:=h.nw nWr
  clear h
  by_cases hltN:k < N
  ·have hlt:k < xs.length:=by rw [hN.out];exact hltN
   have hst:Hid _:=refs_take hlt id
   have hkl:Hid (xs[k].t.kind ≠ 1→xs[k].t.links = []):=hr.out _ (List.getElem_mem hlt)
   generalize hm:refsX (xs.take k) id = m at *
   replace hm:Hid _:=hm
   generalize hm2:refsX (xs.take (k + 1)) id = m2 at *
   replace hm2:Hid _:=hm2
   have nW:=nWr
   clear nWr
   obtain ⟨q1,off1,hva,_,hrr,hat1⟩:=(hs).get k hlt
   first | subst hva | (simp only [Option.some.injEq,Addr.mk.injEq,and_true] at hva;obtain ⟨rfl,rfl⟩:=hva)
   generalize xs[k] = x at *
   unfold tcC at hrr
   obtain ⟨Y1,hY⟩:∃ Y,Hid (Y = wr.alloc (.cells (thC zeroT (.slice none 0 0) (.slice none 0 0) (.slice none 0 0) (.slice none 0 0)).toArray 34)):=⟨_,rfl⟩
   have hV1:Y1.heap[wr.heap.size]? = some (.cells (thC zeroT (.slice none 0 0) (.slice none 0 0) (.slice none 0 0) (.slice none 0 0)).toArray 34 (0,0)):=by rw [hY.out];exact heap_alloc_new _ _
   obtain ⟨V1,hV⟩:∃ V,Hid (V = Y1.setRow wr.heap.size (thC x.t x.l x.c x.k x.d).toArray):=⟨_,rfl⟩
   have nV1:Nw wr V1:=by rw [hV.out,hY.out];exact Fr.setRow (nw_alloc (nw_refl _) _) (.inr (Nat.le_refl _)) _
   have hnew:V1.heap[wr.heap.size]? = some (.cells (thC x.t x.l x.c x.k x.d).toArray 34 (0,0)):=by rw [hV.out];exact setRow_heap _ _ _ _ _ _ hV1
   go_wp2_with (first | (refine wpList_load_as rfl 34 _ rfl q1 (off1 + k * 26) rfl (thV x.t x.l x.c x.k x.d) _ rfl hrr Try.rowT Try.sizeT ?_) | (refine wpList_alloc_agg rfl 34 rfl _ Try.zeroTh ?_;rw [← hY.out];refine stop_here ?_))
   unfold Hid
   refine wpList_store_all rfl 34 _ _ rfl (wr.heap.size) rfl (thV x.t x.l x.c x.k x.d) rfl (thC x.t x.l x.c x.k x.d) rfl (thC zeroT (.slice none 0 0) (.slice none 0 0) (.slice none 0 0) (.slice none 0 0)) 34 hV1 rfl (ThAt.one hat1) Try.sizeT ?_
   rw [← hV.out]
   clear hV hY hV1 hrr
   replace hw:=nw_trans hw nV1
   replace hP:=(nV1.block _ (heap_lt hP) (fun h=>h)).trans hP
   replace nW:=nw_trans nW nV1
   replace hat1:=hat1.nw nV1
   have hV1:=hnew
   clear hnew
   have hlA1:wr.heap.size < V1.heap.size:=heap_lt hV1
   generalize wr.heap.size = A1 at *
   have c1:V1.cell? ⟨A1,1,none⟩ = some (.int .i64 x.t.kind):=cell_blk hV1 rfl
   have c6:V1.cell? ⟨A1,8,none⟩ = some x.k:=cell_blk hV1 rfl
   have hany:Hid _:=c_anyR (fun c:Cat=>c.1 == id) p V1 hat1.k (fun w1 c n1 _=>c_grefs1 c id p w1 ((n1.block _ (heap_lt hP) (fun h=>h)).trans hP))
   have hany2:Hid (x.t.links.any (fun c=>c.1 == id) = hasB x.t.links id):=rfl
   rw [hany2.out] at hany
   clear hany2 hs hat1
   by_cases hkd:x.t.kind = 1
   ·have hkb:(x.t.kind == 1) = true:=by simpa using hkd
    replace hkd:Hid _:=hkd
    cases hb:hasB x.t.links id with
    | true =>
     rw [hb] at hany
     have e2:Hid ((m2:Int) = (m:Int) + 1):=by have h9:=hst.out;rw [hb,if_pos rfl] at h9;unfold Hid;omega
     clear hb hst hkl
     go_wp2_with (go_at_call 41;refine Calls.mono hany.out ?_;rintro e w3 ⟨rfl,n3⟩)
     have hw3:=nw_trans hw n3
     clear hw n3 hP hany
     go_wp2
     go_roundw
     case rel=>exact ⟨k + 1,by omega,by go_num,by rw [hm2.out,← e2.out],hw3⟩
     case measure=>simp [intOf];omega
    | false =>
     rw [hb] at hany
     have e2:Hid ((m2:Int) = (m:Int)):=by have h9:=hst.out;rw [hb,if_neg Bool.noConfusion] at h9;unfold Hid;omega
     clear hb hst hkl
     go_wp2_with (go_at_call 41;refine Calls.mono hany.out ?_;rintro e w3 ⟨rfl,n3⟩)
     have hw3:=nw_trans hw n3
     clear hw n3 hP hany
     go_wp2
     go_roundw
     case rel=>exact ⟨k + 1,by omega,by go_num,by rw [hm2.out,e2.out],hw3⟩
     case measure=>simp [intOf];omega
   ·have hkb:(x.t.kind == 1) = false:=by simpa using hkd
    have e2:Hid ((m2:Int) = (m:Int)):=by have h9:=hst.out;rw [hkl.out hkd] at h9;unfold Hid;simp [hasB] at h9;omega
    replace hkd:Hid _:=hkd
    clear hany hst hkl hP
    go_wp2
    go_roundw
    case rel=>exact ⟨k + 1,by omega,by go_num,by rw [hm2.out,e2.out],hw⟩
    case measure=>simp [intOf];omega
  ·obtain rfl:k = N:=by omega
   clear hs hP
   go_wp2
   go_ret
   exact ⟨by rw [hfull.out];rfl,nWr⟩
end Go.Proofs.Ytgmfofngmfekbaa

namespace Go.Proofs.Ytgmfofngmfekbaa
set_option linter.unusedVariables false
set_option linter.unusedSimpArgs false
set_option maxRecDepth 20000
open Go.RowKit

set_option maxRecDepth 100000 in
set_option maxHeartbeats 6400000 in
theorem c_gequal {X Y X' Y':Nat→Prop} {va vb:Value} {xs ys:List TC} (w:World) (ha:TSl X Y w va xs) (hb:TSl X' Y' w vb ys) :
  Calls Try.prog 46 #[va,vb,.func (.func 47) #[] #[]] w (AnsP (xs.map (·.t) = ys.map (·.t)) w):=by
 obtain ⟨ao,ac,rfl,ha1,ha2⟩:=ha.form
 obtain ⟨bo,bc,rfl,hb1,hb2⟩:=hb.form
 obtain ⟨M,hM⟩:∃ M,ys.length = M:=⟨_,rfl⟩
 obtain ⟨N,hN⟩:∃ N,xs.length = N:=⟨_,rfl⟩
 rw [hN] at ha ha1 ⊢
 rw [hM] at hb hb1 ⊢
 replace hN:Hid _:=hN
 replace hM:Hid _:=hM
 by_cases hlen:N = M
 ·subst hlen
  go_enter Try.func46,Try.ntmps46
  go_wp2
  go_loopw [17] (fun kv wr=>∃ k:Nat,k ≤ N∧kv = .int .i64 k∧Hid (∀ i (a:i < xs.length) (b:i < ys.length),i < k→xs[i].t = ys[i].t)∧Nw w wr) (fun kv _=>N - (intOf kv).toNat)
  case atStart=>exact ⟨0,Nat.zero_le _,rfl,fun i _ _ h=>absurd h (Nat.not_lt_zero _),nw_refl _⟩
  case round =>
   obtain ⟨k,hk,rfl,heq,hw⟩:=hrel
   by_cases hlt:k < N
   ·have hlx:k < xs.length:=by have:=hN.out;omega
    have hly:k < ys.length:=by have:=hM.out;omega
    have hs1:=ha.nw hw
    have hs2:=hb.nw hw
    have hyes:Hid (xs[k].t = ys[k].t→∀ i (a:i < xs.length) (b:i < ys.length),i < k + 1→xs[i].t = ys[i].t):=fun e i a b h=>by
     by_cases e2:i = k
     ·subst e2;exact e
     ·exact heq.out i a b (by omega)
    have hno:Hid (xs[k].t ≠ ys[k].t→¬ xs.map (·.t) = ys.map (·.t)):=fun e h=>e (map_same_at h k hlx hly)
    have nW:Nw wr wr:=nw_refl _
    clear ha hb
    replace hlt:Hid _:=hlt
    have hltN:=hlt.out
    have hlt:=hlx
    obtain ⟨q1,off1,hva,_,hrr,hat1⟩:=(hs1).get k hlt
    first | subst hva | (simp only [Option.some.injEq,Addr.mk.injEq,and_true] at hva;obtain ⟨rfl,rfl⟩:=hva)
    generalize xs[k] = x at *
    unfold tcC at hrr
    obtain ⟨Y1,hY⟩:∃ Y,Hid (Y = wr.alloc (.cells (thC zeroT (.slice none 0 0) (.slice none 0 0) (.slice none 0 0) (.slice none 0 0)).toArray 34)):=⟨_,rfl⟩
    have hV1:Y1.heap[wr.heap.size]? = some (.cells (thC zeroT (.slice none 0 0) (.slice none 0 0) (.slice none 0 0) (.slice none 0 0)).toArray 34 (0,0)):=by rw [hY.out];exact heap_alloc_new _ _
    obtain ⟨V1,hV⟩:∃ V,Hid (V = Y1.setRow wr.heap.size (thC x.t x.l x.c x.k x.d).toArray):=⟨_,rfl⟩
    have nV1:Nw wr V1:=by rw [hV.out,hY.out];exact Fr.setRow (nw_alloc (nw_refl _) _) (.inr (Nat.le_refl _)) _
    have hnew:V1.heap[wr.heap.size]? = some (.cells (thC x.t x.l x.c x.k x.d).toArray 34 (0,0)):=by rw [hV.out];exact setRow_heap _ _ _ _ _ _ hV1
    go_wp2_with (first | (refine wpList_load_as rfl 34 _ rfl q1 (off1 + k * 26) rfl (thV x.t x.l x.c x.k x.d) _ rfl hrr Try.rowT Try.sizeT ?_) | (refine wpList_alloc_agg rfl 34 rfl _ Try.zeroTh ?_;rw [← hY.out];refine stop_here ?_))
    unfold Hid
    go_wp2_with (refine wpList_store_all rfl 34 _ _ rfl (wr.heap.size) rfl (thV x.t x.l x.c x.k x.d) rfl (thC x.t x.l x.c x.k x.d) rfl (thC zeroT (.slice none 0 0) (.slice none 0 0) (.slice none 0 0) (.slice none 0 0)) 34 hV1 rfl (ThAt.one hat1) Try.sizeT ?_;rw [← hV.out];refine stop_here ?_)
    unfold Hid
    clear hV hY hV1 hrr
    replace hw:=nw_trans hw nV1
    replace hs2:=hs2.nw nV1
    replace nW:=nw_trans nW nV1
    replace hat1:=hat1.nw nV1
    have hV1:=hnew
    clear hnew
    have hlA1:wr.heap.size < V1.heap.size:=heap_lt hV1
    generalize wr.heap.size = A1 at *
    clear hlt
    clear hs1
    have hlt:=hly
    obtain ⟨q2,off2,hva,_,hrr,hat2⟩:=(hs2).get k hlt
    first | subst hva | (simp only [Option.some.injEq,Addr.mk.injEq,and_true] at hva;obtain ⟨rfl,rfl⟩:=hva)
    generalize ys[k] = y at *
    unfold tcC at hrr
    obtain ⟨Y2,hY⟩:∃ Y,Hid (Y = V1.alloc (.cells (thC zeroT (.slice none 0 0) (.slice none 0 0) (.slice none 0 0) (.slice none 0 0)).toArray 34)):=⟨_,rfl⟩
    have hV2:Y2.heap[V1.heap.size]? = some (.cells (thC zeroT (.slice none 0 0) (.slice none 0 0) (.slice none 0 0) (.slice none 0 0)).toArray 34 (0,0)):=by rw [hY.out];exact heap_alloc_new _ _
    obtain ⟨V2,hV⟩:∃ V,Hid (V = Y2.setRow V1.heap.size (thC y.t y.l y.c y.k y.d).toArray):=⟨_,rfl⟩
    have nV2:Nw V1 V2:=by rw [hV.out,hY.out];exact Fr.setRow (nw_alloc (nw_refl _) _) (.inr (Nat.le_refl _)) _
    have hnew:V2.heap[V1.heap.size]? = some (.cells (thC y.t y.l y.c y.k y.d).toArray 34 (0,0)):=by rw [hV.out];exact setRow_heap _ _ _ _ _ _ hV2
    go_wp2_with (first | (refine wpList_load_as rfl 34 _ rfl q2 (off2 + k * 26) rfl (thV y.t y.l y.c y.k y.d) _ rfl hrr Try.rowT Try.sizeT ?_) | (refine wpList_alloc_agg rfl 34 rfl _ Try.zeroTh ?_;rw [← hY.out];refine stop_here ?_))
    unfold Hid
    refine wpList_store_all rfl 34 _ _ rfl (V1.heap.size) rfl (thV y.t y.l y.c y.k y.d) rfl (thC y.t y.l y.c y.k y.d) rfl (thC zeroT (.slice none 0 0) (.slice none 0 0) (.slice none 0 0) (.slice none 0 0)) 34 hV2 rfl (ThAt.one hat2) Try.sizeT ?_
    rw [← hV.out]
    clear hV hY hV2 hrr
    have hl2_0:=heap_lt hV1
    replace hV1:=(nV2.block _ (heap_lt hV1) (fun h=>h)).trans hV1
    replace hw:=nw_trans hw nV2
    replace hat1:=hat1.nw nV2
    replace nW:=nw_trans nW nV2
    replace hat2:=hat2.nw nV2
    have hV2:=hnew
    clear hnew
    have hlA2:V1.heap.size < V2.heap.size:=heap_lt hV2
    generalize V1.heap.size = A2 at *
    clear hlt
    clear hs2
    have hc2:Hid _:=c_tsame V2 hat1 hat2
    have hcon:Hid _:=hc2
    have hr0:=range_all hV1
    have hr1:=range_all hV2
    go_wp2_with (first | (refine wpList_load_as rfl 34 _ rfl (A1) 0 rfl (thV x.t x.l x.c x.k x.d) _ rfl hr0 Try.rowT Try.sizeT ?_) | (refine wpList_load_as rfl 34 _ rfl (A2) 0 rfl (thV y.t y.l y.c y.k y.d) _ rfl hr1 Try.rowT Try.sizeT ?_) | (go_at_call 47;refine Calls.mono hcon.out ?_;rintro e W3 ⟨r,rfl,hr,n3⟩;refine stop_here ?_))
    unfold Hid
    clear hcon hr0 hr1 hc2 hat1 hat2
    replace hV1:=(n3.block _ (heap_lt hV1) (fun h=>h)).trans hV1
    replace hV2:=(n3.block _ (heap_lt hV2) (fun h=>h)).trans hV2
    replace hw:=nw_trans hw n3
    replace nW:=nw_trans nW n3
    cases r with
    | true =>
     have hq:Hid _:=hyes.out (hr.1 rfl)
     clear hr hyes hno heq hV1 hV2
     go_wp2
     go_roundw
     case rel=>exact ⟨k + 1,by omega,by go_num,hq,hw⟩
     case measure=>simp [intOf];omega
    | false =>
     have hq:Hid _:=hno.out (not_of_false hr)
     clear hr hyes hno heq hV1 hV2
     go_wp2
     go_ret
     exact ans_no hq.out hw
   ·obtain rfl:k = N:=by omega
    have hq:Hid (xs.map (·.t) = ys.map (·.t)):=map_same hN.out hM.out (fun i a b=>heq.out i a b (by have:=hN.out;omega))
    clear heq ha hb
    go_wp2
    go_ret
    exact ans_yes hq.out hw
 ·have hq:Hid (¬ xs.map (·.t) = ys.map (·.t)):=fun h=>hlen (by have h1:=same_tcs h;have:=hN.out;have:=hM.out;omega)
  have hne:((N:Int) != (M:Int)) = true:=by simp;omega
  go_enter Try.func46,Try.ntmps46
  go_wp2
  go_ret
  exact ans_no hq.out (nw_refl _)

set_option maxHeartbeats 1600000 in
theorem c_gsame {X Y X' Y':Nat→Prop} {va vb:Value} {xs ys:List TC} (w:World) (ha:TSl X Y w va xs) (hb:TSl X' Y' w vb ys) :
  Calls Try.prog 22 #[va,vb] w (AnsP (xs.map (·.t) = ys.map (·.t)) w):=by
 have hc:Hid _:=c_gequal w ha hb
 clear ha hb
 go_enter Try.func22,Try.ntmps22
 go_wp2_with (go_at_call 46;refine Calls.mono hc.out ?_;rintro e w3 ⟨r,rfl,hf,n3⟩)
 go_ret
 exact ⟨r,rfl,hf,n3⟩

end Go.Proofs.Ytgmfofngmfekbaa
