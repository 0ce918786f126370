/-
  GrT9, GrT10: in one text.
-/
import Derived.Test.YtgmfofngmfekbaaGrGkS
import Derived.Test.YtgmfofngmfekbaaThR6S
namespace Go.Proofs.Ytgmfofngmfekbaa
set_option linter.unusedVariables false
set_option linter.unusedSimpArgs false
set_option maxRecDepth 20000
open Go.RowKit

set_option maxRecDepth 100000 in
set_option maxHeartbeats 6400000 in
theorem c_grises {X Y:Nat→Prop} {v:Value} {xs:List TC} (w:World) (h:TSl X Y w v xs) :
  Calls Try.prog 30 #[v] w (AnsP (RiseX xs) w):=by
 obtain ⟨ao,cap,rfl,hc1,hc2⟩:=h.form
 obtain ⟨N,hN⟩:∃ N,xs.length = N:=⟨_,rfl⟩
 rw [hN] at h hc1 ⊢
 replace hN:Hid _:=hN
 go_enter Try.func30,Try.ntmps30
 go_wp2
 go_loopw [6] (fun kv wr=>∃ k:Nat,k ≤ N∧kv = .int .i64 k∧Hid (∀ i (h:i + 1 < xs.length),i + 1 < k→xs[i].t.id < xs[i + 1].t.id)∧Nw w wr) (fun kv _=>N - (intOf kv).toNat)
 case atStart=>exact ⟨0,Nat.zero_le _,rfl,fun i _ h=>absurd h (Nat.not_lt_zero _),nw_refl _⟩
 case round =>
  obtain ⟨k,hk,rfl,hri,hw⟩:=hrel
  have hs:=h.nw hw
  clear h
  by_cases hlt:k < N
  ·by_cases h0:k = 0
   ·subst h0
    have hq:Hid (∀ i (h:i + 1 < xs.length),i + 1 < 0 + 1→xs[i].t.id < xs[i + 1].t.id):=fun i _ h=>absurd h (by omega)
    have hb0:decide ((0:Int) < ((0:Nat):Int)) = false:=rfl
    clear hri hs
    go_upto_region 4 with fail
    go_quiet (fail)
    have hw2:=nw_drewM hw
    clear hw
    go_wp2
    go_roundw
    case rel=>exact ⟨0 + 1,by omega,by go_num,hq,hw2 _⟩
    case measure=>simp [intOf];omega
   ·obtain ⟨j,hj⟩:∃ j,k = j + 1:=⟨k - 1,by omega⟩
    have hlx:k < xs.length:=by have:=hN.out;omega
    have hlj:j < xs.length:=by omega
    obtain ⟨q1,off1,hva,_,hr1,_⟩:=hs.get j hlj
    obtain ⟨q2,off2,hvb,_,hr2,_⟩:=hs.get k hlx
    subst hva
    simp only [Option.some.injEq,Addr.mk.injEq,and_true] at hvb
    obtain ⟨rfl,rfl⟩:=hvb
    have hyes:Hid (xs[j].t.id < xs[k].t.id→∀ i (h:i + 1 < xs.length),i + 1 < k + 1→xs[i].t.id < xs[i + 1].t.id):=fun e i h h2=>by
     by_cases e2:i + 1 = k
     ·obtain rfl:i = j:=by omega
      have e3:k = i + 1:=e2.symm
      subst e3
      exact e
     ·exact hri.out i h (by omega)
    have hno:Hid (¬ xs[j].t.id < xs[k].t.id→¬ RiseX xs):=fun e h=>by
     subst hj
     exact e (h j hlx)
    have v1:wr.cell? ⟨q1,off1 + j * 26,none⟩ = some (.int .u64 xs[j].t.id):=hr1 0 _ rfl
    have v2:wr.cell? ⟨q1,off1 + k * 26,none⟩ = some (.int .u64 xs[k].t.id):=hr2 0 _ rfl
    generalize xs[j].t.id = a at *
    generalize xs[k].t.id = b at *
    clear hr1 hr2 hri hs
    have hb0:decide ((0:Int) < (k:Int)) = true:=decide_eq_true (by omega)
    have hb0n:decide (0 < k) = true:=decide_eq_true (by omega)
    have hkj:(k:Int) - 1 = (j:Int):=by omega
    replace hj:Hid _:=hj
    have hlt2:(j:Int) < (N:Int):=by have:=hj.out;omega
    replace h0:Hid _:=h0
    by_cases hab:a < b
    ·have hb1:decide (b ≤ a) = false:=decide_eq_false (by omega)
     have hq:Hid _:=hyes.out hab
     clear hyes hno hab
     go_upto_region 4 with fail
     go_quiet (fail)
     have hw2:=nw_drewM hw
     clear hw v1 v2
     go_wp2
     go_roundw
     case rel=>exact ⟨k + 1,by omega,by go_num,hq,hw2 _⟩
     case measure=>simp [intOf];omega
    ·have hb1:decide (b ≤ a) = true:=decide_eq_true (by omega)
     have hq:Hid _:=hno.out hab
     clear hyes hno hab
     go_upto_region 4 with fail
     go_quiet (fail)
     have hw2:=nw_drewM hw
     clear hw v1 v2
     go_wp2
     go_ret
     exact ans_no hq.out (hw2 _)
  ·have hq:Hid (RiseX xs):=fun i h=>hri.out i h (by have:=hN.out;omega)
   clear hri hs
   go_wp2
   go_ret
   exact ans_yes hq.out hw

/-- Where the first that is picked stands. -/
def FndT (P:TC→Prop) (xs:List TC) (r:Int):Prop:=(r = -1∧∀ i (h:i < xs.length),¬ P xs[i])∨∃ k:Nat,∃ h:k < xs.length,r = (k:Int)∧P xs[k]

theorem c_gright1 {X:Nat→Prop} {t:Th} {uL uC uK uD:Value} (w:World) (h:ThAt X w t uL uC uK uD) (l1:t.cats.length ≤ 8796093022208) (l2:t.ccats.length ≤ 8796093022208) :
  Calls Try.prog 57 #[thV t uL uC uK uD] w (AnsP (¬ RightT t) w):=by
 obtain ⟨W,hW⟩:∃ W,Hid (W = w.alloc (.cells (thC t uL uC uK uD).toArray 34)):=⟨_,rfl⟩
 have nW:Nw w W:=by rw [hW.out];exact nw_alloc (nw_refl w) _
 have hA:W.heap[w.heap.size]? = some (.cells (thC t uL uC uK uD).toArray 34 (0,0)):=by rw [hW.out];exact heap_alloc_new w _
 have hr0:=range_all hA
 have hc:Hid _:=c_tright W (h.nw nW) l1 l2
 unfold AnsP at hc
 clear h
 go_enter Try.func57,Try.ntmps57
 go_upto_region 1 with (refine wpList_box_agg rfl 34 _ rfl (thV t uL uC uK uD) _ rfl rfl ?_)
 rw [← hW.out]
 clear hW
 go_wp2_with (first | (refine wpList_load_as rfl 34 _ rfl w.heap.size 0 rfl (thV t uL uC uK uD) _ rfl hr0 Try.rowT Try.sizeT ?_) | (go_at_call 58;refine Calls.mono hc.out ?_;rintro e w' ⟨r,rfl,hr,n1⟩))
 go_ret
 refine ⟨!r,rfl,?_,nw_trans nW n1⟩
 cases r with
 | true=>exact ⟨fun h=>Bool.noConfusion h,fun h=>absurd (hr.1 rfl) h⟩
 | false=>exact ⟨fun _ h=>Bool.noConfusion (hr.2 h),fun _=>rfl⟩

set_option maxRecDepth 100000 in
set_option maxHeartbeats 3200000 in
theorem c_gindexT {X Y:Nat→Prop} {v:Value} {xs:List TC} (w:World) (h:TSl X Y w v xs) (hok:∀ x ∈ xs,x.t.cats.length ≤ 8796093022208∧x.t.ccats.length ≤ 8796093022208) :
  Calls Try.prog 81 #[v,.func (.func 57) #[] #[]] w fun e w'=>∃ r,e = .returned (.int .i64 r)∧FndT (fun x=>¬ RightT x.t) xs r∧Nw w w':=by
 obtain ⟨ao,cap,rfl,hcl,hcm⟩:=h.form
 replace hok:Hid _:=hok
 obtain ⟨n,hn⟩:∃ n,xs.length = n:=⟨_,rfl⟩
 rw [hn] at h hcl ⊢
 replace hn:Hid _:=hn
 go_enter Try.func81,Try.ntmps81
 go_wp2
 go_loopw [8] (fun kv wr=>∃ k:Nat,k ≤ n∧kv = .int .i64 k∧Hid (∀ i (h2:i < xs.length),i < k→RightT xs[i].t)∧Nw w wr) (fun kv _=>n - (intOf kv).toNat)
 case atStart=>exact ⟨0,Nat.zero_le _,rfl,fun i h h2=>absurd h2 (Nat.not_lt_zero _),nw_refl _⟩
 case round =>
  obtain ⟨k,hkn,rfl,hne,hnw⟩:=hrel
  by_cases hlt:k < n
  ·have hk:k < xs.length:=by have:=hn.out;omega
   obtain ⟨q,off,hao,_,hrr,hat⟩:=(h.nw hnw).get k hk
   subst hao
   have hl:=hok.out _ (List.getElem_mem hk)
   have hstep:Hid (RightT xs[k].t→∀ i (h2:i < xs.length),i < k + 1→RightT xs[i].t):=fun h0 i h2 h3=>by
    by_cases e:i = k
    ·subst e;exact h0
    ·exact hne.out i h2 (by omega)
   have hhit:Hid (¬ RightT xs[k].t→FndT (fun x=>¬ RightT x.t) xs (k:Int)):=fun h0=>.inr ⟨k,hk,rfl,h0⟩
   generalize xs[k] = x at *
   clear hk
   have hc:Hid _:=c_gright1 wr hat hl.1 hl.2
   unfold AnsP at hc
   unfold tcC at hrr
   clear hl
   go_wp2_with (first | (refine wpList_load_as rfl 34 _ rfl q (off + k * 26) rfl (thV x.t x.l x.c x.k x.d) _ rfl hrr Try.rowT Try.sizeT ?_) | (go_at_call 57;refine Calls.mono hc.out ?_;rintro e w3 ⟨r,rfl,hr,n3⟩;refine stop_here ?_))
   unfold Hid
   clear hc hrr hat
   cases r with
   | true =>
    have hf:Hid (FndT (fun x=>¬ RightT x.t) xs (k:Int)):=hhit.out (hr.1 rfl)
    clear hstep hhit hne hr
    go_wp2
    go_ret
    exact ⟨_,rfl,hf.out,nw_trans hnw n3⟩
   | false =>
    have hf:Hid (∀ i (h2:i < xs.length),i < k + 1→RightT xs[i].t):=hstep.out (Classical.byContradiction fun h=>Bool.noConfusion (hr.2 h))
    clear hstep hhit hne hr
    go_wp2
    go_roundw
    case rel=>exact ⟨k + 1,by omega,by go_num,hf,nw_trans hnw n3⟩
    case measure=>simp [intOf];omega
  ·have hf:Hid (FndT (fun x=>¬ RightT x.t) xs (-1)):=.inl ⟨rfl,fun i hi h=>h (hne.out i hi (by have:=hn.out;omega))⟩
   go_wp2
   go_ret
   exact ⟨_,rfl,hf.out,hnw⟩

set_option maxHeartbeats 1600000 in
theorem c_gareRight {X Y:Nat→Prop} {v:Value} {xs:List TC} (w:World) (h:TSl X Y w v xs) (hok:∀ x ∈ xs,x.t.cats.length ≤ 8796093022208∧x.t.ccats.length ≤ 8796093022208) :
  Calls Try.prog 31 #[v] w (AnsP (∀ x ∈ xs,RightT x.t) w):=by
 have hc:Hid _:=c_gindexT w h hok
 clear h hok
 have hcc:Hid (Calls Try.prog 56 #[v,.func (.func 57) #[] #[]] w fun e w'=>∃ r:Bool,e = .returned (.bool r)∧(r = false↔∀ x ∈ xs,RightT x.t)∧Nw w w'):=by
  unfold Hid
  go_enter Try.func56,Try.ntmps56
  go_wp2_with (go_at_call 81;refine Calls.mono hc.out ?_;rintro e w3 ⟨r,rfl,hf,n3⟩)
  go_ret
  refine ⟨decide (0 ≤ r),rfl,?_,n3⟩
  rcases hf with ⟨rfl,hf⟩ | ⟨k,hk,rfl,hf⟩
  ·exact ⟨fun _ x hx=>by obtain ⟨i,hi,rfl⟩:=List.getElem_of_mem hx;exact Classical.byContradiction (hf i hi),fun _=>rfl⟩
  ·exact ⟨fun h=>absurd h (by simp),fun h=>absurd (h _ (List.getElem_mem hk)) hf⟩
 clear hc
 go_enter Try.func31,Try.ntmps31
 go_wp2_with (go_at_call 56;refine Calls.mono hcc.out ?_;rintro e w3 ⟨r,rfl,hf,n3⟩)
 go_ret
 refine ⟨!r,rfl,?_,n3⟩
 cases r with
 | true=>exact ⟨fun h=>Bool.noConfusion h,fun h=>Bool.noConfusion (hf.2 h)⟩
 | false=>exact ⟨fun _=>hf.1 rfl,fun _=>rfl⟩

end Go.Proofs.Ytgmfofngmfekbaa

namespace Go.Proofs.Ytgmfofngmfekbaa
set_option linter.unusedVariables false
set_option linter.unusedSimpArgs false
set_option maxRecDepth 20000
open Go.RowKit

set_option maxRecDepth 100000 in
set_option maxHeartbeats 6400000 in
theorem c_gareLinks {X Y:Nat→Prop} {v:Value} {xs:List TC} (w:World) (h:TSl X Y w v xs) (hp:PwX xs) (hn:xs.length ≤ 1000000) (hl:∀ x ∈ xs,∀ l ∈ x.t.links,0 ≤ l.1∧l.1 < 18446744073709551616) :
  Calls Try.prog 32 #[v] w (AnsP (∀ x ∈ xs,∀ l ∈ x.t.links,fitsX xs x.t.id l = true) w):=by
 obtain ⟨ao,cap,rfl,hc1,hc2⟩:=h.form
 replace hp:Hid _:=hp
 replace hl:Hid _:=hl
 obtain ⟨N,hN⟩:∃ N,xs.length = N:=⟨_,rfl⟩
 rw [hN] at h hc1 ⊢
 replace hN:Hid _:=hN
 go_enter Try.func32,Try.ntmps32
 go_wp2
 go_loopw [9] (fun kv wr=>∃ k:Nat,k ≤ N∧kv = .int .i64 k∧Hid (∀ i (h:i < xs.length),i < k→∀ l ∈ xs[i].t.links,fitsX xs xs[i].t.id l = true)∧Nw w wr) (fun kv _=>N - (intOf kv).toNat)
 case atStart=>exact ⟨0,Nat.zero_le _,rfl,fun i _ h=>absurd h (Nat.not_lt_zero _),nw_refl _⟩
 case round =>
  obtain ⟨k,hk,rfl,hok,hw⟩:=hrel
  have hs:=h.nw hw
  clear h
  by_cases hltN:k < N
  ·have hlt:k < xs.length:=by have:=hN.out;omega
   have hyes:Hid ((∀ l ∈ xs[k].t.links,fitsX xs xs[k].t.id l = true)→∀ i (h:i < xs.length),i < k + 1→∀ l ∈ xs[i].t.links,fitsX xs xs[i].t.id l = true):=fun e i h h2=>by
    by_cases e2:i = k
    ·subst e2;exact e
    ·exact hok.out i h (by omega)
   have hno:Hid (∀ l ∈ xs[k].t.links,fitsX xs xs[k].t.id l = false→¬ ∀ x ∈ xs,∀ l ∈ x.t.links,fitsX xs x.t.id l = true):=fun l hl e h=>by rw [h _ (List.getElem_mem hlt) l hl] at e;exact Bool.noConfusion e
   have hlk:Hid (∀ l ∈ xs[k].t.links,0 ≤ l.1∧l.1 < 18446744073709551616):=hl.out _ (List.getElem_mem hlt)
   clear hok
   have nW:=hw
   clear hw
   have hs0:=hs
   obtain ⟨q1,off1,hva,_,hrr,hat1⟩:=(hs0).get k hlt
   first | subst hva | (simp only [Option.some.injEq,Addr.mk.injEq,and_true] at hva;obtain ⟨rfl,rfl⟩:=hva)
   generalize xs[k] = x at *
   unfold tcC at hrr
   obtain ⟨Y1,hY⟩:∃ Y,Hid (Y = wr.alloc (.cells (thC zeroT (.slice none 0 0) (.slice none 0 0) (.slice none 0 0) (.slice none 0 0)).toArray 34)):=⟨_,rfl⟩
   have hV1:Y1.heap[wr.heap.size]? = some (.cells (thC zeroT (.slice none 0 0) (.slice none 0 0) (.slice none 0 0) (.slice none 0 0)).toArray 34 (0,0)):=by rw [hY.out];exact heap_alloc_new _ _
   obtain ⟨V1,hV⟩:∃ V,Hid (V = Y1.setRow wr.heap.size (thC x.t x.l x.c x.k x.d).toArray):=⟨_,rfl⟩
   have nV1:Nw wr V1:=by rw [hV.out,hY.out];exact Fr.setRow (nw_alloc (nw_refl _) _) (.inr (Nat.le_refl _)) _
   have hnew:V1.heap[wr.heap.size]? = some (.cells (thC x.t x.l x.c x.k x.d).toArray 34 (0,0)):=by rw [hV.out];exact setRow_heap _ _ _ _ _ _ hV1
   go_wp2_with (first | (refine wpList_load_as rfl 34 _ rfl q1 (off1 + k * 26) rfl (thV x.t x.l x.c x.k x.d) _ rfl hrr Try.rowT Try.sizeT ?_) | (refine wpList_alloc_agg rfl 34 rfl _ Try.zeroTh ?_;rw [← hY.out];refine stop_here ?_))
   unfold Hid
   refine wpList_store_all rfl 34 _ _ rfl (wr.heap.size) rfl (thV x.t x.l x.c x.k x.d) rfl (thC x.t x.l x.c x.k x.d) rfl (thC zeroT (.slice none 0 0) (.slice none 0 0) (.slice none 0 0) (.slice none 0 0)) 34 hV1 rfl (ThAt.one hat1) Try.sizeT ?_
   rw [← hV.out]
   clear hV hY hV1 hrr
   replace hs:=hs.nw nV1
   replace nW:=nw_trans nW nV1
   replace hat1:=hat1.nw nV1
   have hV1:=hnew
   clear hnew
   have hlA1:wr.heap.size < V1.heap.size:=heap_lt hV1
   generalize wr.heap.size = A1 at *
   clear hs0
   obtain ⟨ka,kc,hku,hk1,hk2⟩:=hat1.k.form
   rw [hku] at hV1
   have hks:CSl Y V1 (.slice ka x.t.links.length kc) x.t.links:=by rw [← hku];exact hat1.k
   clear hat1 hku
   have c8:V1.cell? ⟨A1,8,none⟩ = some (.slice ka x.t.links.length kc):=cell_blk hV1 rfl
   obtain ⟨M,hM⟩:∃ M,x.t.links.length = M:=⟨_,rfl⟩
   have hks0:=hks
   rw [hM] at hks hk1 c8 hV1
   replace hM:Hid _:=hM
   replace hks0:Hid _:=hks0
   go_wp2
   go_loopw [16] (fun kv wr2=>∃ j:Nat,j ≤ M∧kv = .int .i64 j∧Hid (∀ i (h:i < x.t.links.length),i < j→fitsX xs x.t.id x.t.links[i] = true)∧Nw V1 wr2) (fun kv _=>M - (intOf kv).toNat)
   case atStart=>exact ⟨0,Nat.zero_le _,rfl,fun i _ h=>absurd h (Nat.not_lt_zero _),nw_refl _⟩
   case round =>
    obtain ⟨j,hj,rfl,hfo,hw2⟩:=hrel
    replace hs:=hs.nw hw2
    replace hks:=hks.nw hw2
    replace hV1:=(hw2.block _ (heap_lt hV1) (fun h=>h)).trans hV1
    have nW2:=nw_trans nW hw2
    clear c8
    by_cases hjM:j < M
    ·have hjl:j < x.t.links.length:=by have:=hM.out;omega
     obtain ⟨q2,off2,hva2,_,d1,d2⟩:=hks.get j hjl
     subst hva2
     have hstep:Hid (fitsX xs x.t.id x.t.links[j] = true→∀ i (h:i < x.t.links.length),i < j + 1→fitsX xs x.t.id x.t.links[i] = true):=fun e i h h2=>by
      by_cases e2:i = j
      ·subst e2;exact e
      ·exact hfo.out i h (by omega)
     have hbad:Hid (fitsX xs x.t.id x.t.links[j] = false→¬ ∀ x ∈ xs,∀ l ∈ x.t.links,fitsX xs x.t.id l = true):=hno.out _ (List.getElem_mem hjl)
     have hlb:=hlk.out _ (List.getElem_mem hjl)
     generalize x.t.links[j] = l at *
     clear hfo hjl
     obtain ⟨Y2,hY2⟩:∃ Y,Hid (Y = wr.alloc (.cells #[.int .u64 l.1,.int .i64 l.2] 54)):=⟨_,rfl⟩
     have nY2:Nw wr Y2:=by rw [hY2.out];exact nw_alloc (nw_refl _) _
     have hP2:Y2.heap[wr.heap.size]? = some (.cells #[.int .u64 l.1,.int .i64 l.2] 54 (0,0)):=by rw [hY2.out];exact heap_alloc_new _ _
     have hV1y:=(nY2.block _ (heap_lt hV1) (fun h=>h)).trans hV1
     have a0:Y2.cell? ⟨A1,0,none⟩ = some (.int .u64 x.t.id):=cell_blk hV1y rfl
     have p0:Y2.cell? ⟨wr.heap.size,0,none⟩ = some (.int .u64 l.1):=cell_blk hP2 rfl
     have p1:Y2.cell? ⟨wr.heap.size,1,none⟩ = some (.int .i64 l.2):=cell_blk hP2 rfl
     have hc:Hid _:=c_gmay x.t.id l Y2 (hs.nw nY2) hp.out hn hlb
     clear hlb
     rw [hY2.out] at hc a0 p0 p1 nY2 hV1y
     cases hf:fitsX xs x.t.id l with
     | false =>
      rw [hf] at hc
      have hq:Hid _:=hbad.out hf
      clear hstep hbad hf hV1
      go_wp2_with (go_at_call 53;refine Calls.mono hc.out ?_;rintro e W3 ⟨rfl,n3⟩;refine stop_here ?_)
      unfold Hid
      have nW3:=nw_trans nW2 (nw_trans nY2 n3)
      clear hc a0 p0 p1 hP2 hV1y hs hks
      go_wp2
      go_ret
      exact ans_no hq.out nW3
     | true =>
      rw [hf] at hc
      have hq:Hid _:=hstep.out hf
      clear hstep hbad hf hV1
      go_wp2_with (go_at_call 53;refine Calls.mono hc.out ?_;rintro e W3 ⟨rfl,n3⟩;refine stop_here ?_)
      unfold Hid
      have hw3:=nw_trans hw2 (nw_trans nY2 n3)
      clear hc a0 p0 p1 hP2 hV1y hs hks
      go_wp2
      go_roundw
      case rel=>exact ⟨j + 1,by omega,by go_num,hq,hw3⟩
      case measure=>simp [intOf];omega
    ·have hq:Hid _:=hyes.out (fun l hl=>by
      obtain ⟨i,hi,rfl⟩:=List.getElem_of_mem hl
      exact hfo.out i hi (by have:=hM.out;omega))
     clear hs hks hV1 hfo hyes hno
     go_wp2
     go_roundw
     case rel=>exact ⟨k + 1,by omega,by go_num,hq,nW2⟩
     case measure=>simp [intOf];omega
  ·have hq:Hid (∀ x ∈ xs,∀ l ∈ x.t.links,fitsX xs x.t.id l = true):=fun x hx=>by
    obtain ⟨i,hi,rfl⟩:=List.getElem_of_mem hx
    exact hok.out i hi (by have:=hN.out;omega)
   clear hok hs
   go_wp2
   go_ret
   exact ans_yes hq.out hw
end Go.Proofs.Ytgmfofngmfekbaa
