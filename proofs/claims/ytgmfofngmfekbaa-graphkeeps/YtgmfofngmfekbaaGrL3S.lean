/-
  The walk of GraphKeeps.
-/
import Derived.Test.YtgmfofngmfekbaaGrGrS
import Derived.Test.YtgmfofngmfekbaaGrGjS
import Derived.Test.YtgmfofngmfekbaaThC4S
namespace Go.Proofs.Ytgmfofngmfekbaa
set_option linter.unusedVariables false
set_option linter.unusedSimpArgs false
set_option maxRecDepth 20000
open Go.RowKit

set_option maxRecDepth 100000 in
set_option maxHeartbeats 12800000 in
theorem c_lkeeps {v:Value} {xs:List TC} (hold id:Int) (w:World) (hx:TSl (fun b=>b < w.heap.size) (fun b=>b < w.heap.size) w v xs) (hin:∀ x ∈ xs,TIn x.t) :
  Calls Try.prog 6 #[v,.int .u64 hold,.int .u64 id] w fun e w'=>e = .returned (.bool true)∧Nw w w':=by
 have nW:=nw_refl w
 obtain ⟨ao,cap,rfl,hc1,hc2⟩:=hx.form
 obtain ⟨N,hN⟩:∃ N,xs.length = N:=⟨_,rfl⟩
 have hNx:Hid (xs.length = N):=hN
 rw [hN] at hx hc1 ⊢
 clear hN
 replace hin:Hid _:=hin
 go_enter Try.func6,Try.ntmps6
 have hcon:Hid _:=c_galive w
 go_wp2_with ((go_at_call 8;refine Calls.mono hcon.out ?_;rintro e W1 ⟨rfl,n1⟩;refine stop_here ?_))
 unfold Hid
 clear hcon
 replace hx:=hx.nw n1
 replace nW:=nw_trans nW n1
 go_upto_region 3 with fail
 by_cases hl:60 < N
 ·have hb1:decide ((60:Int) < (N:Int)) = true:=decide_eq_true (by omega)
  have hb2:decide (60 < N) = true:=decide_eq_true hl
  clear hx
  go_wp2
  go_ret
  exact ⟨rfl,nW⟩
 ·have hb1:decide ((60:Int) < (N:Int)) = false:=decide_eq_false (by omega)
  have hb2:decide (60 < N) = false:=decide_eq_false hl
  have hN6:Hid (xs.length ≤ 60):=by have:=hNx.out;unfold Hid;omega
  have hcon:Hid _:=c_rsound W1 hx (fun x hx=>(hin.out x hx).ok) (by have:=hN6.out;omega)
  unfold AnsP at hcon
  go_wp2_with ((go_at_call 11;refine Calls.mono hcon.out ?_;rintro e W2 ⟨r2,rfl,hr2,n2⟩;refine stop_here ?_))
  unfold Hid
  clear hcon
  replace hx:=hx.nw n2
  replace nW:=nw_trans nW n2
  cases r2 with
  | false =>
   clear hr2 hx
   go_wp2
   go_ret
   exact ⟨rfl,nW⟩
  | true =>
   have hS:Hid (SoundX xs):=hr2.1 rfl
   have hp:Hid (PwX xs):=rise_pw hS.out.rise
   clear hr2 hb1 hb2
   go_upto_region 5 with fail
   have hcon:Hid _:=c_rgcopy W2 hx (fun x hx=>(hin.out x hx).len) (by have:=hN6.out;omega)
   go_wp2_with ((go_at_call 9;refine Calls.mono hcon.out ?_;rintro e W3 ⟨u,ys,rfl,hy,hyx,n3⟩;refine stop_here ?_))
   unfold Hid
   clear hcon
   replace hx:=hx.nw n3
   replace nW:=nw_trans nW n3
   obtain ⟨s1,s2⟩:=same_un hyx hS.out hold id
   have hSy:=same_sound hyx hS.out
   have hcu:Hid _:=c_gunlink hold id W3 hy hSy (fun z hz=>right_tlen (sound_right hSy z hz)) (by have:=hN6.out;have:=same_len hyx;omega)
   unfold GUnP at hcu
   rw [s2] at hcu
   clear hy hSy hyx s2
   have hcon:Hid _:=hcu.out
   go_wp2_with ((go_at_call 23;refine Calls.mono hcon.out ?_;rintro e W4 ⟨u2,gv,zs,ids,rfl,hz,hi,hzs,hids,n4⟩;refine stop_here ?_))
   unfold Hid
   clear hcon  hcu
   replace hx:=hx.nw n4
   replace nW:=nw_trans nW n4
   replace hz:=hz.mono (X':=fun _=>True) (Y':=fun _=>True) (fun _ _ _=>trivial) (fun _ _ _=>trivial)
   replace hx:=hx.mono (X':=fun _=>True) (Y':=fun _=>True) (fun _ _ _=>trivial) (fun _ _ _=>trivial)
   replace hi:=USl.all hi
   replace hzs:=hzs.trans s1
   clear s1
   have hSz:Hid (SoundX zs):=same_sound hzs (un_sound hS.out hold id)
   have hz6:Hid (zs.length ≤ 60)∧Hid (ids.length ≤ 60):=by
    have:=hN6.out
    by_cases h0:(unX xs hold id).2.2 = 0
    ·have:=(keeps_same hzs (un_keeps hS.out h0)).len;rw [← hids] at this;exact ⟨by unfold Hid;omega,by unfold Hid;omega⟩
    ·obtain ⟨q1,q2⟩:=un_not h0;have h1:=same_len hzs;rw [q1] at h1;rw [q2] at hids;exact ⟨by unfold Hid;omega,by unfold Hid;rw [hids];decide⟩
   obtain ⟨hz6,hi6⟩:=hz6
   have hk:Hid ((unX xs hold id).2.2 = 0→KeepsP xs zs hold ids):=fun h0=>by rw [hids];exact keeps_same hzs (un_keeps hS.out h0)
   have hn:Hid ((unX xs hold id).2.2 ≠ 0→zs.map (·.t) = xs.map (·.t)∧ids = []):=fun h0=>by obtain ⟨q1,q2⟩:=un_not h0;rw [hids,q2,hzs,q1];exact ⟨rfl,rfl⟩
   clear hzs hids
   generalize (unX xs hold id).2.2 = E at *
   obtain ⟨bo,bcap,rfl,_,_⟩:=hz.form
   obtain ⟨io,icap,rfl,_,_⟩:=USl.form hi
   obtain ⟨M,hM⟩:∃ M,zs.length = M:=⟨_,rfl⟩
   obtain ⟨K,hK⟩:∃ K,ids.length = K:=⟨_,rfl⟩
   rw [hM] at hz hz6 ⊢
   rw [hK] at hi hi6 ⊢
   replace hM:Hid _:=hM
   replace hK:Hid _:=hK
   go_upto_region 6 with fail
   by_cases hE:E = 0
   ·subst hE
    have hkp:=hk.out rfl
    clear hk hn
    have hlen:Hid (N = M + K):=by have:=hkp.len;have:=hM.out;have:=hK.out;have:=hNx.out;unfold Hid;omega
    obtain ⟨hlen2,hgone,hwas,hheld⟩:=hkp
    clear hlen2
    replace hgone:Hid _:=hgone
    replace hwas:Hid _:=hwas
    replace hheld:Hid _:=hheld
    have hzt:Hid (∀ z ∈ zs,TLen z.t):=fun z hz=>right_tlen (sound_right hSz.out z hz)
    have hpz:Hid (PwX zs):=rise_pw hSz.out.rise
    have hnl:Hid (∀ x ∈ zs,x.t.kind ≠ 1→x.t.links = []):=fun x hx=>right_nolinks (sound_right hSz.out x hx)
    have hwr:IntKind.i64.wrap ((M:Int) + (K:Int)) = (N:Int):=by have:=hlen.out;have:=hz6.out;have:=hi6.out;rw [IntKind.wrap_i64];omega
    have hne:((N:Int) != (N:Int)) = false:=by simp
    go_upto_region 10 with fail
    clear hwr hne
    go_upto_region 11 with fail
    go_loopw [61] (fun kv wr=>∃ k:Nat,k ≤ K∧kv = .int .i64 k∧Nw w wr∧TSl (fun _=>True) (fun _=>True) wr (.slice bo M bcap) zs∧USl (fun _=>True) wr (.slice io K icap) ids∧TSl (fun _=>True) (fun _=>True) wr (.slice ao N cap) xs) (fun kv _=>K - (intOf kv).toNat)
    case atStart=>exact ⟨0,Nat.zero_le _,rfl,nW,hz,hi,hx⟩
    case round =>
     clear nW hz hi hx
     obtain ⟨k,hk,rfl,nW,hz,hi,hx⟩:=hrel
     by_cases hlt:k < K
     ·have hki:k < ids.length:=by have:=hK.out;omega
      obtain ⟨g1,g2⟩:=hgone.out _ (List.getElem_mem hki)
      obtain ⟨q,off,hva,_,hc⟩:=USl.get hi k hki
      subst hva
      generalize ids[k] = i at *
      clear hki
      replace g2:Hid _:=g2
      replace g1:Hid _:=g1
      have hcf:Hid _:=c_gfind i wr hz hpz.out hzt.out (by have:=hM.out;have:=hz6.out;omega)
      have hcon:Hid _:=hcf.out
      go_wp2_with ((go_at_call 13;refine Calls.mono hcon.out ?_;rintro e W5 hff;obtain ⟨l1,c1,k1,d1,rfl,hy1,n5⟩:=gfind_one hff;refine stop_here ?_))
      unfold Hid
      clear hcon  hcf
      replace hx:=hx.nw n5
      replace hz:=hz.nw n5
      replace hi:=hi.nw n5
      replace nW:=nw_trans nW n5
      clear hff hc
      rw [g1.out]
      obtain ⟨Y1,hY⟩:∃ Y,Hid (Y = W5.alloc (.cells (thC zeroT (.slice none 0 0) (.slice none 0 0) (.slice none 0 0) (.slice none 0 0)).toArray 34)):=⟨_,rfl⟩
      have hV1:Y1.heap[W5.heap.size]? = some (.cells (thC zeroT (.slice none 0 0) (.slice none 0 0) (.slice none 0 0) (.slice none 0 0)).toArray 34 (0,0)):=by rw [hY.out];exact heap_alloc_new _ _
      obtain ⟨V6,hV⟩:∃ V,Hid (V = Y1.setRow W5.heap.size (thC (fT zs i) l1 c1 k1 d1).toArray):=⟨_,rfl⟩
      have nV6:Nw W5 V6:=by rw [hV.out,hY.out];exact Fr.setRow (nw_alloc (nw_refl _) _) (.inr (Nat.le_refl _)) _
      have hnew:V6.heap[W5.heap.size]? = some (.cells (thC (fT zs i) l1 c1 k1 d1).toArray 34 (0,0)):=by rw [hV.out];exact setRow_heap _ _ _ _ _ _ hV1
      go_wp2_with (refine wpList_alloc_agg rfl 34 rfl _ Try.zeroTh ?_;rw [← hY.out];refine stop_here ?_)
      unfold Hid
      refine wpList_store_all rfl 34 _ _ rfl (W5.heap.size) rfl (thV (fT zs i) l1 c1 k1 d1) rfl (thC (fT zs i) l1 c1 k1 d1) rfl (thC zeroT (.slice none 0 0) (.slice none 0 0) (.slice none 0 0) (.slice none 0 0)) 34 hV1 rfl (hy1.one) Try.sizeT ?_
      rw [← hV.out]
      clear hV hY hV1
      replace hx:=hx.nw nV6
      replace hz:=hz.nw nV6
      replace hi:=hi.nw nV6
      replace hy1:=hy1.nw nV6
      replace nW:=nw_trans nW nV6
      have hV1:=hnew
      clear hnew
      generalize W5.heap.size = A1 at *
      clear hV1 hy1
      go_upto_region 14 with fail
      have hcf:Hid _:=c_grefs i V6 hz hnl.out (by have:=hM.out;have:=hz6.out;omega)
      rw [g2.out] at hcf
      have hcon:Hid _:=hcf.out
      go_wp2_with ((go_at_call 17;refine Calls.mono hcon.out ?_;rintro e W7 ⟨rfl,n7⟩;refine stop_here ?_))
      unfold Hid
      clear hcon  hcf
      replace hx:=hx.nw n7
      replace hz:=hz.nw n7
      replace hi:=hi.nw n7
      replace nW:=nw_trans nW n7
      have h6:=hi6.out
      go_wp2
      go_roundw
      case rel=>exact ⟨k + 1,by omega,by go_num,nW,hz,hi,hx⟩
      case measure=>simp [intOf];omega
     ·obtain rfl:k = K:=by omega
      clear hlt hgone hi
      go_upto_region 18 with fail
      go_loopw [81] (fun kv wr=>∃ k:Nat,k ≤ M∧kv = .int .i64 k∧Nw w wr∧TSl (fun _=>True) (fun _=>True) wr (.slice bo M bcap) zs∧TSl (fun _=>True) (fun _=>True) wr (.slice ao N cap) xs) (fun kv _=>M - (intOf kv).toNat)
      case atStart=>exact ⟨0,Nat.zero_le _,rfl,nW,hz,hx⟩
      case round =>
       clear nW hz hx
       obtain ⟨j,hj,rfl,nW,hz,hx⟩:=hrel
       by_cases hltM:j < M
       ·have hlt:j < zs.length:=by have:=hM.out;omega
        obtain ⟨a1,a2,a3⟩:=hwas.out _ (List.getElem_mem hlt)
        have a4:=hheld.out _ (List.getElem_mem hlt)
        replace a2:Hid _:=a2
        replace a3:Hid _:=a3
        replace a4:Hid _:=a4
        replace a1:Hid _:=a1
        have a5:Hid ((zs[j]).t.links.length ≤ 16):=right_len (sound_right hSz.out _ (List.getElem_mem hlt))
        have a6:Hid ((fT xs (zs[j]).t.id).links.length ≤ 17):=by
         by_cases h0:(zs[j]).t.id = hold
         ·have:=a3.out h0;have:=a5.out;unfold Hid;omega
         ·have h1:=a2.out h0;rw [← h1];have:=a5.out;unfold Hid;omega
        have hz0:=hz
        obtain ⟨q1,off1,hva,_,hrr,hat1⟩:=(hz0).get j hlt
        first | subst hva | (simp only [Option.some.injEq,Addr.mk.injEq,and_true] at hva;obtain ⟨rfl,rfl⟩:=hva)
        generalize zs[j] = x at *
        unfold tcC at hrr
        obtain ⟨Y1,hY⟩:∃ Y,Hid (Y = wr.alloc (.cells (thC zeroT (.slice none 0 0) (.slice none 0 0) (.slice none 0 0) (.slice none 0 0)).toArray 34)):=⟨_,rfl⟩
        have hV1:Y1.heap[wr.heap.size]? = some (.cells (thC zeroT (.slice none 0 0) (.slice none 0 0) (.slice none 0 0) (.slice none 0 0)).toArray 34 (0,0)):=by rw [hY.out];exact heap_alloc_new _ _
        obtain ⟨V5,hV⟩:∃ V,Hid (V = Y1.setRow wr.heap.size (thC x.t x.l x.c x.k x.d).toArray):=⟨_,rfl⟩
        have nV5:Nw wr V5:=by rw [hV.out,hY.out];exact Fr.setRow (nw_alloc (nw_refl _) _) (.inr (Nat.le_refl _)) _
        have hnew:V5.heap[wr.heap.size]? = some (.cells (thC x.t x.l x.c x.k x.d).toArray 34 (0,0)):=by rw [hV.out];exact setRow_heap _ _ _ _ _ _ hV1
        go_wp2_with (first | (refine wpList_load_as rfl 34 _ rfl q1 (off1 + j * 26) rfl (thV x.t x.l x.c x.k x.d) _ rfl hrr Try.rowT Try.sizeT ?_) | (refine wpList_alloc_agg rfl 34 rfl _ Try.zeroTh ?_;rw [← hY.out];refine stop_here ?_))
        unfold Hid
        refine wpList_store_all rfl 34 _ _ rfl (wr.heap.size) rfl (thV x.t x.l x.c x.k x.d) rfl (thC x.t x.l x.c x.k x.d) rfl (thC zeroT (.slice none 0 0) (.slice none 0 0) (.slice none 0 0) (.slice none 0 0)) 34 hV1 rfl (ThAt.one hat1) Try.sizeT ?_
        rw [← hV.out]
        clear hV hY hV1 hrr
        replace hx:=hx.nw nV5
        replace hz:=hz.nw nV5
        replace nW:=nw_trans nW nV5
        replace hat1:=hat1.nw nV5
        have hV1:=hnew
        clear hnew
        have hlA1:wr.heap.size < V5.heap.size:=heap_lt hV1
        generalize wr.heap.size = A1 at *
        clear hz0
        go_upto_region 20 with fail
        have c0:V5.cell? ⟨A1,0,none⟩ = some (.int .u64 x.t.id):=cell_blk hV1 rfl
        have hcf:Hid _:=c_rfind x.t.id V5 hx
        have hcon:Hid _:=hcf.out
        go_wp2_with ((go_at_call 14;refine Calls.mono hcon.out ?_;rintro e W6 hff;obtain ⟨l2,c2,k2,d2,rfl,hy2,n6⟩:=rfind_one hff;refine stop_here ?_))
        unfold Hid
        clear hcon  hcf
        replace hV1:=(n6.block _ (heap_lt hV1) (fun h=>h)).trans hV1
        replace hx:=hx.nw n6
        replace hz:=hz.nw n6
        replace hat1:=hat1.nw n6
        replace nW:=nw_trans nW n6
        clear hff c0
        rw [a1.out]
        obtain ⟨wt,hwt⟩:∃ t,fT xs x.t.id = t:=⟨_,rfl⟩
        rw [hwt] at a2 a3 a6 hy2 ⊢
        clear hwt
        obtain ⟨Y2,hY⟩:∃ Y,Hid (Y = W6.alloc (.cells (thC zeroT (.slice none 0 0) (.slice none 0 0) (.slice none 0 0) (.slice none 0 0)).toArray 34)):=⟨_,rfl⟩
        have hV2:Y2.heap[W6.heap.size]? = some (.cells (thC zeroT (.slice none 0 0) (.slice none 0 0) (.slice none 0 0) (.slice none 0 0)).toArray 34 (0,0)):=by rw [hY.out];exact heap_alloc_new _ _
        obtain ⟨V7,hV⟩:∃ V,Hid (V = Y2.setRow W6.heap.size (thC wt l2 c2 k2 d2).toArray):=⟨_,rfl⟩
        have nV7:Nw W6 V7:=by rw [hV.out,hY.out];exact Fr.setRow (nw_alloc (nw_refl _) _) (.inr (Nat.le_refl _)) _
        have hnew:V7.heap[W6.heap.size]? = some (.cells (thC wt l2 c2 k2 d2).toArray 34 (0,0)):=by rw [hV.out];exact setRow_heap _ _ _ _ _ _ hV2
        go_wp2_with (refine wpList_alloc_agg rfl 34 rfl _ Try.zeroTh ?_;rw [← hY.out];refine stop_here ?_)
        unfold Hid
        refine wpList_store_all rfl 34 _ _ rfl (W6.heap.size) rfl (thV wt l2 c2 k2 d2) rfl (thC wt l2 c2 k2 d2) rfl (thC zeroT (.slice none 0 0) (.slice none 0 0) (.slice none 0 0) (.slice none 0 0)) 34 hV2 rfl (hy2.one) Try.sizeT ?_
        rw [← hV.out]
        clear hV hY hV2
        have hl2_0:=heap_lt hV1
        replace hV1:=(nV7.block _ (heap_lt hV1) (fun h=>h)).trans hV1
        replace hx:=hx.nw nV7
        replace hz:=hz.nw nV7
        replace hat1:=hat1.nw nV7
        replace hy2:=hy2.nw nV7
        replace nW:=nw_trans nW nV7
        have hV2:=hnew
        clear hnew
        generalize W6.heap.size = A2 at *
        go_upto_region 21 with fail
        have c0:V7.cell? ⟨A1,0,none⟩ = some (.int .u64 x.t.id):=cell_blk hV1 rfl
        obtain ⟨ka,kc,hku,hk1,hk2⟩:=hat1.k.form
        obtain ⟨kb,kd,hku2,hk3,hk4⟩:=hy2.k.form
        replace hku:Hid _:=hku
        replace hku2:Hid _:=hku2
        clear hk1 hk2 hk3 hk4
        by_cases hid:x.t.id = hold
        ·have hbi:(x.t.id == hold) = true:=by simp [hid]
         have hbn:(x.t.id != hold) = false:=by simp [hid]
         have e3:=a3.out hid
         have hk8:wt.links.length = x.t.links.length + 1:=by omega
         clear a2
         have c8:V7.cell? ⟨A1,8,none⟩ = some (.slice ka x.t.links.length kc):=by have h:=cell_blk hV1 (i:=8) rfl;rw [hku.out] at h;exact h
         have c9:V7.cell? ⟨A2,8,none⟩ = some (.slice kb (x.t.links.length + 1) kd):=by have h:=cell_blk hV2 (i:=8) rfl;rw [hku2.out,hk8] at h;exact h
         replace hid:Hid _:=hid
         clear e3 hk8
         have a9:=a5.out
         have hwr:IntKind.i64.wrap ((x.t.links.length:Int) + 1) = ((x.t.links.length + 1:Nat):Int):=by rw [IntKind.wrap_i64];omega
         clear a9
         go_upto_region 23 with fail
         clear c8 c9 hwr hbi hbn hku2
         clear hV2 hy2 c0
         rw [hku.out] at hV1
         have hks:CSl (fun _=>True) V7 (.slice ka x.t.links.length kc) x.t.links:=by rw [← hku.out];exact hat1.k
         clear hat1 hku
         obtain ⟨L,hL⟩:∃ L,x.t.links.length = L:=⟨_,rfl⟩
         have hL6:Hid (L ≤ 16):=by have:=a5.out;unfold Hid;omega
         rw [hL] at hks hV1
         replace hL:Hid _:=hL
         have c8:V7.cell? ⟨A1,8,none⟩ = some (.slice ka L kc):=cell_blk hV1 rfl
         go_upto_region 24 with fail
         clear c8
         go_loopw [125] (fun kv wr2=>∃ m:Nat,m ≤ L∧kv = .int .i64 m∧Nw V7 wr2) (fun kv _=>L - (intOf kv).toNat)
         case atStart=>exact ⟨0,Nat.zero_le _,rfl,nw_refl _⟩
         case round =>
          obtain ⟨m,hm,rfl,hw2⟩:=hrel
          replace hx:=hx.nw hw2
          replace hz:=hz.nw hw2
          replace hks:=hks.nw hw2
          replace hV1:=(hw2.block _ (heap_lt hV1) (fun h=>h)).trans hV1
          replace nW:=nw_trans nW hw2
          by_cases hmL:m < L
          ·have hml:m < x.t.links.length:=by have:=hL.out;omega
           obtain ⟨q2,off2,hva2,_,b1,b2⟩:=hks.get m hml
           subst hva2
           have b3:Hid _:=a4.out _ (List.getElem_mem hml)
           generalize x.t.links[m] = l at *
           clear hml
           obtain ⟨Y9,hY9⟩:∃ Y,Hid (Y = wr.alloc (.cells #[.int .u64 l.1,.int .i64 l.2] 54)):=⟨_,rfl⟩
           have nY9:Nw wr Y9:=by rw [hY9.out];exact nw_alloc (nw_refl _) _
           have hP9:Y9.heap[wr.heap.size]? = some (.cells #[.int .u64 l.1,.int .i64 l.2] 54 (0,0)):=by rw [hY9.out];exact heap_alloc_new _ _
           have p0:Y9.cell? ⟨wr.heap.size,0,none⟩ = some (.int .u64 l.1):=cell_blk hP9 rfl
           go_upto_region 26 with fail
           rw [← hY9.out]
           clear hY9 hP9 b1 b2
           replace hV1:=(nY9.block _ (heap_lt hV1) (fun h=>h)).trans hV1
           replace hx:=hx.nw nY9
           replace hz:=hz.nw nY9
           replace hks:=hks.nw nY9
           replace hw2:=nw_trans hw2 nY9
           replace nW:=nw_trans nW nY9
           clear nY9
           have hcf:Hid _:=c_gfind l.1 Y9 hz hpz.out hzt.out (by have:=hM.out;have:=hz6.out;omega)
           have hcon:Hid _:=hcf.out
           go_wp2_with ((go_at_call 13;refine Calls.mono hcon.out ?_;rintro e W8 hff;obtain ⟨l3,c3,k3,d3,rfl,hy3,n8⟩:=gfind_one hff;refine stop_here ?_))
           unfold Hid
           clear hcon  hcf
           replace hV1:=(n8.block _ (heap_lt hV1) (fun h=>h)).trans hV1
           replace hx:=hx.nw n8
           replace hz:=hz.nw n8
           replace hks:=hks.nw n8
           replace hw2:=nw_trans hw2 n8
           replace nW:=nw_trans nW n8
           clear hff p0
           rw [b3.out]
           obtain ⟨Y3,hY⟩:∃ Y,Hid (Y = W8.alloc (.cells (thC zeroT (.slice none 0 0) (.slice none 0 0) (.slice none 0 0) (.slice none 0 0)).toArray 34)):=⟨_,rfl⟩
           have hV3:Y3.heap[W8.heap.size]? = some (.cells (thC zeroT (.slice none 0 0) (.slice none 0 0) (.slice none 0 0) (.slice none 0 0)).toArray 34 (0,0)):=by rw [hY.out];exact heap_alloc_new _ _
           obtain ⟨V9,hV⟩:∃ V,Hid (V = Y3.setRow W8.heap.size (thC (fT zs l.1) l3 c3 k3 d3).toArray):=⟨_,rfl⟩
           have nV9:Nw W8 V9:=by rw [hV.out,hY.out];exact Fr.setRow (nw_alloc (nw_refl _) _) (.inr (Nat.le_refl _)) _
           have hnew:V9.heap[W8.heap.size]? = some (.cells (thC (fT zs l.1) l3 c3 k3 d3).toArray 34 (0,0)):=by rw [hV.out];exact setRow_heap _ _ _ _ _ _ hV3
           go_wp2_with (refine wpList_alloc_agg rfl 34 rfl _ Try.zeroTh ?_;rw [← hY.out];refine stop_here ?_)
           unfold Hid
           refine wpList_store_all rfl 34 _ _ rfl (W8.heap.size) rfl (thV (fT zs l.1) l3 c3 k3 d3) rfl (thC (fT zs l.1) l3 c3 k3 d3) rfl (thC zeroT (.slice none 0 0) (.slice none 0 0) (.slice none 0 0) (.slice none 0 0)) 34 hV3 rfl (hy3.one) Try.sizeT ?_
           rw [← hV.out]
           clear hV hY hV3
           have hl3_0:=heap_lt hV1
           replace hV1:=(nV9.block _ (heap_lt hV1) (fun h=>h)).trans hV1
           replace hx:=hx.nw nV9
           replace hz:=hz.nw nV9
           replace hks:=hks.nw nV9
           replace hw2:=nw_trans hw2 nV9
           replace hy3:=hy3.nw nV9
           replace nW:=nw_trans nW nV9
           have hV3:=hnew
           clear hnew
           generalize W8.heap.size = A3 at *
           clear hV3 hy3 hV1 hx hz hks
           have h6:=hL6.out
           go_wp2
           go_roundw
           case rel=>exact ⟨m + 1,by omega,by go_num,hw2⟩
           case measure=>simp [intOf];omega
          ·clear hks hV1
           have h6:=hz6.out
           go_wp2
           go_roundw
           case rel=>exact ⟨j + 1,by omega,by go_num,nW,hz,hx⟩
           case measure=>simp [intOf];omega
        ·have hbi:(x.t.id == hold) = false:=by simp [hid]
         have hbn:(x.t.id != hold) = true:=by simp [hid]
         clear a3
         have hcon:Hid _:=c_rtsame V7 hat1 hy2
         unfold AnsP at hcon
         have hr0:=range_all hV1
         have hr1:=range_all hV2
         go_wp2_with (first | (refine wpList_load_as rfl 34 _ rfl (A1) 0 rfl (thV x.t x.l x.c x.k x.d) _ rfl hr0 Try.rowT Try.sizeT ?_) | (refine wpList_load_as rfl 34 _ rfl (A2) 0 rfl (thV wt l2 c2 k2 d2) _ rfl hr1 Try.rowT Try.sizeT ?_) | (go_at_call 15;refine Calls.mono hcon.out ?_;rintro e W8 ⟨r,rfl,hr,n8⟩;refine stop_here ?_))
         unfold Hid
         clear hcon hr0 hr1
         replace hV1:=(n8.block _ (heap_lt hV1) (fun h=>h)).trans hV1
         replace hV2:=(n8.block _ (heap_lt hV2) (fun h=>h)).trans hV2
         replace hx:=hx.nw n8
         replace hz:=hz.nw n8
         replace hat1:=hat1.nw n8
         replace hy2:=hy2.nw n8
         replace nW:=nw_trans nW n8
         obtain rfl:=hr.2 (a2.out hid)
         clear hr
         replace c0:W8.cell? ⟨A1,0,none⟩ = some (.int .u64 x.t.id):=cell_blk hV1 rfl
         go_upto_region 23 with fail
         clear hbi hbn
         clear hV2 hy2 c0
         rw [hku.out] at hV1
         have hks:CSl (fun _=>True) W8 (.slice ka x.t.links.length kc) x.t.links:=by rw [← hku.out];exact hat1.k
         clear hat1 hku
         obtain ⟨L,hL⟩:∃ L,x.t.links.length = L:=⟨_,rfl⟩
         have hL6:Hid (L ≤ 16):=by have:=a5.out;unfold Hid;omega
         rw [hL] at hks hV1
         replace hL:Hid _:=hL
         have c8:W8.cell? ⟨A1,8,none⟩ = some (.slice ka L kc):=cell_blk hV1 rfl
         go_upto_region 24 with fail
         clear c8
         go_loopw [125] (fun kv wr2=>∃ m:Nat,m ≤ L∧kv = .int .i64 m∧Nw W8 wr2) (fun kv _=>L - (intOf kv).toNat)
         case atStart=>exact ⟨0,Nat.zero_le _,rfl,nw_refl _⟩
         case round =>
          obtain ⟨m,hm,rfl,hw2⟩:=hrel
          replace hx:=hx.nw hw2
          replace hz:=hz.nw hw2
          replace hks:=hks.nw hw2
          replace hV1:=(hw2.block _ (heap_lt hV1) (fun h=>h)).trans hV1
          replace nW:=nw_trans nW hw2
          by_cases hmL:m < L
          ·have hml:m < x.t.links.length:=by have:=hL.out;omega
           obtain ⟨q2,off2,hva2,_,b1,b2⟩:=hks.get m hml
           subst hva2
           have b3:Hid _:=a4.out _ (List.getElem_mem hml)
           generalize x.t.links[m] = l at *
           clear hml
           obtain ⟨Y9,hY9⟩:∃ Y,Hid (Y = wr.alloc (.cells #[.int .u64 l.1,.int .i64 l.2] 54)):=⟨_,rfl⟩
           have nY9:Nw wr Y9:=by rw [hY9.out];exact nw_alloc (nw_refl _) _
           have hP9:Y9.heap[wr.heap.size]? = some (.cells #[.int .u64 l.1,.int .i64 l.2] 54 (0,0)):=by rw [hY9.out];exact heap_alloc_new _ _
           have p0:Y9.cell? ⟨wr.heap.size,0,none⟩ = some (.int .u64 l.1):=cell_blk hP9 rfl
           go_upto_region 26 with fail
           rw [← hY9.out]
           clear hY9 hP9 b1 b2
           replace hV1:=(nY9.block _ (heap_lt hV1) (fun h=>h)).trans hV1
           replace hx:=hx.nw nY9
           replace hz:=hz.nw nY9
           replace hks:=hks.nw nY9
           replace hw2:=nw_trans hw2 nY9
           replace nW:=nw_trans nW nY9
           clear nY9
           have hcf:Hid _:=c_gfind l.1 Y9 hz hpz.out hzt.out (by have:=hM.out;have:=hz6.out;omega)
           have hcon:Hid _:=hcf.out
           go_wp2_with ((go_at_call 13;refine Calls.mono hcon.out ?_;rintro e W9 hff;obtain ⟨l3,c3,k3,d3,rfl,hy3,n9⟩:=gfind_one hff;refine stop_here ?_))
           unfold Hid
           clear hcon  hcf
           replace hV1:=(n9.block _ (heap_lt hV1) (fun h=>h)).trans hV1
           replace hx:=hx.nw n9
           replace hz:=hz.nw n9
           replace hks:=hks.nw n9
           replace hw2:=nw_trans hw2 n9
           replace nW:=nw_trans nW n9
           clear hff p0
           rw [b3.out]
           obtain ⟨Y3,hY⟩:∃ Y,Hid (Y = W9.alloc (.cells (thC zeroT (.slice none 0 0) (.slice none 0 0) (.slice none 0 0) (.slice none 0 0)).toArray 34)):=⟨_,rfl⟩
           have hV3:Y3.heap[W9.heap.size]? = some (.cells (thC zeroT (.slice none 0 0) (.slice none 0 0) (.slice none 0 0) (.slice none 0 0)).toArray 34 (0,0)):=by rw [hY.out];exact heap_alloc_new _ _
           obtain ⟨V10,hV⟩:∃ V,Hid (V = Y3.setRow W9.heap.size (thC (fT zs l.1) l3 c3 k3 d3).toArray):=⟨_,rfl⟩
           have nV10:Nw W9 V10:=by rw [hV.out,hY.out];exact Fr.setRow (nw_alloc (nw_refl _) _) (.inr (Nat.le_refl _)) _
           have hnew:V10.heap[W9.heap.size]? = some (.cells (thC (fT zs l.1) l3 c3 k3 d3).toArray 34 (0,0)):=by rw [hV.out];exact setRow_heap _ _ _ _ _ _ hV3
           go_wp2_with (refine wpList_alloc_agg rfl 34 rfl _ Try.zeroTh ?_;rw [← hY.out];refine stop_here ?_)
           unfold Hid
           refine wpList_store_all rfl 34 _ _ rfl (W9.heap.size) rfl (thV (fT zs l.1) l3 c3 k3 d3) rfl (thC (fT zs l.1) l3 c3 k3 d3) rfl (thC zeroT (.slice none 0 0) (.slice none 0 0) (.slice none 0 0) (.slice none 0 0)) 34 hV3 rfl (hy3.one) Try.sizeT ?_
           rw [← hV.out]
           clear hV hY hV3
           have hl3_0:=heap_lt hV1
           replace hV1:=(nV10.block _ (heap_lt hV1) (fun h=>h)).trans hV1
           replace hx:=hx.nw nV10
           replace hz:=hz.nw nV10
           replace hks:=hks.nw nV10
           replace hw2:=nw_trans hw2 nV10
           replace hy3:=hy3.nw nV10
           replace nW:=nw_trans nW nV10
           have hV3:=hnew
           clear hnew
           generalize W9.heap.size = A3 at *
           clear hV3 hy3 hV1 hx hz hks
           have h6:=hL6.out
           go_wp2
           go_roundw
           case rel=>exact ⟨m + 1,by omega,by go_num,hw2⟩
           case measure=>simp [intOf];omega
          ·clear hks hV1
           have h6:=hz6.out
           go_wp2
           go_roundw
           case rel=>exact ⟨j + 1,by omega,by go_num,nW,hz,hx⟩
           case measure=>simp [intOf];omega
       ·clear hz hx
        go_wp2
        go_ret
        exact ⟨rfl,nW⟩
   ·have hne:(E != 0) = true:=by simpa using hE
    obtain ⟨h1,h2⟩:=hn.out hE
    subst h2
    have hK0:K = 0:=hK.out.symm
    subst hK0
    replace h1:Hid _:=h1
    clear hk hn hK
    go_upto_region 7 with fail
    clear hne
    have hcon:Hid _:=c_rgsame W4 hz hx
    unfold AnsP at hcon
    go_wp2_with ((go_at_call 19;refine Calls.mono hcon.out ?_;rintro e W5 ⟨r,rfl,hr,n5⟩;refine stop_here ?_))
    unfold Hid
    clear hcon
    replace hx:=hx.nw n5
    replace hz:=hz.nw n5
    replace hi:=hi.nw n5
    replace nW:=nw_trans nW n5
    obtain rfl:=hr.2 h1.out
    clear hr hz hx hi
    go_wp2
    go_ret
    exact ⟨rfl,nW⟩

end Go.Proofs.Ytgmfofngmfekbaa
