/-
  The document's Sound.
-/
import Derived.Test.YtgmfofngmfekbaaGrGbS
namespace Go.Proofs.Ytgmfofngmfekbaa
set_option linter.unusedVariables false
set_option linter.unusedSimpArgs false
set_option maxRecDepth 20000
open Go.RowKit

set_option maxRecDepth 100000 in
set_option maxHeartbeats 16000000 in
theorem c_rsound {X Y:Nat→Prop} {v:Value} {xs:List TC} (w:World) (h:TSl X Y w v xs) (hok:∀ x ∈ xs,TOk x.t) (hlen:xs.length ≤ 1000000) :
  Calls Try.prog 11 #[v] w (AnsP (SoundX xs) w):=by
 obtain ⟨ao,cap,rfl,hc1,hc2⟩:=h.form
 replace hok:Hid _:=hok
 have nW:Nw w w:=nw_refl w
 obtain ⟨N,hN⟩:∃ N,xs.length = N:=⟨_,rfl⟩
 rw [hN] at h hc1 ⊢
 replace hN:Hid _:=hN
 by_cases hR:RiseX xs
 ·replace hR:Hid _:=hR
  by_cases hne:0 < N
  ·have hne2:0 < xs.length:=by rw [hN.out];exact hne
   obtain ⟨q0,off0,hva,_,hr0,_⟩:=h.get 0 hne2
   have hN0:((N:Int) == 0) = false:=by rw [beq_eq_false_iff_ne];omega
   subst hva
   obtain ⟨y,hy⟩:∃ y,xs[0] = y:=⟨_,rfl⟩
   rw [hy] at hr0
   have c0:w.cell? ⟨q0,off0,none⟩ = some (.int .u64 y.t.id):=by have h9:=hr0 0 _ rfl;rw [Nat.zero_mul] at h9;exact h9
   have c1:w.cell? ⟨q0,off0 + 1,none⟩ = some (.int .i64 y.t.kind):=by have h9:=hr0 1 _ rfl;rw [Nat.zero_mul] at h9;exact h9
   clear hr0
   replace hne2:Hid _:=hne2
   replace hy:Hid _:=hy
   by_cases hid1:y.t.id = 1
   ·have hb1:(y.t.id != 1) = false:=by simp [hid1]
    replace hid1:Hid _:=hid1
    by_cases hk1:y.t.kind = 1
    ·have hb2:(y.t.kind != 1) = false:=by simp [hk1]
     replace hk1:Hid _:=hk1
     go_enter Try.func11,Try.ntmps11
     have hcon:Hid _:=c_rgraph w h
     unfold AnsP at hcon
     go_wp2_with (go_at_call 12;refine Calls.mono hcon.out ?_;rintro e W1 ⟨r,rfl,hr,n1⟩;refine stop_here ?_)
     unfold Hid
     clear hcon
     obtain rfl:=hr.2 hR.out
     clear hr
     replace h:=h.nw n1
     replace nW:=nw_trans nW n1
     replace c0:=(World.cell?_of_block (w:=w) (n1.block q0 (World.block_lt_of_cell? w _ c0) (fun h=>h))).trans c0
     replace c1:=(World.cell?_of_block (w:=w) (n1.block q0 (World.block_lt_of_cell? w _ c1) (fun h=>h))).trans c1
     obtain ⟨n,hn⟩:∃ n,refsX xs 1 = n:=⟨_,rfl⟩
     have hcon:Hid _:=c_rrefs 1 W1 h hlen
     rw [hn] at hcon
     go_wp2_with (go_at_call 18;refine Calls.mono hcon.out ?_;rintro e W2 ⟨rfl,n2⟩;refine stop_here ?_)
     unfold Hid
     clear hcon c0 c1
     replace h:=h.nw n2
     replace nW:=nw_trans nW n2
     by_cases hn0:n = 0
     ·have hb3:¬ 0 < n:=by omega
      have hn1:Hid (refsX xs 1 = 0):=by unfold Hid;rw [hn,hn0]
      clear hn hn0
      go_upto_region 3 with fail
      clear hb1 hb2 hb3
      have hyes:Hid ((∀ i (h:i < xs.length),SoundAt xs i xs[i])→SoundX xs):=fun he=>⟨hR.out,hne2.out,by rw [hy.out];exact hid1.out,by rw [hy.out];exact hk1.out,hn1.out,he⟩
      clear hR hy hid1 hk1 hN0 hn1
      have hnW0:Hid (Nw w W2):=nW
      clear nW
      go_wp2
      go_loopw [37] (fun kv wr=>∃ k:Nat,k ≤ N∧kv = .int .i64 k∧Hid (∀ i (h:i < xs.length),i < k→SoundAt xs i xs[i])∧Nw W2 wr) (fun kv _=>N - (intOf kv).toNat)
      case atStart=>exact ⟨0,Nat.zero_le _,rfl,fun i h h2=>absurd h2 (Nat.not_lt_zero _),nw_refl _⟩
      case round =>
       obtain ⟨k,hk,rfl,hri,hw⟩:=hrel
       have hs:=h.nw hw
       by_cases hltN:k < N
       ·have hlt:k < xs.length:=by rw [hN.out];exact hltN
        have hup:Hid (SoundAt xs k xs[k]→∀ i (h:i < xs.length),i < k + 1→SoundAt xs i xs[i]):=fun hl i h h2=>by
         by_cases e:i = k
         ·subst e;exact hl
         ·exact hri.out i h (by omega)
        have hbad:Hid (¬ SoundAt xs k xs[k]→¬ SoundX xs):=fun hl hM=>hl (hM.each k hlt)
        have hokk:Hid (TOk xs[k].t):=hok.out _ (List.getElem_mem hlt)
        have nW:=hw
        clear hri hw h
        obtain ⟨q1,off1,hva,_,hrr,hat1⟩:=(hs).get k hlt
        first | subst hva | (simp only [Option.some.injEq,Addr.mk.injEq,and_true] at hva;obtain ⟨rfl,rfl⟩:=hva)
        generalize xs[k] = x at *
        unfold tcC at hrr
        obtain ⟨Y1,hY⟩:∃ Y,Hid (Y = wr.alloc (.cells (thC zeroT (.slice none 0 0) (.slice none 0 0) (.slice none 0 0) (.slice none 0 0)).toArray 34)):=⟨_,rfl⟩
        have hV1:Y1.heap[wr.heap.size]? = some (.cells (thC zeroT (.slice none 0 0) (.slice none 0 0) (.slice none 0 0) (.slice none 0 0)).toArray 34 (0,0)):=by rw [hY.out];exact heap_alloc_new _ _
        obtain ⟨V5,hV⟩:∃ V,Hid (V = Y1.setRow wr.heap.size (thC x.t x.l x.c x.k x.d).toArray):=⟨_,rfl⟩
        have nV5:Nw wr V5:=by rw [hV.out,hY.out];exact Fr.setRow (nw_alloc (nw_refl _) _) (.inr (Nat.le_refl _)) _
        have hnew:V5.heap[wr.heap.size]? = some (.cells (thC x.t x.l x.c x.k x.d).toArray 34 (0,0)):=by rw [hV.out];exact setRow_heap _ _ _ _ _ _ hV1
        go_wp2_with (first | (refine wpList_load_as rfl 34 _ rfl q0 (off0 + k * 26) rfl (thV x.t x.l x.c x.k x.d) _ rfl hrr Try.rowT Try.sizeT ?_) | (refine wpList_alloc_agg rfl 34 rfl _ Try.zeroTh ?_;rw [← hY.out];refine stop_here ?_))
        unfold Hid
        go_wp2_with (refine wpList_store_all rfl 34 _ _ rfl (wr.heap.size) rfl (thV x.t x.l x.c x.k x.d) rfl (thC x.t x.l x.c x.k x.d) rfl (thC zeroT (.slice none 0 0) (.slice none 0 0) (.slice none 0 0) (.slice none 0 0)) 34 hV1 rfl (ThAt.one hat1) Try.sizeT ?_;rw [← hV.out];refine stop_here ?_)
        unfold Hid
        clear hV hY hV1 hrr
        replace hs:=hs.nw nV5
        replace nW:=nw_trans nW nV5
        replace hat1:=hat1.nw nV5
        have hV1:=hnew
        clear hnew
        have hlA1:wr.heap.size < V5.heap.size:=heap_lt hV1
        generalize wr.heap.size = A1 at *
        replace hlt:Hid _:=hlt
        obtain ⟨n,hn⟩:∃ n,refsX xs x.t.id = n:=⟨_,rfl⟩
        have c0:V5.cell? ⟨A1,0,none⟩ = some (.int .u64 x.t.id):=cell_blk hV1 rfl
        have hcon:Hid _:=c_rrefs x.t.id V5 hs hlen
        rw [hn] at hcon
        go_wp2_with ((go_at_call 18;refine Calls.mono hcon.out ?_;rintro e W6 ⟨rfl,n6⟩;refine stop_here ?_))
        unfold Hid
        clear hcon c0
        replace hV1:=(n6.block _ (heap_lt hV1) (fun h=>h)).trans hV1
        replace hs:=hs.nw n6
        replace hat1:=hat1.nw n6
        replace nW:=nw_trans nW n6
        replace hn:Hid _:=hn
        go_upto_region 7 with fail
        go_cut [65] (fun v wc=>∃ b:Bool,v = .bool b∧Hid (b = false→RightT x.t∧(0 < k→1 ≤ n)∧(x.t.kind = 1→n ≤ 1))∧Hid (b = true→¬ SoundAt xs k x)∧Nw W6 wc)
        case first =>
         have fR:Hid (¬ RightT x.t→¬ SoundAt xs k x):=fun h hS=>h hS.right
         have fH:Hid (0 < k→n < 1→¬ SoundAt xs k x):=fun a b hS=>by have h9:=hS.held a;rw [hn.out] at h9;omega
         have fO:Hid (x.t.kind = 1→1 < n→¬ SoundAt xs k x):=fun a b hS=>by have h9:=hS.once a;rw [hn.out] at h9;omega
         have c1:∀ w2,Nw W6 w2→w2.cell? ⟨A1,1,none⟩ = some (.int .i64 x.t.kind):=fun w2 h2=>cell_blk ((h2.block _ (heap_lt hV1) (fun h=>h)).trans hV1) rfl
         replace c1:Hid _:=c1
         clear hup hbad hyes
         have hcon:Hid _:=c_rtright W6 hat1 hokk.out.wf hokk.out.l1 hokk.out.l2
         unfold AnsP at hcon
         have hr0:=range_all hV1
         go_wp2_with (first | (refine wpList_load_as rfl 34 _ rfl (A1) 0 rfl (thV x.t x.l x.c x.k x.d) _ rfl hr0 Try.rowT Try.sizeT ?_) | (go_at_call 35;refine Calls.mono hcon.out ?_;rintro e W7 ⟨r,rfl,hr,n7⟩;refine stop_here ?_))
         unfold Hid
         clear hcon hr0
         replace hV1:=(n7.block _ (heap_lt hV1) (fun h=>h)).trans hV1
         replace hs:=hs.nw n7
         replace hat1:=hat1.nw n7
         replace nW:=nw_trans nW n7
         have c2:=c1.out _ n7
         clear c1 hs hat1 hV1
         replace nW:Hid _:=nW
         replace n7:Hid _:=n7
         generalize hkd:x.t.kind = kd at *
         replace hkd:Hid _:=hkd
         have hr2:Hid (r = true↔RightT x.t):=hr
         clear hr
         rcases (by omega:k = 0∨0 < k) with hk0 | hk0
         ·have b1:¬ 0 < k:=by omega
          replace hk0:Hid _:=hk0
          rcases (by omega:n = 0∨n = 1∨1 < n) with hn0 | hn0 | hn0
          ·have b2:decide ((n:Int) < 1) = true:=decide_eq_true (by omega)
           have b2a:n = 0:=hn0
           have b2b:n < 1:=by omega
           have b3b:¬ 1 < n:=by omega
           have b3:decide ((1:Int) < (n:Int)) = false:=decide_eq_false (by omega)
           replace hn0:Hid _:=hn0
           by_cases hk1:kd = 1
           ·have b4:(kd == 1) = true:=by simp [hk1]
            replace hk1:Hid _:=hk1
            cases r with
            | true =>
             have rel:Hid (RightT x.t∧(0 < k→1 ≤ n)∧(kd = 1→n ≤ 1)):=⟨hr2.out.1 rfl,fun h=>by have:=hn0.out;have:=hk0.out;omega,fun h=>by have:=hn0.out;omega⟩
             clear fR fH fO hr2 hk0 hn0 hk1
             go_wp2
             go_meet
             case rel=>exact ⟨false,rfl,fun _=>rel.out,fun h=>Bool.noConfusion h,n7.out⟩
            | false =>
             have rel:Hid (¬ SoundAt xs k x):=fR.out (fun h=>Bool.noConfusion (hr2.out.2 h))
             clear fR fH fO hr2 hk0 hn0 hk1
             go_wp2
             go_meet
             case rel=>exact ⟨true,rfl,fun h=>Bool.noConfusion h,fun _=>rel.out,n7.out⟩
           ·have b4:(kd == 1) = false:=by simpa using hk1
            replace hk1:Hid _:=hk1
            cases r with
            | true =>
             have rel:Hid (RightT x.t∧(0 < k→1 ≤ n)∧(kd = 1→n ≤ 1)):=⟨hr2.out.1 rfl,fun h=>by have:=hn0.out;have:=hk0.out;omega,fun h=>absurd h hk1.out⟩
             clear fR fH fO hr2 hk0 hn0 hk1
             go_wp2
             go_meet
             case rel=>exact ⟨false,rfl,fun _=>rel.out,fun h=>Bool.noConfusion h,n7.out⟩
            | false =>
             have rel:Hid (¬ SoundAt xs k x):=fR.out (fun h=>Bool.noConfusion (hr2.out.2 h))
             clear fR fH fO hr2 hk0 hn0 hk1
             go_wp2
             go_meet
             case rel=>exact ⟨true,rfl,fun h=>Bool.noConfusion h,fun _=>rel.out,n7.out⟩
          ·have b2:decide ((n:Int) < 1) = false:=decide_eq_false (by omega)
           have b2a:¬ n = 0:=by omega
           have b2b:¬ n < 1:=by omega
           have b3b:¬ 1 < n:=by omega
           have b3:decide ((1:Int) < (n:Int)) = false:=decide_eq_false (by omega)
           replace hn0:Hid _:=hn0
           by_cases hk1:kd = 1
           ·have b4:(kd == 1) = true:=by simp [hk1]
            replace hk1:Hid _:=hk1
            cases r with
            | true =>
             have rel:Hid (RightT x.t∧(0 < k→1 ≤ n)∧(kd = 1→n ≤ 1)):=⟨hr2.out.1 rfl,fun h=>by have:=hn0.out;have:=hk0.out;omega,fun h=>by have:=hn0.out;omega⟩
             clear fR fH fO hr2 hk0 hn0 hk1
             go_wp2
             go_meet
             case rel=>exact ⟨false,rfl,fun _=>rel.out,fun h=>Bool.noConfusion h,n7.out⟩
            | false =>
             have rel:Hid (¬ SoundAt xs k x):=fR.out (fun h=>Bool.noConfusion (hr2.out.2 h))
             clear fR fH fO hr2 hk0 hn0 hk1
             go_wp2
             go_meet
             case rel=>exact ⟨true,rfl,fun h=>Bool.noConfusion h,fun _=>rel.out,n7.out⟩
           ·have b4:(kd == 1) = false:=by simpa using hk1
            replace hk1:Hid _:=hk1
            cases r with
            | true =>
             have rel:Hid (RightT x.t∧(0 < k→1 ≤ n)∧(kd = 1→n ≤ 1)):=⟨hr2.out.1 rfl,fun h=>by have:=hn0.out;have:=hk0.out;omega,fun h=>absurd h hk1.out⟩
             clear fR fH fO hr2 hk0 hn0 hk1
             go_wp2
             go_meet
             case rel=>exact ⟨false,rfl,fun _=>rel.out,fun h=>Bool.noConfusion h,n7.out⟩
            | false =>
             have rel:Hid (¬ SoundAt xs k x):=fR.out (fun h=>Bool.noConfusion (hr2.out.2 h))
             clear fR fH fO hr2 hk0 hn0 hk1
             go_wp2
             go_meet
             case rel=>exact ⟨true,rfl,fun h=>Bool.noConfusion h,fun _=>rel.out,n7.out⟩
          ·have b2:decide ((n:Int) < 1) = false:=decide_eq_false (by omega)
           have b2a:¬ n = 0:=by omega
           have b2b:¬ n < 1:=by omega
           have b3b:1 < n:=by omega
           have b3:decide ((1:Int) < (n:Int)) = true:=decide_eq_true (by omega)
           replace hn0:Hid _:=hn0
           by_cases hk1:kd = 1
           ·have b4:(kd == 1) = true:=by simp [hk1]
            replace hk1:Hid _:=hk1
            cases r with
            | true =>
             have rel:Hid (¬ SoundAt xs k x):=fO.out hk1.out hn0.out
             clear fR fH fO hr2 hk0 hn0 hk1
             go_wp2
             go_meet
             case rel=>exact ⟨true,rfl,fun h=>Bool.noConfusion h,fun _=>rel.out,n7.out⟩
            | false =>
             have rel:Hid (¬ SoundAt xs k x):=fR.out (fun h=>Bool.noConfusion (hr2.out.2 h))
             clear fR fH fO hr2 hk0 hn0 hk1
             go_wp2
             go_meet
             case rel=>exact ⟨true,rfl,fun h=>Bool.noConfusion h,fun _=>rel.out,n7.out⟩
           ·have b4:(kd == 1) = false:=by simpa using hk1
            replace hk1:Hid _:=hk1
            cases r with
            | true =>
             have rel:Hid (RightT x.t∧(0 < k→1 ≤ n)∧(kd = 1→n ≤ 1)):=⟨hr2.out.1 rfl,fun h=>by have:=hn0.out;have:=hk0.out;omega,fun h=>absurd h hk1.out⟩
             clear fR fH fO hr2 hk0 hn0 hk1
             go_wp2
             go_meet
             case rel=>exact ⟨false,rfl,fun _=>rel.out,fun h=>Bool.noConfusion h,n7.out⟩
            | false =>
             have rel:Hid (¬ SoundAt xs k x):=fR.out (fun h=>Bool.noConfusion (hr2.out.2 h))
             clear fR fH fO hr2 hk0 hn0 hk1
             go_wp2
             go_meet
             case rel=>exact ⟨true,rfl,fun h=>Bool.noConfusion h,fun _=>rel.out,n7.out⟩
         ·have b1:0 < k:=hk0
          replace hk0:Hid _:=hk0
          rcases (by omega:n = 0∨n = 1∨1 < n) with hn0 | hn0 | hn0
          ·have b2:decide ((n:Int) < 1) = true:=decide_eq_true (by omega)
           have b2a:n = 0:=hn0
           have b2b:n < 1:=by omega
           have b3b:¬ 1 < n:=by omega
           have b3:decide ((1:Int) < (n:Int)) = false:=decide_eq_false (by omega)
           replace hn0:Hid _:=hn0
           by_cases hk1:kd = 1
           ·have b4:(kd == 1) = true:=by simp [hk1]
            replace hk1:Hid _:=hk1
            cases r with
            | true =>
             have rel:Hid (¬ SoundAt xs k x):=fH.out hk0.out (by have:=hn0.out;omega)
             clear fR fH fO hr2 hk0 hn0 hk1
             go_wp2
             go_meet
             case rel=>exact ⟨true,rfl,fun h=>Bool.noConfusion h,fun _=>rel.out,n7.out⟩
            | false =>
             have rel:Hid (¬ SoundAt xs k x):=fR.out (fun h=>Bool.noConfusion (hr2.out.2 h))
             clear fR fH fO hr2 hk0 hn0 hk1
             go_wp2
             go_meet
             case rel=>exact ⟨true,rfl,fun h=>Bool.noConfusion h,fun _=>rel.out,n7.out⟩
           ·have b4:(kd == 1) = false:=by simpa using hk1
            replace hk1:Hid _:=hk1
            cases r with
            | true =>
             have rel:Hid (¬ SoundAt xs k x):=fH.out hk0.out (by have:=hn0.out;omega)
             clear fR fH fO hr2 hk0 hn0 hk1
             go_wp2
             go_meet
             case rel=>exact ⟨true,rfl,fun h=>Bool.noConfusion h,fun _=>rel.out,n7.out⟩
            | false =>
             have rel:Hid (¬ SoundAt xs k x):=fR.out (fun h=>Bool.noConfusion (hr2.out.2 h))
             clear fR fH fO hr2 hk0 hn0 hk1
             go_wp2
             go_meet
             case rel=>exact ⟨true,rfl,fun h=>Bool.noConfusion h,fun _=>rel.out,n7.out⟩
          ·have b2:decide ((n:Int) < 1) = false:=decide_eq_false (by omega)
           have b2a:¬ n = 0:=by omega
           have b2b:¬ n < 1:=by omega
           have b3b:¬ 1 < n:=by omega
           have b3:decide ((1:Int) < (n:Int)) = false:=decide_eq_false (by omega)
           replace hn0:Hid _:=hn0
           by_cases hk1:kd = 1
           ·have b4:(kd == 1) = true:=by simp [hk1]
            replace hk1:Hid _:=hk1
            cases r with
            | true =>
             have rel:Hid (RightT x.t∧(0 < k→1 ≤ n)∧(kd = 1→n ≤ 1)):=⟨hr2.out.1 rfl,fun h=>by have:=hn0.out;have:=hk0.out;omega,fun h=>by have:=hn0.out;omega⟩
             clear fR fH fO hr2 hk0 hn0 hk1
             go_wp2
             go_meet
             case rel=>exact ⟨false,rfl,fun _=>rel.out,fun h=>Bool.noConfusion h,n7.out⟩
            | false =>
             have rel:Hid (¬ SoundAt xs k x):=fR.out (fun h=>Bool.noConfusion (hr2.out.2 h))
             clear fR fH fO hr2 hk0 hn0 hk1
             go_wp2
             go_meet
             case rel=>exact ⟨true,rfl,fun h=>Bool.noConfusion h,fun _=>rel.out,n7.out⟩
           ·have b4:(kd == 1) = false:=by simpa using hk1
            replace hk1:Hid _:=hk1
            cases r with
            | true =>
             have rel:Hid (RightT x.t∧(0 < k→1 ≤ n)∧(kd = 1→n ≤ 1)):=⟨hr2.out.1 rfl,fun h=>by have:=hn0.out;have:=hk0.out;omega,fun h=>absurd h hk1.out⟩
             clear fR fH fO hr2 hk0 hn0 hk1
             go_wp2
             go_meet
             case rel=>exact ⟨false,rfl,fun _=>rel.out,fun h=>Bool.noConfusion h,n7.out⟩
            | false =>
             have rel:Hid (¬ SoundAt xs k x):=fR.out (fun h=>Bool.noConfusion (hr2.out.2 h))
             clear fR fH fO hr2 hk0 hn0 hk1
             go_wp2
             go_meet
             case rel=>exact ⟨true,rfl,fun h=>Bool.noConfusion h,fun _=>rel.out,n7.out⟩
          ·have b2:decide ((n:Int) < 1) = false:=decide_eq_false (by omega)
           have b2a:¬ n = 0:=by omega
           have b2b:¬ n < 1:=by omega
           have b3b:1 < n:=by omega
           have b3:decide ((1:Int) < (n:Int)) = true:=decide_eq_true (by omega)
           replace hn0:Hid _:=hn0
           by_cases hk1:kd = 1
           ·have b4:(kd == 1) = true:=by simp [hk1]
            replace hk1:Hid _:=hk1
            cases r with
            | true =>
             have rel:Hid (¬ SoundAt xs k x):=fO.out hk1.out hn0.out
             clear fR fH fO hr2 hk0 hn0 hk1
             go_wp2
             go_meet
             case rel=>exact ⟨true,rfl,fun h=>Bool.noConfusion h,fun _=>rel.out,n7.out⟩
            | false =>
             have rel:Hid (¬ SoundAt xs k x):=fR.out (fun h=>Bool.noConfusion (hr2.out.2 h))
             clear fR fH fO hr2 hk0 hn0 hk1
             go_wp2
             go_meet
             case rel=>exact ⟨true,rfl,fun h=>Bool.noConfusion h,fun _=>rel.out,n7.out⟩
           ·have b4:(kd == 1) = false:=by simpa using hk1
            replace hk1:Hid _:=hk1
            cases r with
            | true =>
             have rel:Hid (RightT x.t∧(0 < k→1 ≤ n)∧(kd = 1→n ≤ 1)):=⟨hr2.out.1 rfl,fun h=>by have:=hn0.out;have:=hk0.out;omega,fun h=>absurd h hk1.out⟩
             clear fR fH fO hr2 hk0 hn0 hk1
             go_wp2
             go_meet
             case rel=>exact ⟨false,rfl,fun _=>rel.out,fun h=>Bool.noConfusion h,n7.out⟩
            | false =>
             have rel:Hid (¬ SoundAt xs k x):=fR.out (fun h=>Bool.noConfusion (hr2.out.2 h))
             clear fR fH fO hr2 hk0 hn0 hk1
             go_wp2
             go_meet
             case rel=>exact ⟨true,rfl,fun h=>Bool.noConfusion h,fun _=>rel.out,n7.out⟩
        case rest =>
         obtain ⟨b,rfl,hb0,hb1,nC⟩:=hcut
         replace hV1:=(nC.block _ (heap_lt hV1) (fun h=>h)).trans hV1
         replace hs:=hs.nw nC
         replace hat1:=hat1.nw nC
         replace nW:=nw_trans nW nC
         clear nC
         cases b with
         | true =>
          have hno:Hid (¬ SoundX xs):=hbad.out (hb1.out rfl)
          clear hup hbad hb0 hb1 hs hat1 hV1 hyes
          replace nW:Hid _:=nW
          go_wp2
          go_ret
          exact ans_no hno.out (nw_trans hnW0.out nW.out)
         | false =>
          have hparts:=hb0.out rfl
          replace hparts:Hid _:=hparts
          clear hb0 hb1
          obtain ⟨ka,kc,hkv,hkc1,hkc2⟩:=CSl.form (ThAt.k hat1)
          replace hkv:Hid _:=hkv
          have c8:wc.cell? ⟨A1,8,none⟩ = some (.slice ka x.t.links.length kc):=by rw [← hkv.out];exact cell_blk hV1 rfl
          obtain ⟨L,hL⟩:∃ L,x.t.links.length = L:=⟨_,rfl⟩
          rw [hL] at hkc1 c8
          replace hL:Hid _:=hL
          have hL16:L ≤ 16:=by rw [← hL.out];exact right_len hparts.out.1
          go_wp2
          clear c8
          go_loopw [69] (fun jv wz=>∃ j:Nat,j ≤ L∧jv = .int .i64 j∧Hid (∀ i (h:i < x.t.links.length),i < j→fitsX xs x.t.id x.t.links[i] = true)∧Nw wc wz) (fun jv _=>L - (intOf jv).toNat)
          case atStart=>exact ⟨0,Nat.zero_le _,rfl,fun i h h2=>absurd h2 (Nat.not_lt_zero _),nw_refl _⟩
          case round =>
           obtain ⟨j,hj,rfl,hfi,hz⟩:=hrel
           replace hV1:=(hz.block _ (heap_lt hV1) (fun h=>h)).trans hV1
           replace hs:=hs.nw hz
           replace hat1:=hat1.nw hz
           replace nW:=nw_trans nW hz
           replace hz:Hid _:=hz
           by_cases hjL:j < L
           ·have hjl:j < x.t.links.length:=by rw [hL.out];exact hjL
            have hcs:=ThAt.k hat1
            rw [hkv.out] at hcs
            obtain ⟨p0,poff,hka,_,d1,d2⟩:=hcs.get j hjl
            subst hka
            clear hcs
            have hcid:=right_links hparts.out.1 _ (List.getElem_mem hjl)
            unfold idOk at hcid
            have hup2:Hid (fitsX xs x.t.id x.t.links[j] = true→∀ i (h:i < x.t.links.length),i < j + 1→fitsX xs x.t.id x.t.links[i] = true):=fun hl i h h2=>by
             by_cases e:i = j
             ·subst e;exact hl
             ·exact hfi.out i h (by omega)
            have hbad2:Hid (fitsX xs x.t.id x.t.links[j] = false→¬ SoundX xs):=fun hl=>hbad.out (fun hS=>by have h9:=hS.fits _ (List.getElem_mem hjl);rw [hl] at h9;exact Bool.noConfusion h9)
            clear hfi hbad hup hyes
            replace hjl:Hid _:=hjl
            generalize x.t.links[j] = c at *
            obtain ⟨Y2,hY2⟩:∃ Y2,Hid (Y2 = wr.alloc (.cells #[.int .u64 c.1,.int .i64 c.2] 54)):=⟨_,rfl⟩
            have n2:Nw wr Y2:=by rw [hY2.out];exact nw_alloc (nw_refl _) _
            have hC:Y2.heap[wr.heap.size]? = some (.cells #[.int .u64 c.1,.int .i64 c.2] 54 (0,0)):=by rw [hY2.out];exact heap_alloc_new _ _
            go_upto_region 12 with fail
            rw [← hY2.out]
            clear hY2 d1 d2
            replace hV1:=(n2.block _ (heap_lt hV1) (fun h=>h)).trans hV1
            replace hs:=hs.nw n2
            replace hat1:=hat1.nw n2
            replace nW:=nw_trans nW n2
            generalize wr.heap.size = B at *
            have e0:Y2.cell? ⟨B,0,none⟩ = some (.int .u64 c.1):=cell_blk hC rfl
            have e1:Y2.cell? ⟨B,1,none⟩ = some (.int .i64 c.2):=cell_blk hC rfl
            obtain ⟨fb,hfb⟩:∃ fb,fitsX xs x.t.id c = fb:=⟨_,rfl⟩
            have hr0:=range_all hV1
            have hcon:Hid _:=c_rfits c Y2 hs hat1 (by omega)
            rw [hfb] at hcon
            go_wp2_with (first | (refine wpList_load_as rfl 34 _ rfl (A1) 0 rfl (thV x.t x.l x.c x.k x.d) _ rfl hr0 Try.rowT Try.sizeT ?_) | (go_at_call 36;refine Calls.mono hcon.out ?_;rintro e W7 ⟨rfl,n7⟩;refine stop_here ?_))
            unfold Hid
            clear hcon e0 e1 hC hr0
            replace hV1:=(n7.block _ (heap_lt hV1) (fun h=>h)).trans hV1
            replace hs:=hs.nw n7
            replace hat1:=hat1.nw n7
            replace nW:=nw_trans nW n7
            have hzz:=nw_trans hz.out (nw_trans n2 n7)
            replace hzz:Hid _:=hzz
            clear hz n2 hs hat1 hV1
            replace nW:Hid _:=nW
            cases fb with
            | true =>
             have hri2:=hup2.out hfb
             replace hri2:Hid _:=hri2
             clear hup2 hbad2 hfb
             go_wp2
             go_roundw
             case rel=>exact ⟨j + 1,by omega,by go_num,hri2,hzz.out⟩
             case measure=>simp [intOf];omega
            | false =>
             have hno:Hid (¬ SoundX xs):=hbad2.out hfb
             clear hup2 hbad2 hfb
             go_wp2
             go_ret
             exact ans_no hno.out (nw_trans hnW0.out nW.out)
           ·have hjn:j = L:=by omega
            have hallf:Hid (∀ l ∈ x.t.links,fitsX xs x.t.id l = true):=fun l hl=>by
             obtain ⟨i,hi,rfl⟩:=List.getElem_of_mem hl
             exact hfi.out i hi (by have:=hL.out;omega)
            clear hfi hz
            obtain ⟨gv,hgv⟩:∃ gv,givenX xs x.t.id = gv:=⟨_,rfl⟩
            replace hgv:Hid _:=hgv
            have hup3:Hid ((x.t.kind = 1→(gv:Int) ≤ x.t.next)→∀ i (h:i < xs.length),i < k + 1→SoundAt xs i xs[i]):=fun hx=>hup.out ⟨hparts.out.1,fun h=>by rw [hn.out];exact hparts.out.2.1 h,fun h=>by rw [hn.out];exact hparts.out.2.2 h,hallf.out,fun h=>by rw [hgv.out];exact hx h⟩
            have hbad3:Hid (x.t.kind = 1→¬ (gv:Int) ≤ x.t.next→¬ SoundX xs):=fun a b=>hbad.out (fun hS=>b (by have h9:=hS.next a;rw [hgv.out] at h9;exact h9))
            have hidA:Hid (∀ x ∈ xs,0 ≤ x.t.id∧x.t.id < 18446744073709551616):=fun x hx=>(hok.out x hx).id
            clear hup hbad hallf hparts hyes hL16 hkc1 hkc2
            go_upto_region 15 with fail
            by_cases hk1:x.t.kind = 1
            ·have hbk:(x.t.kind == 1) = true:=by simp [hk1]
             replace hk1:Hid _:=hk1
             have hSof:∀ w',Nw wr w'→(fun w':World=>Nw wr w'∧w'.heap[A1]? = some (.cells (thC x.t x.l x.c x.k x.d).toArray 34 (0,0))) w':=fun w' hw=>⟨hw,(hw.block _ (heap_lt hV1) (fun h=>h)).trans hV1⟩
             have hW0:Nw wr wr.drew:=Fr.drew (Fr.refl _ wr)
             have hS:=hSof _ hW0
             replace hs:=hs.nw hW0
             replace hSof:Hid _:=hSof
             refine wp_region_ord [] 11 [(0,true),(1,true),(2,true),(3,true),(4,true),(5,true),(8,true),(6,true),(9,true),(7,false),(10,true)] (fun w':World=>Nw wr w'∧w'.heap[A1]? = some (.cells (thC x.t x.l x.c x.k x.d).toArray 34 (0,0))) (by kernel_rfl) (by kernel_rfl) ?_
             refine ord_quietL _ ?_ rfl hS rfl ?_ ?_
             rotate_left
             ·rintro w' ⟨hn,rhV1⟩;go_simp;rfl
             simp only [pL,List.set]
             refine ord_quietL _ ?_ rfl hS rfl ?_ ?_
             rotate_left
             ·rintro w' ⟨hn,rhV1⟩;have g0:w'.cell? ⟨A1,1,none⟩ = some (.int .i64 x.t.kind):=cell_blk rhV1 rfl;go_simp;rfl
             simp only [pL,List.set]
             refine ord_quietL _ ?_ rfl hS rfl ?_ ?_
             rotate_left
             ·rintro w' ⟨hn,rhV1⟩;go_simp;rfl
             simp only [pL,List.set]
             refine ord_quietL _ ?_ rfl hS rfl ?_ ?_
             rotate_left
             ·rintro w' ⟨hn,rhV1⟩;go_simp;rfl
             simp only [pL,List.set]
             refine ord_quietL _ ?_ rfl hS rfl ?_ ?_
             rotate_left
             ·rintro w' ⟨hn,rhV1⟩;go_simp;rfl
             simp only [pL,List.set]
             refine ord_quietL _ ?_ rfl hS rfl ?_ ?_
             rotate_left
             ·rintro w' ⟨hn,rhV1⟩;go_simp;rfl
             simp only [pL,List.set]
             refine ord_quietL _ ?_ rfl hS rfl ?_ ?_
             rotate_left
             ·rintro w' ⟨hn,rhV1⟩;go_simp;rfl
             simp only [pL,List.set]
             refine ord_quietL _ ?_ rfl hS rfl ?_ ?_
             rotate_left
             ·rintro w' ⟨hn,rhV1⟩;have g0:w'.cell? ⟨A1,0,none⟩ = some (.int .u64 x.t.id):=cell_blk rhV1 rfl;go_simp;rfl
             simp only [pL,List.set]
             refine ord_quietL _ ?_ rfl hS rfl ?_ ?_
             rotate_left
             ·rintro w' ⟨hn,rhV1⟩;have g0:w'.cell? ⟨A1,7,none⟩ = some (.int .i64 x.t.next):=cell_blk rhV1 rfl;go_simp;rfl
             simp only [pL,List.set]
             refine ord_actL _ rfl (fun K1 hK1=>?_)
             have hcon:Hid _:=c_rgiven x.t.id wr.drew hs hidA.out
             rw [hgv.out] at hcon
             go_wp2_with (go_at_call 37;refine Calls.mono hcon.out ?_;rintro e wk0 ⟨rfl,qn⟩)
             have m0:=nw_trans hW0 qn
             replace hs:=hs.nw qn
             refine hK1 _ _ (hSof.out _ m0) ?_
             clear hK1 K1 hcon qn hS hW0
             have hS:=hSof.out _ m0
             refine ord_quietL _ ?_ rfl hS rfl ?_ ?_
             rotate_left
             ·rintro w' ⟨hn,rhV1⟩;go_simp;rfl
             simp only [pL,List.set]
             refine ord_tail ?_
             simp only [List.drop_succ_cons,List.drop_zero]
             have hfin:Hid (Nw W2 wk0):=nw_trans nW m0
             clear hSof hS
             by_cases hg:(gv:Int) ≤ x.t.next
             ·have bg:decide (x.t.next < (gv:Int)) = false:=decide_eq_false (by omega)
              have hri2:=hup3.out (fun _=>hg)
              replace hri2:Hid _:=hri2
              clear hg hup3 hbad3 hV1 hs hat1 nW
              go_wp2
              go_roundw
              case rel=>exact ⟨k + 1,by omega,by go_num,hri2,hfin.out⟩
              case measure=>simp [intOf];omega
             ·have bg:decide (x.t.next < (gv:Int)) = true:=decide_eq_true (by omega)
              have hno:Hid (¬ SoundX xs):=hbad3.out hk1.out (by omega)
              clear hg hup3 hbad3 hV1 hs hat1 nW
              go_wp2
              go_ret
              exact ans_no hno.out (nw_trans hnW0.out hfin.out)
            ·have hbk:(x.t.kind == 1) = false:=by simpa using hk1
             have hSof:∀ w',Nw wr w'→(fun w':World=>Nw wr w'∧w'.heap[A1]? = some (.cells (thC x.t x.l x.c x.k x.d).toArray 34 (0,0))) w':=fun w' hw=>⟨hw,(hw.block _ (heap_lt hV1) (fun h=>h)).trans hV1⟩
             have hW0:Nw wr wr.drew:=Fr.drew (Fr.refl _ wr)
             have hS:=hSof _ hW0
             replace hSof:Hid _:=hSof
             refine wp_region_ord [] 11 [(0,true),(1,true),(2,true),(3,true),(4,true),(5,true),(8,true),(6,true),(9,true),(7,false),(10,true)] (fun w':World=>Nw wr w'∧w'.heap[A1]? = some (.cells (thC x.t x.l x.c x.k x.d).toArray 34 (0,0))) (by kernel_rfl) (by kernel_rfl) ?_
             refine ord_quietL _ ?_ rfl hS rfl ?_ ?_
             rotate_left
             ·rintro w' ⟨hn,rhV1⟩;go_simp;rfl
             simp only [pL,List.set]
             refine ord_quietL _ ?_ rfl hS rfl ?_ ?_
             rotate_left
             ·rintro w' ⟨hn,rhV1⟩;have g0:w'.cell? ⟨A1,1,none⟩ = some (.int .i64 x.t.kind):=cell_blk rhV1 rfl;go_simp;rfl
             simp only [pL,List.set]
             refine ord_quietL _ ?_ rfl hS rfl ?_ ?_
             rotate_left
             ·rintro w' ⟨hn,rhV1⟩;go_simp;rfl
             simp only [pL,List.set]
             refine ord_quietL _ ?_ rfl hS rfl ?_ ?_
             rotate_left
             ·rintro w' ⟨hn,rhV1⟩;go_simp;rfl
             simp only [pL,List.set]
             refine ord_skipL _ rfl hS rfl ?_
             simp only [pL,List.set]
             refine ord_skipL _ rfl hS rfl ?_
             simp only [pL,List.set]
             refine ord_skipL _ rfl hS rfl ?_
             simp only [pL,List.set]
             refine ord_skipL _ rfl hS rfl ?_
             simp only [pL,List.set]
             refine ord_skipL _ rfl hS rfl ?_
             simp only [pL,List.set]
             refine ord_actL _ rfl (fun K1 hK1=>?_)
             go_wp2
             refine hK1 _ _ (hSof.out _ hW0) ?_
             clear hK1 K1
             refine ord_skipL _ rfl hS rfl ?_
             simp only [pL,List.set]
             refine ord_tail ?_
             simp only [List.drop_succ_cons,List.drop_zero]
             have hfin:Hid (Nw W2 wr.drew):=nw_trans nW hW0
             clear hSof hS
             have hri2:=hup3.out (fun h=>absurd h hk1)
             replace hri2:Hid _:=hri2
             clear hup3 hbad3 hV1 hs hat1 nW
             go_wp2
             go_roundw
             case rel=>exact ⟨k + 1,by omega,by go_num,hri2,hfin.out⟩
             case measure=>simp [intOf];omega
       ·have hall:Hid (SoundX xs):=hyes.out (fun i h=>hri.out i h (by have:=hN.out;omega))
        clear hri hs
        go_wp2
        go_ret
        exact ans_yes hall.out (nw_trans hnW0.out hw)
     ·have hb3:0 < n:=by omega
      have hno:Hid (¬ SoundX xs):=fun h=>hn0 (hn.symm.trans h.none)
      clear hn hn0 h
      go_wp2
      go_ret
      exact ans_no hno.out nW
    ·have hb2:(y.t.kind != 1) = true:=by simpa using hk1
     have hno:Hid (¬ SoundX xs):=fun h=>hk1 (by rw [← hy.out];exact h.kind)
     clear hk1
     go_enter Try.func11,Try.ntmps11
     have hcon:Hid _:=c_rgraph w h
     unfold AnsP at hcon
     go_wp2_with (go_at_call 12;refine Calls.mono hcon.out ?_;rintro e W1 ⟨r,rfl,hr,n1⟩;refine stop_here ?_)
     unfold Hid
     clear hcon
     obtain rfl:=hr.2 hR.out
     clear hr
     replace h:=h.nw n1
     replace nW:=nw_trans nW n1
     replace c0:=(World.cell?_of_block (w:=w) (n1.block q0 (World.block_lt_of_cell? w _ c0) (fun h=>h))).trans c0
     replace c1:=(World.cell?_of_block (w:=w) (n1.block q0 (World.block_lt_of_cell? w _ c1) (fun h=>h))).trans c1
     clear h
     go_wp2
     go_ret
     exact ans_no hno.out nW
   ·have hb1:(y.t.id != 1) = true:=by simpa using hid1
    have hno:Hid (¬ SoundX xs):=fun h=>hid1 (by rw [← hy.out];exact h.id)
    clear hid1
    go_enter Try.func11,Try.ntmps11
    have hcon:Hid _:=c_rgraph w h
    unfold AnsP at hcon
    go_wp2_with (go_at_call 12;refine Calls.mono hcon.out ?_;rintro e W1 ⟨r,rfl,hr,n1⟩;refine stop_here ?_)
    unfold Hid
    clear hcon
    obtain rfl:=hr.2 hR.out
    clear hr
    replace h:=h.nw n1
    replace nW:=nw_trans nW n1
    replace c0:=(World.cell?_of_block (w:=w) (n1.block q0 (World.block_lt_of_cell? w _ c0) (fun h=>h))).trans c0
    replace c1:=(World.cell?_of_block (w:=w) (n1.block q0 (World.block_lt_of_cell? w _ c1) (fun h=>h))).trans c1
    clear h
    go_wp2
    go_ret
    exact ans_no hno.out nW
  ·have hno:Hid (¬ SoundX xs):=fun h=>hne (by rw [← hN.out];exact h.ne)
   go_enter Try.func11,Try.ntmps11
   have hcon:Hid _:=c_rgraph w h
   unfold AnsP at hcon
   go_wp2_with (go_at_call 12;refine Calls.mono hcon.out ?_;rintro e W1 ⟨r,rfl,hr,n1⟩;refine stop_here ?_)
   unfold Hid
   clear hcon
   obtain rfl:=hr.2 hR.out
   clear hr
   replace h:=h.nw n1
   replace nW:=nw_trans nW n1
   have hl0:((N:Int) == 0) = true:=by simp;omega
   clear h hne
   go_wp2
   go_ret
   exact ans_no hno.out nW
 ·have hno:Hid (¬ SoundX xs):=fun h=>hR h.rise
  replace hR:Hid _:=hR
  go_enter Try.func11,Try.ntmps11
  have hcon:Hid _:=c_rgraph w h
  unfold AnsP at hcon
  go_wp2_with (go_at_call 12;refine Calls.mono hcon.out ?_;rintro e W1 ⟨r,rfl,hr,n1⟩;refine stop_here ?_)
  unfold Hid
  clear hcon
  obtain rfl:r = false:=by (cases r;rfl;exact absurd (hr.1 rfl) hR.out)
  clear hr
  replace h:=h.nw n1
  replace nW:=nw_trans nW n1
  clear h
  go_wp2
  go_ret
  exact ans_no hno.out nW
end Go.Proofs.Ytgmfofngmfekbaa
