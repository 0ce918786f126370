/-
  ThX7, GrR3: in one text.
-/
import Derived.Test.YtgmfofngmfekbaaThX6S
import Derived.Test.YtgmfofngmfekbaaGrGaS
namespace Go.Proofs.Ytgmfofngmfekbaa
set_option linter.unusedVariables false
set_option linter.unusedSimpArgs false
set_option maxRecDepth 20000
open Go.RowKit

theorem ans_iff {P Q:Prop} (h:P↔Q) {w w':World} {e:Ending} (hp:AnsP P w e w'):AnsP Q w e w':=by
 obtain ⟨r,h1,h2,h3⟩:=hp
 exact ⟨r,h1,h2.trans h,h3⟩

set_option maxRecDepth 100000 in
set_option maxHeartbeats 6400000 in
theorem c_rk0 {X:Nat→Prop} {t:Th} {uL uC uK uD:Value} (w:World) (h:ThAt X w t uL uC uK uD) (l1:t.cats.length ≤ 8796093022208) (h1:idOk t.id) (h2:Rgt t.df t.cats) (h3:Pu t.df t.cats) (k1:¬ t.kind = 1) (k2:¬ t.kind = 2) (k3:¬ t.kind = 3) (k4:¬ t.kind = 4) (k5:¬ t.kind = 5) (k6:¬ t.kind = 6) :
  Calls Try.prog 35 #[(thV t uL uC uK uD)] w (AnsP (t = ofK t∧KindOk t) w):=by
 have bk1:(t.kind == 1) = false:=by simp [k1]
 have bk2:(t.kind == 2) = false:=by simp [k2]
 have bk3:(t.kind == 3) = false:=by simp [k3]
 have bk4:(t.kind == 4) = false:=by simp [k4]
 have bk5:(t.kind == 5) = false:=by simp [k5]
 have bk6:(t.kind == 6) = false:=by simp [k6]
 have bn2:(t.kind != 2) = true:=by simp [k2]
 have bn3:(t.kind != 3) = true:=by simp [k3]
 have hno:Hid (¬ (t = ofK t∧KindOk t)):=fun h=>by rcases kind_of h.2 with e | e | e | e | e | e;exact k1 e;exact k2 e;exact k3 e;exact k4 e;exact k5 e;exact k6 e
 clear k1 k2 k3 k4 k5 k6
 replace h1:Hid _:=h1
 replace h2:Hid _:=h2
 replace h3:Hid _:=h3
 obtain ⟨W,hW⟩:∃ W,Hid (W = w.alloc (.cells (thC t uL uC uK uD).toArray 34)):=⟨_,rfl⟩
 have nW:Nw w W:=by rw [hW.out];exact nw_alloc (nw_refl w) _
 have hA:W.heap[w.heap.size]? = some (.cells (thC t uL uC uK uD).toArray 34 (0,0)):=by rw [hW.out];exact heap_alloc_new w _
 have ht:=(h.mono (X':=fun b=>b < w.heap.size) (fun b _ hb=>hb)).nw nW
 clear h
 go_enter Try.func35,Try.ntmps35
 go_upto_region 1 with (refine wpList_box_agg rfl 34 _ rfl (thV t uL uC uK uD) _ rfl rfl ?_)
 rw [← hW.out]
 clear hW
 have hPl:Hid (w.heap.size < W.heap.size):=heap_lt hA
 have hq1:Hid _:=c_rid t.id W
 unfold AnsP at hq1
 have a0:W.cell? ⟨w.heap.size,0,none⟩ = some (.int .u64 t.id):=cell_blk hA rfl
 have a1:W.cell? ⟨w.heap.size,1,none⟩ = some (.int .i64 t.kind):=cell_blk hA rfl
 have a2:W.cell? ⟨w.heap.size,2,none⟩ = some (.int .i64 t.df):=cell_blk hA rfl
 have a3:W.cell? ⟨w.heap.size,3,none⟩ = some (uL):=cell_blk hA rfl
 go_wp2_with (first | (go_at_call 61;refine Calls.mono hq1.out ?_;rintro e W1 ⟨r,rfl,q,n1⟩;obtain rfl:=q.2 h1.out;refine stop_here ?_))
 unfold Hid
 clear hq1 q a0 a1 a2 a3
 replace hA:=(n1.block _ (heap_lt hA) (fun h=>h)).trans hA
 replace ht:=ht.nw n1
 replace nW:=nw_trans nW n1
 have hq1:Hid _:=c_rright t.df W1 ht.l (by omega)
 unfold RgtP labV at hq1
 have a0:W1.cell? ⟨w.heap.size,0,none⟩ = some (.int .u64 t.id):=cell_blk hA rfl
 have a1:W1.cell? ⟨w.heap.size,1,none⟩ = some (.int .i64 t.kind):=cell_blk hA rfl
 have a2:W1.cell? ⟨w.heap.size,2,none⟩ = some (.int .i64 t.df):=cell_blk hA rfl
 have a3:W1.cell? ⟨w.heap.size,3,none⟩ = some (uL):=cell_blk hA rfl
 go_wp2_with (first | (go_at_call 62;refine Calls.mono hq1.out ?_;rintro e W2 ⟨r,rfl,q,n2⟩;obtain rfl:=q.2 h2.out;refine stop_here ?_))
 unfold Hid
 clear hq1 q a0 a1 a2 a3
 replace hA:=(n2.block _ (heap_lt hA) (fun h=>h)).trans hA
 replace ht:=ht.nw n2
 replace nW:=nw_trans nW n2
 have hq1:Hid _:=c_rpure t.df W2 ht.l
 unfold AnsP labV at hq1
 have a1:W2.cell? ⟨w.heap.size,1,none⟩ = some (.int .i64 t.kind):=cell_blk hA rfl
 have a2:W2.cell? ⟨w.heap.size,2,none⟩ = some (.int .i64 t.df):=cell_blk hA rfl
 have a3:W2.cell? ⟨w.heap.size,3,none⟩ = some (uL):=cell_blk hA rfl
 go_wp2_with (first | (go_at_call 63;refine Calls.mono hq1.out ?_;rintro e W3 ⟨r,rfl,q,n3⟩;obtain rfl:=q.2 h3.out;refine stop_here ?_))
 unfold Hid
 clear hq1 q a1 a2 a3
 replace hA:=(n3.block _ (heap_lt hA) (fun h=>h)).trans hA
 replace ht:=ht.nw n3
 replace nW:=nw_trans nW n3
 have a1:W3.cell? ⟨w.heap.size,1,none⟩ = some (.int .i64 t.kind):=cell_blk hA rfl
 go_upto_region 3 with fail
 clear a1
 replace hPl:Hid (w.heap.size < W3.heap.size):=heap_lt hA
 have hrA:=range_all hA
 obtain ⟨Y,hY⟩:∃ Y,Hid (Y = W3.alloc (.cells (thC zeroT (.slice none 0 0) (.slice none 0 0) (.slice none 0 0) (.slice none 0 0)).toArray 34)):=⟨_,rfl⟩
 have hP:Y.heap[W3.heap.size]? = some (.cells (thC zeroT (.slice none 0 0) (.slice none 0 0) (.slice none 0 0) (.slice none 0 0)).toArray 34 (0,0)):=by rw [hY.out];exact heap_alloc_new W3 _
 have nY:Nw W3 Y:=by rw [hY.out];exact nw_alloc (nw_refl _) _
 obtain ⟨V,hV⟩:∃ V,Hid (V = Y.setRow W3.heap.size (thC t uL uC uK uD).toArray):=⟨_,rfl⟩
 have hB:V.heap[W3.heap.size]? = some (.cells (thC t uL uC uK uD).toArray 34 (0,0)):=by rw [hV.out];exact setRow_heap _ _ _ _ _ _ hP
 have nV:Nw W3 V:=by rw [hV.out];exact Fr.setRow nY (.inr (Nat.le_refl _)) _
 have hone:=ht.one
 replace hA:=(nV.block _ (heap_lt hA) (fun h=>h)).trans hA
 replace ht:=ht.nw nV
 replace nW:=nw_trans nW nV
 go_wp2_with (first | (refine wpList_load_as rfl 34 _ rfl (w.heap.size) 0 rfl (thV t uL uC uK uD) _ rfl hrA Try.rowT Try.sizeT ?_) | (refine wpList_alloc_agg rfl 34 rfl _ Try.zeroTh ?_;rw [← hY.out];refine stop_here ?_))
 unfold Hid
 refine wpList_store_all rfl 34 _ _ rfl W3.heap.size rfl (thV t uL uC uK uD) rfl (thC t uL uC uK uD) rfl (thC zeroT (.slice none 0 0) (.slice none 0 0) (.slice none 0 0) (.slice none 0 0)) 34 hP rfl hone Try.sizeT ?_
 rw [← hV.out]
 have hPA:Hid (w.heap.size < W3.heap.size):=by have:=nV.size;have:=heap_lt hA;have:=heap_lt hB;have h9:=hPl.out;unfold Hid;omega
 have hPw:Hid (w.heap.size ≤ W3.heap.size):=Nat.le_of_lt hPA.out
 generalize W3.heap.size = P at *
 clear hY hV hP nY nV hone hrA
 have a1:V.cell? ⟨w.heap.size,1,none⟩ = some (.int .i64 t.kind):=cell_blk hA rfl
 clear ht hA hB
 go_wp2
 go_ret
 exact ans_no hno.out nW

theorem c_rtright {X:Nat→Prop} {t:Th} {uL uC uK uD:Value} (w:World) (h:ThAt X w t uL uC uK uD) (hwf:WfT t) (l1:t.cats.length ≤ 8796093022208) (l2:t.ccats.length ≤ 8796093022208) :
  Calls Try.prog 35 #[(thV t uL uC uK uD)] w (AnsP (RightT t) w):=by
 by_cases h1:idOk t.id
 ·by_cases h2:Rgt t.df t.cats
  ·have key:(t.kind = 2∨t.kind = 3∨Pu t.df t.cats)→((t = ofK t∧KindOk t)↔RightT t):=fun h3=>⟨fun ⟨a,b⟩=>⟨h1,h2,h3,a,b⟩,fun h=>⟨h.same,h.parts⟩⟩
   by_cases k2:t.kind = 2
   ·exact (c_rk2 w h hwf l1 l2 h1 h2 k2).mono (fun e w' hp=>ans_iff (key (.inl k2)) hp)
   by_cases k3:t.kind = 3
   ·exact (c_rk3 w h hwf l1 l2 h1 h2 k3).mono (fun e w' hp=>ans_iff (key (.inr (.inl k3))) hp)
   by_cases h3:Pu t.df t.cats
   ·have key:=key (.inr (.inr h3))
    by_cases k1:t.kind = 1
    ·exact (c_rk1 w h hwf l1 l2 h1 h2 h3 k1).mono (fun e w' hp=>ans_iff key hp)
    by_cases k4:t.kind = 4
    ·exact (c_rk4 w h hwf l1 l2 h1 h2 h3 k4).mono (fun e w' hp=>ans_iff key hp)
    by_cases k5:t.kind = 5
    ·exact (c_rk5 w h hwf l1 l2 h1 h2 h3 k5).mono (fun e w' hp=>ans_iff key hp)
    by_cases k6:t.kind = 6
    ·exact (c_rk6 w h hwf l1 l2 h1 h2 h3 k6).mono (fun e w' hp=>ans_iff key hp)
    exact (c_rk0 w h l1 h1 h2 h3 k1 k2 k3 k4 k5 k6).mono (fun e w' hp=>ans_iff key hp)
   ·exact c_rno3 w h l1 h1 h2 k2 k3 h3
  ·exact c_rno2 w h l1 h1 h2
 ·exact c_rno1 w h l1 h1
end Go.Proofs.Ytgmfofngmfekbaa

namespace Go.Proofs.Ytgmfofngmfekbaa
set_option linter.unusedVariables false
set_option linter.unusedSimpArgs false
set_option maxRecDepth 20000
open Go.RowKit

/-- Numbers that fit their types, lists that can be. -/
structure TOk (t:Th):Prop where
 wf:WfT t
 id:0 ≤ t.id∧t.id < 18446744073709551616
 l1:t.cats.length ≤ 8796093022208
 l2:t.ccats.length ≤ 8796093022208

/-- What Sound asks of one thing. -/
structure SoundAt (xs:List TC) (i:Nat) (x:TC):Prop where
 right:RightT x.t
 held:0 < i→1 ≤ refsX xs x.t.id
 once:x.t.kind = 1→refsX xs x.t.id ≤ 1
 fits:∀ l ∈ x.t.links,fitsX xs x.t.id l = true
 next:x.t.kind = 1→(givenX xs x.t.id:Int) ≤ x.t.next

/-- Is it sound? -/
structure SoundX (xs:List TC):Prop where
 rise:RiseX xs
 ne:0 < xs.length
 id:xs[0].t.id = 1
 kind:xs[0].t.kind = 1
 none:refsX xs 1 = 0
 each:∀ i (h:i < xs.length),SoundAt xs i xs[i]

/-- Can it be mended? -/
structure MendX (xs:List TC):Prop where
 rise:RiseX xs
 ne:0 < xs.length
 id:xs[0].t.id = 1
 kind:xs[0].t.kind = 1
 each:∀ i (h:i < xs.length),RightT xs[i].t

theorem right_links {t:Th} (h:RightT t):∀ l ∈ t.links,idOk l.1:=fun l hl=>by
 by_cases hk:t.kind = 1
 ·obtain ⟨i,hi,rfl⟩:=List.getElem_of_mem hl
  rcases h.parts with h1 | h1 | h1 | h1 | h1 | h1
  ·exact (h1.2.lk.each i hi).1
  all_goals omega
 ·have:=h.same
  have e:t.links = []:=by
   rw [this]
   unfold ofK
   rw [if_neg hk]
   split
   ·rfl
   ·split
    ·rfl
    ·split
     ·rfl
     ·split <;> rfl
  rw [e] at hl
  simp at hl
theorem right_len {t:Th} (h:RightT t):t.links.length ≤ 16:=by
 by_cases hk:t.kind = 1
 ·rcases h.parts with h1 | h1 | h1 | h1 | h1 | h1
  ·exact h1.2.len
  all_goals omega
 ·have:=h.same
  have e:t.links = []:=by
   rw [this]
   unfold ofK
   rw [if_neg hk]
   split
   ·rfl
   ·split
    ·rfl
    ·split
     ·rfl
     ·split <;> rfl
  rw [e]
  simp
set_option maxRecDepth 100000 in
set_option maxHeartbeats 16000000 in
theorem c_rmendable {X Y:Nat→Prop} {v:Value} {xs:List TC} (w:World) (h:TSl X Y w v xs) (hok:∀ x ∈ xs,TOk x.t) :
  Calls Try.prog 16 #[v] w (AnsP (MendX xs) w):=by
 obtain ⟨ao,cap,rfl,hc1,hc2⟩:=h.form
 replace hok:Hid _:=hok
 have nW:Nw w w:=nw_refl w
 obtain ⟨N,hN⟩:∃ N,xs.length = N:=⟨_,rfl⟩
 rw [hN] at h hc1 ⊢
 replace hN:Hid _:=hN
 by_cases hR:RiseX xs
 ·replace hR:Hid _:=hR
  by_cases hne:0 < N
  ·have hne2:0 < xs.length:=by rw [hN.out];exact hne
   obtain ⟨q0,off0,hva,_,hr0,_⟩:=h.get 0 hne2
   have hN0:((N:Int) == 0) = false:=by rw [beq_eq_false_iff_ne];omega
   subst hva
   obtain ⟨y,hy⟩:∃ y,xs[0] = y:=⟨_,rfl⟩
   rw [hy] at hr0
   have c0:w.cell? ⟨q0,off0,none⟩ = some (.int .u64 y.t.id):=by have h9:=hr0 0 _ rfl;rw [Nat.zero_mul] at h9;exact h9
   have c1:w.cell? ⟨q0,off0 + 1,none⟩ = some (.int .i64 y.t.kind):=by have h9:=hr0 1 _ rfl;rw [Nat.zero_mul] at h9;exact h9
   clear hr0
   replace hne2:Hid _:=hne2
   replace hy:Hid _:=hy
   by_cases hid1:y.t.id = 1
   ·have hb1:(y.t.id != 1) = false:=by simp [hid1]
    replace hid1:Hid _:=hid1
    by_cases hk1:y.t.kind = 1
    ·have hb2:(y.t.kind != 1) = false:=by simp [hk1]
     replace hk1:Hid _:=hk1
     go_enter Try.func16,Try.ntmps16
     have hcon:Hid _:=c_rgraph w h
     unfold AnsP at hcon
     go_wp2_with (go_at_call 12;refine Calls.mono hcon.out ?_;rintro e W1 ⟨r,rfl,hr,n1⟩;refine stop_here ?_)
     unfold Hid
     clear hcon
     obtain rfl:=hr.2 hR.out
     clear hr
     replace h:=h.nw n1
     replace nW:=nw_trans nW n1
     replace c0:=(World.cell?_of_block (w:=w) (n1.block q0 (World.block_lt_of_cell? w _ c0) (fun h=>h))).trans c0
     replace c1:=(World.cell?_of_block (w:=w) (n1.block q0 (World.block_lt_of_cell? w _ c1) (fun h=>h))).trans c1
     go_upto_region 3 with fail
     clear hb1 hb2 c0 c1
     have hyes:Hid ((∀ i (h:i < xs.length),RightT xs[i].t)→MendX xs):=fun he=>⟨hR.out,hne2.out,by rw [hy.out];exact hid1.out,by rw [hy.out];exact hk1.out,he⟩
     clear hR hy hid1 hk1 hN0
     have hnW0:Hid (Nw w W1):=nW
     clear nW
     go_wp2
     go_loopw [29] (fun kv wr=>∃ k:Nat,k ≤ N∧kv = .int .i64 k∧Hid (∀ i (h:i < xs.length),i < k→RightT xs[i].t)∧Nw W1 wr) (fun kv _=>N - (intOf kv).toNat)
     case atStart=>exact ⟨0,Nat.zero_le _,rfl,fun i h h2=>absurd h2 (Nat.not_lt_zero _),nw_refl _⟩
     case round =>
      obtain ⟨k,hk,rfl,hri,hw⟩:=hrel
      have hs:=h.nw hw
      by_cases hltN:k < N
      ·have hlt:k < xs.length:=by rw [hN.out];exact hltN
       have hup:Hid (RightT xs[k].t→∀ i (h:i < xs.length),i < k + 1→RightT xs[i].t):=fun hl i h h2=>by
        by_cases e:i = k
        ·subst e;exact hl
        ·exact hri.out i h (by omega)
       have hbad:Hid (¬ RightT xs[k].t→¬ MendX xs):=fun hl hM=>hl (hM.each k hlt)
       have hokk:Hid (TOk xs[k].t):=hok.out _ (List.getElem_mem hlt)
       have nW:=hw
       clear hri hw
       obtain ⟨q1,off1,hva,_,hrr,hat1⟩:=(hs).get k hlt
       first | subst hva | (simp only [Option.some.injEq,Addr.mk.injEq,and_true] at hva;obtain ⟨rfl,rfl⟩:=hva)
       generalize xs[k] = x at *
       unfold tcC at hrr
       obtain ⟨Y1,hY⟩:∃ Y,Hid (Y = wr.alloc (.cells (thC zeroT (.slice none 0 0) (.slice none 0 0) (.slice none 0 0) (.slice none 0 0)).toArray 34)):=⟨_,rfl⟩
       have hV1:Y1.heap[wr.heap.size]? = some (.cells (thC zeroT (.slice none 0 0) (.slice none 0 0) (.slice none 0 0) (.slice none 0 0)).toArray 34 (0,0)):=by rw [hY.out];exact heap_alloc_new _ _
       obtain ⟨V1,hV⟩:∃ V,Hid (V = Y1.setRow wr.heap.size (thC x.t x.l x.c x.k x.d).toArray):=⟨_,rfl⟩
       have nV1:Nw wr V1:=by rw [hV.out,hY.out];exact Fr.setRow (nw_alloc (nw_refl _) _) (.inr (Nat.le_refl _)) _
       have hnew:V1.heap[wr.heap.size]? = some (.cells (thC x.t x.l x.c x.k x.d).toArray 34 (0,0)):=by rw [hV.out];exact setRow_heap _ _ _ _ _ _ hV1
       go_wp2_with (first | (refine wpList_load_as rfl 34 _ rfl q0 (off0 + k * 26) rfl (thV x.t x.l x.c x.k x.d) _ rfl hrr Try.rowT Try.sizeT ?_) | (refine wpList_alloc_agg rfl 34 rfl _ Try.zeroTh ?_;rw [← hY.out];refine stop_here ?_))
       unfold Hid
       refine wpList_store_all rfl 34 _ _ rfl (wr.heap.size) rfl (thV x.t x.l x.c x.k x.d) rfl (thC x.t x.l x.c x.k x.d) rfl (thC zeroT (.slice none 0 0) (.slice none 0 0) (.slice none 0 0) (.slice none 0 0)) 34 hV1 rfl (ThAt.one hat1) Try.sizeT ?_
       rw [← hV.out]
       clear hV hY hV1 hrr
       replace nW:=nw_trans nW nV1
       replace hat1:=hat1.nw nV1
       have hV1:=hnew
       clear hnew
       have hlA1:wr.heap.size < V1.heap.size:=heap_lt hV1
       generalize wr.heap.size = A1 at *
       replace hlt:Hid _:=hlt
       have hcon:Hid _:=c_rtright V1 hat1 hokk.out.wf hokk.out.l1 hokk.out.l2
       unfold AnsP at hcon
       have hr0:=range_all hV1
       go_wp2_with (first | (refine wpList_load_as rfl 34 _ rfl (A1) 0 rfl (thV x.t x.l x.c x.k x.d) _ rfl hr0 Try.rowT Try.sizeT ?_) | (go_at_call 35;refine Calls.mono hcon.out ?_;rintro e W2 ⟨r,rfl,hr,n2⟩;refine stop_here ?_))
       unfold Hid
       clear hcon hr0
       replace hV1:=(n2.block _ (heap_lt hV1) (fun h=>h)).trans hV1
       replace nW:=nw_trans nW n2
       clear hs hat1 hV1
       cases r with
       | true =>
        have hri2:=hup.out (hr.1 rfl)
        replace hri2:Hid _:=hri2
        clear hup hbad hr
        replace nW:Hid _:=nW
        go_wp2
        go_roundw
        case rel=>exact ⟨k + 1,by omega,by go_num,hri2,nW.out⟩
        case measure=>simp [intOf];omega
       | false =>
        have hno:Hid (¬ MendX xs):=hbad.out (fun h=>Bool.noConfusion (hr.2 h))
        clear hup hbad hr
        replace nW:Hid _:=nW
        go_wp2
        go_ret
        exact ans_no hno.out (nw_trans hnW0.out nW.out)
      ·have hall:Hid (MendX xs):=hyes.out (fun i h=>hri.out i h (by have:=hN.out;omega))
       clear hri hs
       go_wp2
       go_ret
       exact ans_yes hall.out (nw_trans hnW0.out hw)
    ·have hb2:(y.t.kind != 1) = true:=by simpa using hk1
     have hno:Hid (¬ MendX xs):=fun h=>hk1 (by rw [← hy.out];exact h.kind)
     clear hk1
     go_enter Try.func16,Try.ntmps16
     have hcon:Hid _:=c_rgraph w h
     unfold AnsP at hcon
     go_wp2_with (go_at_call 12;refine Calls.mono hcon.out ?_;rintro e W1 ⟨r,rfl,hr,n1⟩;refine stop_here ?_)
     unfold Hid
     clear hcon
     obtain rfl:=hr.2 hR.out
     clear hr
     replace h:=h.nw n1
     replace nW:=nw_trans nW n1
     replace c0:=(World.cell?_of_block (w:=w) (n1.block q0 (World.block_lt_of_cell? w _ c0) (fun h=>h))).trans c0
     replace c1:=(World.cell?_of_block (w:=w) (n1.block q0 (World.block_lt_of_cell? w _ c1) (fun h=>h))).trans c1
     clear h
     go_wp2
     go_ret
     exact ans_no hno.out nW
   ·have hb1:(y.t.id != 1) = true:=by simpa using hid1
    have hno:Hid (¬ MendX xs):=fun h=>hid1 (by rw [← hy.out];exact h.id)
    clear hid1
    go_enter Try.func16,Try.ntmps16
    have hcon:Hid _:=c_rgraph w h
    unfold AnsP at hcon
    go_wp2_with (go_at_call 12;refine Calls.mono hcon.out ?_;rintro e W1 ⟨r,rfl,hr,n1⟩;refine stop_here ?_)
    unfold Hid
    clear hcon
    obtain rfl:=hr.2 hR.out
    clear hr
    replace h:=h.nw n1
    replace nW:=nw_trans nW n1
    replace c0:=(World.cell?_of_block (w:=w) (n1.block q0 (World.block_lt_of_cell? w _ c0) (fun h=>h))).trans c0
    replace c1:=(World.cell?_of_block (w:=w) (n1.block q0 (World.block_lt_of_cell? w _ c1) (fun h=>h))).trans c1
    clear h
    go_wp2
    go_ret
    exact ans_no hno.out nW
  ·have hno:Hid (¬ MendX xs):=fun h=>hne (by rw [← hN.out];exact h.ne)
   go_enter Try.func16,Try.ntmps16
   have hcon:Hid _:=c_rgraph w h
   unfold AnsP at hcon
   go_wp2_with (go_at_call 12;refine Calls.mono hcon.out ?_;rintro e W1 ⟨r,rfl,hr,n1⟩;refine stop_here ?_)
   unfold Hid
   clear hcon
   obtain rfl:=hr.2 hR.out
   clear hr
   replace h:=h.nw n1
   replace nW:=nw_trans nW n1
   have hl0:((N:Int) == 0) = true:=by simp;omega
   clear h hne
   go_wp2
   go_ret
   exact ans_no hno.out nW
 ·have hno:Hid (¬ MendX xs):=fun h=>hR h.rise
  replace hR:Hid _:=hR
  go_enter Try.func16,Try.ntmps16
  have hcon:Hid _:=c_rgraph w h
  unfold AnsP at hcon
  go_wp2_with (go_at_call 12;refine Calls.mono hcon.out ?_;rintro e W1 ⟨r,rfl,hr,n1⟩;refine stop_here ?_)
  unfold Hid
  clear hcon
  obtain rfl:r = false:=by (cases r;rfl;exact absurd (hr.1 rfl) hR.out)
  clear hr
  replace h:=h.nw n1
  replace nW:=nw_trans nW n1
  clear h
  go_wp2
  go_ret
  exact ans_no hno.out nW
end Go.Proofs.Ytgmfofngmfekbaa
