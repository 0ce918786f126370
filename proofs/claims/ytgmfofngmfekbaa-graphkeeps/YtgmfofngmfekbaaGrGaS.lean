/-
  GrR1, GrR2: in one text.
-/
import Derived.Test.YtgmfofngmfekbaaDrGaS
import Derived.Test.YtgmfofngmfekbaaDrGbS
namespace Go.Proofs.Ytgmfofngmfekbaa
set_option linter.unusedVariables false
set_option linter.unusedSimpArgs false
set_option maxRecDepth 20000
open Go.RowKit

/-- The thing of an ID. -/
def findX (xs:List TC) (id:Int):Option TC:=xs.find? (fun x=>x.t.id == id)
/-- How many directories link it. -/
def refsX (xs:List TC) (id:Int):Nat:=xs.countP (fun x=>hasB x.t.links id)
/-- Do the IDs rise? -/
def RiseX (xs:List TC):Prop:=∀ i (h:i + 1 < xs.length),xs[i].t.id < xs[i + 1].t.id
/-- May a directory have this link? -/
def fitsX (xs:List TC) (did:Int) (l:Cat):Bool:=match findX xs l.1 with
 | none=>false
 | some x=>x.t.quota == l.2 && (x.t.kind != 1 || x.t.id.tdiv 64 == did)

theorem find_drop {xs:List TC} {k:Nat} (h:k < xs.length) (id:Int):findX (xs.drop k) id = if (xs[k].t.id == id) = true then some xs[k] else findX (xs.drop (k + 1)) id:=by
 unfold findX
 rw [List.drop_eq_getElem_cons h,List.find?_cons]
 cases xs[k].t.id == id <;> rfl
theorem refs_take {xs:List TC} {k:Nat} (h:k < xs.length) (id:Int):refsX (xs.take (k + 1)) id = refsX (xs.take k) id + (if hasB xs[k].t.links id = true then 1 else 0):=by
 unfold refsX
 rw [List.take_succ_eq_append_getElem h,List.countP_append,List.countP_cons,List.countP_nil]
 split <;> simp_all

/-- What Find answers. -/
def FindP (xs:List TC) (id:Int) (Y:Nat→Prop) (w:World) (e:Ending) (w':World):Prop :=
 Nw w w'∧((∃ x,findX xs id = some x∧e = .returned (.tuple #[tcV x,.bool true])∧x.At Y w')∨(findX xs id = none∧e = .returned (.tuple #[tcV zTC,.bool false])))

theorem find_no {xs:List TC} {id:Int} (h:findX xs id = none) {Y:Nat→Prop} {w w':World} {e:Ending} (hp:FindP xs id Y w e w'):e = .returned (.tuple #[tcV zTC,.bool false])∧Nw w w':=by
 obtain ⟨n,h2⟩:=hp
 rcases h2 with ⟨x,h1,_⟩ | ⟨_,h1⟩
 ·rw [h] at h1;cases h1
 ·exact ⟨h1,n⟩
theorem find_yes {xs:List TC} {id:Int} {x:TC} (h:findX xs id = some x) {Y:Nat→Prop} {w w':World} {e:Ending} (hp:FindP xs id Y w e w'):e = .returned (.tuple #[tcV x,.bool true])∧x.At Y w'∧Nw w w':=by
 obtain ⟨n,h2⟩:=hp
 rcases h2 with ⟨y,h1,h3,h4⟩ | ⟨h1,_⟩
 ·rw [h] at h1
  cases h1
  exact ⟨h3,h4,n⟩
 ·rw [h] at h1;cases h1
theorem find_id {xs:List TC} {id:Int} {x:TC} (h:findX xs id = some x):x.t.id = id:=by
 have:=List.find?_some h
 simpa using this

set_option maxRecDepth 100000 in
set_option maxHeartbeats 6400000 in
theorem c_rfind {X Y:Nat→Prop} {v:Value} {xs:List TC} (id:Int) (w:World) (h:TSl X Y w v xs) :
  Calls Try.prog 14 #[v,.int .u64 id] w (FindP xs id Y w):=by
 obtain ⟨ao,cap,rfl,hc1,hc2⟩:=h.form
 obtain ⟨W,hW⟩:∃ W,Hid (W = w.alloc (.cells (thC zeroT (.slice none 0 0) (.slice none 0 0) (.slice none 0 0) (.slice none 0 0)).toArray 34)):=⟨_,rfl⟩
 have nW:Nw w W:=by rw [hW.out];exact nw_alloc (nw_refl w) _
 have hB0:W.heap[w.heap.size]? = some (.cells (thC zeroT (.slice none 0 0) (.slice none 0 0) (.slice none 0 0) (.slice none 0 0)).toArray 34 (0,0)):=by rw [hW.out];exact heap_alloc_new w _
 have hs:=(h.mono (X':=X) (Y':=fun b=>Y b∧b < w.heap.size) (fun _ hb _=>hb) (fun b hb hl=>⟨hb,hl⟩)).nw nW
 clear h
 go_enter Try.func14,Try.ntmps14
 go_upto_region 1 with ((refine wpList_alloc_agg rfl 34 rfl _ Try.zeroTh ?_;rw [← hW.out]))
 clear hW
 go_wp2
 have hB0w:=heap_lt hB0
 go_loopw [10] (fun kv wr=>∃ k:Nat,k ≤ xs.length∧kv = .int .i64 k∧Hid (findX (xs.drop k) id = findX xs id)∧Nw W wr) (fun kv _=>xs.length - (intOf kv).toNat)
 case atStart=>exact ⟨0,Nat.zero_le _,rfl,rfl,nw_refl _⟩
 case round =>
  obtain ⟨k,hk,rfl,hfd,hw⟩:=hrel
  replace hs:=hs.nw hw
  replace hB0:=(hw.block _ (heap_lt hB0) (fun h=>h)).trans hB0
  have nWr:=nw_trans nW hw
  by_cases hlt:k < xs.length
  ·have hst:=find_drop hlt id
   rw [hfd.out] at hst
   replace hst:Hid _:=hst
   have nW:=nWr
   clear nWr
   obtain ⟨q1,off1,hva,_,hrr,hat1⟩:=(hs).get k hlt
   first | subst hva | (simp only [Option.some.injEq,Addr.mk.injEq,and_true] at hva;obtain ⟨rfl,rfl⟩:=hva)
   generalize xs[k] = x at *
   unfold tcC at hrr
   obtain ⟨Y1,hY⟩:∃ Y,Hid (Y = wr.alloc (.cells (thC zeroT (.slice none 0 0) (.slice none 0 0) (.slice none 0 0) (.slice none 0 0)).toArray 34)):=⟨_,rfl⟩
   have hV1:Y1.heap[wr.heap.size]? = some (.cells (thC zeroT (.slice none 0 0) (.slice none 0 0) (.slice none 0 0) (.slice none 0 0)).toArray 34 (0,0)):=by rw [hY.out];exact heap_alloc_new _ _
   obtain ⟨V1,hV⟩:∃ V,Hid (V = Y1.setRow wr.heap.size (thC x.t x.l x.c x.k x.d).toArray):=⟨_,rfl⟩
   have nV1:Nw wr V1:=by rw [hV.out,hY.out];exact Fr.setRow (nw_alloc (nw_refl _) _) (.inr (Nat.le_refl _)) _
   have hnew:V1.heap[wr.heap.size]? = some (.cells (thC x.t x.l x.c x.k x.d).toArray 34 (0,0)):=by rw [hV.out];exact setRow_heap _ _ _ _ _ _ hV1
   go_wp2_with (first | (refine wpList_load_as rfl 34 _ rfl q1 (off1 + k * 26) rfl (thV x.t x.l x.c x.k x.d) _ rfl hrr Try.rowT Try.sizeT ?_) | (refine wpList_alloc_agg rfl 34 rfl _ Try.zeroTh ?_;rw [← hY.out];refine stop_here ?_))
   unfold Hid
   refine wpList_store_all rfl 34 _ _ rfl (wr.heap.size) rfl (thV x.t x.l x.c x.k x.d) rfl (thC x.t x.l x.c x.k x.d) rfl (thC zeroT (.slice none 0 0) (.slice none 0 0) (.slice none 0 0) (.slice none 0 0)) 34 hV1 rfl (ThAt.one hat1) Try.sizeT ?_
   rw [← hV.out]
   clear hV hY hV1 hrr
   have hl1_0:=heap_lt hB0
   replace hB0:=(nV1.block _ (heap_lt hB0) (fun h=>h)).trans hB0
   replace hw:=nw_trans hw nV1
   replace nW:=nw_trans nW nV1
   replace hat1:=hat1.nw nV1
   have hV1:=hnew
   clear hnew
   have hlA1:wr.heap.size < V1.heap.size:=heap_lt hV1
   generalize wr.heap.size = A1 at *
   have c0:V1.cell? ⟨A1,0,none⟩ = some (.int .u64 x.t.id):=cell_blk hV1 rfl
   cases hc:(x.t.id == id) with
   | true =>
    rw [hc,if_pos rfl] at hst
    clear hw hfd
    go_upto_region 5 with fail
    clear c0
    have hr1:=range_all hV1
    go_wp2_with (refine wpList_load_as rfl 34 _ rfl (A1) 0 rfl (thV x.t x.l x.c x.k x.d) _ rfl hr1 Try.rowT Try.sizeT ?_;refine stop_here ?_)
    unfold Hid
    clear hr1
    obtain ⟨W2,hV⟩:∃ V,Hid (V = V1.setRow (w.heap.size) (thC x.t x.l x.c x.k x.d).toArray):=⟨_,rfl⟩
    have fV:Fr (fun k=>k = w.heap.size) V1 W2:=by rw [hV.out];exact (Fr.refl (fun k=>k = w.heap.size) V1).setRow (.inl rfl) _
    have hnew:W2.heap[w.heap.size]? = some (.cells (thC x.t x.l x.c x.k x.d).toArray 34 (0,0)):=by rw [hV.out];exact setRow_heap _ _ _ _ _ _ hB0
    refine wpList_store_all rfl 34 _ _ rfl (w.heap.size) rfl (thV x.t x.l x.c x.k x.d) rfl (thC x.t x.l x.c x.k x.d) rfl (thC zeroT (.slice none 0 0) (.slice none 0 0) (.slice none 0 0) (.slice none 0 0)) 34 hB0 rfl (ThAt.one hat1) Try.sizeT ?_
    rw [← hV.out]
    clear hV
    replace hB0:=hnew
    replace hV1:=(fV.block _ (heap_lt hV1) (by show ¬ _ = _;omega)).trans hV1
    clear hnew
    replace nW:Nw w W2:=Fr.trans nW fV (fun k hk=>.inr (by omega))
    have hat2:x.At Y W2:=hat1.keep fV (fun b hb _ e=>by have e2:b = w.heap.size:=e;have:=hb.2;omega) (fun b hb _=>hb.1)
    clear fV
    go_wp2
    refine bodyPost_ret (results_cell2 rfl _ (w.heap.size) _ (thV x.t x.l x.c x.k x.d) rfl rfl (range_all hB0) Try.rowT Try.sizeT) rfl ?_
    exact ⟨nW,.inl ⟨x,hst.out,rfl,hat2⟩⟩
   | false =>
    rw [hc,if_neg Bool.noConfusion] at hst
    have hfd2:Hid (findX (xs.drop (k + 1)) id = findX xs id):=hst.out.symm
    replace hw:Hid _:=hw
    clear hst hfd hV1 hs hat1 nW hB0
    go_wp2
    go_roundw
    case rel=>exact ⟨k + 1,by omega,by go_num,hfd2,hw.out⟩
    case measure=>simp [intOf];omega
  ·have hno:Hid (findX xs id = none):=by unfold Hid;rw [← hfd.out,List.drop_of_length_le (by omega)];rfl
   clear hfd
   go_upto_region 7 with fail
   refine wp_region_list ?_
   simp only [List.toList_toArray,List.append_eq,List.cons_append,List.nil_append]
   refine wpList_build_as rfl 34 _ rfl (thV zeroT (.slice none 0 0) (.slice none 0 0) (.slice none 0 0) (.slice none 0 0)) (thC zeroT (.slice none 0 0) (.slice none 0 0) (.slice none 0 0) (.slice none 0 0)).toArray rfl ?z ?_
   case z =>
    simp only [List.map_nil]
    exact Try.builtZ
   simp only [pL,List.set]
   obtain ⟨W1,hV⟩:∃ V,Hid (V = wr.setRow (w.heap.size) (thC zeroT (.slice none 0 0) (.slice none 0 0) (.slice none 0 0) (.slice none 0 0)).toArray):=⟨_,rfl⟩
   have fV:Fr (fun k=>k = w.heap.size) wr W1:=by rw [hV.out];exact (Fr.refl (fun k=>k = w.heap.size) wr).setRow (.inl rfl) _
   have hnew:W1.heap[w.heap.size]? = some (.cells (thC zeroT (.slice none 0 0) (.slice none 0 0) (.slice none 0 0) (.slice none 0 0)).toArray 34 (0,0)):=by rw [hV.out];exact setRow_heap _ _ _ _ _ _ hB0
   refine wpList_store_all rfl 34 _ _ rfl (w.heap.size) rfl (thV zeroT (.slice none 0 0) (.slice none 0 0) (.slice none 0 0) (.slice none 0 0)) rfl (thC zeroT (.slice none 0 0) (.slice none 0 0) (.slice none 0 0) (.slice none 0 0)) rfl (thC zeroT (.slice none 0 0) (.slice none 0 0) (.slice none 0 0) (.slice none 0 0)) 34 hB0 rfl (th_one _ _ _ _ _ rfl rfl rfl rfl) Try.sizeT ?_
   rw [← hV.out]
   clear hV
   replace hB0:=hnew
   clear hnew
   replace nWr:Nw w W1:=Fr.trans nWr fV (fun k hk=>.inr (by omega))
   clear fV
   go_wp2
   refine bodyPost_ret (results_cell2 rfl _ (w.heap.size) _ (thV zeroT (.slice none 0 0) (.slice none 0 0) (.slice none 0 0) (.slice none 0 0)) rfl rfl (range_all hB0) Try.rowT Try.sizeT) rfl ?_
   exact ⟨nWr,.inr ⟨hno.out,rfl⟩⟩

set_option maxRecDepth 100000 in
set_option maxHeartbeats 6400000 in
theorem c_rrefs {X Y:Nat→Prop} {v:Value} {xs:List TC} (id:Int) (w:World) (h:TSl X Y w v xs) (hn:xs.length ≤ 1000000) :
  Calls Try.prog 18 #[v,.int .u64 id] w fun e w'=>e = .returned (.int .i64 (refsX xs id))∧Nw w w':=by
 obtain ⟨ao,cap,rfl,hc1,hc2⟩:=h.form
 have hfull:Hid (refsX (xs.take xs.length) id = refsX xs id):=by unfold Hid;rw [List.take_length]
 go_enter Try.func18,Try.ntmps18
 go_wp2
 go_loopw [5,10] (fun nv kv wr=>∃ k n:Nat,k ≤ xs.length∧nv = .int .i64 n∧kv = .int .i64 k∧Hid (n = refsX (xs.take k) id)∧n ≤ k∧Nw w wr) (fun _ kv _=>xs.length - (intOf kv).toNat)
 case atStart=>exact ⟨0,0,Nat.zero_le _,rfl,rfl,rfl,Nat.le_refl _,nw_refl _⟩
 case round =>
  obtain ⟨k,n,hk,rfl,rfl,hns,hnk,hw⟩:=hrel
  have hs:=h.nw hw
  by_cases hlt:k < xs.length
  ·have hst:=refs_take hlt id
   replace hst:Hid _:=hst
   have nW:=hw
   clear hw
   obtain ⟨q1,off1,hva,_,hrr,hat1⟩:=(hs).get k hlt
   first | subst hva | (simp only [Option.some.injEq,Addr.mk.injEq,and_true] at hva;obtain ⟨rfl,rfl⟩:=hva)
   generalize xs[k] = x at *
   unfold tcC at hrr
   obtain ⟨Y1,hY⟩:∃ Y,Hid (Y = wr.alloc (.cells (thC zeroT (.slice none 0 0) (.slice none 0 0) (.slice none 0 0) (.slice none 0 0)).toArray 34)):=⟨_,rfl⟩
   have hV1:Y1.heap[wr.heap.size]? = some (.cells (thC zeroT (.slice none 0 0) (.slice none 0 0) (.slice none 0 0) (.slice none 0 0)).toArray 34 (0,0)):=by rw [hY.out];exact heap_alloc_new _ _
   obtain ⟨V1,hV⟩:∃ V,Hid (V = Y1.setRow wr.heap.size (thC x.t x.l x.c x.k x.d).toArray):=⟨_,rfl⟩
   have nV1:Nw wr V1:=by rw [hV.out,hY.out];exact Fr.setRow (nw_alloc (nw_refl _) _) (.inr (Nat.le_refl _)) _
   have hnew:V1.heap[wr.heap.size]? = some (.cells (thC x.t x.l x.c x.k x.d).toArray 34 (0,0)):=by rw [hV.out];exact setRow_heap _ _ _ _ _ _ hV1
   go_wp2_with (first | (refine wpList_load_as rfl 34 _ rfl q1 (off1 + k * 26) rfl (thV x.t x.l x.c x.k x.d) _ rfl hrr Try.rowT Try.sizeT ?_) | (refine wpList_alloc_agg rfl 34 rfl _ Try.zeroTh ?_;rw [← hY.out];refine stop_here ?_))
   unfold Hid
   refine wpList_store_all rfl 34 _ _ rfl (wr.heap.size) rfl (thV x.t x.l x.c x.k x.d) rfl (thC x.t x.l x.c x.k x.d) rfl (thC zeroT (.slice none 0 0) (.slice none 0 0) (.slice none 0 0) (.slice none 0 0)) 34 hV1 rfl (ThAt.one hat1) Try.sizeT ?_
   rw [← hV.out]
   clear hV hY hV1 hrr
   replace nW:=nw_trans nW nV1
   replace hat1:=hat1.nw nV1
   have hV1:=hnew
   clear hnew
   have hlA1:wr.heap.size < V1.heap.size:=heap_lt hV1
   generalize wr.heap.size = A1 at *
   have hcon:Hid _:=c_rhas id V1 hat1
   have hr0:=range_all hV1
   go_wp2_with (first | (refine wpList_load_as rfl 34 _ rfl (A1) 0 rfl (thV x.t x.l x.c x.k x.d) _ rfl hr0 Try.rowT Try.sizeT ?_) | (go_at_call 43;refine Calls.mono hcon.out ?_;rintro e W2 ⟨rfl,n2⟩;refine stop_here ?_))
   unfold Hid
   clear hcon hr0
   replace hV1:=(n2.block _ (heap_lt hV1) (fun h=>h)).trans hV1
   replace nW:=nw_trans nW n2
   cases hc:hasB x.t.links id with
   | true =>
    have hn2:Hid (n + 1 = refsX (xs.take (k + 1)) id):=by unfold Hid;rw [hst.out,hc,if_pos rfl,hns.out]
    clear hst hns hV1 hat1 hs
    have hwr:IntKind.i64.wrap ((n:Int) + 1) = (n:Int) + 1:=by rw [IntKind.wrap_i64];omega
    replace nW:Hid _:=nW
    go_wp2
    go_roundw
    case rel=>exact ⟨k + 1,n + 1,by omega,by go_num,by go_num,hn2,by omega,nW.out⟩
    case measure=>simp [intOf];omega
   | false =>
    have hn2:Hid (n = refsX (xs.take (k + 1)) id):=by unfold Hid;rw [hst.out,hc,if_neg Bool.noConfusion,hns.out];rfl
    clear hst hns hV1 hat1 hs
    replace nW:Hid _:=nW
    go_wp2
    go_roundw
    case rel=>exact ⟨k + 1,n,by omega,rfl,by go_num,hn2,by omega,nW.out⟩
    case measure=>simp [intOf];omega
  ·have hkn:k = xs.length:=by omega
   have hfin:Hid (n = refsX xs id):=by unfold Hid;rw [hns.out,hkn,hfull.out]
   clear hns hkn hs h
   go_wp2
   go_ret
   exact ⟨congrArg (fun z:Nat=>Ending.returned (Value.int .i64 (z:Int))) hfin.out,hw⟩

set_option maxRecDepth 100000 in
set_option maxHeartbeats 6400000 in
theorem c_rgraph {X Y:Nat→Prop} {v:Value} {xs:List TC} (w:World) (h:TSl X Y w v xs) :
  Calls Try.prog 12 #[v] w (AnsP (RiseX xs) w):=by
 obtain ⟨ao,cap,rfl,hc1,hc2⟩:=h.form
 go_enter Try.func12,Try.ntmps12
 go_wp2
 go_loopw [3] (fun kv wr=>∃ k:Nat,1 ≤ k∧kv = .int .i64 k∧Hid (∀ i (h:i + 1 < xs.length),i + 1 < k→xs[i].t.id < xs[i + 1].t.id)∧Nw w wr) (fun kv _=>xs.length - (intOf kv).toNat)
 case atStart=>exact ⟨1,Nat.le_refl _,rfl,fun i h h2=>by omega,nw_refl _⟩
 case round =>
  obtain ⟨k,hk,rfl,hri,hw⟩:=hrel
  have hs:=h.nw hw
  by_cases hlt:k < xs.length
  ·obtain ⟨j,rfl⟩:∃ j,k = j + 1:=⟨k - 1,by omega⟩
   have hj:j < xs.length:=by omega
   obtain ⟨q0,off0,hva,_,h1,_⟩:=hs.get (j + 1) hlt
   subst hva
   obtain ⟨q1,off1,hva,_,h2,_⟩:=hs.get j hj
   simp only [Option.some.injEq,Addr.mk.injEq,and_true] at hva
   obtain ⟨rfl,rfl⟩:=hva
   have hup:Hid (xs[j].t.id < xs[j + 1].t.id→∀ i (h:i + 1 < xs.length),i + 1 < j + 1 + 1→xs[i].t.id < xs[i + 1].t.id):=fun hl i h h2=>by
    by_cases e:i = j
    ·subst e;exact hl
    ·exact hri.out i h (by omega)
   have hno:Hid (¬ xs[j].t.id < xs[j + 1].t.id→¬ RiseX xs):=fun hl hR=>hl (hR j hlt)
   have D1:∀ z,(wr.drewN z).cell? ⟨q0,off0 + (j + 1) * 26,none⟩ = some (.int .u64 xs[j + 1].t.id):=fun z=>h1 0 _ rfl
   have D2:∀ z,(wr.drewN z).cell? ⟨q0,off0 + j * 26,none⟩ = some (.int .u64 xs[j].t.id):=fun z=>h2 0 _ rfl
   clear h1 h2
   generalize xs[j + 1].t.id = b at *
   generalize xs[j].t.id = a at *
   have hj1:j + 1 < xs.length:=hlt
   have hmi:IntKind.i64.wrap ((j:Int) + 1 - 1) = (j:Int):=by rw [IntKind.wrap_i64];omega
   by_cases hab:a < b
   ·have hb:decide (b ≤ a) = false:=decide_eq_false (by omega)
    have hri2:=hup.out hab
    replace hri2:Hid _:=hri2
    clear hup hno hri hab
    go_wp2
    go_quiet (fail)
    go_wp2
    go_roundw
    case rel=>exact ⟨j + 1 + 1,by omega,by go_num,hri2,nw_trans hw (nw_drewN wr _)⟩
    case measure=>simp [intOf];omega
   ·have hb:decide (b ≤ a) = true:=decide_eq_true (by omega)
    have hno2:=hno.out hab
    replace hno2:Hid _:=hno2
    clear hup hno hri hab
    go_wp2
    go_quiet (fail)
    go_wp2
    go_ret
    exact ans_no hno2.out (nw_trans hw (nw_drewN wr _))
  ·have hyes:Hid (RiseX xs):=fun i h=>hri.out i h (by omega)
   clear hri hs h
   go_wp2
   go_ret
   exact ans_yes hyes.out hw

set_option maxRecDepth 100000 in
set_option maxHeartbeats 6400000 in
theorem c_rfits {X Y Z:Nat→Prop} {v:Value} {xs:List TC} {t:Th} {uL uC uK uD:Value} (l:Cat) (w:World) (h:TSl X Y w v xs) (hd:ThAt Z w t uL uC uK uD) (hl:0 ≤ l.1∧l.1 < 18446744073709551616) :
  Calls Try.prog 36 #[v,thV t uL uC uK uD,.agg #[.int .u64 l.1,.int .i64 l.2]] w fun e w'=>e = .returned (.bool (fitsX xs t.id l))∧Nw w w':=by
 obtain ⟨W,hW⟩:∃ W,Hid (W = (w.alloc (.cells (thC t uL uC uK uD).toArray 34)).alloc (.cells #[.int .u64 l.1,.int .i64 l.2] 54)):=⟨_,rfl⟩
 have nW:Nw w W:=by rw [hW.out];exact nw_alloc (nw_alloc (nw_refl w) _) _
 have hB0:W.heap[w.heap.size]? = some (.cells (thC t uL uC uK uD).toArray 34 (0,0)):=by rw [hW.out];exact heap_alloc2_old w _ _
 have hP:W.heap[w.heap.size + 1]? = some (.cells #[.int .u64 l.1,.int .i64 l.2] 54 (0,0)):=by rw [hW.out];exact heap_alloc2_new w _ _
 have hs:=h.nw nW
 have hfc:Hid _:=c_rfind l.1 W hs
 clear h hd hs
 go_enter Try.func36,Try.ntmps36
 go_upto_region 1 with (first | (refine wpList_box_agg rfl 34 _ rfl (thV t uL uC uK uD) _ rfl rfl ?_) | (refine wpList_box_agg rfl 54 _ rfl (.agg #[.int .u64 l.1,.int .i64 l.2]) _ rfl rfl ?_))
 rw [← hW.out]
 clear hW
 have p0:W.cell? ⟨w.heap.size + 1,0,none⟩ = some (.int .u64 l.1):=cell_blk hP rfl
 cases hf:findX xs l.1 with
 | none =>
  have hfin:Hid (fitsX xs t.id l = false):=by unfold Hid fitsX;rw [hf]
  replace hf:Hid _:=hf
  go_wp2_with (go_at_call 14;refine Calls.mono hfc.out ?_;rintro e W1 hfp;obtain ⟨rfl,n1⟩:=find_no hf.out hfp;refine stop_here ?_)
  unfold Hid
  clear hfc hfp p0 hf
  replace hB0:=(n1.block _ (heap_lt hB0) (fun h=>h)).trans hB0
  replace hP:=(n1.block _ (heap_lt hP) (fun h=>h)).trans hP
  replace nW:=nw_trans nW n1
  have hz:ThAt (fun _=>False) W1 zeroT (.slice none 0 0) (.slice none 0 0) (.slice none 0 0) (.slice none 0 0):=⟨csl_nil _ _,csl_nil _ _,csl_nil _ _,bsl_nil _ _⟩
  unfold tcV zTC
  obtain ⟨Y7,hY⟩:∃ Y,Hid (Y = W1.alloc (.cells (thC zeroT (.slice none 0 0) (.slice none 0 0) (.slice none 0 0) (.slice none 0 0)).toArray 34)):=⟨_,rfl⟩
  have hV7:Y7.heap[W1.heap.size]? = some (.cells (thC zeroT (.slice none 0 0) (.slice none 0 0) (.slice none 0 0) (.slice none 0 0)).toArray 34 (0,0)):=by rw [hY.out];exact heap_alloc_new _ _
  obtain ⟨V2,hV⟩:∃ V,Hid (V = Y7.setRow W1.heap.size (thC zeroT (.slice none 0 0) (.slice none 0 0) (.slice none 0 0) (.slice none 0 0)).toArray):=⟨_,rfl⟩
  have nV2:Nw W1 V2:=by rw [hV.out,hY.out];exact Fr.setRow (nw_alloc (nw_refl _) _) (.inr (Nat.le_refl _)) _
  have hnew:V2.heap[W1.heap.size]? = some (.cells (thC zeroT (.slice none 0 0) (.slice none 0 0) (.slice none 0 0) (.slice none 0 0)).toArray 34 (0,0)):=by rw [hV.out];exact setRow_heap _ _ _ _ _ _ hV7
  go_wp2_with (refine wpList_alloc_agg rfl 34 rfl _ Try.zeroTh ?_;rw [← hY.out];refine stop_here ?_)
  unfold Hid
  refine wpList_store_all rfl 34 _ _ rfl (W1.heap.size) rfl (thV zeroT (.slice none 0 0) (.slice none 0 0) (.slice none 0 0) (.slice none 0 0)) rfl (thC zeroT (.slice none 0 0) (.slice none 0 0) (.slice none 0 0) (.slice none 0 0)) rfl (thC zeroT (.slice none 0 0) (.slice none 0 0) (.slice none 0 0) (.slice none 0 0)) 34 hV7 rfl (hz.one) Try.sizeT ?_
  rw [← hV.out]
  clear hV hY hV7
  replace hB0:=(nV2.block _ (heap_lt hB0) (fun h=>h)).trans hB0
  replace hP:=(nV2.block _ (heap_lt hP) (fun h=>h)).trans hP
  replace nW:=nw_trans nW nV2
  have hV7:=hnew
  clear hnew
  generalize W1.heap.size = A7 at *
  clear hB0 hV7 hP hz
  go_wp2
  go_ret
  exact ⟨congrArg (fun z=>Ending.returned (Value.bool z)) hfin.out.symm,nW⟩
 | some x =>
  have hxi:x.t.id = l.1:=find_id hf
  have hfin:Hid (fitsX xs t.id l = (x.t.quota == l.2 && (x.t.kind != 1 || x.t.id.tdiv 64 == t.id))):=by unfold Hid fitsX;rw [hf]
  replace hf:Hid _:=hf
  go_wp2_with (go_at_call 14;refine Calls.mono hfc.out ?_;rintro e W1 hfp;obtain ⟨rfl,hat,n1⟩:=find_yes hf.out hfp;refine stop_here ?_)
  unfold Hid
  clear hfc hfp p0 hf
  replace hB0:=(n1.block _ (heap_lt hB0) (fun h=>h)).trans hB0
  replace hP:=(n1.block _ (heap_lt hP) (fun h=>h)).trans hP
  replace nW:=nw_trans nW n1
  replace hxi:Hid _:=hxi
  unfold tcV
  have hat1:ThAt Y W1 x.t x.l x.c x.k x.d:=hat
  obtain ⟨Y7,hY⟩:∃ Y,Hid (Y = W1.alloc (.cells (thC zeroT (.slice none 0 0) (.slice none 0 0) (.slice none 0 0) (.slice none 0 0)).toArray 34)):=⟨_,rfl⟩
  have hV7:Y7.heap[W1.heap.size]? = some (.cells (thC zeroT (.slice none 0 0) (.slice none 0 0) (.slice none 0 0) (.slice none 0 0)).toArray 34 (0,0)):=by rw [hY.out];exact heap_alloc_new _ _
  obtain ⟨V2,hV⟩:∃ V,Hid (V = Y7.setRow W1.heap.size (thC x.t x.l x.c x.k x.d).toArray):=⟨_,rfl⟩
  have nV2:Nw W1 V2:=by rw [hV.out,hY.out];exact Fr.setRow (nw_alloc (nw_refl _) _) (.inr (Nat.le_refl _)) _
  have hnew:V2.heap[W1.heap.size]? = some (.cells (thC x.t x.l x.c x.k x.d).toArray 34 (0,0)):=by rw [hV.out];exact setRow_heap _ _ _ _ _ _ hV7
  go_wp2_with (refine wpList_alloc_agg rfl 34 rfl _ Try.zeroTh ?_;rw [← hY.out];refine stop_here ?_)
  unfold Hid
  refine wpList_store_all rfl 34 _ _ rfl (W1.heap.size) rfl (thV x.t x.l x.c x.k x.d) rfl (thC x.t x.l x.c x.k x.d) rfl (thC zeroT (.slice none 0 0) (.slice none 0 0) (.slice none 0 0) (.slice none 0 0)) 34 hV7 rfl (hat1.one) Try.sizeT ?_
  rw [← hV.out]
  clear hV hY hV7
  replace hB0:=(nV2.block _ (heap_lt hB0) (fun h=>h)).trans hB0
  replace hP:=(nV2.block _ (heap_lt hP) (fun h=>h)).trans hP
  replace hat:=TC.At.nw hat nV2
  replace nW:=nw_trans nW nV2
  have hV7:=hnew
  clear hnew
  generalize W1.heap.size = A7 at *
  have p1:V2.cell? ⟨w.heap.size + 1,1,none⟩ = some (.int .i64 l.2):=cell_blk hP rfl
  have a0:V2.cell? ⟨w.heap.size,0,none⟩ = some (.int .u64 t.id):=cell_blk hB0 rfl
  have v0:V2.cell? ⟨A7,0,none⟩ = some (.int .u64 x.t.id):=cell_blk hV7 rfl
  have v1:V2.cell? ⟨A7,1,none⟩ = some (.int .i64 x.t.kind):=cell_blk hV7 rfl
  have v6:V2.cell? ⟨A7,6,none⟩ = some (.int .i64 x.t.quota):=cell_blk hV7 rfl
  have hwr:IntKind.u64.wrap (x.t.id.tdiv 64) = x.t.id.tdiv 64:=by have:=hxi.out;rw [IntKind.wrap_u64,Int.tdiv_eq_ediv_of_nonneg (by omega)];omega
  clear hB0 hV7 hP hat hat1
  cases hq:(x.t.quota == l.2) with
  | false =>
   have hq2:(x.t.quota != l.2) = true:=by simpa using hq
   rw [hq] at hfin
   go_wp2
   go_ret
   exact ⟨congrArg (fun z=>Ending.returned (Value.bool z)) hfin.out.symm,nW⟩
  | true =>
   have hq2:(x.t.quota != l.2) = false:=by simpa using hq
   rw [hq] at hfin
   cases hk:(x.t.kind != 1) with
   | true =>
    rw [hk] at hfin
    go_wp2
    go_ret
    exact ⟨congrArg (fun z=>Ending.returned (Value.bool z)) hfin.out.symm,nW⟩
   | false =>
    rw [hk] at hfin
    have hfin2:Hid (fitsX xs t.id l = (x.t.id.tdiv 64 == t.id)):=by unfold Hid;rw [hfin.out];rfl
    clear hfin
    go_wp2
    go_ret
    exact ⟨congrArg (fun z=>Ending.returned (Value.bool z)) (by first | exact hfin2.out.symm | (rw [hwr];exact hfin2.out.symm)),nW⟩
end Go.Proofs.Ytgmfofngmfekbaa

namespace Go.Proofs.Ytgmfofngmfekbaa
set_option linter.unusedVariables false
set_option linter.unusedSimpArgs false
set_option maxRecDepth 20000
open Go.RowKit

/-- The numbers above: itself, that over 64, and so on. -/
def aboveL (n:Nat):List Nat:=if n = 0 then [] else n :: aboveL (n / 64)
termination_by n
decreasing_by omega

theorem above_zero:aboveL 0 = []:=by unfold aboveL;rfl
theorem above_pos {n:Nat} (h:n ≠ 0):aboveL n = n :: aboveL (n / 64):=by rw [aboveL,if_neg h]
theorem above_len:∀ (k n:Nat),n < 64 ^ k→(aboveL n).length ≤ k
 | 0,n,h=>by
  have:n = 0:=by simpa using h
  rw [this,above_zero]
  exact Nat.le_refl _
 | k + 1,n,h=>by
  by_cases h0:n = 0
  ·rw [h0,above_zero];exact Nat.zero_le _
  ·rw [above_pos h0]
   have:=above_len k (n / 64) (Nat.div_lt_of_lt_mul (by rw [Nat.pow_succ,Nat.mul_comm] at h;exact h))
   simp
   exact this
theorem above_le {n:Nat}:∀ x ∈ aboveL n,x ≤ n:=by
 induction n using Nat.strongRecOn with
 | _ n ih =>
  intro x hx
  by_cases h0:n = 0
  ·rw [h0,above_zero] at hx;simp at hx
  ·rw [above_pos h0] at hx
   rcases List.mem_cons.1 hx with rfl | h
   ·exact Nat.le_refl _
   ·exact Nat.le_trans (ih (n / 64) (by omega) x h) (Nat.div_le_self _ _)

/-- The greatest rest of those numbers that over 64 are d. -/
def givStep (d:Int) (n x:Nat):Nat:=if ((x / 64:Nat):Int) = d∧n < x % 64 then x % 64 else n
def givL (d:Int) (l:List Nat) (n0:Nat):Nat:=l.foldl (givStep d) n0
def givX (d:Int) (xs:List TC) (n0:Nat):Nat:=xs.foldl (fun n x=>givL d (aboveL x.t.id.toNat) n) n0
def givenX (xs:List TC) (d:Int):Nat:=givX d xs 0

theorem givStep_le {d:Int} {n x:Nat} (h:n ≤ 63):givStep d n x ≤ 63:=by unfold givStep;split <;> omega
theorem givL_take {d:Int} {l:List Nat} {j:Nat} (h:j < l.length) (n0:Nat):givL d (l.take (j + 1)) n0 = givStep d (givL d (l.take j) n0) l[j]:=by
 unfold givL
 rw [List.take_succ_eq_append_getElem h,List.foldl_append]
 rfl
theorem givX_take {d:Int} {xs:List TC} {k:Nat} (h:k < xs.length):givX d (xs.take (k + 1)) 0 = givL d (aboveL xs[k].t.id.toNat) (givX d (xs.take k) 0):=by
 unfold givX
 rw [List.take_succ_eq_append_getElem h,List.foldl_append]
 rfl

theorem lit_own (w:World) (n:Int):(w.alloc (.cells #[.int .u64 n] 23)).ownsRow w.heap.size 23 1 (.slice (some ⟨w.heap.size,0,none⟩) 1 1) 1 [.int .u64 n]:=⟨rfl,.inr ⟨w.heap.size,1,#[.int .u64 n],rfl,Nat.le_refl _,heap_alloc_new w _,Nat.le_refl _,by unfold maxLen;decide,rfl,rfl⟩⟩
theorem row_usl {w:World} {base m:Nat} {v:Value} {xs:List Int} (h:w.ownsRow base 23 1 v m (xs.map uv)):USl (fun b=>base ≤ b) w v xs:=by
 have h1:=h.1
 simp at h1
 have:m = xs.length:=by omega
 subst this
 exact usl_owns h

/-- The numbers as they lie in memory. -/
def aboveI (n:Nat):List Int:=(aboveL n).map (fun x:Nat=>(x:Int))

theorem aboveI_get (z j:Nat) (h:j < (aboveL z).length) (h2:j < (aboveI z).length):(aboveI z)[j] = ((aboveL z)[j]:Int):=List.getElem_map _
theorem slp_sl {X:Nat→Prop} {w:World} {v:Value} {xs:List Int} (h:USl X w v xs):Sl w.heap.size w v xs.length (xs.map uv):=by
 obtain ⟨ao,cap,hv,hc,hn,hcs⟩:=h
 refine ⟨ao,cap,hv,hc,hn,fun i c hi=>?_⟩
 obtain ⟨b,off,h1,h2,h3⟩:=hcs i c hi
 exact ⟨b,off,h1,World.block_lt_of_cell? w _ h3,h3⟩

set_option maxRecDepth 100000 in
set_option maxHeartbeats 6400000 in
theorem c_rabove (n:Nat):∀ (w:World),n < 18446744073709551616 →
  Calls Try.prog 66 #[.int .u64 n] w fun e w'=>∃ u,e = .returned u∧USl (fun b=>w.heap.size ≤ b) w' u (aboveI n)∧Nw w w':=by
 induction n using Nat.strongRecOn with
 | _ n ih =>
  intro w hn
  obtain ⟨i0,hi0,hz0,hs0,hb0⟩:=info_parts3 Try.infoU
  by_cases h0:n = 0
  ·subst h0
   have hrow:USl (fun b=>w.heap.size ≤ b) (w.alloc (.cells #[] 23)) (.slice (some ⟨w.heap.size,0,none⟩) 0 0) (aboveI 0):=row_usl (m:=0) (by unfold aboveI;rw [above_zero];exact ⟨rfl,.inr ⟨w.heap.size,0,#[],rfl,Nat.le_refl _,heap_alloc_new w _,Nat.le_refl _,Nat.zero_le _,rfl,rfl⟩⟩)
   have nA:Nw w (w.alloc (.cells #[] 23)):=nw_alloc (nw_refl w) _
   have hans:Hid _:=And.intro hrow nA
   clear hrow nA ih
   go_enter Try.func66,Try.ntmps66
   go_wp2_with (refine wpList_buildSlice0 rfl 45 23 rfl Try.underlying45 (by kernel_rfl) ?_)
   go_ret
   exact ⟨_,rfl,hans.out.1,hans.out.2⟩
  ·have hb:((n:Int) == 0) = false:=by rw [beq_eq_false_iff_ne];omega
   have e64:(n:Int) / 64 = ((n / 64:Nat):Int):=by omega
   obtain ⟨W,hW⟩:∃ W,Hid (W = w.alloc (.cells #[.int .u64 n] 23)):=⟨_,rfl⟩
   have nW:Nw w W:=by rw [hW.out];exact nw_alloc (nw_refl w) _
   have hlit:W.ownsRow w.heap.size 23 1 (.slice (some ⟨w.heap.size,0,none⟩) 1 1) 1 [.int .u64 n]:=by rw [hW.out];exact lit_own w n
   have hcon:Hid _:=ih (n / 64) (by omega) W (by omega)
   rw [← e64] at hcon
   have hab:Hid (aboveI n = (n:Int) :: aboveI (n / 64)):=by unfold Hid aboveI;rw [above_pos h0,List.map_cons]
   have hlen:Hid ((aboveI (n / 64)).length ≤ 11):=by unfold Hid aboveI;rw [List.length_map];exact above_len 11 _ (by rw [show (64:Nat) ^ 11 = 73786976294838206464 from rfl];omega)
   have hwl:Hid (w.heap.size < W.heap.size):=by have h1:=(hlit.lt w.heap.size rfl).2;exact h1
   clear ih h0 e64
   go_enter Try.func66,Try.ntmps66
   skip
   go_wp2_with (first | (go_at_call 66;rw [← hW.out];refine Calls.mono hcon.out ?_;rintro e W1 ⟨u,rfl,hu,n1⟩;refine stop_here ?_))
   unfold Hid
   clear hW hcon
   generalize n / 64 = m at *
   replace hlit:=owns_nw hlit n1
   have hone:∀ v ∈ (aboveI m).map uv,v.oneCell' = true:=fun v hv=>by obtain ⟨x,_,rfl⟩:=List.mem_map.1 hv;rfl
   have hlu:((aboveI m).map uv).length = (aboveI m).length * 1:=by simp
   have husl:Sl W1.heap.size W1 u (aboveI m).length ((aboveI m).map uv):=slp_sl hu
   have hwl1:=n1.size
   obtain ⟨ua,uc,hue,_,_⟩:=hu.form
   subst hue
   go_wp2_with (at_builtin;refine wpList_append_sl _ rfl _ _ 45 rfl w.heap.size 23 i0 _ 1 8 Try.underlying45 hi0 hz0 hs0 hb0 rfl (by decide) _ _ _ rfl hlit _ _ _ _ rfl husl hlu hone ?d2 ?d3 ?d4 ?_)
   case d2=>have:=hlen.out;unfold maxLen;omega
   case d3=>have:=hlen.out;omega
   case d4=>have:=hwl.out;omega
   intro v9 w9 hown9 hgrow9 hat9
   have m9:Nw w w9:=Fr.grown (nw_trans nW n1) hgrow9 (fun q hq=>.inr (hlit.lt q hq).1)
   have hans:Hid (USl (fun b=>w.heap.size ≤ b) w9 v9 (aboveI n)∧Nw w w9):=⟨row_usl (m:=1 + (aboveI m).length) (by rw [hab.out,List.map_cons];exact hown9),m9⟩
   obtain ⟨a9,c9,hv9⟩:=owns_form hown9
   subst hv9
   clear hown9 hgrow9 hat9 hlit m9 husl
   go_wp2
   go_ret
   exact ⟨_,rfl,hans.out.1,hans.out.2⟩

set_option maxRecDepth 100000 in
set_option maxHeartbeats 6400000 in
theorem c_rgiven {X Y:Nat→Prop} {v:Value} {xs:List TC} (d:Int) (w:World) (h:TSl X Y w v xs) (hid:∀ x ∈ xs,0 ≤ x.t.id∧x.t.id < 18446744073709551616) :
  Calls Try.prog 37 #[v,.int .u64 d] w fun e w'=>e = .returned (.int .i64 (givenX xs d))∧Nw w w':=by
 obtain ⟨ao,cap,rfl,hc1,hc2⟩:=h.form
 have hfull:Hid (givX d (xs.take xs.length) 0 = givenX xs d):=by unfold Hid;rw [List.take_length];rfl
 replace hid:Hid _:=hid
 go_enter Try.func37,Try.ntmps37
 go_wp2
 go_loopw [5,12] (fun nv kv wr=>∃ k n:Nat,k ≤ xs.length∧nv = .int .i64 n∧kv = .int .i64 k∧Hid (n = givX d (xs.take k) 0)∧n ≤ 63∧Nw w wr) (fun _ kv _=>xs.length - (intOf kv).toNat)
 case atStart=>exact ⟨0,0,Nat.zero_le _,rfl,rfl,rfl,Nat.zero_le _,nw_refl _⟩
 case round =>
  obtain ⟨k,n,hk,rfl,rfl,hns,hn63,hw⟩:=hrel
  have hs:=h.nw hw
  by_cases hlt:k < xs.length
  ·have hst:=givX_take (d:=d) hlt
   rw [← hns.out] at hst
   have hxi:=hid.out xs[k] (List.getElem_mem hlt)
   replace hst:Hid _:=hst
   have nW:=hw
   clear hw hns
   obtain ⟨q1,off1,hva,_,hrr,hat1⟩:=(hs).get k hlt
   first | subst hva | (simp only [Option.some.injEq,Addr.mk.injEq,and_true] at hva;obtain ⟨rfl,rfl⟩:=hva)
   generalize xs[k] = x at *
   unfold tcC at hrr
   obtain ⟨Y1,hY⟩:∃ Y,Hid (Y = wr.alloc (.cells (thC zeroT (.slice none 0 0) (.slice none 0 0) (.slice none 0 0) (.slice none 0 0)).toArray 34)):=⟨_,rfl⟩
   have hV1:Y1.heap[wr.heap.size]? = some (.cells (thC zeroT (.slice none 0 0) (.slice none 0 0) (.slice none 0 0) (.slice none 0 0)).toArray 34 (0,0)):=by rw [hY.out];exact heap_alloc_new _ _
   obtain ⟨V1,hV⟩:∃ V,Hid (V = Y1.setRow wr.heap.size (thC x.t x.l x.c x.k x.d).toArray):=⟨_,rfl⟩
   have nV1:Nw wr V1:=by rw [hV.out,hY.out];exact Fr.setRow (nw_alloc (nw_refl _) _) (.inr (Nat.le_refl _)) _
   have hnew:V1.heap[wr.heap.size]? = some (.cells (thC x.t x.l x.c x.k x.d).toArray 34 (0,0)):=by rw [hV.out];exact setRow_heap _ _ _ _ _ _ hV1
   go_wp2_with (first | (refine wpList_load_as rfl 34 _ rfl q1 (off1 + k * 26) rfl (thV x.t x.l x.c x.k x.d) _ rfl hrr Try.rowT Try.sizeT ?_) | (refine wpList_alloc_agg rfl 34 rfl _ Try.zeroTh ?_;rw [← hY.out];refine stop_here ?_))
   unfold Hid
   refine wpList_store_all rfl 34 _ _ rfl (wr.heap.size) rfl (thV x.t x.l x.c x.k x.d) rfl (thC x.t x.l x.c x.k x.d) rfl (thC zeroT (.slice none 0 0) (.slice none 0 0) (.slice none 0 0) (.slice none 0 0)) 34 hV1 rfl (ThAt.one hat1) Try.sizeT ?_
   rw [← hV.out]
   clear hV hY hV1 hrr
   replace nW:=nw_trans nW nV1
   replace hat1:=hat1.nw nV1
   have hV1:=hnew
   clear hnew
   have hlA1:wr.heap.size < V1.heap.size:=heap_lt hV1
   generalize wr.heap.size = A1 at *
   obtain ⟨z,hz⟩:∃ z:Nat,x.t.id = (z:Int):=⟨x.t.id.toNat,by omega⟩
   have hz2:x.t.id.toNat = z:=by omega
   rw [hz2] at hst
   have hz64:z < 18446744073709551616:=by omega
   have c0:V1.cell? ⟨A1,0,none⟩ = some (.int .u64 (z:Int)):=by rw [← hz];exact cell_blk hV1 rfl
   clear hz hz2 hxi hV1 hat1 hs
   have hcon:Hid _:=c_rabove z V1 hz64
   go_wp2_with ((go_at_call 66;refine Calls.mono hcon.out ?_;rintro e W2 ⟨u,rfl,hu,n2⟩;refine stop_here ?_))
   unfold Hid
   clear hcon  c0
   replace nW:=nw_trans nW n2
   obtain ⟨ua,uc,rfl,hu1,hu2⟩:=hu.form
   have hal:(aboveI z).length = (aboveL z).length:=by unfold aboveI;simp
   have hag:∀ j (h:j < (aboveL z).length) (h2:j < (aboveI z).length),(aboveI z)[j] = ((aboveL z)[j]:Int):=fun j h h2=>aboveI_get z j h h2
   have hle:∀ j (h:j < (aboveL z).length),(aboveL z)[j] ≤ z:=fun j h=>above_le _ (List.getElem_mem h)
   replace hag:Hid _:=hag
   replace hle:Hid _:=hle
   replace hal:Hid _:=hal
   obtain ⟨N,hN⟩:∃ N,(aboveI z).length = N:=⟨_,rfl⟩
   rw [hN] at hu1 ⊢
   have hNl:Hid ((aboveL z).length = N):=by unfold Hid;rw [← hal.out];exact hN
   replace hN:Hid _:=hN
   go_wp2
   go_loopw [5,20] (fun mv jv wz=>∃ j m:Nat,j ≤ N∧mv = .int .i64 m∧jv = .int .i64 j∧Hid (m = givL d ((aboveL z).take j) n)∧m ≤ 63∧wz = W2) (fun _ jv _=>N - (intOf jv).toNat)
   case atStart=>exact ⟨0,n,Nat.zero_le _,rfl,rfl,rfl,hn63,(by first | rfl | trivial)⟩
   case round =>
    obtain ⟨j,m,hj,rfl,rfl,hms,hm63,hwz⟩:=hrel
    have hwz2:=hwz.symm
    subst hwz2
    clear hwz
    by_cases hj2:j < N
    ·have hjI:j < (aboveI z).length:=by have:=hN.out;omega
     have hjL:j < (aboveL z).length:=by have:=hNl.out;omega
     obtain ⟨q,off,hue,_,d1⟩:=hu.get j hjI
     subst hue
     rw [hag.out j hjL hjI] at d1
     have hst2:=givL_take (d:=d) hjL n
     rw [← hms.out] at hst2
     have hyz:=hle.out j hjL
     clear hms
     generalize (aboveL z)[j] = y at *
     have hst3:Hid (givL d ((aboveL z).take (j + 1)) n = if ((y / 64:Nat):Int) = d∧m < y % 64 then y % 64 else m):=hst2
     clear hst2
     have hr63:y % 64 ≤ 63:=by omega
     have q1:(y:Int) / 64 = ((y / 64:Nat):Int):=by omega
     have q2:(y:Int) % 64 = ((y % 64:Nat):Int):=by omega
     replace q1:Hid _:=q1
     replace q2:Hid _:=q2
     cases hd:((y:Int) / 64 == d) with
     | false =>
      have hm2:Hid (m = givL d ((aboveL z).take (j + 1)) n):=by unfold Hid;rw [hst3.out,if_neg (fun h=>by rw [beq_eq_false_iff_ne] at hd;exact hd (q1.out.trans h.1))]
      clear hst3
      go_wp2
      go_roundw
      case rel=>exact ⟨j + 1,m,by omega,rfl,by go_num,hm2,hm63,(by first | rfl | trivial)⟩
      case measure=>simp [intOf];omega
     | true =>
      have hde:Hid (((y / 64:Nat):Int) = d):=q1.out.symm.trans (by simpa using hd)
      by_cases hg:m < y % 64
      ·have hm2:Hid (y % 64 = givL d ((aboveL z).take (j + 1)) n):=by unfold Hid;rw [hst3.out,if_pos ⟨hde.out,hg⟩]
       have hb2:decide ((m:Int) < (y:Int) % 64) = true:=decide_eq_true (by omega)
       replace hg:Hid _:=hg
       clear hst3
       go_wp2
       go_roundw
       case rel=>exact ⟨j + 1,y % 64,by omega,congrArg (Value.int .i64) q2.out,by go_num,hm2,by omega,(by first | rfl | trivial)⟩
       case measure=>simp [intOf];omega
      ·have hm2:Hid (m = givL d ((aboveL z).take (j + 1)) n):=by unfold Hid;rw [hst3.out,if_neg (fun h=>hg h.2)]
       have hb2:decide ((m:Int) < (y:Int) % 64) = false:=decide_eq_false (by omega)
       replace hg:Hid _:=hg
       clear hst3
       go_wp2
       go_roundw
       case rel=>exact ⟨j + 1,m,by omega,rfl,by go_num,hm2,hm63,(by first | rfl | trivial)⟩
       case measure=>simp [intOf];omega
    ·have hjn:j = N:=by omega
     have hm2:Hid (m = givX d (xs.take (k + 1)) 0):=by unfold Hid;rw [hms.out,hst.out,hjn,← hNl.out,List.take_length]
     replace hjn:Hid _:=hjn
     clear hms hst hu
     replace nW:Hid _:=nW
     go_wp2
     go_roundw
     case rel=>exact ⟨k + 1,m,by omega,rfl,by go_num,hm2,hm63,nW.out⟩
     case measure=>simp [intOf];omega
  ·have hkn:k = xs.length:=by omega
   have hfin:Hid (n = givenX xs d):=by unfold Hid;rw [hns.out,hkn,hfull.out]
   clear hns hkn hs h
   go_wp2
   go_ret
   exact ⟨congrArg (fun z:Nat=>Ending.returned (Value.int .i64 (z:Int))) hfin.out,hw⟩
end Go.Proofs.Ytgmfofngmfekbaa
