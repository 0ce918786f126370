/-
  GrT19, GrS4, GrS5: in one text.
-/
import Derived.Test.YtgmfofngmfekbaaGrGqS
import Derived.Test.YtgmfofngmfekbaaLabS
import Derived.Test.YtgmfofngmfekbaaGrGpS
namespace Go.Proofs.Ytgmfofngmfekbaa
set_option linter.unusedVariables false
set_option linter.unusedSimpArgs false
set_option maxRecDepth 20000
open Go.RowKit

/-- The block g holds the links xs, and what is behind them. -/
def LB (w:World) (g:Nat) (xs:List Cat) (tl:List Value):Prop:=w.heap[g]? = some (.cells (ccells xs ++ tl).toArray 54 (0,0))

theorem LB.lt {w:World} {g:Nat} {xs:List Cat} {tl:List Value} (h:LB w g xs tl):g < w.heap.size:=heap_lt h

theorem LB.get {w:World} {g:Nat} {xs:List Cat} {tl:List Value} (h:LB w g xs tl) (k:Nat) (hk:k < xs.length) :
  w.cell? ⟨g,k * 2,none⟩ = some (.int .u64 xs[k].1)∧w.cell? ⟨g,k * 2 + 1,none⟩ = some (.int .i64 xs[k].2):=by
 obtain ⟨h1,h2⟩:=ccells_get xs k hk
 have hl:=ccells_length xs
 constructor
 ·refine cell_blk h ?_
  rw [List.getElem?_toArray,List.getElem?_append_left (by omega)];exact h1
 ·refine cell_blk h ?_
  rw [List.getElem?_toArray,List.getElem?_append_left (by omega)];exact h2

theorem LB.free {w:World} {g:Nat} {xs:List Cat} {tl:List Value} (h:LB w g xs tl) (k:Nat):w.frozen? ⟨g,k,none⟩ = false:=free_blk h

theorem LB.keep {w w':World} {g:Nat} {xs:List Cat} {tl:List Value} (h:LB w g xs tl) {T:Nat→Prop} (hf:Fr T w w') (hb:¬ T g):LB w' g xs tl:=(hf.block g h.lt hb).trans h

theorem LB.nw {w w':World} {g:Nat} {xs:List Cat} {tl:List Value} (h:LB w g xs tl) (hf:Nw w w'):LB w' g xs tl:=h.keep hf id

/-- One laid anew. -/
theorem LB.set {w:World} {g:Nat} {xs:List Cat} {tl:List Value} (h:LB w g xs tl) (k:Nat) (hk:k < xs.length) (c:Cat) :
  LB ((w.setCell ⟨g,k * 2,none⟩ (.int .u64 c.1)).setCell ⟨g,k * 2 + 1,none⟩ (.int .i64 c.2)) g (xs.set k c) tl:=by
 have hl:=ccells_length xs
 unfold LB at *
 rw [blk_setCell (blk_setCell h)]
 congr 2
 apply Array.toList_inj.1
 rw [Array.toList_setIfInBounds,Array.toList_setIfInBounds,List.set_append_left _ _ (by omega),List.set_append_left _ _ (by rw [List.length_set];omega),ccells_set xs k c hk]

/-- What is behind k is cleared. -/
theorem LB.clear {w:World} {g:Nat} {zs:List Cat} {tl:List Value} (h:LB w g zs tl) (k:Nat) (hk:k ≤ zs.length):LB (w.setCells g (k * 2) (ccells (List.replicate (zs.length - k) (0,0)))) g (zs.take k) (ccells (List.replicate (zs.length - k) (0,0)) ++ tl):=by
 have e:zs = zs.take k ++ zs.drop k:=(List.take_append_drop k zs).symm
 have e2:ccells zs = ccells (zs.take k) ++ ccells (zs.drop k):=by rw [← ccells_append,← e]
 unfold LB at *
 rw [e2] at h
 have hl:(ccells (zs.take k)).length = k * 2:=by rw [ccells_length,List.length_take,Nat.min_eq_left hk]
 have:=blk_setCells tl (ccells (List.replicate (zs.length - k) (0,0))) (ccells (zs.take k)) (ccells (zs.drop k)) w (by rw [ccells_length,ccells_length];simp) h
 rw [hl] at this
 rw [this,List.append_assoc]

theorem LB.cellAll {w:World} {g:Nat} {xs:List Cat} {tl:List Value} (h:LB w g xs tl) (j:Nat) (hj:j < xs.length * 2):(w.cell? ⟨g,j,none⟩).isSome = true:=by
 have hl:=ccells_length xs
 rw [cell_blk h (v:=(ccells xs ++ tl)[j]'(by simp;omega)) (by simp)]
 rfl

theorem run_clearK {w:World} {g:Nat} {zs:List Cat} {tl:List Value} (h:LB w g zs tl) (k c:Nat) (ty:TypeId) (hk:k < zs.length) :
  (Builtin.clear_ #[27] ty #[.slice (some ⟨g,k * 2,none⟩) (zs.length - k) c]).run Try.prog w = .ok (.tuple #[]) (w.setCells g (k * 2) (ccells (List.replicate (zs.length - k) (0,0)))):=by
 have hv:∀ w,(zeroValue 54).run Try.prog w = .ok (.agg #[.int .u64 0,.int .i64 0]) w:=fun w=>Try.zeroValue54 w
 have hst:=run_storeCells_cells (P:=Try.prog) g (k * 2) (ccells (List.replicate (zs.length - k) (0,0))) 0 w
  (by intro j hj;rw [ccells_length,List.length_replicate] at hj;exact h.cellAll _ (by omega))
  (by intro j hj;exact h.free _)
  (ccells_oneCell _)
 simp only [Nat.add_zero] at hst
 obtain ⟨m,hm⟩:∃ m,zs.length - k = m + 1:=⟨zs.length - k - 1,by omega⟩
 rw [hm] at hst ⊢
 simp [Builtin.clear_,run_underlying Try.underlying27,hv,zeroCells_two,hst]

structure DlP (P:Cat→Bool) (xs zs:List Cat) (j i:Nat):Prop where
 len:zs.length = xs.length
 ij:i < j
 low:zs.take i = (xs.take j).filter (fun c=>!P c)
 low2:((xs.take j).filter (fun c=>!P c)).length = i
 high:∀ q,j ≤ q→zs[q]? = xs[q]?

theorem DlP.start {P:Cat→Bool} {xs:List Cat} {k:Nat} (hk:k < xs.length) (h:∀ i,i < k→P (gt xs i) = false) (he:P (gt xs k) = true):DlP P xs xs (k + 1) k:=by
 have e:(xs.take (k + 1)).filter (fun c=>!P c) = xs.take k:=by
  rw [List.take_succ_eq_append_getElem hk,List.filter_append,← gt_of hk]
  have e1:(xs.take k).filter (fun c=>!P c) = xs.take k:=by
   rw [List.filter_eq_self]
   intro c hc
   obtain ⟨i,hi⟩:=List.getElem?_of_mem hc
   rw [List.getElem?_take] at hi
   split at hi
   ·rename_i hik
    have:=h i hik
    unfold gt at this
    rw [hi] at this
    simp at this ⊢
    exact this
   ·cases hi
  rw [e1]
  simp [he]
 exact ⟨rfl,by omega,e.symm,by rw [e];simp;omega,fun _ _=>rfl⟩

theorem DlP.skip {P:Cat→Bool} {xs zs:List Cat} {j i:Nat} (h:DlP P xs zs j i) (hj:j < xs.length) (he:P (gt xs j) = true):DlP P xs zs (j + 1) i:=by
 have e:(xs.take (j + 1)).filter (fun c=>!P c) = (xs.take j).filter (fun c=>!P c):=by
  rw [List.take_succ_eq_append_getElem hj,List.filter_append,← gt_of hj]
  simp [he]
 exact ⟨h.len,by have:=h.ij;omega,by rw [e];exact h.low,by rw [e];exact h.low2,fun q hq=>h.high q (by omega)⟩

theorem DlP.put {P:Cat→Bool} {xs zs:List Cat} {j i:Nat} (h:DlP P xs zs j i) (hj:j < xs.length) (he:P (gt xs j) = false):DlP P xs (zs.set i (gt xs j)) (j + 1) (i + 1):=by
 have e:(xs.take (j + 1)).filter (fun c=>!P c) = (xs.take j).filter (fun c=>!P c) ++ [gt xs j]:=by
  rw [List.take_succ_eq_append_getElem hj,List.filter_append,← gt_of hj]
  simp [he]
 have h1:=h.ij
 refine ⟨by rw [List.length_set];exact h.len,by omega,?_,by rw [e,List.length_append,h.low2];rfl,fun q hq=>?_⟩
 ·rw [e,take_set_snoc _ _ _ (by have:=h.len;omega),h.low]
 ·rw [List.getElem?_set_ne (by omega)]
  exact h.high q (by omega)

set_option maxHeartbeats 1600000 in
theorem c_idxM {X:Nat→Prop} {v:Value} {ls:List Cat} (P:Cat→Bool) (p q:Nat) (w:World) (h:CSl X w v ls)
  (hv:∀ (w1:World) (c:Cat),Nw w w1→c ∈ ls→Calls Try.prog 52 #[.agg #[.int .u64 c.1,.int .i64 c.2],.pointer (some ⟨p,0,none⟩),.pointer (some ⟨q,0,none⟩)] w1 fun e w2=>e = .returned (.bool (P c))∧Nw w1 w2) :
  Calls Try.prog 73 #[v,.func (.func 52) #[] #[.pointer (some ⟨p,0,none⟩),.pointer (some ⟨q,0,none⟩)]] w fun e w'=>∃ r,e = .returned (.int .i64 r)∧FndP P ls r∧Nw w w':=by
 obtain ⟨ao,cap,rfl,hcl,hcm⟩:=h.form
 replace hv:Hid _:=hv
 obtain ⟨n,hn⟩:∃ n,ls.length = n:=⟨_,rfl⟩
 rw [hn] at h hcl ⊢
 replace hn:Hid _:=hn
 go_enter Try.func73,Try.ntmps73
 go_wp2
 go_loopw [8] (fun kv wr=>∃ k:Nat,k ≤ n∧kv = .int .i64 k∧Hid (∀ i (h2:i < ls.length),i < k→P ls[i] = false)∧Nw w wr) (fun kv _=>n - (intOf kv).toNat)
 case atStart=>exact ⟨0,Nat.zero_le _,rfl,fun i h h2=>absurd h2 (Nat.not_lt_zero _),nw_refl _⟩
 case round =>
  obtain ⟨k,hkn,rfl,hne,hnw⟩:=hrel
  by_cases hlt:k < n
  ·have hk:k < ls.length:=by have:=hn.out;omega
   obtain ⟨q,off,hao,_,d1,d2⟩:=(h.nw hnw).get k hk
   subst hao
   have hc:Hid _:=hv.out wr ls[k] hnw (List.getElem_mem hk)
   have hstep:Hid (P ls[k] = false→∀ i (h2:i < ls.length),i < k + 1→P ls[i] = false):=fun h0 i h2 h3=>by
    by_cases e:i = k
    ·subst e;exact h0
    ·exact hne.out i h2 (by omega)
   have hhit:Hid (P ls[k] = true→FndP P ls (k:Int)):=fun h0=>.inr ⟨k,hk,rfl,hne.out,h0⟩
   generalize ls[k] = c at *
   clear hk
   cases hb:P c with
   | true =>
    rw [hb] at hc
    have hf:Hid (FndP P ls (k:Int)):=hhit.out hb
    clear hstep hhit hne hb
    go_wp2_with (go_at_call 52;refine Calls.mono hc.out ?_;rintro e w3 ⟨rfl,n3⟩)
    go_ret
    exact ⟨_,rfl,hf.out,nw_trans hnw n3⟩
   | false =>
    rw [hb] at hc
    have hf:Hid (∀ i (h2:i < ls.length),i < k + 1→P ls[i] = false):=hstep.out hb
    clear hstep hhit hne hb
    go_wp2_with (go_at_call 52;refine Calls.mono hc.out ?_;rintro e w3 ⟨rfl,n3⟩)
    go_roundw
    case rel=>exact ⟨k + 1,by omega,by go_num,hf,nw_trans hnw n3⟩
    case measure=>simp [intOf];omega
  ·have hf:Hid (FndP P ls (-1)):=.inl ⟨rfl,fun i hi=>hne.out i hi (by have:=hn.out;omega)⟩
   go_wp2
   go_ret
   exact ⟨_,rfl,hf.out,hnw⟩

set_option maxRecDepth 100000 in
set_option maxHeartbeats 3200000 in
theorem c_delF {g:Nat} {xs:List Cat} {tl:List Value} (P:Cat→Bool) (p q cap n:Nat) (w:World) (h:LB w g xs tl) (hn:Hid (xs.length = n)) (hc:n ≤ cap) (hm:cap ≤ 9223372036854775807)
  (hv:∀ (w1:World) (zs:List Cat) (c:Cat),Fr (fun b=>b = g) w w1→zs.length = n→LB w1 g zs tl→c ∈ xs→Calls Try.prog 52 #[.agg #[.int .u64 c.1,.int .i64 c.2],.pointer (some ⟨p,0,none⟩),.pointer (some ⟨q,0,none⟩)] w1 fun e w2=>e = .returned (.bool (P c))∧Nw w1 w2) :
  Calls Try.prog 51 #[.slice (some ⟨g,0,none⟩) n cap,.func (.func 52) #[] #[.pointer (some ⟨p,0,none⟩),.pointer (some ⟨q,0,none⟩)]] w fun e w'=>∃ k tl',e = .returned (.slice (some ⟨g,0,none⟩) k cap)∧LB w' g (xs.filter (fun c=>!P c)) tl'∧(xs.filter (fun c=>!P c)).length = k∧k ≤ n∧Fr (fun k=>k = g) w w':=by
 have hcs:CSl (fun b=>b = g) w (.slice (some ⟨g,0,none⟩) n cap) xs:=⟨some ⟨g,0,none⟩,cap,by rw [hn.out],⟨by rw [hn.out];exact hc,by unfold maxLen;exact hm⟩,(fun e=>by cases e),fun i c hi=>⟨g,0,rfl,rfl,by rw [Nat.zero_add];exact cell_blk h (by rw [List.getElem?_toArray,List.getElem?_append_left (List.getElem?_eq_some_iff.1 hi).1];exact hi)⟩⟩
 have hidx:Hid _:=c_idxM P p q w hcs (fun w1 c n1 hc=>hv w1 xs c (fr_of_nw n1) hn.out (h.nw n1) hc)
 replace hv:Hid _:=hv
 clear hcs
 go_enter Try.func51,Try.ntmps51
 go_wp2_with (go_at_call 73;refine Calls.mono hidx.out ?_;rintro e w1 ⟨r,rfl,hf,hnw⟩;refine stop_here ?_)
 unfold Hid
 clear hidx
 have hcb1:=h.nw hnw
 have hfr1:Fr (fun k=>k = g) w w1:=fr_of_nw hnw
 clear h hnw
 rcases hf with ⟨rfl,hf⟩ | ⟨k,hkx,rfl,hf1,hf2⟩
 ·have e:Hid (xs.filter (fun c=>!P c) = xs):=by
   unfold Hid
   rw [List.filter_eq_self]
   intro c hc
   obtain ⟨i,hi,rfl⟩:=List.getElem_of_mem hc
   rw [hf i hi]
   rfl
  clear hf
  go_wp2
  go_ret
  exact ⟨n,tl,rfl,by rw [e.out];exact hcb1,by rw [e.out];exact hn.out,Nat.le_refl _,hfr1⟩
 ·have hkn:k < n:=by have:=hn.out;omega
  have hst:Hid (DlP P xs xs (k + 1) k):=DlP.start hkx (fun i hi=>by rw [gt_of (by omega)];exact hf1 i (by omega) hi) (by rw [gt_of hkx];exact hf2)
  clear hf1 hf2
  have hk1:((k:Int) == -1) = false:=by simp <;> omega
  go_wp2
  clear hk1
  go_loopw [5,6] (fun iv jv wr=>∃ (i j:Nat) (zs:List Cat),iv = .int .i64 i∧jv = .int .i64 j∧j ≤ n∧i < j∧Hid (DlP P xs zs j i)∧LB wr g zs tl∧Fr (fun k=>k = g) w1 wr) (fun _ jv _=>n - (intOf jv).toNat)
  case atStart=>exact ⟨k,k + 1,xs,rfl,by go_num,by omega,by omega,hst,hcb1,Fr.refl _ _⟩
  case round =>
   clear hst hcb1
   obtain ⟨i,j,zs,rfl,rfl,hjn,hij,hdl,hcb,hfr⟩:=hrel
   have hzl:Hid (zs.length = n):=hdl.out.len.trans hn.out
   by_cases hlt:j < n
   ·obtain ⟨x,hx⟩:∃ x,Hid (x = gt xs j):=⟨_,rfl⟩
    have hxm:x ∈ xs:=by rw [hx.out,gt_of (by have:=hn.out;omega)];exact List.getElem_mem _
    have c0:=hcb.get j (by rw [hzl.out];exact hlt)
    have e0:zs[j]'(by rw [hzl.out];exact hlt) = x:=by
     have h1:=gt_eq (hdl.out.high _ (Nat.le_refl _))
     rw [gt_of (by rw [hzl.out];exact hlt),← hx.out] at h1
     exact h1
    rw [e0] at c0
    clear e0
    obtain ⟨c1,c2⟩:=c0
    have hgl:=hcb.lt
    have hA:Hid (∀ o,LB (wr.alloc o) g zs tl∧Fr (fun k=>k = g) w1 (wr.alloc o)):=fun o=>⟨hcb.nw ((Fr.refl _ wr).alloc o),hfr.alloc o⟩
    clear hcb hfr
    have hV:(wr.alloc (.cells #[.int .u64 x.1,.int .i64 x.2] 54)).heap[wr.heap.size]? = some (.cells #[.int .u64 x.1,.int .i64 x.2] 54 (0,0)):=heap_alloc_new wr _
    obtain ⟨hcbA,hfrA⟩:=hA.out (.cells #[.int .u64 x.1,.int .i64 x.2] 54)
    have hgV:g ≠ wr.heap.size:=by omega
    go_upto_region 8 with fail
    clear hA c1 c2
    generalize wr.alloc (.cells #[.int .u64 x.1,.int .i64 x.2] 54) = W at *
    generalize wr.heap.size = V at *
    have hgV:Hid (g ≠ V):=hgV
    have v1:W.cell? ⟨V,0,none⟩ = some (.int .u64 x.1):=cell_blk hV rfl
    have v2:W.cell? ⟨V,1,none⟩ = some (.int .i64 x.2):=cell_blk hV rfl
    have hcv:Hid _:=hv.out W zs x (hfr1.trans hfrA (fun _ h=>.inl h)) hzl.out hcbA hxm
    cases hb:P x with
    | true =>
     rw [hb] at hcv
     have hdl':Hid (DlP P xs zs (j + 1) i):=hdl.out.skip (by rw [hn.out];exact hlt) (by rw [← hx.out];exact hb)
     clear hx hdl hb
     go_wp2_with (go_at_call 52;refine Calls.mono hcv.out ?_;rintro e w3 ⟨rfl,hnw3⟩;refine stop_here ?_)
     unfold Hid
     have hcb3:=hcbA.nw hnw3
     have hfr3:=fr_nw hfrA hnw3
     clear hcv v1 v2 hV hcbA hfrA hnw3
     go_wp2
     go_roundw
     case rel=>exact ⟨i,j + 1,zs,rfl,by go_num,by omega,by omega,hdl',hcb3,hfr3⟩
     case measure=>simp [intOf];omega
    | false =>
     rw [hb] at hcv
     have hdl':Hid (DlP P xs (zs.set i (gt xs j)) (j + 1) (i + 1)):=hdl.out.put (by rw [hn.out];exact hlt) (by rw [← hx.out];exact hb)
     rw [← hx.out] at hdl'
     clear hx hdl hb
     go_wp2_with (go_at_call 52;refine Calls.mono hcv.out ?_;rintro e w3 ⟨rfl,hnw3⟩;refine stop_here ?_)
     unfold Hid
     have hcb3:=hcbA.nw hnw3
     have hfr3:=fr_nw hfrA hnw3
     have hV3:w3.heap[V]? = some (.cells #[.int .u64 x.1,.int .i64 x.2] 54 (0,0)):=(hnw3.block V (heap_lt hV) (fun h=>h)).trans hV
     clear hcv v1 v2 hV hcbA hfrA hnw3
     have v1:w3.cell? ⟨V,0,none⟩ = some (.int .u64 x.1):=cell_blk hV3 rfl
     have v2:w3.cell? ⟨V,1,none⟩ = some (.int .i64 x.2):=cell_blk hV3 rfl
     have hcb4:Hid _:=hcb3.set i (by rw [hzl.out];omega) x
     have hfr4:Hid (∀ u1 u2,Fr (fun k=>k = g) w1 ((w3.setCell ⟨g,i * 2,none⟩ u1).setCell ⟨g,i * 2 + 1,none⟩ u2)):=fun u1 u2=>(hfr3.setCell (p:=⟨g,_,none⟩) (.inl rfl) _).setCell (p:=⟨g,_,none⟩) (.inl rfl) _
     obtain ⟨d1,d2⟩:=hcb3.get i (by rw [hzl.out];omega)
     generalize zs[i]'(by rw [hzl.out];omega) = z at *
     have f1:∀ k,w3.frozen? ⟨g,k,none⟩ = false:=fun k=>hcb3.free k
     have hin:i < n:=by omega
     clear hV3 hcb3 hfr3
     go_wp2
     go_roundw
     case rel=>exact ⟨i + 1,j + 1,_,by go_num,by go_num,by omega,by omega,hdl',hcb4.out,hfr4.out _ _⟩
     case measure=>simp [intOf];omega
   ·have hjn:j = n:=by omega
    have hclr:=fun ty=>run_clearK hcb i (cap - i) ty (by rw [hzl.out];omega)
    rw [hzl.out] at hclr
    have hcl:=hcb.clear i (by rw [hzl.out];omega)
    have hxt:xs.take j = xs:=by rw [hjn,← hn.out,List.take_length]
    have hdd:=hdl.out.low2
    rw [hdl.out.low,hzl.out,hxt] at hcl
    rw [hxt] at hdd
    have hfr4:=fr_setCells (g:=g) (S:=fun k=>k = g) (.inl rfl) (ccells (List.replicate (n - i) (0,0))) (i * 2) wr hfr
    have hcl:Hid _:=hcl
    have hdd:Hid _:=hdd
    have hfr4:Hid _:=hfr1.trans hfr4 (fun _ h=>.inl h)
    have hcap:¬ cap = i:=by omega
    have hin:i < n:=by omega
    clear hdl hcb hfr hjn hxt hfr1
    generalize ccells (List.replicate (n - i) (0,0)) = Z at *
    generalize hW:wr.setCells g (i * 2) Z = W at *
    replace hW:Hid _:=hW
    go_wp2
    go_ret
    exact ⟨i,_,rfl,hcl.out,hdd.out,by omega,hfr4.out⟩

end Go.Proofs.Ytgmfofngmfekbaa

namespace Go.Proofs.Ytgmfofngmfekbaa
set_option linter.unusedVariables false
set_option linter.unusedSimpArgs false
set_option maxRecDepth 20000
open Go.RowKit

/-- The block of a row that begins with these things. -/
def RowT (w:World) (g:Nat) (ys:List TC) (tl:List Value):Prop:=w.heap[g]? = some (.cells (tcs ys ++ tl).toArray 34 (0,0))
theorem RowT.fr {w w':World} {g:Nat} {ys:List TC} {tl:List Value} (h:RowT w g ys tl) {S:Nat→Prop} (n:Fr S w w') (hS:¬ S g):RowT w' g ys tl:=(n.block g (heap_lt h) hS).trans h
theorem RowT.nw {w w':World} {g:Nat} {ys:List TC} {tl:List Value} (h:RowT w g ys tl) (n:Nw w w'):RowT w' g ys tl:=h.fr n (fun h=>h)
theorem rowT_of {w:World} {g:Nat} {ys:List TC} (h:RowB w g ys):RowT w g ys []:=by unfold RowT;rw [List.append_nil];exact h
theorem RowT.cell {w:World} {g:Nat} {ys:List TC} {tl:List Value} (h:RowT w g ys tl) {k j:Nat} (hk:k < ys.length) {v:Value} (hv:(tcC ys[k])[j]? = some v):w.cell? ⟨g,k * 26 + j,none⟩ = some v:=by
 have h1:=tcs_get ys k hk j v hv
 have h2:=(List.getElem?_eq_some_iff.1 h1).1
 exact cell_blk h (by rw [List.getElem?_toArray,List.getElem?_append_left h2];exact h1)
theorem RowT.range {w:World} {g:Nat} {ys:List TC} {tl:List Value} (h:RowT w g ys tl) {k:Nat} (hk:k < ys.length):w.rangeAt g (k * 26) (tcC ys[k]):=fun _ _ hv=>h.cell hk hv
theorem RowT.tsl {w:World} {g:Nat} {ys:List TC} {tl:List Value} {Y:Nat→Prop} {cap:Nat} (h:RowT w g ys tl) (hl:ys.length ≤ cap) (hc:cap ≤ 9223372036854775807) (ha:∀ y ∈ ys,y.At Y w):TSl (fun b=>b = g) Y w (.slice (some ⟨g,0,none⟩) ys.length cap) ys:=by
 refine ⟨⟨_,_,rfl,⟨hl,by unfold maxLen;exact hc⟩,fun e=>by simp at e,fun i c hi=>⟨g,0,rfl,rfl,?_⟩⟩,ha⟩
 rw [Nat.zero_add]
 have h2:=(List.getElem?_eq_some_iff.1 hi).1
 exact cell_blk h (by rw [List.getElem?_toArray,List.getElem?_append_left h2];exact hi)
theorem tcs_set:∀ (ys:List TC) (k j:Nat) (_:j < 26) (hk:k < ys.length) (y:TC) (v:Value) (_:tcC y = (tcC ys[k]).set j v),(tcs ys).set (k * 26 + j) v = tcs (ys.set k y)
 | [],_,_,_,hk,_,_,_=>absurd hk (Nat.not_lt_zero _)
 | x :: ys,0,j,hj,_,y,v,e=>by
  have e2:tcC y = (tcC x).set j v:=e
  rw [Nat.zero_mul,Nat.zero_add,List.set_cons_zero,tcs_cons,tcs_cons,List.set_append_left _ _ (by rw [tcC_length];exact hj),e2]
 | x :: ys,k + 1,j,hj,hk,y,v,e=>by
  have e2:tcC y = (tcC (ys[k]'(by simpa using hk))).set j v:=e
  have ih:=tcs_set ys k j hj (by simpa using hk) y v e2
  rw [List.set_cons_succ,tcs_cons,tcs_cons,List.set_append_right _ _ (by rw [tcC_length];omega),tcC_length,show (k + 1) * 26 + j - 26 = k * 26 + j by omega,ih]
theorem RowT.setc {w:World} {g:Nat} {ys:List TC} {tl:List Value} (h:RowT w g ys tl) {k j:Nat} (hj:j < 26) (hk:k < ys.length) {y:TC} {v:Value} (e:tcC y = (tcC ys[k]).set j v):RowT (w.setCell ⟨g,k * 26 + j,none⟩ v) g (ys.set k y) tl:=by
 have h1:=blk_setCell (i:=k * 26 + j) (v:=v) h
 unfold RowT
 rw [h1]
 congr 2
 apply Array.toList_inj.1
 rw [Array.toList_setIfInBounds,List.set_append_left _ _ (by rw [tcs_length];omega),tcs_set ys k j hj hk y v e]
theorem tcs_same {ys:List TC} {k:Nat} (hk:k < ys.length) {y:TC} (e:tcC y = tcC ys[k]):tcs (ys.set k y) = tcs ys:=by
 have h0:(0:Nat) < (tcC ys[k]).length:=by rw [tcC_length];decide
 have e2:tcC y = (tcC ys[k]).set 0 ((tcC ys[k])[0]'h0):=by rw [List.set_getElem_self];exact e
 have h1:=tcs_set ys k 0 (by decide) hk y _ e2
 have hg:=tcs_get ys k hk 0 _ (List.getElem?_eq_getElem h0)
 obtain ⟨hl,hv⟩:=List.getElem?_eq_some_iff.1 hg
 rw [← h1,← hv,List.set_getElem_self]
theorem RowT.same {w:World} {g:Nat} {ys:List TC} {tl:List Value} (h:RowT w g ys tl) {k:Nat} (hk:k < ys.length) {y:TC} (e:tcC y = tcC ys[k]):RowT w g (ys.set k y) tl:=by
 unfold RowT at h ⊢
 rw [tcs_same hk e]
 exact h
/-- A row of one's own that is not empty. -/
theorem GRow.row {S:Nat} {Z:Nat→Prop} {w:World} {v:Value} {ys:List TC} (h:GRow S Z w v ys) (hne:0 < ys.length):∃ g cap tl,v = .slice (some ⟨g,0,none⟩) ys.length cap∧S ≤ g∧ys.length ≤ cap∧cap ≤ 9223372036854775807∧RowT w g ys tl∧∀ y ∈ ys,y.At (fun b=>Z b∧b ≠ g) w:=by
 obtain ⟨hl,h1 | ⟨g,cap,cur,hv,h2,h3,h4,h5,h6,h7⟩⟩:=h.own
 ·have:=h1.2;omega
 ·have hits:=h.its
  rw [hv] at hits
  refine ⟨g,cap,cur.toList.drop (ys.length * 26),hv,h2,h4,(by unfold maxLen at h5;exact h5),?_,fun y hy=>(hits y hy).mono (fun b hb _=>⟨hb.1,fun e=>hb.2 (by rw [e];rfl)⟩)⟩
  unfold RowT
  rw [← h7,List.take_append_drop,Array.toArray_toList]
  exact h3

/-- What links hang on. -/
def keyT (x:TC):Int × Int × Int:=(x.t.id,x.t.kind,x.t.quota)
def kT (x:TC):TC:=cT { zeroT with id:=x.t.id,kind:=x.t.kind,quota:=x.t.quota }
theorem kT_keep:KeepX kT:=⟨fun _=>rfl,fun _=>rfl,fun _=>rfl⟩
theorem key_fits {a b:List TC} (h:a.map keyT = b.map keyT) (did:Int) (l:Cat):fitsX a did l = fitsX b did l:=by
 have e:∀ l:List TC,l.map kT = (l.map keyT).map (fun p=>cT { zeroT with id:=p.1,kind:=p.2.1,quota:=p.2.2 }):=fun l=>by rw [List.map_map];rfl
 rw [← fits_map kT_keep a,← fits_map kT_keep b,e,e,h]
theorem key_pw {a b:List TC} (h:a.map keyT = b.map keyT) (hp:PwX b):PwX a:=by
 have h2:a.map (fun x=>x.t.id) = b.map (fun x=>x.t.id):=by
  have:=congrArg (List.map Prod.fst) h
  rw [List.map_map,List.map_map] at this
  exact this
 have h3:(b.map (fun x:TC=>x.t.id)).Pairwise (· < ·):=List.pairwise_map.2 hp
 rw [← h2] at h3
 exact List.pairwise_map.1 h3
theorem key_same {a b:List TC} (h:a.map (·.t) = b.map (·.t)):a.map keyT = b.map keyT:=by
 have e:∀ l:List TC,l.map keyT = (l.map (·.t)).map (fun t=>(t.id,t.kind,t.quota)):=fun l=>by rw [List.map_map];rfl
 rw [e,e,h]

/-- The first k without the links that don't fit. -/
def mixX (xs:List TC) (k:Nat):List TC:=(xs.take k).map (cutF xs) ++ xs.drop k
theorem mix_zero (xs:List TC):mixX xs 0 = xs:=by simp [mixX]
theorem mix_all (xs:List TC):mixX xs xs.length = cutX xs:=by simp [mixX,cutX]
theorem mix_len {xs:List TC} {k:Nat} (h:k ≤ xs.length):(mixX xs k).length = xs.length:=by
 unfold mixX
 rw [List.length_append,List.length_map,List.length_take,List.length_drop]
 omega
theorem mix_step {xs:List TC} {k:Nat} (h:k < xs.length):(mixX xs k).set k (cutF xs xs[k]) = mixX xs (k + 1):=by
 unfold mixX
 have hl:((xs.take k).map (cutF xs)).length = k:=by rw [List.length_map,List.length_take];omega
 rw [List.set_append_right _ _ (by omega),hl,Nat.sub_self,List.drop_eq_getElem_cons h,List.set_cons_zero,List.take_succ_eq_append_getElem h,List.map_append,List.append_assoc]
 rfl
theorem mix_at {xs:List TC} {k:Nat} (h:k < xs.length):(mixX xs k)[k]? = some xs[k]:=by
 unfold mixX
 have hl:((xs.take k).map (cutF xs)).length = k:=by rw [List.length_map,List.length_take];omega
 rw [List.getElem?_append_right (by omega),hl,Nat.sub_self,List.getElem?_drop,Nat.add_zero,List.getElem?_eq_getElem h]
theorem mix_key (xs:List TC) (k:Nat):(mixX xs k).map keyT = xs.map keyT:=by
 unfold mixX
 have e:(keyT ∘ cutF xs) = keyT:=rfl
 rw [List.map_append,List.map_map,e,← List.map_append,List.take_append_drop]
theorem mix_t {xs zs:List TC} {k:Nat} (h:zs.map (·.t) = (mixX xs k).map (·.t)) (hk:k < xs.length) (hz:k < zs.length):zs[k].t = xs[k].t:=by
 have h1:(zs.map (·.t))[k]? = ((mixX xs k).map (·.t))[k]?:=by rw [h]
 rw [List.getElem?_map,List.getElem?_map,mix_at hk,List.getElem?_eq_getElem hz] at h1
 simpa using h1

/-- The links of a row picked out: what lies where, the row itself aside. -/
structure MPart (g Hi k m:Nat) (zs:List TC) (w:World):Prop where
 ge:g < m
 old:∀ i (h:i < zs.length),i < k→zs[i].At (fun b=>g < b∧b < m) w
 lay:Lay w m Hi (zs.drop k)
theorem MPart.fr {g Hi k m:Nat} {zs:List TC} {w w':World} (h:MPart g Hi k m zs w) {S:Nat→Prop} (n:Fr S w w') (hS:∀ b,S b→b ≤ g):MPart g Hi k m zs w' :=
 ⟨h.ge,fun i hi hk=>(h.old i hi hk).keep n (fun b hb _ hs=>by have:=hS b hs;have:=hb.1;omega) (fun b hb _=>hb),lay_fr n h.lay (fun b hs=>.inl (by have:=hS b hs;have:=h.ge;omega))⟩
theorem MPart.nw {g Hi k m:Nat} {zs:List TC} {w w':World} (h:MPart g Hi k m zs w) (n:Nw w w'):MPart g Hi k m zs w':=h.fr n (fun _ hb=>hb.elim)
theorem MPart.all {g Hi k m:Nat} {zs:List TC} {w:World} (h:MPart g Hi k m zs w):∀ z ∈ zs,z.At (fun b=>g < b∧b < Hi) w:=fun z hz=>by
 obtain ⟨i,hi,rfl⟩:=List.getElem_of_mem hz
 have hge:=h.ge
 have hle:=lay_le h.lay
 by_cases hk:i < k
 ·exact (h.old i hi hk).mono (fun b hb _=>⟨hb.1,by have:=hb.2;omega⟩)
 ·have hm:zs[i] ∈ zs.drop k:=by
   rw [List.mem_iff_getElem?]
   exact ⟨i - k,by rw [List.getElem?_drop,show k + (i - k) = i by omega,List.getElem?_eq_getElem hi]⟩
  exact (lay_at h.lay _ hm).mono (fun b hb _=>⟨by have:=hb.1;omega,hb.2⟩)
theorem MPart.next {g Hi k m:Nat} {zs:List TC} {w:World} (h:MPart g Hi k m zs w) (hk:k < zs.length):∃ m2,m ≤ m2∧Cop m m2 w zs[k]∧Lay w m2 Hi (zs.drop (k + 1)):=by
 have h1:=h.lay
 rw [List.drop_eq_getElem_cons hk] at h1
 exact h1
/-- One thing with other links. -/
def linkT (x:TC) (ls:List Cat) (v:Value):TC:=⟨{ x.t with links:=ls },x.l,x.c,v,x.d⟩
theorem link_cells (x:TC) (ls:List Cat) (v:Value):tcC (linkT x ls v) = (tcC x).set 8 v:=rfl
theorem link_id (x:TC) (ls:List Cat):tcC (linkT x ls x.k) = tcC x:=rfl
theorem link_at {m m2:Nat} {w w':World} {x:TC} (h:Cop m m2 w x) (f:Fr (fun b=>x.k.ownBlock = some b) w w') {ls:List Cat} {v:Value} (hv:CSl (fun b=>m ≤ b∧b < m2) w' v ls):(linkT x ls v).At (fun b=>m ≤ b∧b < m2) w':=by
 have l:=owns_fr2 h.c.l f (own_apart h.c.l h.c.k (by decide))
 have c:=owns_fr2 h.c.c f (own_apart h.c.c h.c.k (by decide))
 have d:=owns_fr2 h.c.d f (own_apart h.c.d h.c.k (by decide))
 exact ⟨slp_mono (slp_of_owns l) (fun b e=>⟨(l.lt b e).1,h.hl b e⟩),slp_mono (slp_of_owns c) (fun b e=>⟨(c.lt b e).1,h.hc b e⟩),hv,slp_mono (slp_of_owns d) (fun b e=>⟨(d.lt b e).1,h.hd b e⟩)⟩
theorem MPart.step {g Hi k m m2:Nat} {zs:List TC} {w w':World} (h:MPart g Hi k m zs w) (hk:k < zs.length) (hm:m ≤ m2) (hc:Cop m m2 w zs[k]) (hl:Lay w m2 Hi (zs.drop (k + 1)))
  (f:Fr (fun b=>zs[k].k.ownBlock = some b) w w') {ls:List Cat} {v:Value} (hv:CSl (fun b=>m ≤ b∧b < m2) w' v ls):MPart g Hi (k + 1) m2 (zs.set k (linkT zs[k] ls v)) w':=by
 have hge:=h.ge
 refine ⟨by omega,fun i hi hik=>?_,?_⟩
 ·rw [List.length_set] at hi
  by_cases e:k = i
  ·subst e
   rw [List.getElem_set_self]
   exact (link_at hc f hv).mono (fun b hb _=>⟨by have:=hb.1;omega,hb.2⟩)
  ·rw [List.getElem_set_ne e]
   exact (h.old i hi (by omega)).keep f (fun b hb _ hs=>by have:=(hc.c.k.lt b hs).1;have:=hb.2;omega) (fun b hb _=>⟨hb.1,by have:=hb.2;omega⟩)
 ·rw [List.drop_set_of_lt (by omega)]
  exact lay_fr f hl (fun b hs=>.inl (hc.hk b hs))
theorem lb_csl {w:World} {g n cap:Nat} {xs:List Cat} {tl:List Value} (h:LB w g xs tl) (hn:xs.length = n) (hc:n ≤ cap) (hm:cap ≤ 9223372036854775807):CSl (fun b=>b = g) w (.slice (some ⟨g,0,none⟩) n cap) xs :=
 ⟨some ⟨g,0,none⟩,cap,by rw [hn],⟨by rw [hn];exact hc,by unfold maxLen;exact hm⟩,(fun e=>by cases e),fun i c hi=>⟨g,0,rfl,rfl,by rw [Nat.zero_add];exact cell_blk h (by rw [List.getElem?_toArray,List.getElem?_append_left (List.getElem?_eq_some_iff.1 hi).1];exact hi)⟩⟩

set_option maxHeartbeats 1600000 in
theorem c_delN (p q:Nat) (w:World) :
  Calls Try.prog 51 #[.slice none 0 0,.func (.func 52) #[] #[.pointer (some ⟨p,0,none⟩),.pointer (some ⟨q,0,none⟩)]] w fun e w'=>e = .returned (.slice none 0 0)∧Nw w w':=by
 have hidx:Hid _:=c_idxM (ls:=[]) (fun _=>false) p q w (csl_nil (fun _=>True) w) (fun w1 c n1 hc=>absurd hc List.not_mem_nil)
 go_enter Try.func51,Try.ntmps51
 go_wp2_with (go_at_call 73;refine Calls.mono hidx.out ?_;rintro e w1 ⟨r,rfl,hf,hnw⟩;refine stop_here ?_)
 unfold Hid
 clear hidx
 have hr:r = -1:=by
  rcases hf with ⟨h,_⟩ | ⟨k,hk,_⟩
  ·exact h
  ·exact absurd hk (Nat.not_lt_zero _)
 subst hr
 clear hf
 go_wp2
 go_ret
 exact ⟨rfl,hnw⟩
/-- Links of one's own, those that the closure picks deleted. -/
theorem c_delK {m m2:Nat} {x:TC} (P:Cat→Bool) (p q:Nat) (w:World) (h:Cop m m2 w x)
  (hv:∀ (w1:World) (zs:List Cat) (c:Cat),Fr (fun b=>x.k.ownBlock = some b) w w1→CSl (fun b=>m ≤ b∧b < m2) w1 x.k zs→c ∈ x.t.links→Calls Try.prog 52 #[.agg #[.int .u64 c.1,.int .i64 c.2],.pointer (some ⟨p,0,none⟩),.pointer (some ⟨q,0,none⟩)] w1 fun e w2=>e = .returned (.bool (P c))∧Nw w1 w2) :
  Calls Try.prog 51 #[x.k,.func (.func 52) #[] #[.pointer (some ⟨p,0,none⟩),.pointer (some ⟨q,0,none⟩)]] w fun e w'=>∃ v,e = .returned v∧CSl (fun b=>m ≤ b∧b < m2) w' v (x.t.links.filter (fun c=>!P c))∧Fr (fun b=>x.k.ownBlock = some b) w w':=by
 have hk:=h.c.k
 have hhk:=h.hk
 obtain ⟨hl,⟨h1,h2⟩ | ⟨g,cap,cur,h1,h2,h3,h4,h5,h6,h7⟩⟩:=hk
 ·have e0:x.t.links = []:=List.length_eq_zero_iff.1 h2
  rw [h1,e0]
  refine Calls.mono (c_delN p q w) ?_
  rintro e w' ⟨rfl,n⟩
  exact ⟨_,rfl,csl_nil _ _,fr_of_nw n⟩
 ·rw [h1] at hv hhk ⊢
  have hgm:g < m2:=hhk g rfl
  have hLB:LB w g x.t.links (cur.toList.drop (x.t.links.length * 2)):=by
   unfold LB
   rw [← h7,List.take_append_drop,Array.toArray_toList]
   exact h3
  have hm5:cap ≤ 9223372036854775807:=by unfold maxLen at h5;exact h5
  have hS:(fun b=>(Value.slice (some ⟨g,0,none⟩) x.t.links.length cap).ownBlock = some b) = (fun b=>b = g):=by
   funext b
   exact propext ⟨fun e=>by have e2:some g = some b:=e;exact (Option.some.inj e2).symm,fun e=>by rw [e];rfl⟩
  rw [hS] at hv ⊢
  refine Calls.mono (c_delF P p q cap x.t.links.length w hLB rfl h4 hm5 (fun w1 zs c f hz hb hc=>hv w1 zs c f ((lb_csl hb hz h4 hm5).mono (fun b hb _=>by have e:b = g:=hb;subst e;exact ⟨h2,hgm⟩)) hc)) ?_
  rintro e w' ⟨k,tl',rfl,hb,hkl,hkn,f⟩
  exact ⟨_,rfl,(lb_csl hb hkl (by omega) hm5).mono (fun b hb _=>by have e:b = g:=hb;subst e;exact ⟨h2,hgm⟩),f⟩

/-- The first k with their Next raised. -/
def mixR (os:List TC) (k:Nat):List TC:=(os.take k).map (raiseF os) ++ os.drop k
theorem mixR_zero (os:List TC):mixR os 0 = os:=by simp [mixR]
theorem mixR_all (os:List TC):mixR os os.length = raiseX os:=by simp [mixR,raiseX]
theorem mixR_len {os:List TC} {k:Nat} (h:k ≤ os.length):(mixR os k).length = os.length:=by
 unfold mixR
 rw [List.length_append,List.length_map,List.length_take,List.length_drop]
 omega
theorem mixR_step {os:List TC} {k:Nat} (h:k < os.length):(mixR os k).set k (raiseF os os[k]) = mixR os (k + 1):=by
 unfold mixR
 have hl:((os.take k).map (raiseF os)).length = k:=by rw [List.length_map,List.length_take];omega
 rw [List.set_append_right _ _ (by omega),hl,Nat.sub_self,List.drop_eq_getElem_cons h,List.set_cons_zero,List.take_succ_eq_append_getElem h,List.map_append,List.append_assoc]
 rfl
theorem mixR_at {os:List TC} {k:Nat} (h:k < os.length):∃ h2:k < (mixR os k).length,(mixR os k)[k] = os[k]:=by
 have hl:((os.take k).map (raiseF os)).length = k:=by rw [List.length_map,List.length_take];omega
 have e:(mixR os k)[k]? = some os[k]:=by
  unfold mixR
  rw [List.getElem?_append_right (by omega),hl,Nat.sub_self,List.getElem?_drop,Nat.add_zero,List.getElem?_eq_getElem h]
 exact List.getElem?_eq_some_iff.1 e
theorem raise_at {Y:Nat→Prop} {w:World} {os:List TC} {x:TC} (h:x.At Y w):(raiseF os x).At Y w:=by
 unfold raiseF
 split
 ·exact ⟨h.l,h.c,h.k,h.d⟩
 ·exact h
theorem raise_cells (os:List TC) (x:TC):tcC (raiseF os x) = (tcC x).set 7 (.int .i64 (raiseF os x).t.next):=by
 unfold raiseF
 split <;> rfl
theorem raise_max {os:List TC} {x:TC} (h:RightT x.t):(raiseF os x).t.next = if restF os x > x.t.next then restF os x else x.t.next:=by
 unfold raiseF restF
 by_cases hk:x.t.kind = 1
 ·rw [if_pos hk]
  by_cases hn:x.t.next < (givenX os x.t.id:Int)
  ·rw [if_pos ⟨hk,hn⟩,if_pos hn]
  ·rw [if_neg (fun e=>hn e.2),if_neg (by omega)]
 ·rw [if_neg (fun e=>hk e.1),if_neg hk,right_next0 h hk]
  rfl
theorem mixR_mem {P:TC→Prop} {os:List TC} {k:Nat} (h:∀ x ∈ os,P x) (hr:∀ x ∈ os,P (raiseF os x)):∀ x ∈ mixR os k,P x:=fun x hx=>by
 unfold mixR at hx
 rcases List.mem_append.1 hx with h1 | h1
 ·obtain ⟨y,hy,rfl⟩:=List.mem_map.1 h1
  exact hr y ((List.take_sublist _ _).mem hy)
 ·exact h x ((List.drop_sublist _ _).mem h1)
end Go.Proofs.Ytgmfofngmfekbaa

namespace Go.Proofs.Ytgmfofngmfekbaa
set_option linter.unusedVariables false
set_option linter.unusedSimpArgs false
set_option maxRecDepth 20000
open Go.RowKit

theorem set_key {zs:List TC} {k:Nat} (hk:k < zs.length) (ls:List Cat) (v:Value):(zs.set k (linkT zs[k] ls v)).map keyT = zs.map keyT:=by
 rw [List.map_set]
 have e:keyT (linkT zs[k] ls v) = (zs.map keyT)[k]'(by rw [List.length_map];exact hk):=by rw [List.getElem_map];rfl
 rw [e,List.set_getElem_self]

/-- What a round of Mend leans on. -/
structure MRound (xs zs:List TC) (x:TC) (g N Hi k m m2:Nat) (wr:World):Prop where
 cop:Cop m m2 wr x
 ge:g < m
 hi:m2 ≤ Hi
 step:∀ V W v ls,Nw wr V→Fr (fun b=>x.k.ownBlock = some b) V W→CSl (fun b=>m ≤ b∧b < m2) W v ls→MPart g Hi (k + 1) m2 (zs.set k (linkT x ls v)) W
 row:∀ V W v ls,Nw wr V→Fr (fun b=>x.k.ownBlock = some b) V W→RowT (W.setCell ⟨g,k * 26 + 8,none⟩ v) g (zs.set k (linkT x ls v)) []
 cell:∀ V W,Nw wr V→Fr (fun b=>x.k.ownBlock = some b) V W→W.cell? ⟨g,k * 26 + 8,none⟩ = some x.k∧W.frozen? ⟨g,k * 26 + 8,none⟩ = false
 clo:∀ V W ls,Nw wr V→Fr (fun b=>x.k.ownBlock = some b) V W→CSl (fun b=>m ≤ b∧b < m2) W x.k ls→TSl (fun b=>b = g) (fun b=>g < b∧b < Hi) W (rowV g N) (zs.set k (linkT x ls x.k))
 fit:∀ ls v did c,fitsX (zs.set k (linkT x ls v)) did c = fitsX xs did c
 pw:∀ ls v,PwX (zs.set k (linkT x ls v))
 mix:∀ v,(zs.set k (linkT x (x.t.links.filter (fun c=>!(!fitsX xs x.t.id c))) v)).map (·.t) = (mixX xs (k + 1)).map (·.t)
 links:∀ c ∈ x.t.links,0 ≤ c.1∧c.1 < 18446744073709551616
theorem mround {xs zs:List TC} {g N Hi k m:Nat} {wr:World} (hN:zs.length = N) (hxN:xs.length = N) (hk:k < zs.length) (hn:N ≤ 1000000) (hpx:PwX xs) (hM:MendX xs) (hR:RowT wr g zs []) (hP:MPart g Hi k m zs wr) (hs:zs.map (·.t) = (mixX xs k).map (·.t)) :
  ∃ m2,MRound xs zs zs[k] g N Hi k m m2 wr:=by
 obtain ⟨m2,hm2,hcop,hlay⟩:=hP.next hk
 have hge:=hP.ge
 have hkx:k < xs.length:=by omega
 have hzt:=mix_t hs hkx hk
 have hkey:∀ ls v,(zs.set k (linkT zs[k] ls v)).map keyT = xs.map keyT:=fun ls v=>by rw [set_key hk,key_same hs,mix_key]
 have hrow:∀ V W,Nw wr V→Fr (fun b=>zs[k].k.ownBlock = some b) V W→RowT W g zs []:=fun V W n f=>(hR.nw n).fr f (fun e=>by have:=(hcop.c.k.lt g e).1;omega)
 have hstep:∀ V W v ls,Nw wr V→Fr (fun b=>zs[k].k.ownBlock = some b) V W→CSl (fun b=>m ≤ b∧b < m2) W v ls→MPart g Hi (k + 1) m2 (zs.set k (linkT zs[k] ls v)) W:=fun V W v ls n f hv =>
  (hP.nw n).step hk hm2 (hcop.fr n (fun b hb=>hb.elim)) (hlay.nw n) f hv
 refine ⟨m2,hcop,hge,lay_le hlay,hstep,fun V W v ls n f=>(hrow V W n f).setc (by decide) hk (link_cells _ _ _),fun V W n f=>⟨(hrow V W n f).cell hk rfl,free_blk (hrow V W n f)⟩,fun V W ls n f hv=>?_,
  fun ls v did c=>key_fits (hkey ls v) did c,fun ls v=>key_pw (hkey ls v) hpx,fun v=>?_,fun c hc=>?_⟩
 ·have h1:=((hrow V W n f).same hk (link_id zs[k] ls)).tsl (cap:=N) (by rw [List.length_set,hN];exact Nat.le_refl _) (by omega) (hstep V W _ ls n f hv).all
  rw [List.length_set,hN] at h1
  exact h1
 ·rw [← mix_step hkx,List.map_set,List.map_set,hs]
  congr 1
  show { zs[k].t with links:=zs[k].t.links.filter (fun c=>!(!fitsX xs zs[k].t.id c)) } = { xs[k].t with links:=xs[k].t.links.filter (fun l=>fitsX xs xs[k].t.id l) }
  rw [hzt]
  have e:xs[k].t.links.filter (fun c=>!(!fitsX xs xs[k].t.id c)) = xs[k].t.links.filter (fun l=>fitsX xs xs[k].t.id l):=List.filter_congr (fun c _=>Bool.not_not _)
  rw [e]
 ·rw [hzt] at hc
  have h1:=right_links (hM.each k hkx) c hc
  exact ⟨by have:=h1.1;omega,by have:=h1.2;omega⟩

theorem mend_mid {xs zs:List TC} (hM:MendX xs) (h:zs.map (·.t) = (cutX xs).map (·.t)) :
  PwX zs∧(∃ h0:0 < zs.length,zs[0].t.id = 1)∧(∀ z ∈ zs,RightT z.t)∧(outX zs (marksX zs)).map (·.t) = (keptX xs).map (·.t)∧0 < (outX zs (marksX zs)).length:=by
 have hpx:=rise_pw hM.rise
 have hlc:(cutX xs).length = xs.length:=List.length_map ..
 have h0:0 < zs.length:=by rw [same_len h,hlc];exact hM.ne
 have hid:zs[0].t.id = 1:=by
  have e1:=same_at h h0 (by rw [hlc];exact hM.ne)
  rw [e1]
  have e2:(cutX xs)[0]'(by rw [hlc];exact hM.ne) = cutF xs (xs[0]'hM.ne):=List.getElem_map ..
  rw [e2]
  exact hM.id
 have hr:∀ z ∈ zs,RightT z.t:=same_mem h (fun y hy=>by
  obtain ⟨x,hx,rfl⟩:=List.mem_map.1 hy
  obtain ⟨i,hi,rfl⟩:=List.getElem_of_mem hx
  exact right_keep (hM.each i hi) _)
 have hk:(outX zs (marksX zs)).map (·.t) = (keptX xs).map (·.t):=by
  unfold keptX
  rw [same_marks h]
  exact same_outX h _
 refine ⟨same_pw h (pw_map (cut_keep xs) hpx),⟨h0,hid⟩,hr,hk,?_⟩
 rw [same_len hk]
 have hs:=(mend_sound hM).ne
 unfold mendX raiseX at hs
 rw [List.length_map] at hs
 exact hs
end Go.Proofs.Ytgmfofngmfekbaa
