/-
  GrM, ThZ0, DrB, DrU, DrI, DrI2, DrD, DrA, DrA2: in one text.
-/
import Derived.Test.YtgmfofngmfekbaaThGbS
import Derived.Test.YtgmfofngmfekbaaThGdS
import Derived.Deep.LoopGhost
import Derived.Deep.DeepAppendWide
import Derived.ArgAppend
import Derived.Lib.AppendZerosOnto
import Derived.Test.YtgmfofngmfekbaaLabS
namespace Go.Proofs.Ytgmfofngmfekbaa
set_option linter.unusedVariables false
set_option linter.unusedSimpArgs false
set_option maxRecDepth 20000
open Go.RowKit

/-- A thing with the slices that hold its lists. -/
structure TC where
 t:Th
 l:Value
 c:Value
 k:Value
 d:Value

def tcC (x:TC):List Value:=thC x.t x.l x.c x.k x.d
def tcV (x:TC):Value:=thV x.t x.l x.c x.k x.d
def tcs (xs:List TC):List Value:=xs.flatMap tcC
def TC.At (Y:Nat→Prop) (w:World) (x:TC):Prop:=ThAt Y w x.t x.l x.c x.k x.d
def zTC:TC:=⟨zeroT,.slice none 0 0,.slice none 0 0,.slice none 0 0,.slice none 0 0⟩

theorem tcC_length (x:TC):(tcC x).length = 26:=rfl
theorem tcs_append (a b:List TC):tcs (a ++ b) = tcs a ++ tcs b:=by simp [tcs]
theorem tcs_one (x:TC):tcs [x] = tcC x:=by simp [tcs]
theorem tcs_cons (x:TC) (xs:List TC):tcs (x :: xs) = tcC x ++ tcs xs:=by simp [tcs]
theorem tcs_length:∀ xs:List TC,(tcs xs).length = xs.length * 26
 | []=>rfl
 | x :: xs=>by
  have:=tcs_length xs
  rw [tcs_cons,List.length_append,this,tcC_length]
  simp
  omega
theorem tcs_get (xs:List TC) (i:Nat) (h:i < xs.length) (j:Nat) (v:Value) (hv:(tcC xs[i])[j]? = some v):(tcs xs)[i * 26 + j]? = some v:=by
 have e:xs = xs.take i ++ ([xs[i]] ++ xs.drop (i + 1)):=by simp
 have hj:j < 26:=(List.getElem?_eq_some_iff.1 hv).1
 have h1:=tcs_length (xs.take i)
 rw [List.length_take,Nat.min_eq_left (by omega)] at h1
 have e2:=congrArg tcs e
 rw [tcs_append,tcs_append,tcs_one] at e2
 rw [e2,List.getElem?_append_right (by omega),List.getElem?_append_left (by rw [h1,tcC_length];omega),h1,show i * 26 + j - i * 26 = j by omega]
 exact hv
theorem tc_one {Y:Nat→Prop} {w:World} {x:TC} (h:x.At Y w):∀ v ∈ tcC x,v.oneCell' = true:=ThAt.one h
theorem tcs_oneCell {Y:Nat→Prop} {w:World} {xs:List TC} (h:∀ x ∈ xs,x.At Y w):∀ v ∈ tcs xs,v.oneCell' = true:=fun v hv=>by
 obtain ⟨x,hx,hv⟩:=List.mem_flatMap.1 hv
 exact tc_one (h x hx) v hv

theorem TC.At.nw {Y:Nat→Prop} {w w':World} {x:TC} (h:x.At Y w) (hf:Nw w w'):x.At Y w':=ThAt.nw h hf
theorem TC.At.keep {X X':Nat→Prop} {w w':World} {x:TC} (h:x.At X w) {S:Nat→Prop} (hf:Fr S w w') (hT:∀ b,X b→b < w.heap.size→¬ S b) (hX:∀ b,X b→b < w.heap.size→X' b):x.At X' w':=ThAt.keep h hf hT hX
theorem TC.At.mono {X X':Nat→Prop} {w:World} {x:TC} (h:x.At X w) (hX:∀ b,X b→b < w.heap.size→X' b):x.At X' w:=ThAt.mono h hX

/-- The slice v holds the things xs: their cells in blocks of the class X, what their lists hold in blocks of the class Y. -/
structure TSl (X Y:Nat→Prop) (w:World) (v:Value) (xs:List TC):Prop where
 s:Slp X w v xs.length (tcs xs)
 a:∀ x ∈ xs,x.At Y w

theorem TSl.form {X Y:Nat→Prop} {w:World} {v:Value} {xs:List TC} (h:TSl X Y w v xs):∃ ao cap,v = .slice ao xs.length cap∧xs.length ≤ cap∧cap ≤ 9223372036854775807:=by
 obtain ⟨ao,cap,rfl,⟨h1,h2⟩,_⟩:=h.s
 exact ⟨ao,cap,rfl,h1,h2⟩
theorem TSl.get {X Y:Nat→Prop} {w:World} {ao:Option Addr} {n cap:Nat} {xs:List TC} (h:TSl X Y w (.slice ao n cap) xs) (k:Nat) (hk:k < xs.length) :
  ∃ q off,ao = some ⟨q,off,none⟩∧X q∧w.rangeAt q (off + k * 26) (tcC xs[k])∧(xs[k]).At Y w:=by
 obtain ⟨ao',cap',hv,_,_,hcs⟩:=h.s
 simp only [Value.slice.injEq] at hv
 obtain ⟨rfl,_,rfl⟩:=hv
 obtain ⟨q,off,h3,h4,h5⟩:=hcs _ _ (tcs_get xs k hk 0 _ rfl)
 refine ⟨q,off,h3,h4,fun j v hv=>?_,h.a _ (List.getElem_mem hk)⟩
 obtain ⟨q',off',h3',_,h5'⟩:=hcs _ _ (tcs_get xs k hk j v hv)
 rw [h3] at h3'
 simp only [Option.some.injEq,Addr.mk.injEq,and_true] at h3'
 obtain ⟨rfl,rfl⟩:=h3'
 rw [Nat.add_assoc]
 exact h5'
theorem TSl.keep {X X' Y Y':Nat→Prop} {w w':World} {v:Value} {xs:List TC} (h:TSl X Y w v xs) {S:Nat→Prop} (hf:Fr S w w') (hT:∀ b,X b→b < w.heap.size→¬ S b) (hX:∀ b,X b→b < w.heap.size→X' b) (hU:∀ b,Y b→b < w.heap.size→¬ S b) (hY:∀ b,Y b→b < w.heap.size→Y' b):TSl X' Y' w' v xs:=by
 refine ⟨?_,fun x hx=>(h.a x hx).keep hf hU hY⟩
 obtain ⟨ao,cap,hv,hc,hn,hcs⟩:=h.s
 refine ⟨ao,cap,hv,hc,hn,fun i c hi=>?_⟩
 obtain ⟨b,off,h1,h2,h3⟩:=hcs i c hi
 have hb:b < w.heap.size:=World.block_lt_of_cell? w _ h3
 exact ⟨b,off,h1,hX b h2 hb,by rw [World.cell?_of_block (w:=w) (hf.block b hb (hT b h2 hb))];exact h3⟩
theorem TSl.nw {X Y:Nat→Prop} {w w':World} {v:Value} {xs:List TC} (h:TSl X Y w v xs) (hf:Nw w w'):TSl X Y w' v xs:=h.keep hf (fun _ _ _=>id) (fun _ h _=>h) (fun _ _ _=>id) (fun _ h _=>h)
theorem TSl.mono {X X' Y Y':Nat→Prop} {w:World} {v:Value} {xs:List TC} (h:TSl X Y w v xs) (hX:∀ b,X b→b < w.heap.size→X' b) (hY:∀ b,Y b→b < w.heap.size→Y' b):TSl X' Y' w v xs:=h.keep (Fr.refl (fun _=>False) w) (fun _ _ _=>id) hX (fun _ _ _=>id) hY
/-- A row of one's own. -/
theorem tsl_own {Y:Nat→Prop} {w:World} {S e m:Nat} {v:Value} {xs:List TC} (h:w.ownsRow S e 26 v m (tcs xs)) (ha:∀ x ∈ xs,x.At Y w):TSl (fun b=>v.ownBlock = some b) Y w v xs:=by
 have h1:=h.1
 rw [tcs_length] at h1
 have:m = xs.length:=by omega
 subst this
 exact ⟨slp_of_owns h,ha⟩
end Go.Proofs.Ytgmfofngmfekbaa

namespace Go.Proofs.Ytgmfofngmfekbaa
set_option linter.unusedVariables false
set_option linter.unusedSimpArgs false
set_option maxRecDepth 20000
open Go.RowKit

theorem Try.builtZ:Try.prog.built 34 [] = some (thC zeroT (.slice none 0 0) (.slice none 0 0) (.slice none 0 0) (.slice none 0 0)).toArray:=by kernel_rfl

end Go.Proofs.Ytgmfofngmfekbaa

namespace Go.Proofs.Ytgmfofngmfekbaa
set_option linter.unusedVariables false
set_option linter.unusedSimpArgs false
set_option maxRecDepth 20000
open Go.RowKit

theorem c_place1 (c:Cat) (id:Int) (w:World):Calls Try.prog 109 #[.agg #[.int .u64 c.1,.int .i64 c.2],.int .u64 id] w fun e w'=>e = .returned (.int .i64 (cmpI c.1 id))∧Nw w w':=by
 have hn:Hid (Nw w (w.alloc (.cells #[.int .u64 c.1,.int .i64 c.2] 54))):=nw_alloc (nw_refl w) _
 go_enter Try.func109,Try.ntmps109
 go_wp2_with (go_at_call 69;refine (c_cmp _ _ _).mono ?_;rintro e w' ⟨rfl,rfl⟩)
 go_ret
 exact ⟨rfl,hn.out⟩

theorem cmpI_eq (a b:Int):(cmpI a b == 0) = (a == b):=by
 unfold cmpI
 split
 ·rename_i h
  have:¬ a = b:=by omega
  simp [this]
 ·split
  ·have:¬ a = b:=by omega
   simp [this]
  ·have:a = b:=by omega
   simp [this]

set_option maxHeartbeats 3200000 in
theorem c_search {X:Nat→Prop} {v:Value} {ls:List Cat} (id:Int) (w:World) (h:CSl X w v ls) (hl:LkOk ls) (hn:ls.length ≤ 1000) :
  Calls Try.prog 108 #[v,.int .u64 id,.func (.func 109) #[] #[]] w fun e w'=>e = .returned (.tuple #[.int .i64 (posL ls id),.bool (hasB ls id)])∧Nw w w':=by
 obtain ⟨ao,cap,rfl,hcl,hcm⟩:=h.form
 have hM:Hid (∀ i j (_:i ≤ j) (hj:j < ls.length),ls[j].1 < id→ls[i].1 < id):=fun i j hij hj hlt=>by
  rcases Nat.eq_or_lt_of_le hij with e | e
  ·simpa [e] using hlt
  ·have:=lk_lt hl i j e hj;omega
 have hP:Hid (∀ i,i ≤ ls.length→(∀ t (h:t < ls.length),t < i→ls[t].1 < id)→(∀ (h:i < ls.length),¬ ls[i].1 < id)→posL ls id = i):=pos_of ls id
 rw [← found_has hl id]
 clear hl
 obtain ⟨N,hN⟩:∃ N,Hid (ls.length = N):=⟨_,rfl⟩
 have hlen:=hN.out
 rw [hlen]
 have hn2:N ≤ 1000:=by omega
 clear hlen hn
 go_enter Try.func108,Try.ntmps108
 go_wp2
 go_loopg [9,10] N (fun kx s9 s10 wr=>∃ lo hi:Nat,s9 = .int .i64 lo∧s10 = .int .i64 hi∧lo ≤ hi∧hi ≤ N∧hi - lo ≤ kx∧Hid (Nw w wr) ∧
  Hid ((∀ t (h:t < ls.length),t < lo→ls[t].1 < id)∧(∀ t (h:t < ls.length),hi ≤ t→¬ ls[t].1 < id)))
 case atStart=>exact ⟨0,N,rfl,rfl,Nat.zero_le _,Nat.le_refl _,by omega,nw_refl w,(⟨fun t h ht=>absurd ht (Nat.not_lt_zero _),fun t h h1=>by have:=hN.out;omega⟩:(∀ t (h:t < ls.length),t < 0→ls[t].1 < id)∧(∀ t (h:t < ls.length),N ≤ t→¬ ls[t].1 < id))⟩
 case round =>
  obtain ⟨lo,hi,rfl,rfl,hlh,hin,hg,hnw,I⟩:=hrel
  by_cases hlt:lo < hi
  ·have hmid:(lo + hi) / 2 < ls.length:=by have:=hN.out;omega
   obtain ⟨q,off,rfl,_,d1,d2⟩:=(h.nw hnw.out).get ((lo + hi) / 2) hmid
   have Y:Hid (∃ hh:(lo + hi) / 2 < ls.length,ls[(lo + hi) / 2]'hh = ls[(lo + hi) / 2]):=⟨hmid,rfl⟩
   have hI:Hid ((ls[(lo + hi) / 2].1 < id→∀ t (h:t < ls.length),t < (lo + hi) / 2 + 1→ls[t].1 < id)∧(¬ ls[(lo + hi) / 2].1 < id→∀ t (h:t < ls.length),(lo + hi) / 2 ≤ t→¬ ls[t].1 < id)) :=
    ⟨fun h1 t h2 h3=>hM.out t ((lo + hi) / 2) (by omega) hmid h1,fun h1 t h2 h3 h4=>h1 (hM.out ((lo + hi) / 2) t h3 h2 h4)⟩
   generalize ls[(lo + hi) / 2] = y at *
   have hc:=fun w=>c_place1 y id w
   have hc0:=cmpI_lt y.1 id
   clear Y hmid
   by_cases hyx:y.1 < id
   ·rw [decide_eq_true hyx] at hc0
    have I2:Hid ((∀ t (h:t < ls.length),t < (lo + hi) / 2 + 1→ls[t].1 < id)∧(∀ t (h:t < ls.length),hi ≤ t→¬ ls[t].1 < id)):=⟨hI.out.1 hyx,I.out.2⟩
    clear hyx hI I
    go_wp2_with (go_at_call 109;refine (hc _).mono ?_;rintro e w' ⟨rfl,n1⟩)
    go_roundg (hi - ((lo + hi) / 2 + 1))
    case measure=>omega
    case rel =>
     exact ⟨(lo + hi) / 2 + 1,hi,by rw [show ((lo:Int) + (hi:Int)) / 2 + 1 = (((lo + hi) / 2 + 1:Nat):Int) by omega],rfl,by omega,hin,Nat.le_refl _,nw_trans hnw.out n1,I2⟩
   ·rw [decide_eq_false hyx] at hc0
    have I2:Hid ((∀ t (h:t < ls.length),t < lo→ls[t].1 < id)∧(∀ t (h:t < ls.length),(lo + hi) / 2 ≤ t→¬ ls[t].1 < id)):=⟨I.out.1,hI.out.2 hyx⟩
    clear hyx hI I
    go_wp2_with (go_at_call 109;refine (hc _).mono ?_;rintro e w' ⟨rfl,n1⟩)
    go_roundg ((lo + hi) / 2 - lo)
    case measure=>omega
    case rel =>
     exact ⟨lo,(lo + hi) / 2,rfl,by rw [show ((lo:Int) + (hi:Int)) / 2 = (((lo + hi) / 2:Nat):Int) by omega],by omega,by omega,Nat.le_refl _,nw_trans hnw.out n1,I2⟩
  ·obtain rfl:hi = lo:=by omega
   have hpos:Hid (posL ls id = hi):=hP.out hi (by have:=hN.out;omega) I.out.1 (fun h=>by have:=I.out.2 hi h (Nat.le_refl _);omega)
   have hF:foundB ls id = if h:hi < ls.length then ls[hi].1 == id else false:=by unfold foundB;simp only [hpos.out]
   clear I hM hP
   by_cases hnn:hi < N
   ·have hmid:hi < ls.length:=by have:=hN.out;omega
    obtain ⟨q,off,rfl,_,d1,d2⟩:=(h.nw hnw.out).get hi hmid
    rw [dif_pos hmid] at hF
    generalize ls[hi] = y at *
    have hc:=fun w=>c_place1 y id w
    have hc0:=cmpI_eq y.1 id
    rw [← hF] at hc0
    clear hF hmid
    have hfin:Hid (∀ w',Nw wr w'→Ending.returned (.tuple #[.int .i64 hi,.bool (foundB ls id)]) = .returned (.tuple #[.int .i64 (posL ls id),.bool (foundB ls id)])∧Nw w w'):=fun w' n1=>⟨by rw [hpos.out],nw_trans hnw.out n1⟩
    generalize hfb:foundB ls id = fb at *
    replace hfb:Hid _:=hfb
    go_wp2_with (go_at_call 109;refine (hc _).mono ?_;rintro e w' ⟨rfl,n1⟩)
    go_ret2
    exact ⟨by rw [hfb.out];exact (hfin.out _ n1).1,(hfin.out _ n1).2⟩
   ·have hmid:¬ hi < ls.length:=by have:=hN.out;omega
    rw [dif_neg hmid] at hF
    have hfin:Hid (Ending.returned (.tuple #[.int .i64 hi,.bool false]) = .returned (.tuple #[.int .i64 (posL ls id),.bool (foundB ls id)])∧Nw w wr):=⟨by rw [hpos.out,hF],hnw.out⟩
    clear hF hmid
    go_wp2
    go_ret2
    exact hfin.out

set_option maxHeartbeats 1600000 in
theorem c_place {X:Nat→Prop} {t:Th} {uL uC uK uD:Value} (id:Int) (w:World) (h:ThAt X w t uL uC uK uD) (hl:LkOk t.links) (hn:t.links.length ≤ 1000) :
  Calls Try.prog 93 #[thV t uL uC uK uD,.int .u64 id] w fun e w'=>e = .returned (.tuple #[.int .i64 (posL t.links id),.bool (hasB t.links id)])∧Nw w w':=by
 obtain ⟨ka,kc,rfl,hk1,hk2⟩:=h.k.form
 obtain ⟨W,hW⟩:∃ W,Hid (W = w.alloc (.cells (thC t uL uC (.slice ka t.links.length kc) uD).toArray 34)):=⟨_,rfl⟩
 have nW:Nw w W:=by rw [hW.out];exact nw_alloc (nw_refl w) _
 have hA:W.heap[w.heap.size]? = some (.cells (thC t uL uC (.slice ka t.links.length kc) uD).toArray 34 (0,0)):=by rw [hW.out];exact heap_alloc_new w _
 have hs:Hid _:=fun w' (n:Nw W w')=>c_search id w' ((h.k.nw nW).nw n) hl hn
 have a8:W.cell? ⟨w.heap.size,8,none⟩ = some (.slice ka t.links.length kc):=cell_blk hA rfl
 go_enter Try.func93,Try.ntmps93
 go_upto_region 1 with (refine wpList_box_agg rfl 34 _ rfl (thV t uL uC (.slice ka t.links.length kc) uD) _ rfl rfl ?_)
 rw [← hW.out]
 clear hW
 go_wp2_with (go_at_call 108;refine (hs.out _ (nw_refl _)).mono ?_;rintro e w' ⟨rfl,n1⟩)
 go_ret2
 exact ⟨rfl,nw_trans nW n1⟩

end Go.Proofs.Ytgmfofngmfekbaa

namespace Go.Proofs.Ytgmfofngmfekbaa
set_option linter.unusedVariables false
set_option linter.unusedSimpArgs false
set_option maxRecDepth 20000
open Go.RowKit

theorem has_drop {ls:List Cat} {k:Nat} (h:k < ls.length) (id:Int):hasB (ls.drop k) id = (ls[k].1 == id || hasB (ls.drop (k + 1)) id):=by
 unfold hasB
 rw [List.drop_eq_getElem_cons h,List.any_cons]

set_option maxHeartbeats 1600000 in
theorem c_rhas {X:Nat→Prop} {t:Th} {uL uC uK uD:Value} (id:Int) (w:World) (h:ThAt X w t uL uC uK uD) :
  Calls Try.prog 43 #[thV t uL uC uK uD,.int .u64 id] w fun e w'=>e = .returned (.bool (hasB t.links id))∧Nw w w':=by
 obtain ⟨ka,kc,rfl,hk1,hk2⟩:=h.k.form
 obtain ⟨W,hW⟩:∃ W,Hid (W = w.alloc (.cells (thC t uL uC (.slice ka t.links.length kc) uD).toArray 34)):=⟨_,rfl⟩
 have nW:Nw w W:=by rw [hW.out];exact nw_alloc (nw_refl w) _
 have hA:W.heap[w.heap.size]? = some (.cells (thC t uL uC (.slice ka t.links.length kc) uD).toArray 34 (0,0)):=by rw [hW.out];exact heap_alloc_new w _
 have hk:=h.k.nw nW
 have a8:W.cell? ⟨w.heap.size,8,none⟩ = some (.slice ka t.links.length kc):=cell_blk hA rfl
 go_enter Try.func43,Try.ntmps43
 go_upto_region 1 with (refine wpList_box_agg rfl 34 _ rfl (thV t uL uC (.slice ka t.links.length kc) uD) _ rfl rfl ?_)
 rw [← hW.out]
 clear hW
 go_wp2
 clear a8
 go_loopw [10] (fun kv wr=>∃ k:Nat,k ≤ t.links.length∧kv = .int .i64 k∧Hid (hasB (t.links.drop k) id = hasB t.links id)∧Nw W wr) (fun kv _=>t.links.length - (intOf kv).toNat)
 case atStart=>exact ⟨0,Nat.zero_le _,rfl,rfl,nw_refl _⟩
 case round =>
  obtain ⟨k,hk0,rfl,hs,hw⟩:=hrel
  by_cases hlt:k < t.links.length
  ·obtain ⟨q,off,rfl,_,d1,d2⟩:=(hk.nw hw).get k hlt
   have hst:Hid (hasB t.links id = (t.links[k].1 == id || hasB (t.links.drop (k + 1)) id)):=by unfold Hid;rw [← has_drop hlt,hs.out]
   generalize t.links[k] = c at *
   have hnA:Hid (∀ o,Nw W (wr.alloc o)):=fun o=>nw_alloc hw o
   clear hs
   cases hc:(c.1 == id) with
   | true =>
    have hfin:Hid (true = hasB t.links id):=by unfold Hid;rw [hst.out,hc];rfl
    clear hst
    go_wp2
    go_ret
    exact ⟨congrArg (fun z=>Ending.returned (Value.bool z)) hfin.out,nw_trans nW (hnA.out _)⟩
   | false =>
    have hs':Hid (hasB (t.links.drop (k + 1)) id = hasB t.links id):=by unfold Hid;rw [hst.out,hc];rfl
    clear hst
    go_wp2
    go_roundw
    case rel=>exact ⟨k + 1,by omega,by go_num,hs',hnA.out _⟩
    case measure=>simp [intOf];omega
  ·have hfin:Hid (false = hasB t.links id):=by unfold Hid;rw [← hs.out,List.drop_of_length_le (by omega)];rfl
   clear hs
   go_wp2
   go_ret
   exact ⟨congrArg (fun z=>Ending.returned (Value.bool z)) hfin.out,nw_trans nW hw⟩

end Go.Proofs.Ytgmfofngmfekbaa

namespace Go.Proofs.Ytgmfofngmfekbaa
set_option linter.unusedVariables false
set_option linter.unusedSimpArgs false
set_option maxRecDepth 20000
open Go.RowKit

theorem cells_drop {xs:List Cat} {i:Nat} (hi:i ≤ xs.length) (t:Nat) (v:Value) (h:(ccells (xs.drop i))[t]? = some v):(ccells xs)[i * 2 + t]? = some v:=by
 have e2:ccells xs = ccells (xs.take i) ++ ccells (xs.drop i):=by rw [← ccells_append,List.take_append_drop]
 have hl:(ccells (xs.take i)).length = i * 2:=by rw [ccells_length,List.length_take,Nat.min_eq_left hi]
 rw [e2,List.getElem?_append_right (by omega),hl]
 rw [show i * 2 + t - i * 2 = t by omega]
 exact h

end Go.Proofs.Ytgmfofngmfekbaa

namespace Go.Proofs.Ytgmfofngmfekbaa
set_option linter.unusedVariables false
set_option linter.unusedSimpArgs false
set_option maxRecDepth 20000
open Go.RowKit

theorem setCells_get {W:World} {g o:Nat} {vs:List Value} (h:∀ j,j < vs.length→(W.cell? ⟨g,o + j,none⟩).isSome = true) (t:Nat) (v:Value) (hv:vs[t]? = some v):(W.setCells g o vs).cell? ⟨g,o + t,none⟩ = some v:=by
 rw [World.cell?_setCells_in g vs o W h t (List.getElem?_eq_some_iff.1 hv).1]
 exact (List.getElem?_eq_getElem _).symm.trans hv

end Go.Proofs.Ytgmfofngmfekbaa

namespace Go.Proofs.Ytgmfofngmfekbaa
set_option linter.unusedVariables false
set_option linter.unusedSimpArgs false
set_option maxRecDepth 20000
open Go.RowKit

theorem step_append_room2 {P:Program} {ops:Array Oper} {o:Oper} {a:Act} {w:World} {K:Act→World→Prop} {Q:Exit→Act→World→Prop} {E:Prop}
  (hg:o.guard = none) (s x:Operand) (t:TypeId) (hop:o.op = Op.call { callee:=Callee.builtin Builtin.append,args:=#[s,x],argTypes:=#[t,t] })
  (e:TypeId) (i:TypeInfo) (size:Nat) (h1:P.underlying t = some (.slice e)) (h2:P.info? e = some i) (h4:i.size = size)
  (b n cap:Nat) (hs:a.eval s = .slice (some ⟨b,0,none⟩) n cap)
  (ad:Addr) (m c:Nat) (news:List Value) (hx:a.eval x = .slice (some ad) m c) (hn:news.length = m * size) (hc:∀ j u,news[j]? = some u→w.cell? (ad.add j) = some u) (h1c:∀ u ∈ news,u.oneCell' = true)
  (hroom:n + m ≤ cap) (hspare:∀ j,j < news.length→(w.cell? ⟨b,n * size + j,none⟩).isSome = true∧w.frozen? ⟨b,n * size + j,none⟩ = false)
  (r:Nat) (hr:n + m = r) (W':World) (hW':W' = w.setCells b (n * size) news)
  (hK:K (a.put o.dst (.slice (some ⟨b,0,none⟩) r cap)) W') :
  if Region.wanted o (yielded ops a.tmps) = true then Oper.wp P o a w K Q else E:=by
 subst hr
 subst hW'
 refine step_append_room hg s x t hop e i size h1 h2 h4 b 0 n cap hs ad m c news hx hn hc h1c hroom ?_ ?_
 ·intro j hj
  rw [Nat.zero_add]
  exact hspare j hj
 ·rw [Nat.zero_add]
  exact hK

theorem run_clearL {w:World} {g:Nat} (p k c:Nat) (ty:TypeId) (hk:k = 1) (hs:∀ j,j < 2→(w.cell? ⟨g,p * 2 + j,none⟩).isSome = true) (hf:∀ j,w.frozen? ⟨g,j,none⟩ = false) :
  (Builtin.clear_ #[27] ty #[.slice (some ⟨g,p * 2,none⟩) k c]).run Try.prog w = .ok (.tuple #[]) (w.setCells g (p * 2) (ccells (List.replicate 1 (0,0)))):=by
 subst hk
 have hv:∀ w,(zeroValue 54).run Try.prog w = .ok (.agg #[.int .u64 0,.int .i64 0]) w:=fun w=>Try.zeroValue54 w
 have hst:=run_storeCells_cells (P:=Try.prog) g (p * 2) (ccells (List.replicate 1 (0,0))) 0 w
  (by intro j hj;rw [ccells_length,List.length_replicate] at hj;exact hs j (by omega))
  (by intro j hj;exact hf _)
  (ccells_oneCell _)
 simp only [Nat.add_zero] at hst
 rw [show List.replicate 1 ((0,0):Cat) = [(0,0)] from rfl] at hst ⊢
 have hz1:(Builtin.zeroCells (Value.agg #[.int .u64 0,.int .i64 0]).cells 1).toList = ccells [(0,0)]:=zeroCells_two 1
 simp [Builtin.clear_,run_underlying Try.underlying27,hv,hz1,hst]

set_option maxHeartbeats 1600000 in
theorem c_deleteL {base i:Nat} {v:Value} {xs:List Cat} (w:World) (h:w.ownsRow base 54 2 v xs.length (ccells xs)) (hi:i < xs.length) (hl:xs.length ≤ 1000) :
  Calls Try.prog 94 #[v,.int .i64 i,.int .i64 ((i:Int) + 1)] w fun e w'=>∃ u,e = .returned u∧CSl (fun b=>base ≤ b) w' u (xs.take i ++ xs.drop (i + 1))∧Fr (fun k=>v.ownBlock = some k) w w':=by
 obtain ⟨i0,hi0,hz0,hs0,hb0⟩:=info_parts3 Try.infoLk
 rcases h.2 with ⟨rfl,h2⟩ | ⟨g,cap,cur,rfl,hbg,hg,hnc,hcm,hcs,ht⟩
 ·omega
 unfold maxLen at hcm
 have hsp:∀ j,j < cap * 2→(w.cell? ⟨g,j,none⟩).isSome = true:=fun j hj=>by
  rw [cell_blk hg (v:=cur[j]'(by omega)) (by simp [hcs,hj])]
  rfl
 have hfz:∀ j,w.frozen? ⟨g,j,none⟩ = false:=fun j=>free_blk hg
 have hxs:∀ j v,(ccells xs)[j]? = some v→w.cell? ⟨g,j,none⟩ = some v:=fun j v hj=>by
  refine cell_blk hg ?_
  have hjl:=(List.getElem?_eq_some_iff.1 hj).1
  rw [ccells_length] at hjl
  rw [← ht,List.getElem?_take_of_lt (by omega)] at hj
  simpa using hj
 obtain ⟨n,hn⟩:∃ n,xs.length = n:=⟨_,rfl⟩
 obtain ⟨p,hp⟩:∃ p,n = p + 1:=⟨n - 1,by omega⟩
 have hld:(ccells (xs.drop (i + 1))).length = (n - (i + 1)) * 2:=by rw [ccells_length,List.length_drop,hn]
 rw [hn] at hi hl hnc ⊢
 obtain ⟨W1,hW1⟩:∃ W1,W1 = w.drew.setCells g (i * 2) (ccells (xs.drop (i + 1))):=⟨_,rfl⟩
 have hs1:∀ j,j < cap * 2→(W1.cell? ⟨g,j,none⟩).isSome = true:=fun j hj=>by
  rw [hW1]
  exact isSome_setCells g (ccells (xs.drop (i + 1))) (i * 2) w.drew (fun t ht=>hsp _ (by omega)) _ (hsp j hj)
 have hf1:∀ j,W1.frozen? ⟨g,j,none⟩ = false:=fun j=>by rw [hW1,World.frozen?_setCells];exact hfz j
 have hclr:∀ ty,(Builtin.clear_ #[27] ty #[.slice (some ⟨g,p * 2,none⟩) (n - p) (cap - p)]).run Try.prog W1 = .ok (.tuple #[]) (W1.setCells g (p * 2) (ccells (List.replicate 1 (0,0)))):=fun ty=>run_clearL p (n - p) (cap - p) ty (by omega) (fun j hj=>hs1 _ (by omega)) hf1
 have hfin:Hid (CSl (fun b=>base ≤ b) (W1.setCells g (p * 2) (ccells (List.replicate 1 (0,0)))) (.slice (some ⟨g,0,none⟩) p cap) (xs.take i ++ xs.drop (i + 1))∧Fr (fun k=>(Value.slice (some (⟨g,0,none⟩:Addr)) n cap).ownBlock = some k) w (W1.setCells g (p * 2) (ccells (List.replicate 1 (0,0))))):=by
  have hL:(xs.take i ++ xs.drop (i + 1)).length = p:=by simp;omega
  have hlt:(ccells (xs.take i)).length = i * 2:=by rw [ccells_length,List.length_take,Nat.min_eq_left (by omega)]
  have e2:ccells xs = ccells (xs.take i) ++ ccells (xs.drop i):=by rw [← ccells_append,List.take_append_drop]
  refine ⟨⟨some ⟨g,0,none⟩,cap,by rw [hL],⟨by omega,by unfold maxLen;omega⟩,(fun h=>by cases h),fun j u hj=>⟨g,0,rfl,hbg,?_⟩⟩,?_⟩
  ·rw [Nat.zero_add]
   have hjl:=(List.getElem?_eq_some_iff.1 hj).1
   rw [ccells_length,hL] at hjl
   rw [World.cell?_setCells_out _ _ _ _ _ (fun _ _=>.inl (by show j < _;omega)),hW1]
   rw [ccells_append] at hj
   by_cases h1:j < i * 2
   ·rw [World.cell?_setCells_out _ _ _ _ _ (fun _ _=>.inl (by show j < _;omega))]
    rw [List.getElem?_append_left (by omega)] at hj
    refine hxs j u ?_
    rw [e2,List.getElem?_append_left (by omega)]
    exact hj
   ·rw [List.getElem?_append_right (by omega),hlt] at hj
    have:=setCells_get (W:=w.drew) (g:=g) (o:=i * 2) (vs:=ccells (xs.drop (i + 1))) (fun t ht=>hsp _ (by omega)) (j - i * 2) u hj
    rw [show i * 2 + (j - i * 2) = j by omega] at this
    exact this
  ·rw [hW1]
   exact fr_setCells (S:=fun k=>(Value.slice (some (⟨g,0,none⟩:Addr)) n cap).ownBlock = some k) (.inl rfl) _ _ _ (fr_setCells (S:=fun k=>(Value.slice (some (⟨g,0,none⟩:Addr)) n cap).ownBlock = some k) (.inl rfl) _ _ _ (Fr.drew (Fr.refl _ w)))
 obtain ⟨A,hA,hsrc⟩:∃ A:Addr,(if cap = i + 1 then some (⟨g,0,none⟩:Addr) else some ⟨g,(i + 1) * 2,none⟩) = some A∧Hid (∀ t u,(ccells (xs.drop (i + 1)))[t]? = some u→w.drew.cell? (A.add t) = some u):=by
  by_cases h:cap = i + 1
  ·refine ⟨⟨g,0,none⟩,by simp [h],fun t u hu=>?_⟩
   have:=(List.getElem?_eq_some_iff.1 hu).1
   omega
  ·refine ⟨⟨g,(i + 1) * 2,none⟩,by simp [h],fun t u hu=>?_⟩
   rw [Addr.add_lit]
   exact hxs _ u (cells_drop (by omega) t u hu)
 have s2:Hid (∀ u ∈ ccells (xs.drop (i + 1)),u.oneCell' = true):=ccells_oneCell _
 have s3:Hid (∀ t,t < (ccells (xs.drop (i + 1))).length→(w.drew.cell? ⟨g,i * 2 + t,none⟩).isSome = true∧w.drew.frozen? ⟨g,i * 2 + t,none⟩ = false):=fun t ht=>⟨hsp _ (by omega),hfz _⟩
 have hipn:Hid (i + (n - (i + 1)) = p):=by unfold Hid;omega
 replace hld:Hid _:=hld
 replace hW1:Hid _:=hW1
 have hic:i ≤ cap:=by omega
 have hjc:i + 1 ≤ cap:=by omega
 have hjn:i + 1 ≤ n:=by omega
 have hji:(i:Int) + 1 ≤ (n:Int):=by omega
 have hb1:(0:Int) ≤ (i:Int) + 1:=by omega
 have hw1:((i:Int) == (i:Int) + 1) = false:=by rw [beq_eq_false_iff_ne];omega
 have htn:((i:Int) + 1).toNat = i + 1:=by omega
 have hpn:p ≤ n:=by omega
 have hpc:¬ (cap = p):=by omega
 have hpc2:n ≤ cap:=hnc
 clear hsp hfz hxs hs1 hf1 hn hz0 hb0 hg ht hcs hp h
 go_enter Try.func94,Try.ntmps94
 go_wp2
 go_region_law (refine step_append_room2 rfl (.tmp 22) (.tmp 25) 27 rfl 54 i0 2 Try.underlying27 hi0 hs0 g i cap (by simp [Act.eval,Act.put]) A (n - (i + 1)) (cap - (i + 1)) (ccells (xs.drop (i + 1))) (by simp [Act.eval,Act.put,hA]) hld.out hsrc.out s2.out (by omega) s3.out p hipn.out W1 hW1.out ?_)
 go_wp2
 go_ret
 exact ⟨_,rfl,hfin.out⟩
end Go.Proofs.Ytgmfofngmfekbaa

namespace Go.Proofs.Ytgmfofngmfekbaa
set_option linter.unusedVariables false
set_option linter.unusedSimpArgs false
set_option maxRecDepth 20000
open Go.RowKit

/-- What a change answers: the directory, in memory of its own, and the error. -/
def ChP (t:Th) (err:Int) (w:World) (e:Ending) (w':World):Prop:=∃ u1 u2 u3 u4,e = .returned (.tuple #[thV t u1 u2 u3 u4,.int .i64 err])∧ThAt (fun b=>w.heap.size ≤ b) w' t u1 u2 u3 u4∧Nw w w'

theorem dir_sizes {t:Th} (h:DirT t):t.cats.length ≤ 8796093022208∧t.ccats.length ≤ 8796093022208∧t.links.length ≤ 8796093022208∧t.data.length ≤ 140737488355328:=by
 have h1:=h.right.rgt.len
 have h2:=h.ok.len
 have hb:=h.bare
 have e1:t.ccats = []:=by rw [hb];rfl
 have e2:t.data = []:=by rw [hb];rfl
 rw [e1,e2]
 exact ⟨by omega,Nat.zero_le _,by omega,Nat.zero_le _⟩

theorem CopT.nw {base:Nat} {w w':World} {t:Th} {u1 u2 u3 u4:Value} (h:CopT base w t u1 u2 u3 u4) (hf:Nw w w'):CopT base w' t u1 u2 u3 u4:=h.fr hf (fun _ h=>h.elim)

/-- The links' own row is written; the other lists stay. -/
theorem cop_links {base:Nat} {w w':World} {t:Th} {u1 u2 u3 u4 u:Value} {ls:List Cat} (h:CopT base w t u1 u2 u3 u4) (hf:Fr (fun k=>u3.ownBlock = some k) w w') (hk:CSl (fun b=>base ≤ b) w' u ls):ThAt (fun b=>base ≤ b) w' { t with links:=ls } u1 u2 u u4:=by
 have hne:∀ (e:Nat) (he:¬ e = 54) {size n:Nat} {v:Value} {xs:List Value},w.ownsRow base e size v n xs→w'.ownsRow base e size v n xs:=fun e he size n v xs ho=>by
  refine owns_of_block ho (fun k hk=>hf.block k (ho.lt k hk).2 (fun h3=>?_))
  rcases ho.2 with ⟨rfl,_⟩ | ⟨g,cap,cur,rfl,_,hg,_⟩
  ·cases hk
  ·have hkg:g = k:=Option.some.inj hk
   subst hkg
   rcases h.k.2 with ⟨h4,_⟩ | ⟨g',cap',cur',h4,_,hg',_⟩
   ·rw [h4] at h3;cases h3
   ·rw [h4] at h3
    have:g' = g:=Option.some.inj h3
    subst this
    rw [hg'] at hg
    cases hg
    exact he rfl
 exact ⟨csl_of_own (hne 91 (by decide) h.l),csl_of_own (hne 91 (by decide) h.c),hk,bsl_of_own (hne 5 (by decide) h.d)⟩

theorem CopT.ne {base:Nat} {w:World} {t:Th} {u1 u2 u3 u4:Value} (h:CopT base w t u1 u2 u3 u4) {q:Nat} (hq:w.heap.size ≤ q):u3.ownBlock ≠ some q:=fun e=>by
 have:=(h.k.lt q e).2
 omega

end Go.Proofs.Ytgmfofngmfekbaa

namespace Go.Proofs.Ytgmfofngmfekbaa
set_option linter.unusedVariables false
set_option linter.unusedSimpArgs false
set_option maxRecDepth 20000
open Go.RowKit

set_option maxRecDepth 100000 in
set_option maxHeartbeats 6400000 in
theorem c_drop {X:Nat→Prop} {t:Th} {uL uC uK uD:Value} (id:Int) (w:World) (h:ThAt X w t uL uC uK uD) (hd:DirT t) :
  Calls Try.prog 80 #[thV t uL uC uK uD,.int .u64 id] w (ChP (dropT t id).1 (dropT t id).2 w):=by
 obtain ⟨l1,l2,l3,l4⟩:=dir_sizes hd
 obtain ⟨W,hW⟩:∃ W,Hid (W = (w.alloc (.cells (thC t uL uC uK uD).toArray 34)).alloc (.cells (thC zeroT (.slice none 0 0) (.slice none 0 0) (.slice none 0 0) (.slice none 0 0)).toArray 34)):=⟨_,rfl⟩
 have nW:Nw w W:=by rw [hW.out];exact nw_alloc (nw_alloc (nw_refl w) _) _
 have hB0:W.heap[w.heap.size]? = some (.cells (thC t uL uC uK uD).toArray 34 (0,0)):=by rw [hW.out];exact heap_alloc2_old w _ _
 have hB1:W.heap[w.heap.size + 1]? = some (.cells (thC zeroT (.slice none 0 0) (.slice none 0 0) (.slice none 0 0) (.slice none 0 0)).toArray 34 (0,0)):=by rw [hW.out];exact heap_alloc2_new w _ _
 have ht:=(h.mono (X':=fun b=>b < w.heap.size) (fun b _ hb=>hb)).nw nW
 have hlk:=hd.ok.lk
 have h16:t.links.length ≤ 1000:=by have:=hd.ok.len;omega
 replace hd:Hid _:=hd
 clear h
 have hN:w.heap.size + 2 ≤ W.heap.size:=by have:=heap_lt hB1;omega
 go_enter Try.func80,Try.ntmps80
 go_upto_region 1 with (first | (refine wpList_box_agg rfl 34 _ rfl (thV t uL uC uK uD) _ rfl rfl ?_) | (refine wpList_alloc_agg rfl 34 rfl _ Try.zeroTh ?_;rw [← hW.out]))
 clear hW
 have hcon:Hid _:=c_tcopy W ht l1 l2 l3 l4
 have hr0:=range_all hB0
 go_wp2_with (first | (refine wpList_load_as rfl 34 _ rfl (w.heap.size) 0 rfl (thV t uL uC uK uD) _ rfl hr0 Try.rowT Try.sizeT ?_) | (go_at_call 39;refine Calls.mono hcon.out ?_;rintro e W1 ⟨u1,u2,u3,u4,rfl,hc,n1⟩;refine stop_here ?_))
 unfold Hid
 clear hcon hr0 ht l1 l2 l3 l4
 replace hB0:=(n1.block _ (heap_lt hB0) (fun h=>h)).trans hB0
 replace hB1:=(n1.block _ (heap_lt hB1) (fun h=>h)).trans hB1
 replace nW:=nw_trans nW n1
 replace hc:=hc.mono hN
 obtain ⟨W2,hV⟩:∃ V,Hid (V = W1.setRow (w.heap.size) (thC t u1 u2 u3 u4).toArray):=⟨_,rfl⟩
 have fV:Fr (fun k=>k = w.heap.size) W1 W2:=by rw [hV.out];exact (Fr.refl (fun k=>k = w.heap.size) W1).setRow (.inl rfl) _
 have hnew:W2.heap[w.heap.size]? = some (.cells (thC t u1 u2 u3 u4).toArray 34 (0,0)):=by rw [hV.out];exact setRow_heap _ _ _ _ _ _ hB0
 go_wp2_with (refine wpList_store_all rfl 34 _ _ rfl (w.heap.size) rfl (thV t u1 u2 u3 u4) rfl (thC t u1 u2 u3 u4) rfl (thC t uL uC uK uD) 34 hB0 rfl (hc.at.one) Try.sizeT ?_;rw [← hV.out];refine stop_here ?_)
 unfold Hid
 clear hV
 replace hB0:=hnew
 replace hB1:=(fV.block _ (heap_lt hB1) (by show ¬ _ = _;omega)).trans hB1
 clear hnew
 replace hc:=hc.fr fV (fun k hk=>by omega)
 replace nW:Nw w W2:=Fr.trans nW fV (fun k hk=>.inr (by omega))
 clear fV
 go_upto_region 2 with fail
 have hcon:Hid _:=c_place id W2 hc.at hlk h16
 have hr0:=range_all hB0
 go_wp2_with (first | (refine wpList_load_as rfl 34 _ rfl (w.heap.size) 0 rfl (thV t u1 u2 u3 u4) _ rfl hr0 Try.rowT Try.sizeT ?_) | (go_at_call 93;refine Calls.mono hcon.out ?_;rintro e W3 ⟨rfl,n3⟩;refine stop_here ?_))
 unfold Hid
 clear hcon hr0
 replace hB0:=(n3.block _ (heap_lt hB0) (fun h=>h)).trans hB0
 replace hB1:=(n3.block _ (heap_lt hB1) (fun h=>h)).trans hB1
 replace hc:=hc.nw n3
 replace nW:=nw_trans nW n3
 go_upto_region 3 with fail
 cases hh:hasB t.links id with
 | false =>
  have hfin:Hid ((dropT t id) = (t,124)):=by unfold Hid dropT;rw [if_neg (by rw [hh];exact Bool.noConfusion)]
  clear hh
  go_upto_region 4 with fail
  have hr0:=range_all hB0
  go_wp2_with (first | (refine wpList_load_as rfl 34 _ rfl (w.heap.size) 0 rfl (thV t u1 u2 u3 u4) _ rfl hr0 Try.rowT Try.sizeT ?_;refine stop_here ?_))
  unfold Hid
  clear hr0
  obtain ⟨W4,hV⟩:∃ V,Hid (V = W3.setRow (w.heap.size + 1) (thC t u1 u2 u3 u4).toArray):=⟨_,rfl⟩
  have fV:Fr (fun k=>k = w.heap.size + 1) W3 W4:=by rw [hV.out];exact (Fr.refl (fun k=>k = w.heap.size + 1) W3).setRow (.inl rfl) _
  have hnew:W4.heap[w.heap.size + 1]? = some (.cells (thC t u1 u2 u3 u4).toArray 34 (0,0)):=by rw [hV.out];exact setRow_heap _ _ _ _ _ _ hB1
  refine wpList_store_all rfl 34 _ _ rfl (w.heap.size + 1) rfl (thV t u1 u2 u3 u4) rfl (thC t u1 u2 u3 u4) rfl (thC zeroT (.slice none 0 0) (.slice none 0 0) (.slice none 0 0) (.slice none 0 0)) 34 hB1 rfl (hc.at.one) Try.sizeT ?_
  rw [← hV.out]
  clear hV
  replace hB0:=(fV.block _ (heap_lt hB0) (by show ¬ _ = _;omega)).trans hB0
  replace hB1:=hnew
  clear hnew
  replace hc:=hc.fr fV (fun k hk=>by omega)
  replace nW:Nw w W4:=Fr.trans nW fV (fun k hk=>.inr (by omega))
  clear fV
  go_wp2
  refine bodyPost_ret (results_cell2 rfl _ (w.heap.size + 1) _ (thV t u1 u2 u3 u4) rfl rfl (range_all hB1) Try.rowT Try.sizeT) rfl ?_
  exact ⟨_,_,_,_,by rw [hfin.out];rfl,by rw [hfin.out];exact hc.at.mono (fun b hb _=>by have hb2:_ ≤ b:=hb;show w.heap.size ≤ b;omega),nW⟩
 | true =>
  have hfin:Hid ((dropT t id) = ({ t with links:=rmL t.links id },0)):=by unfold Hid dropT;rw [if_pos hh]
  obtain ⟨hp,-⟩:=(has_iff hlk id).1 hh
  clear hh
  obtain ⟨ka,kc,hku⟩:=owns_form hc.k
  subst hku
  go_upto_region 5 with fail
  have a8:W3.cell? ⟨w.heap.size,8,none⟩ = some (.slice ka t.links.length kc):=cell_blk hB0 rfl
  have hcon:Hid _:=c_deleteL W3 hc.k hp h16
  have hwr:IntKind.i64.wrap ((posL t.links id:Int) + 1) = (posL t.links id:Int) + 1:=by rw [IntKind.wrap_i64];omega
  go_wp2_with (first | (go_at_call 94;refine Calls.mono hcon.out ?_;rintro e W4 ⟨u,rfl,hk,fI⟩;refine stop_here ?_))
  unfold Hid
  clear hcon a8 hwr
  have hgap:∀ k,(Value.slice ka t.links.length kc).ownBlock = some k→w.heap.size + 2 ≤ k:=fun k hk=>by have:=(hc.k.lt k hk).1;omega
  have ht2:=cop_links hc fI hk
  replace hB0:=(fI.block _ (heap_lt hB0) (fun h=>by have:=hgap _ h;omega)).trans hB0
  replace hB1:=(fI.block _ (heap_lt hB1) (fun h=>by have:=hgap _ h;omega)).trans hB1
  replace nW:Nw w W4:=Fr.trans nW fI (fun k hk=>.inr (by have:=hgap k hk;omega))
  obtain ⟨va,vc,hkv,-⟩:=hk.form
  subst hkv
  clear hk fI hgap
  generalize hnl:(t.links.take (posL t.links id) ++ t.links.drop (posL t.links id + 1)).length = nl at *
  replace hnl:Hid _:=hnl
  have g8:W4.cell? ⟨w.heap.size,8,none⟩ = some (.slice ka t.links.length kc):=cell_blk hB0 rfl
  have gf:∀ k,W4.frozen? ⟨w.heap.size,k,none⟩ = false:=fun k=>free_blk hB0
  obtain ⟨W5,hV⟩:∃ V,Hid (V = W4.setCell ⟨w.heap.size,8,none⟩ (.slice va nl vc)):=⟨_,rfl⟩
  have fV:Fr (fun k=>k = w.heap.size) W4 W5:=by rw [hV.out];exact (Fr.refl (fun k=>k = w.heap.size) W4).setCell (p:=⟨w.heap.size,8,none⟩) (.inl rfl) _
  have hnew:W5.heap[w.heap.size]? = some (.cells (thC ({ t with links:=rmL t.links id }:Th) u1 u2 (.slice va nl vc) u4).toArray 34 (0,0)):=by rw [hV.out,blk_setCell hB0];rfl
  go_upto_region 6 with fail
  rw [← hV.out]
  clear hV g8 gf hB0
  have hB0:=hnew
  replace hB1:=(fV.block _ (heap_lt hB1) (by show ¬ _ = _;omega)).trans hB1
  clear hnew
  replace ht2:ThAt (fun b=>w.heap.size + 2 ≤ b) W5 ({ t with links:=rmL t.links id }:Th) u1 u2 (.slice va nl vc) u4:=ht2.keep fV (fun b hb _ e=>by have hb2:w.heap.size + 2 ≤ b:=hb;have e2:b = w.heap.size:=e;omega) (fun b hb _=>hb)
  replace nW:Nw w W5:=Fr.trans nW fV (fun k hk=>.inr (by omega))
  clear fV hc
  have hr0:=range_all hB0
  go_wp2_with (first | (refine wpList_load_as rfl 34 _ rfl (w.heap.size) 0 rfl (thV ({ t with links:=rmL t.links id }:Th) u1 u2 (.slice va nl vc) u4) _ rfl hr0 Try.rowT Try.sizeT ?_;refine stop_here ?_))
  unfold Hid
  clear hr0
  obtain ⟨W6,hV⟩:∃ V,Hid (V = W5.setRow (w.heap.size + 1) (thC ({ t with links:=rmL t.links id }:Th) u1 u2 (.slice va nl vc) u4).toArray):=⟨_,rfl⟩
  have fV:Fr (fun k=>k = w.heap.size + 1) W5 W6:=by rw [hV.out];exact (Fr.refl (fun k=>k = w.heap.size + 1) W5).setRow (.inl rfl) _
  have hnew:W6.heap[w.heap.size + 1]? = some (.cells (thC ({ t with links:=rmL t.links id }:Th) u1 u2 (.slice va nl vc) u4).toArray 34 (0,0)):=by rw [hV.out];exact setRow_heap _ _ _ _ _ _ hB1
  refine wpList_store_all rfl 34 _ _ rfl (w.heap.size + 1) rfl (thV ({ t with links:=rmL t.links id }:Th) u1 u2 (.slice va nl vc) u4) rfl (thC ({ t with links:=rmL t.links id }:Th) u1 u2 (.slice va nl vc) u4) rfl (thC zeroT (.slice none 0 0) (.slice none 0 0) (.slice none 0 0) (.slice none 0 0)) 34 hB1 rfl (ht2.one) Try.sizeT ?_
  rw [← hV.out]
  clear hV
  replace hB0:=(fV.block _ (heap_lt hB0) (by show ¬ _ = _;omega)).trans hB0
  replace hB1:=hnew
  clear hnew
  replace ht2:=ht2.keep (X':=fun b=>w.heap.size ≤ b) fV (fun b hb _ e=>by have hb2:w.heap.size + 2 ≤ b:=hb;have e2:b = w.heap.size + 1:=e;omega) (fun b hb _=>by have hb2:w.heap.size + 2 ≤ b:=hb;show w.heap.size ≤ b;omega)
  replace nW:Nw w W6:=Fr.trans nW fV (fun k hk=>.inr (by omega))
  clear fV
  go_wp2
  refine bodyPost_ret (results_cell2 rfl _ (w.heap.size + 1) _ (thV ({ t with links:=rmL t.links id }:Th) u1 u2 (.slice va nl vc) u4) rfl rfl (range_all hB1) Try.rowT Try.sizeT) rfl ?_
  exact ⟨_,_,_,_,by rw [hfin.out];rfl,by rw [hfin.out];exact ht2,nW⟩

end Go.Proofs.Ytgmfofngmfekbaa
