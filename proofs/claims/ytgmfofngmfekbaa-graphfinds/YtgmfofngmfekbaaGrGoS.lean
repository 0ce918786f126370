/-
  GrT16, GrT17: in one text.
-/
import Derived.Test.YtgmfofngmfekbaaGrGnS
import Derived.Test.YtgmfofngmfekbaaDrGaS
namespace Go.Proofs.Ytgmfofngmfekbaa
set_option linter.unusedVariables false
set_option linter.unusedSimpArgs false
set_option maxRecDepth 20000
open Go.RowKit

/-- What becomes of the things when a link is dropped. -/
def DropP (xs:List TC) (hold id:Int) (g:Nat) (w:World) (e:Ending) (w':World):Prop :=
 (foundX xs hold = true∧∃ h:posX xs hold < xs.length,(xs[posX xs hold]'h).t.kind = 1∧∃ u1 u2 u3 u4,e = .returned (.int .i64 (dropT (xs[posX xs hold]'h).t id).2)∧RowB w' g (xs.set (posX xs hold) ⟨(dropT (xs[posX xs hold]'h).t id).1,u1,u2,u3,u4⟩)∧ThAt (fun b=>w.heap.size ≤ b) w' (dropT (xs[posX xs hold]'h).t id).1 u1 u2 u3 u4∧Fr (fun b=>b = g) w w')
 ∨ (¬ (foundX xs hold = true∧∃ h:posX xs hold < xs.length,(xs[posX xs hold]'h).t.kind = 1)∧e = .returned (.int .i64 131)∧Nw w w')

set_option maxRecDepth 100000 in
set_option maxHeartbeats 6400000 in
theorem c_gdrop {Y:Nat→Prop} {g:Nat} {xs:List TC} (hold id:Int) (w:World) (hR:RowB w g xs) (ha:∀ x ∈ xs,x.At Y w) (hp:PwX xs) (hr:∀ x ∈ xs,RightT x.t) (hn:xs.length ≤ 100000) :
  Calls Try.prog 48 #[rowV g xs.length,.int .u64 hold,.int .u64 id] w (DropP xs hold id g w):=by
 have hs:=row_tsl hR (by omega) ha
 have hpl:Hid _:=c_gplace hold w hs hp (by omega)
 clear hs
 cases hf:foundX xs hold with
 | false =>
  have hq:Hid (¬ (foundX xs hold = true∧∃ h:posX xs hold < xs.length,(xs[posX xs hold]'h).t.kind = 1)):=fun h=>by rw [hf] at h;exact Bool.noConfusion h.1
  rw [hf] at hpl
  replace hf:Hid _:=hf
  clear hR ha hp hr
  go_enter Try.func48,Try.ntmps48
  go_wp2_with (go_at_call 38;refine Calls.mono hpl.out ?_;rintro e w1 ⟨rfl,n1⟩;refine stop_here ?_)
  unfold Hid
  clear hpl
  go_wp2
  go_ret
  exact .inr ⟨hq.out,rfl,n1⟩
 | true =>
  obtain ⟨hlt,_,_⟩:=find_at hp hf
  rw [hf] at hpl
  have hatp:(xs[posX xs hold]).At Y w:=ha _ (List.getElem_mem hlt)
  have hrt:=hr _ (List.getElem_mem hlt)
  have hsp:Hid (∀ y:TC,splice (tcs xs) (posX xs hold * 26) (tcC y) = tcs (xs.set (posX xs hold) y)):=splice_tcs hlt
  have hfit:posX xs hold * 26 + 26 ≤ (tcs xs).length:=by rw [tcs_length];omega
  have hrr:w.rangeAt g (posX xs hold * 26) (thC (xs[posX xs hold]).t (xs[posX xs hold]).l (xs[posX xs hold]).c (xs[posX xs hold]).k (xs[posX xs hold]).d):=fun j v hv=>cell_blk hR (by have:=tcs_get xs _ hlt j v hv;simpa using this)
  have hno:Hid (∀ e w9,(xs[posX xs hold]).t.kind ≠ 1→e = .returned (.int .i64 131)→Nw w w9→DropP xs hold id g w e w9):=fun e w9 h h1 h2=>.inr ⟨fun e=>by obtain ⟨_,_,e2⟩:=e;exact h e2,h1,h2⟩
  have hyes:Hid (∀ e w9,(xs[posX xs hold]).t.kind = 1→(∃ u1 u2 u3 u4,e = .returned (.int .i64 (dropT (xs[posX xs hold]).t id).2)∧RowB w9 g (xs.set (posX xs hold) ⟨(dropT (xs[posX xs hold]).t id).1,u1,u2,u3,u4⟩)∧ThAt (fun b=>w.heap.size ≤ b) w9 (dropT (xs[posX xs hold]).t id).1 u1 u2 u3 u4∧Fr (fun b=>b = g) w w9)→DropP xs hold id g w e w9):=fun e w9 h1 h2=>.inl ⟨hf,hlt,h1,h2⟩
  replace hf:Hid _:=hf
  clear ha hp hr
  generalize xs[posX xs hold] = x at *
  generalize posX xs hold = p at *
  go_enter Try.func48,Try.ntmps48
  go_wp2_with (go_at_call 38;refine Calls.mono hpl.out ?_;rintro e w1 ⟨rfl,n1⟩;refine stop_here ?_)
  unfold Hid
  clear hpl
  replace hR:=hR.nw n1
  have hg1:=heap_lt hR
  replace hrr:=range_nw hrr n1
  replace hatp:=hatp.nw n1
  have v1:w1.cell? ⟨g,p * 26 + 1,none⟩ = some (.int .i64 x.t.kind):=hrr 1 _ rfl
  by_cases hkd:x.t.kind = 1
  ·have hkb:(x.t.kind != 1) = false:=by simpa using hkd
   have hdt:DirT x.t:=⟨hkd,hrt⟩
   have hcd:Hid _:=c_drop id w1 hatp hdt
   unfold ChP at hcd
   have hyes2:Hid _:=fun e w9=>hyes.out e w9 hkd
   clear hyes hno hdt hrt hatp
   replace hkd:Hid _:=hkd
   obtain ⟨⟨t1,e1⟩,hte⟩:∃ x9,dropT x.t id = x9:=⟨_,rfl⟩
   rw [hte] at hcd hyes2
   clear hte
   obtain ⟨L9,hL9⟩:∃ L,Hid (L = tcs xs):=⟨_,rfl⟩
   unfold RowB at hR
   rw [← hL9.out] at hsp hfit hR
   go_wp2_with (first | (refine wpList_load_as rfl 34 _ rfl g (p * 26) rfl (thV x.t x.l x.c x.k x.d) _ rfl hrr Try.rowT Try.sizeT ?_) | (go_at_call 80;refine Calls.mono hcd.out ?_;rintro e w2 ⟨u1,u2,u3,u4,rfl,hat2,n2⟩;refine stop_here ?_))
   unfold Hid
   clear hcd hrr v1
   replace hR:=(n2.block g (heap_lt hR) (fun h=>h)).trans hR
   obtain ⟨W9,hW9⟩:∃ V,Hid (V = w2.setRow g (tcs (xs.set p ⟨t1,u1,u2,u3,u4⟩)).toArray):=⟨_,rfl⟩
   have hspl:Hid (splice L9 (p * 26) (thC t1 u1 u2 u3 u4) = tcs (xs.set p ⟨t1,u1,u2,u3,u4⟩)):=hsp.out ⟨t1,u1,u2,u3,u4⟩
   have f9:Fr (fun b=>b = g) w2 W9:=by rw [hW9.out];exact (Fr.refl (fun b=>b = g) _).setRow (.inl rfl) _
   have hR9:RowB W9 g (xs.set p ⟨t1,u1,u2,u3,u4⟩):=by rw [hW9.out];exact setRow_heap _ _ _ _ _ _ hR
   have hgl:=heap_lt hR
   have hn1:=Fr.size n1
   go_wp2_with (refine wpList_store_as rfl 34 _ _ rfl g (p * 26) rfl (thV t1 u1 u2 u3 u4) rfl (thC t1 u1 u2 u3 u4) rfl L9 34 hR hfit hat2.one Try.sizeT ?_;rw [hspl.out,← hW9.out];refine stop_here ?_)
   unfold Hid
   clear hspl hsp hfit hL9 hR hW9
   have hfin:Hid (Fr (fun b=>b = g) w W9):=Fr.trans (fr_of_nw (nw_trans n1 n2)) f9 (fun b hb=>.inl hb)
   have hat9:Hid (ThAt (fun b=>w.heap.size ≤ b) W9 t1 u1 u2 u3 u4):=hat2.keep f9 (fun b hb _ e=>by have e2:b = g:=e;have hb2:w1.heap.size ≤ b:=hb;omega) (fun b hb _=>by have hb2:w1.heap.size ≤ b:=hb;omega)
   clear f9 hat2
   go_wp2
   go_ret
   exact hyes2.out _ _ ⟨u1,u2,u3,u4,rfl,hR9,hat9.out,hfin.out⟩
  ·have hkb:(x.t.kind != 1) = true:=by simpa using hkd
   have hq:Hid (∀ e w9,e = .returned (.int .i64 131)→Nw w w9→DropP xs hold id g w e w9):=fun e w9=>hno.out e w9 hkd
   replace hkd:Hid _:=hkd
   clear hno hyes hsp hR hatp
   go_wp2
   go_ret
   exact hq.out _ _ rfl n1
end Go.Proofs.Ytgmfofngmfekbaa

namespace Go.Proofs.Ytgmfofngmfekbaa
set_option linter.unusedVariables false
set_option linter.unusedSimpArgs false
set_option maxRecDepth 20000
open Go.RowKit

/-- The IDs of those that are not marked. -/
def offX:List TC→List Bool→List Int
 | a :: l,b :: m=>if b = true then offX l m else a.t.id :: offX l m
 | _,_=>[]
theorem off_cons (a:TC) (l:List TC) (b:Bool) (m:List Bool):offX (a :: l) (b :: m) = if b = true then offX l m else a.t.id :: offX l m:=by
 conv=>lhs;unfold offX
def offT (l:List TC) (m:List Bool) (k:Nat):List Int:=offX (l.take k) (m.take k)
theorem offX_append:∀ (a b:List TC) (m n:List Bool),m.length = a.length→offX (a ++ b) (m ++ n) = offX a m ++ offX b n
 | [],b,[],n,_=>by simp only [List.nil_append];unfold offX;rfl
 | [],_,_ :: _,_,h=>by simp at h
 | _ :: _,_,[],_,h=>by simp at h
 | x :: a,b,c :: m,n,h=>by
  rw [List.cons_append,List.cons_append,off_cons,off_cons,offX_append a b m n (by simpa using h)]
  split <;> rfl
theorem offT_step {l:List TC} {m:List Bool} {k:Nat} (h:k < l.length) (hm:k < m.length):offT l m (k + 1) = offT l m k ++ (if m[k] = true then [] else [l[k].t.id]):=by
 unfold offT
 rw [List.take_succ_eq_append_getElem h,List.take_succ_eq_append_getElem hm,offX_append _ _ _ _ (by simp;omega),off_cons]
 congr 1
theorem offT_all {l:List TC} {m:List Bool} (h:m.length = l.length):offT l m l.length = offX l m:=by
 unfold offT
 rw [List.take_length,← h,List.take_length]
theorem outT_len (l:List TC) (m:List Bool) (k:Nat):(outT l m k).length ≤ k:=Nat.le_trans (out_sub _ _).length_le (by rw [List.length_take];exact Nat.min_le_left _ _)
theorem offX_len:∀ (l:List TC) (m:List Bool),(offX l m).length ≤ l.length
 | [],_=>by unfold offX;exact Nat.le_refl _
 | _ :: _,[]=>by unfold offX;exact Nat.zero_le _
 | a :: l,b :: m=>by
  have:=offX_len l m
  rw [off_cons]
  split <;> simp <;> omega
theorem offT_len (l:List TC) (m:List Bool) (k:Nat):(offT l m k).length ≤ k:=Nat.le_trans (offX_len _ _) (by rw [List.length_take];exact Nat.min_le_left _ _)
theorem outT_zero (l:List TC) (m:List Bool):outT l m 0 = []:=by
 unfold outT;rw [List.take_zero];unfold outX;rfl
theorem offT_zero (l:List TC) (m:List Bool):offT l m 0 = []:=by
 unfold offT;rw [List.take_zero];unfold offX;rfl
theorem own_apart {w:World} {b1 b2 e1 e2 s1 s2 n1 n2:Nat} {v1 v2:Value} {x1 x2:List Value} (h1:w.ownsRow b1 e1 s1 v1 n1 x1) (h2:w.ownsRow b2 e2 s2 v2 n2 x2) (hne:e1 ≠ e2):∀ b,v1.ownBlock = some b→¬ v2.ownBlock = some b:=by
 intro b hb
 rcases h1.2 with ⟨rfl,_⟩ | ⟨g,cap,cur,rfl,_,hg,_⟩
 ·cases hb
 ·have:g = b:=by simpa [Value.ownBlock] using hb
  subst this
  intro hb2
  rcases h2.2 with ⟨rfl,_⟩ | ⟨g2,cap2,cur2,rfl,_,hg2,_⟩
  ·cases hb2
  ·have:g2 = g:=by simpa [Value.ownBlock] using hb2
   subst this
   rw [hg] at hg2
   simp only [Option.some.injEq,Obj.cells.injEq] at hg2
   exact hne hg2.2.1
theorem owns_fr2 {w w':World} {b e s n:Nat} {v:Value} {xs:List Value} (h:w.ownsRow b e s v n xs) {S:Nat→Prop} (f:Fr S w w') (hS:∀ k,v.ownBlock = some k→¬ S k):w'.ownsRow b e s v n xs :=
 owns_of_block h (fun k hk=>f.block k (h.lt k hk).2 (hS k hk))

set_option maxRecDepth 100000 in
set_option maxHeartbeats 6400000 in
theorem c_gparted {X Y:Nat→Prop} {v:Value} {xs:List TC} (w:World) (h:TSl X Y w v xs) (hp:PwX xs) (hne:0 < xs.length) (h1:xs[0].t.id = 1) (h16:∀ x ∈ xs,x.t.links.length ≤ 16) (hn:xs.length ≤ 100000) :
  Calls Try.prog 49 #[v] w fun e w'=>∃ u gv,e = .returned (.tuple #[u,gv])∧GRow (w.heap.size + 1) (fun b=>Y b∧b < w.heap.size) w' u (outX xs (marksX xs))∧w'.ownsRow (w.heap.size + 1) 23 1 gv (offX xs (marksX xs)).length ((offX xs (marksX xs)).map uv)∧Nw w w':=by
 have hr:Hid _:=c_greached w h hp hne h1 h16 hn
 obtain ⟨ao,cap,rfl,hc1,hc2⟩:=h.form
 have hml0:=marks_len xs
 have hfO:Hid (outT xs (marksX xs) xs.length = outX xs (marksX xs)):=outT_all hml0
 have hfF:Hid (offT xs (marksX xs) xs.length = offX xs (marksX xs)):=offT_all hml0
 obtain ⟨gB,hgB⟩:∃ g,Hid (g = w.heap.size):=⟨_,rfl⟩
 rw [← hgB.out] at hr ⊢
 obtain ⟨N,hN⟩:∃ N,xs.length = N:=⟨_,rfl⟩
 have hNx:Hid (xs.length = N):=hN
 rw [hN] at h hc1 hn hr hfO hfF hml0 ⊢
 clear hN hp h16 h1 hne
 obtain ⟨ms,hms⟩:∃ ms,Hid (marksX xs = ms):=⟨_,rfl⟩
 rw [hms.out] at hr hfO hfF hml0 ⊢
 have hml:Hid (ms.length = N):=hml0
 clear hml0
 go_enter Try.func49,Try.ntmps49
 go_wp2_with (go_at_call 60;refine Calls.mono hr.out ?_;rintro e w1 ⟨rfl,hB,n1⟩;refine stop_here ?_)
 unfold Hid
 clear hr
 go_wp2
 go_loopw [2,3,9] (fun rv gv kv wr=>∃ (k:Nat) (u g9:Value),k ≤ N∧rv = u∧gv = g9∧kv = .int .i64 k∧GRow (gB + 1) (fun b=>Y b∧b < gB) wr u (outT xs ms k)∧wr.ownsRow (gB + 1) 23 1 g9 (offT xs ms k).length ((offT xs ms k).map uv)∧BoolB wr gB ms∧Nw w wr) (fun _ _ kv _=>N - (intOf kv).toNat)
 case atStart=>exact ⟨0,_,_,Nat.zero_le _,rfl,rfl,rfl,by rw [outT_zero];exact ⟨World.ownsRow_nil _ _ _ _,fun y hy=>by simp at hy⟩,by rw [offT_zero];exact World.ownsRow_nil _ _ _ _,hB,n1⟩
 case round =>
  clear hB n1
  obtain ⟨k,u,g9,hk,rfl,rfl,rfl,hrow,hids,hB,hw⟩:=hrel
  by_cases hltN:k < N
  ·have hlt:k < xs.length:=by have:=hNx.out;omega
   have hlm:k < ms.length:=by have:=hml.out;omega
   have hO:Hid _:=outT_step hlt hlm
   have hF:Hid _:=offT_step hlt hlm
   have hol:=outT_len xs ms k
   have hfl:=offT_len xs ms k
   have hc:=hB.get hlm
   have hgd:ms.getD k false = ms[k]:=by rw [List.getD_eq_getElem?_getD,List.getElem?_eq_getElem hlm];rfl
   rw [hgd] at hc
   clear hgd
   obtain ⟨q,off,hva,_,hrr,hat⟩:=h.get k hlt
   subst hva
   unfold tcC at hrr
   have hat0:(xs[k]).At (fun b=>Y b∧b < gB) w:=hat.mono (fun b hb hl=>⟨hb,by have:=hgB.out;omega⟩)
   have hatr:=TC.At.nw hat0 hw
   replace hrr:=range_nw hrr hw
   clear hat hat0
   generalize xs[k] = x at *
   generalize outT xs ms k = ys at *
   generalize hG1:outT xs ms (k + 1) = ys2 at *
   replace hG1:Hid _:=hG1
   generalize offT xs ms k = is at *
   generalize hG2:offT xs ms (k + 1) = is2 at *
   replace hG2:Hid _:=hG2
   obtain ⟨S,hS⟩:∃ S,Hid (S = gB + 1):=⟨_,rfl⟩
   rw [← hS.out] at hrow hids ⊢
   have hSw:S ≤ wr.heap.size:=by have:=heap_lt hB;have:=hS.out;omega
   cases hb:ms[k] with
   | true =>
    rw [hb,if_pos rfl] at hO
    rw [hb,if_pos rfl,List.append_nil] at hF
    rw [hb] at hc
    replace hb:Hid _:=hb
    obtain ⟨oa,oc,e9⟩:=hrow.form
    subst e9
    have hy9:x.At (fun b=>(Y b∧b < gB)∧¬ (Value.slice oa ys.length oc).ownBlock = some b) wr:=TC.At.mono hatr (fun b hb _=>⟨hb,fun e=>by have:=(hrow.own.lt b e).1;have:=hS.out;have:=hb.2;omega⟩)
    obtain ⟨i0,hi0,hz0,hs0,hb0⟩:=info_parts3 Try.infoTb
    obtain ⟨cs,hcs⟩:∃ cs,(thC x.t x.l x.c x.k x.d) = cs:=⟨_,rfl⟩
    obtain ⟨vv,hvv⟩:∃ vv,(thV x.t x.l x.c x.k x.d) = vv:=⟨_,rfl⟩
    have hv2:vv = .agg cs.toArray:=by rw [← hvv,← hcs];rfl
    have h26:cs.length = 26:=by rw [← hcs];rfl
    have hone:∀ v ∈ cs,v.oneCell' = true:=by rw [← hcs];exact tc_one hy9
    have hrA:=owns_nw (GRow.own hrow) (nw_alloc (nw_refl wr) (.cells cs.toArray 34))
    have hsl:=sl_lit wr cs.toArray 34 1 (by omega)
    rw [List.toList_toArray] at hsl
    have hz26:(Try.prog.info? 34).map (·.size) = some cs.length:=by rw [h26];exact Try.sizeT
    have hp26:0 < cs.length:=by omega
    have hq26:cs.length ≤ 1000000:=by omega
    have hl26:cs.length = 1 * 26:=by omega
    rw [hcs] at hrr
    replace hvv:Hid _:=hvv
    replace hcs:Hid _:=hcs
    go_wp2_with (first | (refine wpList_load_as rfl 34 _ rfl q (off + k * 26) rfl vv cs hv2 hrr Try.rowT hz26 ?_) | (refine wpList_buildSlice1 rfl 22 34 _ rfl vv rfl cs hv2 Try.underTs hz26 Try.zeroSome hp26 hq26 ?_) | (at_builtin;refine wpList_append_sl _ rfl _ _ 22 rfl S 34 i0 _ 26 272 Try.underTs hi0 hz0 hs0 hb0 rfl (by decide) _ _ _ rfl hrA _ _ 1 _ rfl hsl hl26 ?d1 ?d2 ?d3 ?d4 ?_))
    case d1=>exact hone
    case d2=>unfold maxLen;omega
    case d3=>omega
    case d4=>(rw [alloc_size];omega)
    intro v9 w9 hown9 hgrow9 hat9
    have hcs2:=hcs.out
    subst hcs2
    have hvv2:=hvv.out
    subst hvv2
    have hrow9:=GRow.push (y:=x) (v9:=v9) (w9:=w9) hrow hy9 hown9 hgrow9 hat9
    have fr9:Fr (fun b=>(Value.slice oa ys.length oc).ownBlock = some b) wr w9:=Fr.grown (fr_of_nw (nw_alloc (nw_refl wr) _)) hgrow9 (fun q hq=>.inl hq)
    have m9:Nw w w9:=GRow.fr hrow hw (by have:=hS.out;have:=hgB.out;omega) hgrow9
    have hids9:=owns_fr2 hids fr9 (own_apart hids hrow.own (by decide))
    have hB9:=hB.fr fr9 (fun e=>by have:=(hrow.own.lt gB e).1;have:=hS.out;omega)
    obtain ⟨a9,cp9,e9⟩:=owns_form hown9
    subst e9
    rw [← hO.out] at hrow9
    rw [← hF.out] at hids9
    clear hown9 hgrow9 hat9 hrA hsl hone hz26 hp26 hq26 hl26 h26 hv2 hvv hcs hi0 hz0 hs0 hb0 hrr hc hrow hids hB fr9 hO hF hatr hy9
    go_wp2
    go_roundw
    case rel=>exact ⟨k + 1,_,_,by omega,rfl,rfl,by go_num,by first | (rw [hG1.out];exact hrow9) | (rw [hO2];exact hrow9),by rw [hG2.out];exact hids9,hB9,m9⟩
    case measure=>simp [intOf];omega
   | false =>
    rw [hb,if_neg Bool.noConfusion,List.append_nil] at hO
    rw [hb,if_neg Bool.noConfusion] at hF
    rw [hb] at hc
    replace hb:Hid _:=hb
    obtain ⟨i0,hi0,hz0,hs0,hb0⟩:=info_parts3 Try.infoU
    have c0:wr.cell? ⟨q,off + k * 26,none⟩ = some (.int .u64 x.t.id):=hrr 0 _ rfl
    have hrA:=owns_nw hids (nw_alloc (nw_refl wr) (.cells #[.int .u64 x.t.id] 23))
    have hsl:=sl_lit wr #[.int .u64 x.t.id] 23 1 (by omega)
    obtain ⟨oa,oc,e9⟩:=owns_form hids
    subst e9
    obtain ⟨pa,pc,e8⟩:=hrow.form
    subst e8
    clear hrr
    have hO2:=hO.out
    clear hO
    subst ys2
    go_wp2_with (at_builtin;refine wpList_append_sl _ rfl _ _ 45 rfl S 23 i0 _ 1 8 Try.underlying45 hi0 hz0 hs0 hb0 rfl (by decide) _ _ _ rfl hrA _ _ 1 _ rfl hsl rfl ?e1 ?e2 ?e3 ?e4 ?_)
    case e1=>first | rfl | (intro u hu;simp at hu;subst hu;rfl)
    case e2=>unfold maxLen;omega
    case e3=>omega
    case e4=>first | omega | (rw [alloc_size];omega)
    intro v9 w9 hown9 hgrow9 hat9
    have fr9:Fr (fun b=>(Value.slice oa is.length oc).ownBlock = some b) wr w9:=Fr.grown (fr_of_nw (nw_alloc (nw_refl wr) _)) hgrow9 (fun q hq=>.inl hq)
    have m9:Nw w w9:=Fr.grown (nw_alloc hw _) hgrow9 (fun q hq=>.inr (by have:=(hids.lt q hq).1;have:=hS.out;have:=hgB.out;omega))
    have hrow9:GRow S (fun b=>Y b∧b < gB) w9 (.slice pa ys.length pc) ys:=⟨owns_fr2 hrow.own fr9 (own_apart hrow.own hids (by decide)),fun y hy=>TC.At.keep (hrow.its y hy) fr9 (fun b hb _ e=>by have:=(hids.lt b e).1;have:=hS.out;have:=hb.1.2;omega) (fun b hb _=>hb)⟩
    have hB9:=hB.fr fr9 (fun e=>by have:=(hids.lt gB e).1;have:=hS.out;omega)
    have hids9:w9.ownsRow S 23 1 v9 is2.length (is2.map uv):=by rw [hF.out,List.length_append,List.map_append];exact hown9
    obtain ⟨a9,cp9,e9⟩:=owns_form hown9
    subst e9
    clear hown9 hgrow9 hat9 hrA hsl hi0 hz0 hs0 hb0 c0 hc hrow hids hB fr9 hF hatr
    go_wp2
    go_roundw
    case rel=>exact ⟨k + 1,_,_,by omega,rfl,rfl,by go_num,by first | (rw [hG1.out];exact hrow9) | (rw [hO2];exact hrow9),by rw [hG2.out];exact hids9,hB9,m9⟩
    case measure=>simp [intOf];omega
  ·obtain rfl:k = N:=by omega
   rw [hfO.out] at hrow
   rw [hfF.out] at hids
   clear hfO hfF hB
   go_wp2
   go_ret2
   exact ⟨_,_,rfl,hrow,hids,hw⟩
end Go.Proofs.Ytgmfofngmfekbaa
