/-
  GrT6, GrT7, GrT8: in one text.
-/
import Derived.Lib.AppendZerosOnto
import Derived.Test.YtgmfofngmfekbaaGrGjS
import Derived.Test.YtgmfofngmfekbaaLabS
import Derived.BigQuiet
import Derived.Deep.QuietTactic
namespace Go.Proofs.Ytgmfofngmfekbaa
set_option linter.unusedVariables false
set_option linter.unusedSimpArgs false
set_option maxRecDepth 20000
open Go.RowKit

theorem setCellsT_get {W:World} {g o:Nat} {vs:List Value} (h:∀ j,j < vs.length→(W.cell? ⟨g,o + j,none⟩).isSome = true) (t:Nat) (v:Value) (hv:vs[t]? = some v):(W.setCells g o vs).cell? ⟨g,o + t,none⟩ = some v:=by
 rw [World.cell?_setCells_in g vs o W h t (List.getElem?_eq_some_iff.1 hv).1]
 exact (List.getElem?_eq_getElem _).symm.trans hv
theorem tcs_one9 {xs:List TC} (h:∀ v ∈ tcs xs,v.oneCell' = true) (i:Nat):∀ v ∈ tcs (xs.drop i),v.oneCell' = true:=fun v hv=>h v (by
 have e:tcs xs = tcs (xs.take i) ++ tcs (xs.drop i):=by rw [← tcs_append,List.take_append_drop]
 rw [e]
 exact List.mem_append_right _ hv)
theorem tcs_ins {xs:List TC} {i:Nat} {y:TC} (hi:i ≤ xs.length) (j:Nat) (v:Value) (h:(tcs (xs.take i ++ y :: xs.drop i))[j]? = some v) :
  (j < i * 26∧(tcs xs)[j]? = some v)∨(∃ t,j = i * 26 + t∧(tcC y)[t]? = some v)∨(∃ t,j = (i + 1) * 26 + t∧(tcs (xs.drop i))[t]? = some v):=by
 have e:tcs (xs.take i ++ y :: xs.drop i) = tcs (xs.take i) ++ (tcC y ++ tcs (xs.drop i)):=by
  rw [tcs_append,show y :: xs.drop i = [y] ++ xs.drop i from rfl,tcs_append,tcs_one]
 have e2:tcs xs = tcs (xs.take i) ++ tcs (xs.drop i):=by rw [← tcs_append,List.take_append_drop]
 have hl:(tcs (xs.take i)).length = i * 26:=by rw [tcs_length,List.length_take,Nat.min_eq_left hi]
 have hc:(tcC y).length = 26:=rfl
 rw [e] at h
 by_cases h1:j < i * 26
 ·rw [List.getElem?_append_left (by omega)] at h
  exact .inl ⟨h1,by rw [e2,List.getElem?_append_left (by omega)];exact h⟩
 ·rw [List.getElem?_append_right (by omega),hl] at h
  by_cases h2:j - i * 26 < 26
  ·rw [List.getElem?_append_left (by omega)] at h
   exact .inr (.inl ⟨_,by omega,h⟩)
  ·rw [List.getElem?_append_right (by omega),hc] at h
   exact .inr (.inr ⟨_,by omega,h⟩)

theorem tcs_drop {xs:List TC} {i:Nat} (hi:i ≤ xs.length) (t:Nat) (v:Value) (h:(tcs (xs.drop i))[t]? = some v):(tcs xs)[i * 26 + t]? = some v:=by
 have e2:tcs xs = tcs (xs.take i) ++ tcs (xs.drop i):=by rw [← tcs_append,List.take_append_drop]
 have hl:(tcs (xs.take i)).length = i * 26:=by rw [tcs_length,List.length_take,Nat.min_eq_left hi]
 rw [e2,List.getElem?_append_right (by omega),hl]
 rw [show i * 26 + t - i * 26 = t by omega]
 exact h

/-- The cells of a list with one more, where they have been written one behind another. -/
theorem insT_cells {W:World} {g i:Nat} {xs:List TC} {y:TC} {cs:List Value} (hcs:tcC y = cs) (hi:i ≤ xs.length) (h0:∀ j v,j < i * 26→(tcs xs)[j]? = some v→W.cell? ⟨g,j,none⟩ = some v) (h1:∀ t v,cs[t]? = some v→W.cell? ⟨g,i * 26 + t,none⟩ = some v)
  (h2:∀ t v,(tcs (xs.drop i))[t]? = some v→W.cell? ⟨g,(i + 1) * 26 + t,none⟩ = some v):∀ j v,(tcs (xs.take i ++ y :: xs.drop i))[j]? = some v→W.cell? ⟨g,j,none⟩ = some v:=fun j v h=>by
 subst hcs
 rcases tcs_ins hi j v h with ⟨a,b⟩ | ⟨t,a,b⟩ | ⟨t,a,b⟩
 ·exact h0 j v a b
 ·rw [a];exact h1 t v b
 ·rw [a];exact h2 t v b

set_option maxHeartbeats 1600000 in
theorem c_insTGrow {g q n cap i:Nat} {cur:Array Value} {xs:List TC} {y:TC} (w:World) (hx:xs.length = n) (hin:i < n) (hn:n ≤ 1000000) (hnc:n ≤ cap) (hroom:cap < n + 1) (hg:w.heap[g]? = some (.cells cur 34 (0,0))) (ht:cur.toList.take (n * 26) = tcs xs)
  (hq:w.heap[q]? = some (.cells (tcC y).toArray 34 (0,0))) (hx1:∀ v ∈ tcs xs,v.oneCell' = true) (hy1:∀ v ∈ tcC y,v.oneCell' = true) :
  Calls Try.prog 45 #[.slice (some ⟨g,0,none⟩) n cap,.int .i64 i,.slice (some ⟨q,0,none⟩) 1 1] w fun e w'=>∃ G,e = .returned (.slice (some ⟨w.heap.size,0,none⟩) (n + 1) G)∧n + 1 ≤ G∧G ≤ 9223372036854775807∧(∀ j v,(tcs (xs.take i ++ y :: xs.drop i))[j]? = some v→w'.cell? ⟨w.heap.size,j,none⟩ = some v)∧Nw w w':=by
 obtain ⟨cs,hcs⟩:∃ cs,tcC y = cs:=⟨_,rfl⟩
 rw [hcs] at hq hy1
 have h26:cs.length = 26:=by rw [← hcs];rfl
 obtain ⟨i0,hi0,hz0,hs0,hb0⟩:=info_parts3 Try.infoTb
 have hlx:(tcs xs).length = n * 26:=by rw [tcs_length,hx]
 have hld:(tcs (xs.drop i)).length = (n - i) * 26:=by rw [tcs_length,List.length_drop,hx]
 have hlt:(tcs (xs.take i)).length = i * 26:=by rw [tcs_length,List.length_take,Nat.min_eq_left (by omega)]
 have hgl:g < w.heap.size:=heap_lt hg
 have hql:q < w.heap.size:=heap_lt hq
 have hxs:∀ j v,(tcs xs)[j]? = some v→w.cell? ⟨g,j,none⟩ = some v:=fun j v hj=>by
  refine cell_blk hg ?_
  have hjl:=(List.getElem?_eq_some_iff.1 hj).1
  rw [← ht,List.getElem?_take_of_lt (by omega)] at hj
  simpa using hj
 have e2:tcs xs = tcs (xs.take i) ++ tcs (xs.drop i):=by rw [← tcs_append,List.take_append_drop]
 have hxt:∀ j v,(tcs (xs.take i))[j]? = some v→w.cell? ⟨g,j,none⟩ = some v:=fun j v hj=>hxs j v (by
  rw [e2,List.getElem?_append_left (List.getElem?_eq_some_iff.1 hj).1];exact hj)
 have hcs2:∀ j v,(cs)[j]? = some v→w.cell? ⟨q,j,none⟩ = some v:=fun j v hj=>cell_blk hq (by simpa using hj)
 have hsz:(Try.prog.info? 34).map (·.size) = some 26:=Try.sizeT
 obtain ⟨G,hG⟩:∃ G,G = grownCap w (n + 1) cap 34:=⟨_,rfl⟩
 obtain ⟨ROW,hROW⟩:∃ ROW:Array Value,ROW = (tcs (xs.take i)).toArray ++ Builtin.zeroCells (thV zeroT (.slice none 0 0) (.slice none 0 0) (.slice none 0 0) (.slice none 0 0)).cells (n + 1 - i) ++ Builtin.zeroCells (thV zeroT (.slice none 0 0) (.slice none 0 0) (.slice none 0 0) (.slice none 0 0)).cells (G - (n + 1)):=⟨_,rfl⟩
 have hRl:(n + 1) * 26 ≤ ROW.size:=by
  rw [hROW]
  have hzc:(thV zeroT (.slice none 0 0) (.slice none 0 0) (.slice none 0 0) (.slice none 0 0)).cells.size = 26:=rfl
  simp [Builtin.zeroCells,hzc,hlt]
  omega
 have hR0:∀ j v,(tcs (xs.take i))[j]? = some v→ROW[j]? = some v:=fun j v hj=>by
  have hl:=(List.getElem?_eq_some_iff.1 hj).1
  rw [hROW,Array.append_assoc,Array.getElem?_append_left (by simpa using hl)]
  simpa using hj
 obtain ⟨W1,hW1⟩:∃ W1,W1 = w.drew.alloc (.cells ROW 34):=⟨_,rfl⟩
 have hold:(Builtin.firstCells i0.size i (.slice (some ⟨g,0,none⟩) i cap)).run Try.prog w.drew = .ok (tcs (xs.take i)).toArray w.drew:=by
  rw [hs0]
  exact run_firstCells_some w.drew 26 i ⟨g,0,none⟩ i cap (tcs (xs.take i)) hlt (fun j v hj=>by
   rw [Addr.add_lit,Nat.zero_add]
   exact hxt j v hj)
 have hkk:(n:Int) + 1 - (i:Int) = ((n + 1 - i:Nat):Int):=by omega
 have hik:i + (n + 1 - i) = n + 1:=by omega
 have hrz:∀ ty,(Builtin.append_ #[22,3] ty #[.slice (some ⟨g,0,none⟩) i cap,.int .i64 ((n:Int) + 1 - (i:Int))]).run Try.prog w = .ok (.slice (some ⟨w.heap.size,0,none⟩) (n + 1) G) W1:=fun ty=>by
  have hnx:=nextslicecap_le_wide hroom
  have h:=Lib.run_append_grow_zeros w 22 3 ty 34 i0 _ .i64 .i64 Try.underlying22 Try.underlying3 hi0 hz0 (some ⟨g,0,none⟩) i cap (tcs (xs.take i)) hold (n + 1 - i) (by omega) (by omega) (by omega) (by omega) (by rw [hb0];omega) (by rw [hb0,hik];omega)
  rw [hik] at h
  rw [hkk,hW1,hROW,hG]
  exact h
 have hN:∀ j,j < (n + 1) * 26→(W1.cell? ⟨w.heap.size,j,none⟩).isSome = true:=fun j hj=>by
  rw [hW1,World.cell?_alloc_at (w:=w.drew) ROW _ w.heap.size j rfl,Array.getElem?_eq_getElem (by omega)];rfl
 have hN0:∀ j v,(tcs (xs.take i))[j]? = some v→W1.cell? ⟨w.heap.size,j,none⟩ = some v:=fun j v hj=>by
  rw [hW1,World.cell?_alloc_at (w:=w.drew) ROW _ w.heap.size j rfl];exact hR0 j v hj
 have hNf:∀ j,W1.frozen? ⟨w.heap.size,j,none⟩ = false:=fun j=>by rw [hW1];exact World.frozen?_alloc_at (w:=w.drew) ROW _ w.heap.size j rfl
 have hOb:∀ j v,w.cell? ⟨g,j,none⟩ = some v→W1.cell? ⟨g,j,none⟩ = some v:=fun j v h=>by rw [hW1,World.cell?_alloc_past (w:=w.drew) _ g j hgl];exact h
 have hOv:∀ j v,w.cell? ⟨q,j,none⟩ = some v→W1.cell? ⟨q,j,none⟩ = some v:=fun j v h=>by rw [hW1,World.cell?_alloc_past (w:=w.drew) _ q j hql];exact h
 have hcpA:∀ (W:World),(∀ x,W.cell? x = W1.cell? x)→(∀ x,W.frozen? x = W1.frozen? x)→∀ ty dc,(Builtin.copy_ #[22,22] ty #[.slice (some ⟨w.heap.size,i * 26,none⟩) (n + 1 - i) dc,.slice (some ⟨q,0,none⟩) 1 1]).run Try.prog W = .ok (goInt 1) (W.setCells w.heap.size (i * 26) (cs)):=fun W hWc hWf ty dc=>by
  have hmin:Nat.min 1 (n + 1 - i) = 1:=Nat.min_eq_left (by omega)
  have:=run_copy_sized (P:=Try.prog) W 22 22 ty 34 w.heap.size (i * 26) (n + 1 - i) dc ⟨q,0,none⟩ 1 1 26 (cs) Try.underlying22 hsz (by rw [hmin,h26])
   (fun j v hj=>by rw [Addr.add_lit,Nat.zero_add,hWc];exact hOv _ v (hcs2 j v hj))
   (fun j hj=>by have hj2:j < 26:=h26 ▸ hj;rw [hWc];exact hN _ (by omega))
   (fun j hj=>by rw [hWf];exact hNf _) (hy1)
  rw [hmin] at this
  exact this
 have hcpB:∀ (W:World),(∀ x,W.cell? x = (W1.setCells w.heap.size (i * 26) (cs)).cell? x)→(∀ x,W.frozen? x = (W1.setCells w.heap.size (i * 26) (cs)).frozen? x)→∀ ty dc sc,(Builtin.copy_ #[22,22] ty #[.slice (some ⟨w.heap.size,(i + 1) * 26,none⟩) (n - i) dc,.slice (some ⟨g,i * 26,none⟩) (n - i) sc]).run Try.prog W = .ok (goInt (n - i:Nat)) (W.setCells w.heap.size ((i + 1) * 26) (tcs (xs.drop i))):=fun W hWc hWf ty dc sc=>by
  have hmin:Nat.min (n - i) (n - i) = n - i:=Nat.min_self _
  have:=run_copy_sized (P:=Try.prog) W 22 22 ty 34 w.heap.size ((i + 1) * 26) (n - i) dc ⟨g,i * 26,none⟩ (n - i) sc 26 (tcs (xs.drop i)) Try.underlying22 hsz (by rw [hmin,hld])
   (fun j v hj=>by
    rw [Addr.add_lit,hWc,World.cell?_setCells_out _ _ _ _ _ (fun h _=>absurd h (by show g ≠ _;omega))]
    exact hOb _ v (hxs _ v (tcs_drop (by omega) j v hj)))
   (fun j hj=>by rw [hWc];exact isSome_setCells _ (cs) (i * 26) W1 (fun t ht=>hN _ (by have:t < 26:=h26 ▸ ht;omega)) _ (hN _ (by omega)))
   (fun j hj=>by rw [hWf,World.frozen?_setCells];exact hNf _) (tcs_one9 hx1 i)
  rw [hmin] at this
  exact this
 have hGn:n + 1 ≤ G:=by rw [hG];exact grownCap_ge w _ _ _
 have hG63:G ≤ 9223372036854775807:=by
  have:=grownCap_le_maxLen w (n + 1) cap 34 (by unfold maxLen;omega)
  rw [← hG] at this
  unfold maxLen at this
  omega
 have hfin:Hid (∀ W2:World,(∀ x,W2.cell? x = (W1.setCells w.heap.size (i * 26) (cs)).cell? x)→Nw w W2→(∀ j v,(tcs (xs.take i ++ y :: xs.drop i))[j]? = some v→(W2.setCells w.heap.size ((i + 1) * 26) (tcs (xs.drop i))).cell? ⟨w.heap.size,j,none⟩ = some v)∧Nw w (W2.setCells w.heap.size ((i + 1) * 26) (tcs (xs.drop i)))):=fun W2 h1 h2=>by
  have hs2:∀ j,j < (n + 1) * 26→(W2.cell? ⟨w.heap.size,j,none⟩).isSome = true:=fun j hj=>by
   rw [h1];exact isSome_setCells _ (cs) (i * 26) W1 (fun t ht=>hN _ (by have:t < 26:=h26 ▸ ht;omega)) _ (hN _ hj)
  refine ⟨insT_cells (cs:=cs) hcs (by omega) (fun j v hj h=>?_) (fun t v h=>?_) (fun t v h=>?_),fr_setCells (.inr (Nat.le_refl _)) _ _ _ h2⟩
  ·rw [World.cell?_setCells_out _ _ _ _ _ (fun _ _=>.inl (by show j < _;omega)),h1,World.cell?_setCells_out _ _ _ _ _ (fun _ _=>.inl (by show j < _;omega))]
   refine hN0 j v ?_
   rw [e2,List.getElem?_append_left (by omega)] at h
   exact h
  ·have htl:t < 26:=h26 ▸ (List.getElem?_eq_some_iff.1 h).1
   rw [World.cell?_setCells_out _ _ _ _ _ (fun _ _=>.inl (by show i * 26 + t < _;omega)),h1]
   exact setCellsT_get (fun j hj=>hN _ (by have:j < 26:=h26 ▸ hj;omega)) t v h
  ·exact setCellsT_get (fun j hj=>hs2 _ (by omega)) t v h
 subst hW1
 have hfr:Hid (Nw w ((w.alloc (.cells ROW 34)).drew.setCells w.heap.size (i * 26) (cs)).drew):=Fr.drew (fr_setCells (.inr (Nat.le_refl _)) _ _ _ (Fr.drew (nw_alloc (nw_refl w) _)))
 have hE1:∀ x,((w.alloc (.cells ROW 34)).drew).cell? x = (w.drew.alloc (.cells ROW 34)).cell? x:=fun x=>rfl
 have hE2:∀ x,((w.alloc (.cells ROW 34)).drew).frozen? x = (w.drew.alloc (.cells ROW 34)).frozen? x:=fun x=>rfl
 have hF1:∀ x,(((w.alloc (.cells ROW 34)).drew.setCells w.heap.size (i * 26) (cs)).drew).cell? x = ((w.drew.alloc (.cells ROW 34)).setCells w.heap.size (i * 26) (cs)).cell? x:=fun x=>rfl
 have hF2:∀ x,(((w.alloc (.cells ROW 34)).drew.setCells w.heap.size (i * 26) (cs)).drew).frozen? x = ((w.drew.alloc (.cells ROW 34)).setCells w.heap.size (i * 26) (cs)).frozen? x:=fun x=>rfl
 have hz2:¬ ((i:Int) = (n:Int)):=by omega
 have hz3:(cap:Int) < (n:Int) + 1:=by omega
 have hw1:IntKind.i64.wrap ((i:Int) + 1) = (i:Int) + 1:=by rw [IntKind.wrap_i64];omega
 have hb1:(0:Int) ≤ (i:Int) + 1:=by omega
 have hGi:¬ (G = i):=by omega
 have hGim:¬ (G = i + 1):=by omega
 have hci:¬ (cap = i):=by omega
 have hb3:(i:Int) ≤ (n:Int):=by omega
 have hb4:(i:Int) ≤ (n:Int) + 1:=by omega
 have hb5:(i:Int) + 1 ≤ (n:Int) + 1:=by omega
 have hb6:i ≤ n:=by omega
 have htn:((i:Int) + 1).toNat = i + 1:=by omega
 clear hxs hcs2 hlx hsz hROW hG hRl hN hNf hOb hOv hg hq ht hi0 hz0 hs0 hb0 hkk hik hold hR0 hN0 hxt e2 hld hlt
 go_enter Try.func45,Try.ntmps45
 go_wp2_with (first
  | (at_builtin;refine Lib.wpList_append_run _ rfl _ _ _ _ rfl _ _ rfl rfl _ _ (hrz _) ?_)
  | (at_builtin;refine wpList_copy_run _ rfl _ _ 22 22 rfl _ _ rfl rfl _ _ (hcpA _ hE1 hE2 _ _) ?_))
 go_region_law (refine step_copy_run rfl _ _ 22 22 rfl (.slice (some ⟨w.heap.size,(i + 1) * 26,none⟩) (n - i) (G - (i + 1))) (.slice (some ⟨g,i * 26,none⟩) (n - i) (cap - i)) (by simp [Act.eval,Act.put]) (by simp [Act.eval,Act.put]) (hcpB _ hF1 hF2 3 (G - (i + 1)) (cap - i)) ?_)
 go_wp2
 go_ret
 exact ⟨G,rfl,hGn,hG63,hfin.out ((w.alloc (.cells ROW 34)).drew.setCells w.heap.size (i * 26) (cs)).drew hF1 hfr.out⟩

set_option maxHeartbeats 1600000 in
theorem c_insTEnd {base q n:Nat} {v:Value} {xs:List TC} {y:TC} (w:World) (hb:base ≤ w.heap.size) (hn:xs.length = n) (h:w.ownsRow base 34 26 v n (tcs xs)) (hl:n ≤ 1000000) (hq:w.heap[q]? = some (.cells (tcC y).toArray 34 (0,0))) (hy1:∀ v ∈ tcC y,v.oneCell' = true) :
  Calls Try.prog 45 #[v,.int .i64 n,.slice (some ⟨q,0,none⟩) 1 1] w fun e w'=>∃ u,e = .returned u∧w'.ownsRow base 34 26 u (n + 1) (tcs (xs ++ [y]))∧Fr (fun k=>v.ownBlock = some k) w w':=by
 obtain ⟨i0,hi0,hz0,hs0,hb0⟩:=info_parts3 Try.infoTb
 have hsl:Sl w.heap.size w (.slice (some ⟨q,0,none⟩) 1 1) 1 (tcC y):=⟨some ⟨q,0,none⟩,1,rfl,⟨Nat.le_refl _,by unfold maxLen;decide⟩,(fun h=>by cases h),fun j u hj=>⟨q,0,rfl,heap_lt hq,by rw [Nat.zero_add];exact cell_blk hq (by simpa using hj)⟩⟩
 have hone:∀ v ∈ tcC y,v.oneCell' = true:=hy1
 have hlen:(tcC y).length = 1 * 26:=rfl
 have hcc:tcs (xs ++ [y]) = tcs xs ++ tcC y:=by rw [tcs_append,tcs_one]
 have hfo:=(sl_of_owns h)
 obtain ⟨ao,cap,rfl,⟨hc1,hc2⟩,_⟩:=hfo
 unfold maxLen at hc2
 rw [hcc]
 clear hcc hn
 generalize tcs xs = ys at *
 clear hy1
 generalize tcC y = cs at *
 by_cases hcn:cap = n
 ·subst hcn
  go_enter Try.func45,Try.ntmps45
  go_wp2_with (at_builtin;refine wpList_append_sl _ rfl _ _ 22 rfl base 34 i0 _ 26 272 Try.underlying22 hi0 hz0 hs0 hb0 rfl (by decide) _ cap _ rfl h _ _ 1 _ rfl hsl hlen hone ?d2 ?d3 hb ?_)
  case d2=>unfold maxLen;omega
  case d3=>omega
  intro v9 w9 hown9 hgrow9 hat9
  have hf:Fr (fun k=>(Value.slice ao cap cap).ownBlock = some k) w w9:=Fr.grown (Fr.refl _ w) hgrow9 (fun q hq=>.inl hq)
  obtain ⟨ao9,cap9,rfl⟩:=owns_form hown9
  replace hown9:Hid _:=hown9
  clear hgrow9 hat9 h hsl
  go_wp2
  go_ret
  exact ⟨_,rfl,hown9.out,hf⟩
 ·go_enter Try.func45,Try.ntmps45
  go_wp2_with (at_builtin;refine wpList_append_sl _ rfl _ _ 22 rfl base 34 i0 _ 26 272 Try.underlying22 hi0 hz0 hs0 hb0 rfl (by decide) _ n _ rfl h _ _ 1 _ rfl hsl hlen hone ?e2 ?e3 hb ?_)
  case e2=>unfold maxLen;omega
  case e3=>omega
  intro v9 w9 hown9 hgrow9 hat9
  have hf:Fr (fun k=>(Value.slice ao n cap).ownBlock = some k) w w9:=Fr.grown (Fr.refl _ w) hgrow9 (fun q hq=>.inl hq)
  obtain ⟨ao9,cap9,rfl⟩:=owns_form hown9
  replace hown9:Hid _:=hown9
  clear hgrow9 hat9 h hsl
  go_wp2
  go_ret
  exact ⟨_,rfl,hown9.out,hf⟩

/-- Insert of one thing into a full row, as a whole. -/
theorem c_insT {S g q i:Nat} {xs:List TC} {y:TC} (w:World) (hg:RowB w g xs) (hS:S ≤ g) (hx1:∀ v ∈ tcs xs,v.oneCell' = true) (hy1:∀ v ∈ tcC y,v.oneCell' = true) (hi:i ≤ xs.length) (hl:xs.length ≤ 1000000) (hq:w.heap[q]? = some (.cells (tcC y).toArray 34 (0,0))) :
  Calls Try.prog 45 #[rowV g xs.length,.int .i64 i,.slice (some ⟨q,0,none⟩) 1 1] w fun e w'=>∃ u,e = .returned u∧Slp (fun b=>S ≤ b) w' u (xs.length + 1) (tcs (xs.take i ++ y :: xs.drop i))∧Fr (fun k=>k = g) w w':=by
 have hgl:=heap_lt hg
 rcases Nat.eq_or_lt_of_le hi with e0 | hlt
 ·subst e0
  have ho:w.ownsRow S 34 26 (rowV g xs.length) xs.length (tcs xs):=⟨tcs_length xs,.inr ⟨g,xs.length,_,rfl,hS,hg,Nat.le_refl _,by unfold maxLen;omega,by simp [tcs_length],by rw [List.toList_toArray,← tcs_length xs,List.take_length]⟩⟩
  refine (c_insTEnd (y:=y) w (by omega) rfl ho hl hq hy1).mono fun e w' hh=>?_
  obtain ⟨u,rfl,ho,hf⟩:=hh
  have e2:xs.take xs.length ++ y :: xs.drop xs.length = xs ++ [y]:=by simp
  rw [e2]
  exact ⟨u,rfl,slp_mono (slp_of_owns ho) (owns_ge ho),hf.mono (fun k hk=>by have:some g = some k:=hk;simpa using this.symm)⟩
 ·refine (c_insTGrow (y:=y) w rfl hlt (by omega) (Nat.le_refl _) (by omega) hg (by rw [List.toList_toArray,← tcs_length xs,List.take_length]) hq hx1 hy1).mono fun e w' hh=>?_
  obtain ⟨G,rfl,h1,h2,h3,h4⟩:=hh
  exact ⟨_,rfl,⟨some ⟨w.heap.size,0,none⟩,G,rfl,⟨by omega,by unfold maxLen;omega⟩,(fun h=>by cases h),fun j u hj=>⟨w.heap.size,0,rfl,by omega,by rw [Nat.zero_add];exact h3 j u hj⟩⟩,h4.mono (fun k hk=>hk.elim)⟩

end Go.Proofs.Ytgmfofngmfekbaa

namespace Go.Proofs.Ytgmfofngmfekbaa
set_option linter.unusedVariables false
set_option linter.unusedSimpArgs false
set_option maxRecDepth 20000
open Go.RowKit

theorem Lay.nw {w w':World} {lo hi:Nat} {ys:List TC} (h:Lay w lo hi ys) (n:Nw w w'):Lay w' lo hi ys:=lay_fr n h (fun b hb=>hb.elim)
/-- Lists of the same things stand alike. -/
theorem same_pos:∀ {ys xs:List TC},ys.map (·.t) = xs.map (·.t)→∀ id,posX ys id = posX xs id
 | [],[],_,_=>rfl
 | y :: ys,x :: xs,h,id=>by
  simp only [List.map_cons,List.cons.injEq] at h
  simp only [posX,h.1,same_pos h.2 id]
 | [],_ :: _,h,_=>by simp at h
 | _ :: _,[],h,_=>by simp at h
theorem same_find:∀ {ys xs:List TC},ys.map (·.t) = xs.map (·.t)→∀ id,(findX ys id).map (·.t) = (findX xs id).map (·.t)
 | [],[],_,_=>rfl
 | y :: ys,x :: xs,h,id=>by
  simp only [List.map_cons,List.cons.injEq] at h
  have ih:=same_find h.2 id
  unfold findX at ih ⊢
  rw [List.find?_cons,List.find?_cons,h.1]
  cases x.t.id == id with
  | true=>simp [h.1]
  | false=>exact ih
 | [],_ :: _,h,_=>by simp at h
 | _ :: _,[],h,_=>by simp at h
theorem same_found {ys xs:List TC} (h:ys.map (·.t) = xs.map (·.t)) (id:Int):foundX ys id = foundX xs id:=by
 have:=same_find h id
 unfold foundX
 cases h1:findX ys id <;> cases h2:findX xs id <;> rw [h1,h2] at this <;> first | rfl | (simp at this)
theorem same_pw {ys xs:List TC} (h:ys.map (·.t) = xs.map (·.t)) (hp:PwX xs):PwX ys:=by
 have h1:(xs.map (·.t)).Pairwise (fun a b=>a.id < b.id):=List.pairwise_map.2 hp
 rw [← h] at h1
 exact (List.pairwise_map (f:=fun x:TC=>x.t) (R:=fun a b=>a.id < b.id)).1 h1
theorem same_put {ys xs:List TC} (h:ys.map (·.t) = xs.map (·.t)) (hp:PwX xs) {a b:TC} (e:a.t = b.t):(putX ys a).map (·.t) = (putX xs b).map (·.t):=by
 rw [put_pos (same_pw h hp),put_pos hp,same_pos h,same_found h,e]
 split
 ·rw [List.map_set,List.map_set,h,e]
 ·rw [List.map_append,List.map_append,List.map_cons,List.map_cons,List.map_take,List.map_take,List.map_drop,List.map_drop,h,e]

theorem all_set {P:TC→Prop} {ys:List TC} {p:Nat} {y:TC} (h:∀ z ∈ ys,P z) (hy:P y):∀ z ∈ ys.set p y,P z:=fun z hz=>by
 rcases List.mem_or_eq_of_mem_set hz with h1 | rfl
 ·exact h z h1
 ·exact hy
theorem all_ins {P:TC→Prop} {ys:List TC} {p:Nat} {y:TC} (h:∀ z ∈ ys,P z) (hy:P y):∀ z ∈ ys.take p ++ y :: ys.drop p,P z:=fun z hz=>by
 rcases List.mem_append.1 hz with h1 | h1
 ·exact h z (List.mem_of_mem_take h1)
 ·rcases List.mem_cons.1 h1 with rfl | h2
  ·exact hy
  ·exact h z (List.mem_of_mem_drop h2)

theorem c_gcopies9 {g:Nat} {X Y:Nat→Prop} {v:Value} {xs:List TC} (w:World) (hg:Hid (g = w.heap.size)) (h:TSl X Y w v xs) (hok:∀ x ∈ xs,TLen x.t) (hlen:xs.length ≤ 1000000) :
  Calls Try.prog 44 #[v] w fun e w'=>∃ ys,e = .returned (rowV g xs.length)∧RowB w' g ys∧Lay w' (g + 1) w'.heap.size ys∧ys.map (·.t) = xs.map (·.t)∧Nw w w':=by
 rw [hg.out]
 exact c_gcopies w h hok hlen

set_option maxRecDepth 100000 in
set_option maxHeartbeats 6400000 in
theorem c_gput {X Y Z:Nat→Prop} {v:Value} {xs:List TC} {t:Th} {uL uC uK uD:Value} (w:World) (h:TSl X Y w v xs) (ht:ThAt Z w t uL uC uK uD) (hp:PwX xs) (hok:∀ x ∈ xs,TLen x.t) (hokt:TLen t) (hn:xs.length ≤ 100000) :
  Calls Try.prog 20 #[v,thV t uL uC uK uD] w fun e w'=>∃ u zs,e = .returned u∧TSl (fun b=>w.heap.size ≤ b) (fun b=>w.heap.size ≤ b) w' u zs∧zs.map (·.t) = (putX xs ⟨t,uL,uC,uK,uD⟩).map (·.t)∧Nw w w':=by
 obtain ⟨ao,cap,rfl,hc1,hc2⟩:=h.form
 obtain ⟨W,hW⟩:∃ W,Hid (W = w.alloc (.cells (thC t uL uC uK uD).toArray 34)):=⟨_,rfl⟩
 have nW:Nw w W:=by rw [hW.out];exact nw_alloc (nw_refl w) _
 have hB0:W.heap[w.heap.size]? = some (.cells (thC t uL uC uK uD).toArray 34 (0,0)):=by rw [hW.out];exact heap_alloc_new w _
 have hs:=h.nw nW
 replace ht:=ht.nw nW
 clear h
 have hB0w:=heap_lt hB0
 obtain ⟨g,hg⟩:∃ g,Hid (g = W.drew.heap.size):=⟨_,rfl⟩
 have hgw:w.heap.size < g:=by have:=hg.out;show _;rw [this];exact hB0w
 have hfs:Hid (∀ {ys:List TC},ys.map (·.t) = xs.map (·.t)→posX ys t.id = posX xs t.id∧foundX ys t.id = foundX xs t.id∧PwX ys∧∀ y:TC,y.t = t→(putX ys y).map (·.t) = (putX xs ⟨t,uL,uC,uK,uD⟩).map (·.t)):=fun h=>⟨same_pos h _,same_found h _,same_pw h hp,fun y e=>same_put h hp e⟩
 replace hok:Hid _:=hok
 replace hokt:Hid _:=hokt
 replace hp:Hid _:=hp
 go_enter Try.func20,Try.ntmps20
 go_upto_region 1 with ((refine wpList_box_agg rfl 34 _ rfl (thV t uL uC uK uD) _ rfl rfl ?_))
 rw [← hW.out]
 clear hW
 have hSof:∀ w',Nw W w'→(fun w':World=>Nw W w'∧w'.heap[w.heap.size]? = some (.cells (thC t uL uC uK uD).toArray 34 (0,0))) w':=fun w' hw=>⟨hw,(hw.block _ (heap_lt hB0) (fun h=>h)).trans hB0⟩
 have hW0:Nw W W.drew:=Fr.drew (Fr.refl _ W)
 have hS:=hSof _ hW0
 replace hs:=hs.nw hW0
 replace ht:=ht.nw hW0
 replace hSof:Hid _:=hSof
 refine wp_region_ord [] 5 [(0,true),(2,true),(1,false),(3,false),(4,true)] (fun w':World=>Nw W w'∧w'.heap[w.heap.size]? = some (.cells (thC t uL uC uK uD).toArray 34 (0,0))) (by kernel_rfl) (by kernel_rfl) ?_
 refine ord_quietL _ ?_ rfl hS rfl ?_ ?_
 rotate_left
 ·rintro w' ⟨hn,rhB0⟩;go_simp;rfl
 simp only [pL,List.set]
 refine ord_quietL _ ?_ rfl hS rfl ?_ ?_
 rotate_left
 ·rintro w' ⟨hn,rhB0⟩;refine (run_load_th _ w' rfl (w.heap.size) rfl rhB0).trans ?_;rfl
 simp only [pL,List.set]
 refine ord_actL _ rfl (fun K1 hK1=>?_)
 have hcon:Hid _:=c_gcopies9 W.drew hg hs hok.out (by omega)
 go_wp2_with (go_at_call 44;refine Calls.mono hcon.out ?_;rintro e wk0 ⟨ys,rfl,hR,hL,hyt,qn⟩)
 have m0:=nw_trans hW0 qn
 replace hs:=hs.nw qn
 replace ht:=ht.nw qn
 replace hyt:Hid _:=hyt
 have hgk:=heap_lt hR
 refine hK1 _ _ (hSof.out _ m0) ?_
 clear hK1 K1 hcon qn hS hW0 hs
 have hS:=hSof.out _ m0
 refine ord_actL _ rfl (fun K1 hK1=>?_)
 have hcon:Hid _:=c_tcopy wk0 ht hokt.out.l1 hokt.out.l2 hokt.out.l3 hokt.out.l4
 go_wp2_with (go_at_call 39;refine Calls.mono hcon.out ?_;rintro e wk1 ⟨u1,u2,u3,u4,rfl,hcp,qn⟩)
 have m1:=nw_trans m0 qn
 replace ht:=ht.nw qn
 replace hR:=hR.nw qn
 replace hL:=hL.nw qn
 have hat:=hcp.at
 refine hK1 _ _ (hSof.out _ m1) ?_
 clear hK1 K1 hcon qn hS m0 ht
 have hS:=hSof.out _ m1
 refine ord_quietL _ ?_ rfl hS rfl ?_ ?_
 rotate_left
 ·rintro w' ⟨hn,rhB0⟩;go_simp;rfl
 simp only [pL,List.set]
 refine ord_tail ?_
 simp only [List.drop_succ_cons,List.drop_zero]
 replace nW:Nw w wk1:=nw_trans nW m1
 replace hB0:=(m1.block _ (heap_lt hB0) (fun h=>h)).trans hB0
 clear hSof hS m1 hcp
 obtain ⟨W1,hV⟩:∃ V,Hid (V = wk1.setRow (w.heap.size) (thC t u1 u2 u3 u4).toArray):=⟨_,rfl⟩
 have fV:Fr (fun k=>k = w.heap.size) wk1 W1:=by rw [hV.out];exact (Fr.refl (fun k=>k = w.heap.size) wk1).setRow (.inl rfl) _
 have hnew:W1.heap[w.heap.size]? = some (.cells (thC t u1 u2 u3 u4).toArray 34 (0,0)):=by rw [hV.out];exact setRow_heap _ _ _ _ _ _ hB0
 go_wp2_with (refine wpList_store_all rfl 34 _ _ rfl (w.heap.size) rfl (thV t u1 u2 u3 u4) rfl (thC t u1 u2 u3 u4) rfl (thC t uL uC uK uD) 34 hB0 rfl (hat.one) Try.sizeT ?_;rw [← hV.out];refine stop_here ?_)
 unfold Hid
 clear hV
 replace hB0:=hnew
 clear hnew
 replace hR:=hR.fr fV (by show ¬ g = _;omega)
 replace hL:=lay_fr fV hL (fun b hb=>by have hb2:b = w.heap.size:=hb;omega)
 replace hat:=hat.keep (X':=fun b=>g < b) fV (fun b hb _ e=>by have e2:b = w.heap.size:=e;have hb2:wk0.heap.size ≤ b:=hb;omega) (fun b hb _=>by have hb2:wk0.heap.size ≤ b:=hb;omega)
 replace nW:Nw w W1:=Fr.trans nW fV (fun k hk=>.inr (by omega))
 clear fV
 have hyl:ys.length = xs.length:=by have:=congrArg List.length hyt.out;simpa using this
 obtain ⟨hps,hfd,hpy,hput⟩:=hfs.out hyt.out
 have hsl:=row_tsl hR (by omega) (lay_at hL)
 have hpl:Hid _:=c_gplace t.id W1 hsl hpy (by omega)
 rw [hyl] at hpl
 clear hsl hok hokt hfs hp
 have hy1:∀ y ∈ ys,y.At (fun b=>g < b) W1:=fun y hy=>TC.At.mono (lay_at hL y hy) (fun b hb _=>by have h9:=hb.1;omega)
 clear hL
 cases hf:foundX ys t.id with
 | true =>
  have hpp:=put_pos hpy ⟨t,u1,u2,u3,u4⟩
  rw [if_pos hf] at hpp
  replace hpp:Hid _:=hpp
  obtain ⟨hlt,_,_⟩:=find_at hpy hf
  rw [hf] at hpl
  replace hf:Hid _:=hf
  change Hid (putX ys _ = ys.set (posX ys t.id) _) at hpp
  generalize posX ys t.id = p at *
  replace hps:Hid _:=hps
  replace hfd:Hid _:=hfd
  have c0:W1.cell? ⟨w.heap.size,0,none⟩ = some (.int .u64 t.id):=cell_blk hB0 rfl
  have hcon:Hid _:=hpl.out
  go_wp2_with ((go_at_call 38;refine Calls.mono hcon.out ?_;rintro e W2 ⟨rfl,n2⟩;refine stop_here ?_))
  unfold Hid
  clear hcon  hpl c0
  replace hB0:=(n2.block _ (heap_lt hB0) (fun h=>h)).trans hB0
  replace hR:=hR.nw n2
  replace hat:=hat.nw n2
  replace hy1:∀ y ∈ ys,y.At (fun b=>g < b) _:=fun y hy=>(hy1 y hy).nw n2
  replace nW:=nw_trans nW n2
  obtain ⟨W9,hW9⟩:∃ V,Hid (V = W2.setRow g (tcs (ys.set p ⟨t,u1,u2,u3,u4⟩)).toArray):=⟨_,rfl⟩
  have hspl:=splice_tcs hlt ⟨t,u1,u2,u3,u4⟩
  have hfit:p * 26 + 26 ≤ (tcs ys).length:=by rw [tcs_length];omega
  have f9:Fr (fun b=>b = g) W2 W9:=by rw [hW9.out];exact (Fr.refl (fun b=>b = g) _).setRow (.inl rfl) _
  have hR9:RowB W9 g (ys.set p ⟨t,u1,u2,u3,u4⟩):=by rw [hW9.out];exact setRow_heap _ _ _ _ _ _ hR
  obtain ⟨L9,hL9⟩:∃ L,Hid (L = tcs ys):=⟨_,rfl⟩
  unfold RowB at hR
  rw [← hL9.out] at hspl hfit hR
  replace hspl:Hid (splice L9 (p * 26) (thC t u1 u2 u3 u4) = tcs (ys.set p ⟨t,u1,u2,u3,u4⟩)):=hspl
  have hltx:p < xs.length:=by omega
  have hr0:=range_all hB0
  go_wp2_with (first | (refine wpList_load_as rfl 34 _ rfl (w.heap.size) 0 rfl (thV t u1 u2 u3 u4) _ rfl hr0 Try.rowT Try.sizeT ?_) | (refine wpList_store_as rfl 34 _ _ rfl g (p * 26) rfl (thV t u1 u2 u3 u4) rfl (thC t u1 u2 u3 u4) rfl L9 34 hR hfit hat.one Try.sizeT ?_;rw [hspl.out,← hW9.out];refine stop_here ?_))
  unfold Hid
  clear hW9 hspl hfit hL9 hR hr0
  replace nW:Nw w W9:=Fr.trans nW f9 (fun b hb=>.inr (by have hb2:b = g:=hb;omega))
  have hz:∀ z ∈ ys.set p (⟨t,u1,u2,u3,u4⟩:TC),z.At (fun b=>w.heap.size ≤ b) W9:=fun z hz=>TC.At.keep (all_set (P:=fun z=>z.At (fun b=>g < b) W2) (y:=⟨t,u1,u2,u3,u4⟩) hy1 hat z hz) f9 (fun b hb _ e=>by have e2:b = g:=e;have hb2:g < b:=hb;omega) (fun b hb _=>by have hb2:g < b:=hb;omega)
  have hsl9:=row_tsl hR9 (by rw [List.length_set];omega) hz
  rw [List.length_set,hyl] at hsl9
  replace hsl9:Hid _:=hsl9.mono (X':=fun b=>w.heap.size ≤ b) (fun b hb _=>by have hb2:b = g:=hb;omega) (fun _ hb _=>hb)
  have hfin:Hid ((ys.set p (⟨t,u1,u2,u3,u4⟩:TC)).map (·.t) = (putX xs ⟨t,uL,uC,uK,uD⟩).map (·.t)):=by unfold Hid;rw [← hpp.out];exact hput _ rfl
  clear hz hput f9 hR9 hy1 hat hpp
  go_wp2
  go_ret
  exact ⟨_,rfl,_,hsl9.out,hfin.out,nW⟩
 | false =>
  have hpp:=put_pos hpy ⟨t,u1,u2,u3,u4⟩
  rw [if_neg (by show ¬ foundX ys t.id = true;rw [hf];exact Bool.noConfusion)] at hpp
  replace hpp:Hid _:=hpp
  have hlt:=posX_le ys t.id
  rw [hf] at hpl
  replace hf:Hid _:=hf
  change Hid (putX ys _ = ys.take (posX ys t.id) ++ _ :: ys.drop (posX ys t.id)) at hpp
  generalize posX ys t.id = p at *
  replace hps:Hid _:=hps
  replace hfd:Hid _:=hfd
  have c0:W1.cell? ⟨w.heap.size,0,none⟩ = some (.int .u64 t.id):=cell_blk hB0 rfl
  have hcon:Hid _:=hpl.out
  go_wp2_with ((go_at_call 38;refine Calls.mono hcon.out ?_;rintro e W2 ⟨rfl,n2⟩;refine stop_here ?_))
  unfold Hid
  clear hcon  hpl c0
  replace hB0:=(n2.block _ (heap_lt hB0) (fun h=>h)).trans hB0
  replace hR:=hR.nw n2
  replace hat:=hat.nw n2
  replace hy1:∀ y ∈ ys,y.At (fun b=>g < b) _:=fun y hy=>(hy1 y hy).nw n2
  replace nW:=nw_trans nW n2
  obtain ⟨Y1,hY⟩:∃ Y,Hid (Y = W2.alloc (.cells (thC t u1 u2 u3 u4).toArray 34)):=⟨_,rfl⟩
  have nY:Nw W2 Y1:=by rw [hY.out];exact nw_alloc (nw_refl _) _
  have hq:Y1.heap[W2.heap.size]? = some (.cells (tcC ⟨t,u1,u2,u3,u4⟩).toArray 34 (0,0)):=by rw [hY.out];exact heap_alloc_new _ _
  have hRY:=hR.nw nY
  have hI:Hid _:=c_insT (S:=w.heap.size) (i:=p) (y:=⟨t,u1,u2,u3,u4⟩) Y1 hRY (by omega) (tcs_oneCell hy1) hat.one hlt (by omega) hq
  rw [hyl] at hI
  have hr0:=range_all hB0
  go_wp2_with (first | (refine wpList_load_as rfl 34 _ rfl (w.heap.size) 0 rfl (thV t u1 u2 u3 u4) _ rfl hr0 Try.rowT Try.sizeT ?_) | (refine wpList_buildSlice1 rfl 22 34 _ rfl (thV t u1 u2 u3 u4) rfl (thC t u1 u2 u3 u4) rfl Try.underTs Try.sizeT Try.zeroSome (Nat.succ_pos 25) (show 26 ≤ 1000000 by decide) ?_;rw [← hY.out]) | (go_at_call 45;refine Calls.mono hI.out ?_;rintro e W9 ⟨u,rfl,hsl,f9⟩;refine stop_here ?_))
  unfold Hid
  clear hY hq hI hr0
  have hw9:Nw w W9:=Fr.trans (nw_trans nW nY) f9 (fun b hb=>.inr (by have hb2:b = g:=hb;omega))
  have hz:∀ z ∈ ys.take p ++ (⟨t,u1,u2,u3,u4⟩:TC) :: ys.drop p,z.At (fun b=>w.heap.size ≤ b) W9:=fun z hz=>TC.At.keep (TC.At.nw (all_ins (P:=fun z=>z.At (fun b=>g < b) W2) (y:=⟨t,u1,u2,u3,u4⟩) hy1 hat z hz) nY) f9 (fun b hb _ e=>by have e2:b = g:=e;have hb2:g < b:=hb;omega) (fun b hb _=>by have hb2:g < b:=hb;omega)
  have hlz:(ys.take p ++ (⟨t,u1,u2,u3,u4⟩:TC) :: ys.drop p).length = ys.length + 1:=by simp;omega
  have hsl9:Hid (TSl (fun b=>w.heap.size ≤ b) (fun b=>w.heap.size ≤ b) W9 u (ys.take p ++ (⟨t,u1,u2,u3,u4⟩:TC) :: ys.drop p)):=⟨by rw [hlz,hyl];exact hsl,hz⟩
  have hfin:Hid ((ys.take p ++ (⟨t,u1,u2,u3,u4⟩:TC) :: ys.drop p).map (·.t) = (putX xs ⟨t,uL,uC,uK,uD⟩).map (·.t)):=by unfold Hid;rw [← hpp.out];exact hput _ rfl
  obtain ⟨oa,oc,rfl,_,_⟩:=hsl
  clear hz hput f9 hy1 hat hpp hlz
  go_wp2
  go_ret
  exact ⟨_,rfl,_,hsl9.out,hfin.out,hw9⟩
end Go.Proofs.Ytgmfofngmfekbaa

namespace Go.Proofs.Ytgmfofngmfekbaa
set_option linter.unusedVariables false
set_option linter.unusedSimpArgs false
set_option maxRecDepth 20000
open Go.RowKit

theorem nw_drewM {w w1:World} (h:Nw w w1) (n:Nat):Nw w (w1.drewN n):=⟨h.os,h.tape,h.output,h.size,h.block⟩
set_option maxRecDepth 100000 in
set_option maxHeartbeats 6400000 in
theorem c_gmay {X Y:Nat→Prop} {v:Value} {xs:List TC} (did:Int) (l:Cat) (w:World) (h:TSl X Y w v xs) (hp:PwX xs) (hn:xs.length ≤ 1000000) (hl:0 ≤ l.1∧l.1 < 18446744073709551616) :
  Calls Try.prog 53 #[v,.int .u64 did,.agg #[.int .u64 l.1,.int .i64 l.2]] w fun e w'=>e = .returned (.bool (fitsX xs did l))∧Nw w w':=by
 obtain ⟨ao,cap,rfl,hc1,hc2⟩:=h.form
 obtain ⟨W,hW⟩:∃ W,Hid (W = w.alloc (.cells #[.int .u64 l.1,.int .i64 l.2] 54)):=⟨_,rfl⟩
 have nW:Nw w W:=by rw [hW.out];exact nw_alloc (nw_refl w) _
 have hP:W.heap[w.heap.size]? = some (.cells #[.int .u64 l.1,.int .i64 l.2] 54 (0,0)):=by rw [hW.out];exact heap_alloc_new w _
 have hs:=h.nw nW
 clear h
 have hpl:Hid _:=c_gplace l.1 W hs hp hn
 go_enter Try.func53,Try.ntmps53
 go_upto_region 1 with (refine wpList_box_agg rfl 54 _ rfl (.agg #[.int .u64 l.1,.int .i64 l.2]) _ rfl rfl ?_)
 rw [← hW.out]
 clear hW
 have p0:W.cell? ⟨w.heap.size,0,none⟩ = some (.int .u64 l.1):=cell_blk hP rfl
 cases hf:foundX xs l.1 with
 | false =>
  have hfin:Hid (fitsX xs did l = false):=by unfold Hid fitsX;rw [find_off hf]
  rw [hf] at hpl
  replace hf:Hid _:=hf
  go_wp2_with (go_at_call 38;refine Calls.mono hpl.out ?_;rintro e W1 ⟨rfl,n1⟩;refine stop_here ?_)
  unfold Hid
  clear hpl p0 hP hs hp
  have nW1:=nw_trans nW n1
  go_upto_region 2 with fail
  go_quiet (fail)
  go_wp2
  go_ret
  exact ⟨congrArg (fun z=>Ending.returned (Value.bool z)) hfin.out.symm,nw_drewM nW1 _⟩
 | true =>
  obtain ⟨hlt,hfa,hid⟩:=find_at hp hf
  have hfin:Hid (fitsX xs did l = ((xs[posX xs l.1]).t.quota == l.2 && ((xs[posX xs l.1]).t.kind != 1 || l.1.tdiv 64 == did))):=by unfold Hid fitsX;simp only [hfa,hid]
  rw [hf] at hpl
  replace hf:Hid _:=hf
  clear hfa hid
  obtain ⟨q,off,hva,_,hrr,_⟩:=hs.get _ hlt
  subst hva
  generalize xs[posX xs l.1] = x at *
  generalize posX xs l.1 = p at *
  unfold tcC at hrr
  replace hp:Hid _:=hp
  clear hs
  go_wp2_with (go_at_call 38;refine Calls.mono hpl.out ?_;rintro e W1 ⟨rfl,n1⟩;refine stop_here ?_)
  unfold Hid
  clear hpl p0
  replace hP:=(n1.block _ (heap_lt hP) (fun h=>h)).trans hP
  replace hrr:=range_nw hrr n1
  have nW1:=nw_trans nW n1
  have p0:W1.cell? ⟨w.heap.size,0,none⟩ = some (.int .u64 l.1):=cell_blk hP rfl
  have p1:W1.cell? ⟨w.heap.size,1,none⟩ = some (.int .i64 l.2):=cell_blk hP rfl
  have v1:W1.cell? ⟨q,off + p * 26 + 1,none⟩ = some (.int .i64 x.t.kind):=hrr 1 _ rfl
  have v6:W1.cell? ⟨q,off + p * 26 + 6,none⟩ = some (.int .i64 x.t.quota):=hrr 6 _ rfl
  have hwr:IntKind.u64.wrap (l.1.tdiv 64) = l.1.tdiv 64:=by rw [IntKind.wrap_u64,Int.tdiv_eq_ediv_of_nonneg hl.1];omega
  clear hP hrr n1
  go_upto_region 2 with fail
  cases hq:(x.t.quota == l.2) with
  | false =>
   rw [hq,Bool.false_and] at hfin
   go_quiet (fail)
   go_wp2
   go_ret
   exact ⟨congrArg (fun z=>Ending.returned (Value.bool z)) hfin.out.symm,nw_drewM nW1 _⟩
  | true =>
   rw [hq,Bool.true_and] at hfin
   cases hk:(x.t.kind != 1) with
   | true =>
    rw [hk,Bool.true_or] at hfin
    go_quiet (fail)
    go_wp2
    go_ret
    exact ⟨congrArg (fun z=>Ending.returned (Value.bool z)) hfin.out.symm,nw_drewM nW1 _⟩
   | false =>
    rw [hk,Bool.false_or] at hfin
    cases hd:(l.1.tdiv 64 == did) with
    | true =>
     rw [hd] at hfin
     go_quiet (fail)
     go_wp2
     go_ret
     exact ⟨congrArg (fun z=>Ending.returned (Value.bool z)) hfin.out.symm,nw_drewM nW1 _⟩
    | false =>
     rw [hd] at hfin
     go_quiet (fail)
     go_wp2
     go_ret
     exact ⟨congrArg (fun z=>Ending.returned (Value.bool z)) hfin.out.symm,nw_drewM nW1 _⟩
end Go.Proofs.Ytgmfofngmfekbaa
