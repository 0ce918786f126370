/-
  GrT14, GrT15: in one text.
-/
import Derived.Test.YtgmfofngmfekbaaGrGmS
namespace Go.Proofs.Ytgmfofngmfekbaa
set_option linter.unusedVariables false
set_option linter.unusedSimpArgs false
set_option maxRecDepth 20000
open Go.RowKit

/-- A row of numbers that fills its block. -/
def IntB (w:World) (g:Nat) (ns:List Int):Prop:=w.heap[g]? = some (.cells (ns.map (Value.int .i64)).toArray 3 (0,0))
theorem IntB.fr {w w':World} {g:Nat} {ns:List Int} (h:IntB w g ns) {S:Nat→Prop} (n:Fr S w w') (hS:¬ S g):IntB w' g ns:=(n.block g (heap_lt h) hS).trans h
theorem IntB.nw {w w':World} {g:Nat} {ns:List Int} (h:IntB w g ns) (n:Nw w w'):IntB w' g ns:=h.fr n (fun h=>h)
theorem IntB.get {w:World} {g:Nat} {ns:List Int} (h:IntB w g ns) {i:Nat} (hi:i < ns.length):w.cell? ⟨g,i,none⟩ = some (.int .i64 ns[i]):=cell_blk h (by simp [hi])
theorem IntB.set {w:World} {g:Nat} {ns:List Int} (h:IntB w g ns) (i:Nat) (b:Int):IntB (w.setCell ⟨g,i,none⟩ (.int .i64 b)) g (ns.set i b):=by
 have:=blk_setCell (i:=i) (v:=.int .i64 b) h
 unfold IntB
 rw [this]
 congr 2
 rw [List.map_set]
 simp
theorem Try.infoIn:(Try.prog.info? 3).map (fun i=>(i.zero,i.size,i.bytes)) = some (some (.int .i64 0),1,8):=by kernel_rfl
theorem Try.underIn:Try.prog.underlying 75 = some (.slice 3):=by kernel_rfl
theorem made_int (n:Nat):madeCells (Value.int .i64 0).cells (n * 1) = ((List.replicate n (0:Int)).map (Value.int .i64)).toArray:=by
 apply Array.toList_inj.1
 refine List.ext_getElem (by simp [madeCells]) (fun i h1 h2=>?_)
 simp [madeCells,Value.cells,Nat.mod_one]

/-- A number for each directory, 0 for others. -/
def rowsX (xs:List TC) (G:Int→Nat):List Int:=xs.map (fun x=>if x.t.kind = 1 then (G x.t.id:Int) else 0)
theorem rows_len (xs:List TC) (G:Int→Nat):(rowsX xs G).length = xs.length:=List.length_map ..
theorem rows_zero (xs:List TC):rowsX xs (fun _=>0) = List.replicate xs.length 0:=by
 refine List.ext_getElem (by simp [rowsX]) (fun i h1 h2=>?_)
 simp [rowsX]
theorem rows_get {xs:List TC} {G:Int→Nat} {i:Nat} (h:i < xs.length) (hk:xs[i].t.kind = 1):(rowsX xs G)[i]'(by rw [rows_len];exact h) = (G xs[i].t.id:Int):=by
 simp [rowsX,hk]
/-- One number more: nothing turns but at the directory that it names. -/
theorem rows_other {xs:List TC} {G:Int→Nat} {z:Nat} (h:∀ x ∈ xs,x.t.kind = 1→x.t.id ≠ ((z / 64:Nat):Int)):rowsX xs (fun d=>givStep d (G d) z) = rowsX xs G:=by
 unfold rowsX
 refine List.map_congr_left (fun x hx=>?_)
 split
 ·rename_i hk
  show ((givStep x.t.id (G x.t.id) z:Nat):Int) = _
  unfold givStep
  rw [if_neg (fun e=>h x hx hk e.1.symm)]
 ·rfl
theorem rows_hit {xs:List TC} (hp:PwX xs) {G:Int→Nat} {z p:Nat} (h:p < xs.length) (hk:xs[p].t.kind = 1) (he:xs[p].t.id = ((z / 64:Nat):Int)) :
  rowsX xs (fun d=>givStep d (G d) z) = (rowsX xs G).set p (if ((z % 64:Nat):Int) > (G xs[p].t.id:Int) then ((z % 64:Nat):Int) else (G xs[p].t.id:Int)):=by
 refine List.ext_getElem (by simp [rowsX]) (fun i h1 h2=>?_)
 have hi:i < xs.length:=by rw [rows_len] at h1;exact h1
 rw [List.getElem_set]
 by_cases e:p = i
 ·subst e
  rw [if_pos rfl]
  simp only [rowsX,List.getElem_map,if_pos hk]
  show ((givStep xs[p].t.id (G xs[p].t.id) z:Nat):Int) = _
  unfold givStep
  by_cases hlt:G xs[p].t.id < z % 64
  ·rw [if_pos ⟨he.symm,hlt⟩,if_pos (by omega)]
  ·rw [if_neg (fun e=>hlt e.2),if_neg (by omega)]
 ·rw [if_neg e]
  simp only [rowsX,List.getElem_map]
  split
  ·show ((givStep xs[i].t.id (G xs[i].t.id) z:Nat):Int) = _
   unfold givStep
   rw [if_neg (fun e2=>e (pw_inj hp h hi (by rw [he,e2.1])))]
  ·rfl
theorem rows_done (xs:List TC):rowsX xs (fun d=>givX d (xs.take xs.length) 0) = xs.map (restF xs):=by
 rw [List.take_length]
 rfl

set_option maxRecDepth 100000 in
set_option maxHeartbeats 6400000 in
theorem c_grests {X Y:Nat→Prop} {v:Value} {xs:List TC} (w:World) (h:TSl X Y w v xs) (hp:PwX xs) (hid:∀ x ∈ xs,0 ≤ x.t.id∧x.t.id < 18446744073709551616) (hn:xs.length ≤ 100000) :
  Calls Try.prog 54 #[v] w fun e w'=>e = .returned (rowV w.heap.size xs.length)∧IntB w' w.heap.size (xs.map (restF xs))∧Nw w w':=by
 obtain ⟨ao,cap,rfl,hc1,hc2⟩:=h.form
 obtain ⟨gR,hgR⟩:∃ g,Hid (g = w.heap.size):=⟨_,rfl⟩
 rw [← hgR.out]
 replace hid:Hid _:=hid
 replace hp:Hid _:=hp
 have hz0:Hid _:=rows_zero xs
 have hdone:Hid _:=rows_done xs
 have hrl:Hid (∀ G,(rowsX xs G).length = xs.length):=rows_len xs
 obtain ⟨N,hN⟩:∃ N,xs.length = N:=⟨_,rfl⟩
 have hNx:Hid (xs.length = N):=hN
 rw [hN] at h hc1 hn hz0 hrl hdone ⊢
 clear hN
 obtain ⟨Y1,hY⟩:∃ Y,Hid (Y = w.alloc (.cells ((List.replicate N (0:Int)).map (Value.int .i64)).toArray 3)):=⟨_,rfl⟩
 have n0:Nw w Y1:=by rw [hY.out];exact nw_alloc (nw_refl _) _
 have hB0:IntB Y1 gR (rowsX xs (fun _=>0)):=by rw [hz0.out,hY.out,hgR.out];exact heap_alloc_new w _
 obtain ⟨i0,hi0,hz9,hs0,hb0⟩:=info_parts3 Try.infoIn
 have hmade:madeCells (Value.int .i64 0).cells (N * i0.size) = ((List.replicate N (0:Int)).map (Value.int .i64)).toArray:=by rw [hs0];exact made_int N
 go_enter Try.func54,Try.ntmps54
 go_wp2_with (refine wpList_make_as rfl 75 3 _ _ rfl N rfl rfl i0 _ Try.underIn hi0 hz9 (by omega) (by rw [hb0];omega) _ hmade ?_;rw [← hY.out,← hgR.out];refine stop_here ?_)
 unfold Hid
 clear hY hmade hi0 hz9 hs0 hb0 hz0
 go_wp2
 go_loopw [14] (fun kv wr=>∃ (k:Nat) (G:Int→Nat),k ≤ N∧kv = .int .i64 k∧IntB wr gR (rowsX xs G)∧Hid (∀ d,G d = givX d (xs.take k) 0)∧Nw w wr) (fun kv _=>N - (intOf kv).toNat)
 case atStart=>exact ⟨0,_,Nat.zero_le _,rfl,hB0,(fun d=>rfl:∀ d,(fun _=>0:Int→Nat) d = givX d (xs.take 0) 0),n0⟩
 case round =>
  clear hB0 n0
  obtain ⟨k,G,hk,rfl,hB,hG,hw⟩:=hrel
  have hs:=h.nw hw
  by_cases hltN:k < N
  ·have hlt:k < xs.length:=by have:=hNx.out;omega
   have hst:Hid (∀ d,givL d (aboveL (xs[k]).t.id.toNat) (G d) = givX d (xs.take (k + 1)) 0):=fun d=>by rw [hG.out d];exact (givX_take hlt).symm
   have hidk:=hid.out _ (List.getElem_mem hlt)
   have nW:=hw
   clear hw
   obtain ⟨q1,off1,hva,_,hrr,hat1⟩:=(hs).get k hlt
   first | subst hva | (simp only [Option.some.injEq,Addr.mk.injEq,and_true] at hva;obtain ⟨rfl,rfl⟩:=hva)
   generalize xs[k] = x at *
   unfold tcC at hrr
   obtain ⟨Y1,hY⟩:∃ Y,Hid (Y = wr.alloc (.cells (thC zeroT (.slice none 0 0) (.slice none 0 0) (.slice none 0 0) (.slice none 0 0)).toArray 34)):=⟨_,rfl⟩
   have hV1:Y1.heap[wr.heap.size]? = some (.cells (thC zeroT (.slice none 0 0) (.slice none 0 0) (.slice none 0 0) (.slice none 0 0)).toArray 34 (0,0)):=by rw [hY.out];exact heap_alloc_new _ _
   obtain ⟨V1,hV⟩:∃ V,Hid (V = Y1.setRow wr.heap.size (thC x.t x.l x.c x.k x.d).toArray):=⟨_,rfl⟩
   have nV1:Nw wr V1:=by rw [hV.out,hY.out];exact Fr.setRow (nw_alloc (nw_refl _) _) (.inr (Nat.le_refl _)) _
   have hnew:V1.heap[wr.heap.size]? = some (.cells (thC x.t x.l x.c x.k x.d).toArray 34 (0,0)):=by rw [hV.out];exact setRow_heap _ _ _ _ _ _ hV1
   go_wp2_with (first | (refine wpList_load_as rfl 34 _ rfl q1 (off1 + k * 26) rfl (thV x.t x.l x.c x.k x.d) _ rfl hrr Try.rowT Try.sizeT ?_) | (refine wpList_alloc_agg rfl 34 rfl _ Try.zeroTh ?_;rw [← hY.out];refine stop_here ?_))
   unfold Hid
   refine wpList_store_all rfl 34 _ _ rfl (wr.heap.size) rfl (thV x.t x.l x.c x.k x.d) rfl (thC x.t x.l x.c x.k x.d) rfl (thC zeroT (.slice none 0 0) (.slice none 0 0) (.slice none 0 0) (.slice none 0 0)) 34 hV1 rfl (ThAt.one hat1) Try.sizeT ?_
   rw [← hV.out]
   clear hV hY hV1 hrr
   replace hB:=hB.nw nV1
   replace nW:=nw_trans nW nV1
   replace hat1:=hat1.nw nV1
   have hV1:=hnew
   clear hnew
   have hlA1:wr.heap.size < V1.heap.size:=heap_lt hV1
   generalize wr.heap.size = A1 at *
   clear hs hat1
   obtain ⟨z0,hz0⟩:∃ z:Nat,x.t.id = z:=⟨x.t.id.toNat,by omega⟩
   have c0:V1.cell? ⟨A1,0,none⟩ = some (.int .u64 z0):=by rw [← hz0];exact cell_blk hV1 rfl
   have hzl:z0 < 18446744073709551616:=by omega
   rw [hz0,Int.toNat_natCast] at hst
   clear hz0 hidk hV1 hG
   go_wp2
   go_loopw [6] (fun zv wr=>∃ (z:Nat) (G2:Int→Nat),z < 18446744073709551616∧zv = .int .u64 z∧IntB wr gR (rowsX xs G2)∧Hid (∀ d,givL d (aboveL z) (G2 d) = givX d (xs.take (k + 1)) 0)∧Nw w wr) (fun zv _=>(intOf zv).toNat)
   case atStart=>exact ⟨z0,G,hzl,rfl,hB,hst,nW⟩
   case round =>
    clear hB hst nW c0 hzl
    obtain ⟨z,G2,hzl,rfl,hB,hst,nW⟩:=hrel
    by_cases hz:z = 0
    ·subst hz
     have hG2:Hid (∀ d,G2 d = givX d (xs.take (k + 1)) 0):=fun d=>by have:=hst.out d;rw [above_zero] at this;exact this
     clear hst
     go_wp2
     go_roundw
     case rel=>exact ⟨k + 1,G2,by omega,by go_num,hB,hG2,nW⟩
     case measure=>simp [intOf];omega
    ·have hstep:Hid (∀ d,givL d (aboveL (z / 64)) (givStep d (G2 d) z) = givX d (xs.take (k + 1)) 0):=fun d=>by have:=hst.out d;rw [above_pos hz] at this;exact this
     have hzp:(0:Int) < (z:Int):=by omega
     clear hst
     have e64:(z:Int) / 64 = ((z / 64:Nat):Int):=by omega
     have e65:Hid ((z:Int) % 64 = ((z % 64:Nat):Int)):=by unfold Hid;omega
     have hs:=h.nw nW
     have hpl:Hid _:=c_gplace ((z:Int) / 64) wr hs hp.out (by have:=hNx.out;omega)
     clear hs
     have hz64:z / 64 < 18446744073709551616:=by omega
     have hdec:z / 64 < z:=by omega
     have hwr:IntKind.i64.wrap ((z:Int) % 64) = (z:Int) % 64:=by rw [IntKind.wrap_i64];omega
     have hm0:0 ≤ (z:Int) % 64:=by omega
     have hm1:(z:Int) % 64 < 64:=by omega
     cases hf:foundX xs ((z:Int) / 64) with
     | false =>
      have hro:rowsX xs (fun d=>givStep d (G2 d) z) = rowsX xs G2:=rows_other (fun x hx _=>by rw [← e64];exact find_none.1 (find_off hf) x hx)
      rw [← hro] at hB
      rw [hf] at hpl
      replace hf:Hid _:=hf
      replace e64:Hid _:=e64
      clear hro hz
      go_wp2_with (go_at_call 38;refine Calls.mono hpl.out ?_;rintro e W3 ⟨rfl,n3⟩;refine stop_here ?_)
      unfold Hid
      replace hB:=hB.nw n3
      have nW3:=nw_trans nW n3
      clear hpl n3 nW
      go_wp2
      go_roundw
      case rel=>exact ⟨z / 64,_,hz64,by rw [e64.out],hB,hstep,nW3⟩
      case measure=>simp [intOf];omega
     | true =>
      obtain ⟨hlp,_,hidp⟩:=find_at hp.out hf
      replace hidp:=hidp.trans e64
      obtain ⟨qr,offr,hva,_,hrr,_⟩:=h.get _ hlp
      simp only [Option.some.injEq,Addr.mk.injEq,and_true] at hva
      obtain ⟨ev1,ev2⟩:=hva
      subst ev1
      subst ev2
      have v1:wr.cell? ⟨q1,off1 + posX xs ((z:Int) / 64) * 26 + 1,none⟩ = some (.int .i64 (xs[posX xs ((z:Int) / 64)]).t.kind):=range_nw hrr nW 1 _ rfl
      have hro:Hid ((xs[posX xs ((z:Int) / 64)]).t.kind ≠ 1→rowsX xs (fun d=>givStep d (G2 d) z) = rowsX xs G2):=fun hk=>rows_other (fun x hx hk2 e=>by
       obtain ⟨i,hi,rfl⟩:=List.getElem_of_mem hx
       have e2:=pw_inj hp.out hi hlp (by rw [e,hidp])
       subst e2
       exact hk hk2)
      have hhit:Hid ((xs[posX xs ((z:Int) / 64)]).t.kind = 1→rowsX xs (fun d=>givStep d (G2 d) z) = (rowsX xs G2).set (posX xs ((z:Int) / 64)) (if ((z % 64:Nat):Int) > (G2 (xs[posX xs ((z:Int) / 64)]).t.id:Int) then ((z % 64:Nat):Int) else (G2 (xs[posX xs ((z:Int) / 64)]).t.id:Int))∧(rowsX xs G2)[posX xs ((z:Int) / 64)]'(by rw [rows_len];exact hlp) = (G2 (xs[posX xs ((z:Int) / 64)]).t.id:Int)):=fun hk=>⟨rows_hit hp.out hlp hk hidp,rows_get hlp hk⟩
      have hcell:Hid (∀ w2,IntB w2 gR (rowsX xs G2)→w2.cell? ⟨gR,posX xs ((z:Int) / 64),none⟩ = some (.int .i64 ((rowsX xs G2)[posX xs ((z:Int) / 64)]'(by rw [rows_len];exact hlp)))):=fun w2 hb=>hb.get (by rw [rows_len];exact hlp)
      have hlpN:posX xs ((z:Int) / 64) < N:=by have:=hNx.out;omega
      rw [hf] at hpl
      replace hf:Hid _:=hf
      replace e64:Hid _:=e64
      generalize xs[posX xs ((z:Int) / 64)] = x9 at *
      clear hrr hidp
      by_cases hkd:x9.t.kind = 1
      ·obtain ⟨hset,hval⟩:=hhit.out hkd
       have hkb:(x9.t.kind == 1) = true:=by simpa using hkd
       have hc2:Hid (∀ w2,IntB w2 gR (rowsX xs G2)→w2.cell? ⟨gR,posX xs ((z:Int) / 64),none⟩ = some (.int .i64 (G2 x9.t.id:Int))):=fun w2 hb=>by rw [← hval];exact hcell.out w2 hb
       clear hval hcell hro hhit
       replace hkd:Hid _:=hkd
       replace hset:Hid _:=hset
       obtain ⟨mx,hmx⟩:∃ m,Hid (m = if ((z % 64:Nat):Int) > (G2 x9.t.id:Int) then ((z % 64:Nat):Int) else (G2 x9.t.id:Int)):=⟨_,rfl⟩
       have hrun:∀ (w:World) (ts:Array TypeId) (t:TypeId),(Builtin.max_ ts t #[.int .i64 (G2 x9.t.id:Int),.int .i64 ((z:Int) % 64)]).run Try.prog w = .ok (.int .i64 mx) w:=fun w ts t=>by rw [run_max_int2 w ts t .i64 .i64,e65.out,hmx.out]
       rw [← hmx.out] at hset
       clear hmx
       generalize posX xs ((z:Int) / 64) = p at *
       go_wp2_with (go_at_call 38;refine Calls.mono hpl.out ?_;rintro e W3 ⟨rfl,n3⟩;refine stop_here ?_)
       unfold Hid
       replace hB:=hB.nw n3
       have v13:W3.cell? ⟨q1,off1 + p * 26 + 1,none⟩ = some (.int .i64 x9.t.kind):=(World.cell?_of_block (w:=wr) (n3.block q1 (World.block_lt_of_cell? wr _ v1) (fun h=>h))).trans v1
       have cR:=hc2.out W3 hB
       have nW3:=nw_trans nW n3
       have hfz:W3.frozen? ⟨gR,p,none⟩ = false:=free_blk hB
       clear hpl n3 nW v1 hc2
       obtain ⟨V9,hV9⟩:∃ V,Hid (V = W3.setCell ⟨gR,p,none⟩ (.int .i64 mx)):=⟨_,rfl⟩
       have hB9:IntB V9 gR (rowsX xs (fun d=>givStep d (G2 d) z)):=by rw [hset.out,hV9.out];exact hB.set p mx
       have n9:Nw w V9:=by rw [hV9.out];exact Fr.setCell (p:=⟨gR,p,none⟩) nW3 (.inr (by have:=hgR.out;show _ ≤ gR;omega)) _
       generalize (G2 x9.t.id:Int) = gv at *
       go_wp2
       rw [← hV9.out]
       clear hV9 hB nW3 cR v13 hfz hrun hset
       go_roundw
       case rel=>exact ⟨z / 64,_,hz64,by rw [e64.out],hB9,hstep,n9⟩
       case measure=>simp [intOf];omega
      ·have hkb:(x9.t.kind == 1) = false:=by simpa using hkd
       have hro2:=hro.out hkd
       rw [← hro2] at hB
       clear hro hro2 hhit hcell
       replace hkd:Hid _:=hkd
       generalize posX xs ((z:Int) / 64) = p at *
       go_wp2_with (go_at_call 38;refine Calls.mono hpl.out ?_;rintro e W3 ⟨rfl,n3⟩;refine stop_here ?_)
       unfold Hid
       replace hB:=hB.nw n3
       have v13:W3.cell? ⟨q1,off1 + p * 26 + 1,none⟩ = some (.int .i64 x9.t.kind):=(World.cell?_of_block (w:=wr) (n3.block q1 (World.block_lt_of_cell? wr _ v1) (fun h=>h))).trans v1
       have nW3:=nw_trans nW n3
       clear hpl n3 nW v1
       go_wp2
       go_roundw
       case rel=>exact ⟨z / 64,_,hz64,by rw [e64.out],hB,hstep,nW3⟩
       case measure=>simp [intOf];omega
  ·obtain rfl:k = N:=by omega
   have hfin:rowsX xs G = xs.map (restF xs):=by rw [← hdone.out];congr 1;funext d;exact hG.out d
   rw [hfin] at hB
   clear hfin hs
   go_wp2
   go_ret
   exact ⟨rfl,hB,hw⟩
end Go.Proofs.Ytgmfofngmfekbaa

namespace Go.Proofs.Ytgmfofngmfekbaa
set_option linter.unusedVariables false
set_option linter.unusedSimpArgs false
set_option maxRecDepth 20000
open Go.RowKit

set_option maxRecDepth 100000 in
set_option maxHeartbeats 3200000 in
theorem c_gareNames {X Y:Nat→Prop} {v:Value} {xs:List TC} (w:World) (h:TSl X Y w v xs) (hp:PwX xs) (hid:∀ x ∈ xs,0 ≤ x.t.id∧x.t.id < 18446744073709551616) (hn:xs.length ≤ 100000) :
  Calls Try.prog 34 #[v] w (AnsP (∀ x ∈ xs,restF xs x ≤ x.t.next) w):=by
 have hr:Hid _:=c_grests w h hp hid hn
 obtain ⟨ao,cap,rfl,hc1,hc2⟩:=h.form
 have hlen:Hid (∀ i (hi:i < (xs.map (restF xs)).length) (hx:i < xs.length),(xs.map (restF xs))[i] = restF xs xs[i]):=fun i hi hx=>List.getElem_map ..
 obtain ⟨N,hN⟩:∃ N,xs.length = N:=⟨_,rfl⟩
 have hNx:Hid (xs.length = N):=hN
 have hml:Hid ((xs.map (restF xs)).length = N):=by unfold Hid;rw [List.length_map];exact hN
 rw [hN] at h hc1 hn hr ⊢
 clear hN hp hid
 obtain ⟨gR,hgR⟩:∃ g,Hid (g = w.heap.size):=⟨_,rfl⟩
 rw [← hgR.out] at hr
 generalize hns:xs.map (restF xs) = ns at *
 replace hns:Hid _:=hns
 go_enter Try.func34,Try.ntmps34
 go_wp2_with (go_at_call 54;refine Calls.mono hr.out ?_;rintro e w1 ⟨rfl,hB,n1⟩;refine stop_here ?_)
 unfold Hid
 clear hr
 go_wp2
 go_loopw [8] (fun kv wr=>∃ k:Nat,k ≤ N∧kv = .int .i64 k∧Hid (∀ i (h:i < xs.length),i < k→restF xs xs[i] ≤ xs[i].t.next)∧Nw w1 wr) (fun kv _=>N - (intOf kv).toNat)
 case atStart=>exact ⟨0,Nat.zero_le _,rfl,fun i h h2=>absurd h2 (Nat.not_lt_zero _),nw_refl _⟩
 case round =>
  obtain ⟨k,hk,rfl,hok,hw⟩:=hrel
  by_cases hlt:k < N
  ·have hlx:k < xs.length:=by have:=hNx.out;omega
   have hln:k < ns.length:=by have:=hml.out;omega
   have c1:=(hB.nw hw).get hln
   obtain ⟨q,off,hva,_,hrr,_⟩:=h.get k hlx
   subst hva
   have c7:wr.cell? ⟨q,off + k * 26 + 7,none⟩ = some (.int .i64 xs[k].t.next):=range_nw hrr (nw_trans n1 hw) 7 _ rfl
   have hval:=hlen.out k hln hlx
   rw [hval] at c1
   have hyes:Hid (restF xs xs[k] ≤ xs[k].t.next→∀ i (h:i < xs.length),i < k + 1→restF xs xs[i] ≤ xs[i].t.next):=fun e i h h2=>by
    by_cases e2:i = k
    ·subst e2;exact e
    ·exact hok.out i h (by omega)
   have hno:Hid (¬ restF xs xs[k] ≤ xs[k].t.next→¬ ∀ x ∈ xs,restF xs x ≤ x.t.next):=fun e h=>e (h _ (List.getElem_mem hlx))
   clear hval hrr hok
   generalize restF xs xs[k] = a at *
   generalize xs[k].t.next = b at *
   by_cases hab:a ≤ b
   ·have hq:Hid _:=hyes.out hab
    have hb1:decide (b < a) = false:=decide_eq_false (by omega)
    clear hyes hno hab
    go_wp2
    go_roundw
    case rel=>exact ⟨k + 1,by omega,by go_num,hq,hw⟩
    case measure=>simp [intOf];omega
   ·have hq:Hid _:=hno.out hab
    have hb1:decide (b < a) = true:=decide_eq_true (by omega)
    clear hyes hno hab
    go_wp2
    go_ret
    exact ans_no hq.out (nw_trans n1 hw)
  ·have hq:Hid (∀ x ∈ xs,restF xs x ≤ x.t.next):=fun x hx=>by
    obtain ⟨i,hi,rfl⟩:=List.getElem_of_mem hx
    exact hok.out i hi (by have:=hNx.out;omega)
   clear hok
   go_wp2
   go_ret
   exact ans_yes hq.out (nw_trans n1 hw)

set_option maxRecDepth 100000 in
set_option maxHeartbeats 6400000 in
theorem c_gsound {X Y:Nat→Prop} {v:Value} {xs:List TC} (w:World) (h:TSl X Y w v xs) (hok:∀ x ∈ xs,x.t.cats.length ≤ 8796093022208∧x.t.ccats.length ≤ 8796093022208) (hn:xs.length ≤ 100000) :
  Calls Try.prog 10 #[v] w (AnsP (SoundX xs) w):=by
 obtain ⟨ao,cap,rfl,hc1,hc2⟩:=h.form
 have hS:Hid _:=snd_iff xs
 obtain ⟨N,hN⟩:∃ N,xs.length = N:=⟨_,rfl⟩
 have hNx:Hid (xs.length = N):=hN
 rw [hN] at h hc1 ⊢
 clear hN
 replace hok:Hid _:=hok
 replace hn:Hid _:=hn
 have h1c:Hid _:=c_grises w h
 unfold AnsP at h1c
 go_enter Try.func10,Try.ntmps10
 go_wp2_with (go_at_call 30;refine Calls.mono h1c.out ?_;rintro e w1 ⟨r,rfl,hr,n1⟩;refine stop_here ?_)
 unfold Hid
 clear h1c
 cases r with
 | false =>
  have hq:Hid (¬ SoundX xs):=fun hs=>not_of_false hr (hs.rise)
  clear hr hS
  go_wp2
  go_ret
  exact ans_no hq.out n1
 | true =>
  have hrise:Hid (RiseX xs):=hr.1 rfl
  clear hr
  replace h:=h.nw n1
  have h1c:Hid _:=c_gareRight w1 h hok.out
  unfold AnsP at h1c
  go_wp2_with (go_at_call 31;refine Calls.mono h1c.out ?_;rintro e w2 ⟨r,rfl,hr,n2⟩;refine stop_here ?_)
  unfold Hid
  clear h1c
  have nW:=nw_trans n1 n2
  cases r with
  | false =>
   have hq:Hid (¬ SoundX xs):=fun hs=>not_of_false hr (hS.out.2 hs).right
   clear hr hS
   go_wp2
   go_ret
   exact ans_no hq.out nW
  | true =>
   have hright:Hid (∀ x ∈ xs,RightT x.t):=hr.1 rfl
   clear hr
   replace h:=h.nw n2
   by_cases hne:0 < N
   ·have hlx:0 < xs.length:=by have:=hNx.out;omega
    obtain ⟨q,off,hva,_,hrr,_⟩:=h.get 0 hlx
    subst hva
    have c0:w2.cell? ⟨q,off,none⟩ = some (.int .u64 xs[0].t.id):=by have:=hrr 0 _ rfl;simpa using this
    have c1:w2.cell? ⟨q,off + 1,none⟩ = some (.int .i64 xs[0].t.kind):=by have:=hrr 1 _ rfl;simpa using this
    have hbn:decide ((0:Int) < (N:Int)) = true:=decide_eq_true (by omega)
    clear hrr
    cases hi1:(xs[0].t.id == 1) with
    | false =>
     have hq:Hid (¬ SoundX xs):=fun hs=>by rw [beq_eq_false_iff_ne] at hi1;exact hi1 hs.id

     clear hS
     generalize xs[0].t.id = a at *
     go_wp2
     go_ret
     exact ans_no hq.out nW
    | true =>
     have hid1:Hid (xs[0].t.id = 1):=beq_iff_eq.1 hi1
     cases hk1:(xs[0].t.kind == 1) with
     | false =>
      have hq:Hid (¬ SoundX xs):=fun hs=>by rw [beq_eq_false_iff_ne] at hk1;exact hk1 hs.kind
      clear hS
      go_wp2
      go_ret
      exact ans_no hq.out nW
     | true =>
      have hkd1:Hid (xs[0].t.kind = 1):=beq_iff_eq.1 hk1
      have hpw:Hid (PwX xs):=rise_pw hrise.out
      have h1c:Hid _:=c_gareLinks w2 h hpw.out (by have:=hn.out;omega) (fun x hx l hl=>by have:=right_links (hright.out x hx) l hl;unfold idOk at this;omega)
      unfold AnsP at h1c
      go_wp2_with (go_at_call 32;refine Calls.mono h1c.out ?_;rintro e w3 ⟨r,rfl,hr,n3⟩;refine stop_here ?_)
      unfold Hid
      clear h1c c0 c1 hi1 hk1
      replace nW:=nw_trans nW n3
      cases r with
      | false =>
       have hq:Hid (¬ SoundX xs):=fun hs=>not_of_false hr (hS.out.2 hs).fits
       clear hr hS
       go_wp2
       go_ret
       exact ans_no hq.out nW
      | true =>
       have hfits:Hid (∀ x ∈ xs,∀ l ∈ x.t.links,fitsX xs x.t.id l = true):=hr.1 rfl
       clear hr
       replace h:=h.nw n3
       have h1c:Hid _:=c_gareLinked w3 h hpw.out hlx hid1.out (fun x hx=>right_len (hright.out x hx)) hn.out
       unfold AnsP at h1c
       go_wp2_with (go_at_call 33;refine Calls.mono h1c.out ?_;rintro e w4 ⟨r,rfl,hr,n4⟩;refine stop_here ?_)
       unfold Hid
       clear h1c
       replace nW:=nw_trans nW n4
       cases r with
       | false =>
        have hq:Hid (¬ SoundX xs):=fun hs=>not_of_false hr (hS.out.2 hs).held
        clear hr hS
        go_wp2
        go_ret
        exact ans_no hq.out nW
       | true =>
        have hheld:Hid (∀ j,j < xs.length→(marksX xs).getD j false = true):=hr.1 rfl
        clear hr
        replace h:=h.nw n4
        have h1c:Hid _:=c_gareNames w4 h hpw.out (fun x hx=>by have:=(hright.out x hx).id;unfold idOk at this;omega) hn.out
        unfold AnsP at h1c
        go_wp2_with (go_at_call 34;refine Calls.mono h1c.out ?_;rintro e w5 ⟨r,rfl,hr,n5⟩;refine stop_here ?_)
        unfold Hid
        clear h1c
        replace nW:=nw_trans nW n5
        cases r with
        | false =>
         have hq:Hid (¬ SoundX xs):=fun hs=>not_of_false hr (hS.out.2 hs).next
         clear hr hS
         go_wp2
         go_ret
         exact ans_no hq.out nW
        | true =>
         have hq:Hid (SoundX xs):=hS.out.1 ⟨hrise.out,hright.out,hlx,hid1.out,hkd1.out,hfits.out,hheld.out,hr.1 rfl⟩
         clear hr hS
         go_wp2
         go_ret
         exact ans_yes hq.out nW
   ·have hbn:decide ((0:Int) < (N:Int)) = false:=decide_eq_false (by omega)
    have hq:Hid (¬ SoundX xs):=fun hs=>by have:=hs.ne;have:=hNx.out;omega
    clear hS
    go_wp2
    go_ret
    exact ans_no hq.out nW
end Go.Proofs.Ytgmfofngmfekbaa
