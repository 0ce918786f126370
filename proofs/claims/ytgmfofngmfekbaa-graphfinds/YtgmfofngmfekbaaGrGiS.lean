/-
  GrT1, GrT2, GrT3: in one text.
-/
import Derived.Test.YtgmfofngmfekbaaGrGhS
import Derived.Test.YtgmfofngmfekbaaDrGaS
import Derived.Test.YtgmfofngmfekbaaGrGcS
namespace Go.Proofs.Ytgmfofngmfekbaa
set_option linter.unusedVariables false
set_option linter.unusedSimpArgs false
set_option maxRecDepth 20000
open Go.RowKit

set_option maxHeartbeats 1600000 in
theorem c_gplace1 {X:Nat→Prop} {t:Th} {uL uC uK uD:Value} (id:Int) (w:World) (h:ThAt X w t uL uC uK uD):Calls Try.prog 68 #[thV t uL uC uK uD,.int .u64 id] w fun e w'=>e = .returned (.int .i64 (cmpI t.id id))∧Nw w w':=by
 obtain ⟨W,hW⟩:∃ W,Hid (W = w.alloc (.cells (thC t uL uC uK uD).toArray 34)):=⟨_,rfl⟩
 have nW:Nw w W:=by rw [hW.out];exact nw_alloc (nw_refl w) _
 have hA:W.heap[w.heap.size]? = some (.cells (thC t uL uC uK uD).toArray 34 (0,0)):=by rw [hW.out];exact heap_alloc_new w _
 have a0:W.cell? ⟨w.heap.size,0,none⟩ = some (.int .u64 t.id):=cell_blk hA rfl
 go_enter Try.func68,Try.ntmps68
 go_upto_region 1 with (refine wpList_box_agg rfl 34 _ rfl (thV t uL uC uK uD) _ rfl rfl ?_)
 rw [← hW.out]
 clear hW
 go_wp2_with (go_at_call 69;refine (c_cmp _ _ _).mono ?_;rintro e w' ⟨rfl,rfl⟩)
 go_ret
 exact ⟨rfl,nW⟩

/-- The things rise by their IDs. -/
abbrev PwX (xs:List TC):Prop:=xs.Pairwise (fun a b=>a.t.id < b.t.id)

set_option maxRecDepth 100000 in
set_option maxHeartbeats 3200000 in
theorem c_gsearch {X Y:Nat→Prop} {v:Value} {xs:List TC} (id:Int) (w:World) (h:TSl X Y w v xs) (hp:PwX xs) (hn:xs.length ≤ 1000000) :
  Calls Try.prog 67 #[v,.int .u64 id,.func (.func 68) #[] #[]] w fun e w'=>e = .returned (.tuple #[.int .i64 (posX xs id),.bool (foundX xs id)])∧Nw w w':=by
 obtain ⟨ao,cap,rfl,hcl,hcm⟩:=h.form
 have hM:Hid (∀ i j (_:i ≤ j) (hj:j < xs.length),xs[j].t.id < id→xs[i].t.id < id):=fun i j hij hj hlt=>by
  rcases Nat.eq_or_lt_of_le hij with e | e
  ·simpa [e] using hlt
  ·have:=List.pairwise_iff_getElem.1 hp i j (by omega) hj e;omega
 have hP:Hid (∀ i,i ≤ xs.length→(∀ t (h:t < xs.length),t < i→xs[t].t.id < id)→(∀ (h:i < xs.length),¬ xs[i].t.id < id)→posX xs id = i):=posX_of xs id
 have hFd:Hid (foundX xs id = if h:posX xs id < xs.length then (xs[posX xs id]'h).t.id == id else false):=found_pos hp id
 clear hp
 obtain ⟨N,hN⟩:∃ N,Hid (xs.length = N):=⟨_,rfl⟩
 have hlen:=hN.out
 rw [hlen]
 have hn2:N ≤ 1000000:=by omega
 clear hlen hn
 go_enter Try.func67,Try.ntmps67
 go_wp2
 go_loopg [9,10] N (fun kx s9 s10 wr=>∃ lo hi:Nat,s9 = .int .i64 lo∧s10 = .int .i64 hi∧lo ≤ hi∧hi ≤ N∧hi - lo ≤ kx∧Hid (Nw w wr) ∧
  Hid ((∀ t (h:t < xs.length),t < lo→xs[t].t.id < id)∧(∀ t (h:t < xs.length),hi ≤ t→¬ xs[t].t.id < id)))
 case atStart=>exact ⟨0,N,rfl,rfl,Nat.zero_le _,Nat.le_refl _,by omega,nw_refl w,(⟨fun t h ht=>absurd ht (Nat.not_lt_zero _),fun t h h1=>by have:=hN.out;omega⟩:(∀ t (h:t < xs.length),t < 0→xs[t].t.id < id)∧(∀ t (h:t < xs.length),N ≤ t→¬ xs[t].t.id < id))⟩
 case round =>
  obtain ⟨lo,hi,rfl,rfl,hlh,hin,hg,hnw,I⟩:=hrel
  by_cases hlt:lo < hi
  ·have hmid:(lo + hi) / 2 < xs.length:=by have:=hN.out;omega
   obtain ⟨q,off,rfl,_,hrr,hat⟩:=(h.nw hnw.out).get ((lo + hi) / 2) hmid
   have Y:Hid (∃ hh:(lo + hi) / 2 < xs.length,xs[(lo + hi) / 2]'hh = xs[(lo + hi) / 2]):=⟨hmid,rfl⟩
   have hI:Hid ((xs[(lo + hi) / 2].t.id < id→∀ t (h:t < xs.length),t < (lo + hi) / 2 + 1→xs[t].t.id < id)∧(¬ xs[(lo + hi) / 2].t.id < id→∀ t (h:t < xs.length),(lo + hi) / 2 ≤ t→¬ xs[t].t.id < id)) :=
    ⟨fun h1 t h2 h3=>hM.out t ((lo + hi) / 2) (by omega) hmid h1,fun h1 t h2 h3 h4=>h1 (hM.out ((lo + hi) / 2) t h3 h2 h4)⟩
   generalize xs[(lo + hi) / 2] = y at *
   have hc:Hid _:=c_gplace1 id wr hat
   have hc0:=cmpI_lt y.t.id id
   unfold tcC at hrr
   clear Y hmid hat
   by_cases hyx:y.t.id < id
   ·rw [decide_eq_true hyx] at hc0
    have I2:Hid ((∀ t (h:t < xs.length),t < (lo + hi) / 2 + 1→xs[t].t.id < id)∧(∀ t (h:t < xs.length),hi ≤ t→¬ xs[t].t.id < id)):=⟨hI.out.1 hyx,I.out.2⟩
    clear hyx hI I
    go_wp2_with (first
     | (refine wpList_load_as rfl 34 _ rfl q (off + ((lo + hi) / 2) * 26) rfl (thV y.t y.l y.c y.k y.d) _ rfl hrr Try.rowT Try.sizeT ?_)
     | (go_at_call 68;refine Calls.mono hc.out ?_;rintro e w' ⟨rfl,n1⟩))
    go_roundg (hi - ((lo + hi) / 2 + 1))
    case measure=>omega
    case rel =>
     exact ⟨(lo + hi) / 2 + 1,hi,by rw [show ((lo:Int) + (hi:Int)) / 2 + 1 = (((lo + hi) / 2 + 1:Nat):Int) by omega],rfl,by omega,hin,Nat.le_refl _,nw_trans hnw.out n1,I2⟩
   ·rw [decide_eq_false hyx] at hc0
    have I2:Hid ((∀ t (h:t < xs.length),t < lo→xs[t].t.id < id)∧(∀ t (h:t < xs.length),(lo + hi) / 2 ≤ t→¬ xs[t].t.id < id)):=⟨I.out.1,hI.out.2 hyx⟩
    clear hyx hI I
    go_wp2_with (first
     | (refine wpList_load_as rfl 34 _ rfl q (off + ((lo + hi) / 2) * 26) rfl (thV y.t y.l y.c y.k y.d) _ rfl hrr Try.rowT Try.sizeT ?_)
     | (go_at_call 68;refine Calls.mono hc.out ?_;rintro e w' ⟨rfl,n1⟩))
    go_roundg ((lo + hi) / 2 - lo)
    case measure=>omega
    case rel =>
     exact ⟨lo,(lo + hi) / 2,rfl,by rw [show ((lo:Int) + (hi:Int)) / 2 = (((lo + hi) / 2:Nat):Int) by omega],by omega,by omega,Nat.le_refl _,nw_trans hnw.out n1,I2⟩
  ·obtain rfl:hi = lo:=by omega
   have hpos:Hid (posX xs id = hi):=hP.out hi (by have:=hN.out;omega) I.out.1 (fun h=>by have:=I.out.2 hi h (Nat.le_refl _);omega)
   have hF:foundX xs id = if h:hi < xs.length then xs[hi].t.id == id else false:=by have h1:=hFd.out;simp only [hpos.out] at h1;exact h1
   clear I hM hP hFd
   by_cases hnn:hi < N
   ·have hmid:hi < xs.length:=by have:=hN.out;omega
    obtain ⟨q,off,rfl,_,hrr,hat⟩:=(h.nw hnw.out).get hi hmid
    rw [dif_pos hmid] at hF
    generalize xs[hi] = y at *
    have hc:Hid _:=c_gplace1 id wr hat
    unfold tcC at hrr
    have hc0:=cmpI_eq y.t.id id
    rw [← hF] at hc0
    clear hF hmid hat
    have hfin:Hid (∀ w',Nw wr w'→Ending.returned (.tuple #[.int .i64 hi,.bool (foundX xs id)]) = .returned (.tuple #[.int .i64 (posX xs id),.bool (foundX xs id)])∧Nw w w'):=fun w' n1=>⟨by rw [hpos.out],nw_trans hnw.out n1⟩
    generalize hfb:foundX xs id = fb at *
    replace hfb:Hid _:=hfb
    go_wp2_with (first
     | (refine wpList_load_as rfl 34 _ rfl q (off + hi * 26) rfl (thV y.t y.l y.c y.k y.d) _ rfl hrr Try.rowT Try.sizeT ?_)
     | (go_at_call 68;refine Calls.mono hc.out ?_;rintro e w' ⟨rfl,n1⟩))
    go_ret2
    exact ⟨by rw [hfb.out];exact (hfin.out _ n1).1,(hfin.out _ n1).2⟩
   ·have hmid:¬ hi < xs.length:=by have:=hN.out;omega
    rw [dif_neg hmid] at hF
    have hfin:Hid (Ending.returned (.tuple #[.int .i64 hi,.bool false]) = .returned (.tuple #[.int .i64 (posX xs id),.bool (foundX xs id)])∧Nw w wr):=⟨by rw [hpos.out,hF],hnw.out⟩
    clear hF hmid
    go_wp2
    go_ret2
    exact hfin.out

set_option maxHeartbeats 1600000 in
theorem c_gplace {X Y:Nat→Prop} {v:Value} {xs:List TC} (id:Int) (w:World) (h:TSl X Y w v xs) (hp:PwX xs) (hn:xs.length ≤ 1000000) :
  Calls Try.prog 38 #[v,.int .u64 id] w fun e w'=>e = .returned (.tuple #[.int .i64 (posX xs id),.bool (foundX xs id)])∧Nw w w':=by
 have hs:Hid _:=c_gsearch id w h hp hn
 clear h hp hn
 go_enter Try.func38,Try.ntmps38
 go_wp2_with (go_at_call 67;refine Calls.mono hs.out ?_;rintro e w' ⟨rfl,n1⟩)
 go_ret2
 exact ⟨rfl,n1⟩
end Go.Proofs.Ytgmfofngmfekbaa

namespace Go.Proofs.Ytgmfofngmfekbaa
set_option linter.unusedVariables false
set_option linter.unusedSimpArgs false
set_option maxRecDepth 20000
open Go.RowKit

/-- The block of a row that holds just these things. -/
def RowB (w:World) (g:Nat) (ys:List TC):Prop:=w.heap[g]? = some (.cells (tcs ys).toArray 34 (0,0))
theorem RowB.fr {w w':World} {g:Nat} {ys:List TC} (h:RowB w g ys) {S:Nat→Prop} (n:Fr S w w') (hS:¬ S g):RowB w' g ys:=(n.block g (heap_lt h) hS).trans h
theorem RowB.nw {w w':World} {g:Nat} {ys:List TC} (h:RowB w g ys) (n:Nw w w'):RowB w' g ys:=h.fr n (fun h=>h)
/-- A row that fills its block. -/
abbrev rowV (g n:Nat):Value:=.slice (some ⟨g,0,none⟩) n n
theorem row_tsl {w:World} {g:Nat} {ys:List TC} {Y:Nat→Prop} (h:RowB w g ys) (hl:ys.length ≤ 1000000) (ha:∀ y ∈ ys,y.At Y w):TSl (fun b=>b = g) Y w (rowV g ys.length) ys:=by
 refine ⟨⟨_,_,rfl,⟨Nat.le_refl _,by unfold maxLen;omega⟩,fun e=>by simp at e,fun i c hi=>⟨g,0,rfl,rfl,?_⟩⟩,ha⟩
 rw [Nat.zero_add]
 exact cell_blk h (by simpa using hi)

theorem splice_tcs {ys:List TC} {k:Nat} (h:k < ys.length) (y:TC):splice (tcs ys) (k * 26) (tcC y) = tcs (ys.set k y):=by
 have e:ys = ys.take k ++ ys[k] :: ys.drop (k + 1):=by simp
 have h1:=tcs_length (ys.take k)
 rw [List.length_take,Nat.min_eq_left (by omega)] at h1
 have e2:=congrArg tcs e
 rw [tcs_append,tcs_cons] at e2
 rw [List.set_eq_take_append_cons_drop,if_pos h,tcs_append,tcs_cons]
 unfold splice
 rw [e2,List.take_append_of_le_length (by omega),List.take_of_length_le (by omega),List.drop_append,List.drop_eq_nil_of_le (by rw [tcC_length];omega),List.nil_append,List.drop_append,List.drop_eq_nil_of_le (by rw [tcC_length];simp only [tcC_length] at *;omega),List.nil_append,h1]
 have e3:k * 26 + (tcC y).length - k * 26 - (tcC ys[k]).length = 0:=by rw [tcC_length,tcC_length];omega
 rw [e3,List.drop_zero]

/-- A copy whose lists lie in rows of their own, in blocks from lo on and below hi. -/
structure Cop (lo hi:Nat) (w:World) (x:TC):Prop where
 c:CopT lo w x.t x.l x.c x.k x.d
 hl:∀ b,x.l.ownBlock = some b→b < hi
 hc:∀ b,x.c.ownBlock = some b→b < hi
 hk:∀ b,x.k.ownBlock = some b→b < hi
 hd:∀ b,x.d.ownBlock = some b→b < hi
theorem cop_of {lo:Nat} {w:World} {t:Th} {u1 u2 u3 u4:Value} (h:CopT lo w t u1 u2 u3 u4):Cop lo w.heap.size w ⟨t,u1,u2,u3,u4⟩ :=
 ⟨h,fun b e=>(h.l.lt b e).2,fun b e=>(h.c.lt b e).2,fun b e=>(h.k.lt b e).2,fun b e=>(h.d.lt b e).2⟩
theorem owns_frb {S:Nat→Prop} {w w':World} {lo hi e size n:Nat} {v:Value} {xs:List Value} (h:w.ownsRow lo e size v n xs) (hh:∀ b,v.ownBlock = some b→b < hi) (hb:Fr S w w') (hS:∀ b,S b→b < lo∨hi ≤ b):w'.ownsRow lo e size v n xs :=
 owns_of_block h (fun k hk=>hb.block k (h.lt k hk).2 (fun hs=>by have h1:=hS k hs;have h2:=(h.lt k hk).1;have h3:=hh k hk;omega))
theorem Cop.fr {S:Nat→Prop} {lo hi:Nat} {w w':World} {x:TC} (h:Cop lo hi w x) (hb:Fr S w w') (hS:∀ b,S b→b < lo∨hi ≤ b):Cop lo hi w' x :=
 ⟨⟨owns_frb h.c.l h.hl hb hS,owns_frb h.c.c h.hc hb hS,owns_frb h.c.k h.hk hb hS,owns_frb h.c.d h.hd hb hS⟩,h.hl,h.hc,h.hk,h.hd⟩
theorem Cop.at {lo hi:Nat} {w:World} {x:TC} (h:Cop lo hi w x):x.At (fun b=>lo ≤ b∧b < hi) w :=
 ⟨slp_mono (slp_of_owns h.c.l) (fun b e=>⟨(h.c.l.lt b e).1,h.hl b e⟩),slp_mono (slp_of_owns h.c.c) (fun b e=>⟨(h.c.c.lt b e).1,h.hc b e⟩),slp_mono (slp_of_owns h.c.k) (fun b e=>⟨(h.c.k.lt b e).1,h.hk b e⟩),slp_mono (slp_of_owns h.c.d) (fun b e=>⟨(h.c.d.lt b e).1,h.hd b e⟩)⟩

/-- Copies, one behind the other. -/
def Lay (w:World):Nat→Nat→List TC→Prop
 | lo,hi,[]=>lo ≤ hi
 | lo,hi,x :: r=>∃ m,lo ≤ m∧Cop lo m w x∧Lay w m hi r
theorem lay_le {w:World}:∀ {lo hi:Nat} {ys:List TC},Lay w lo hi ys→lo ≤ hi
 | _,_,[],h=>h
 | _,_,_ :: _,⟨m,h1,_,h3⟩=>Nat.le_trans h1 (lay_le h3)
theorem lay_snoc {w:World}:∀ {lo hi hi':Nat} {ys:List TC} {y:TC},Lay w lo hi ys→hi ≤ hi'→Cop hi hi' w y→Lay w lo hi' (ys ++ [y])
 | lo,hi,hi',[],y,h,h1,hc=>⟨hi',by have h:lo ≤ hi:=h;omega,⟨hc.c.mono h,hc.hl,hc.hc,hc.hk,hc.hd⟩,Nat.le_refl _⟩
 | _,_,_,_ :: _,_,⟨m,h1,h2,h3⟩,h4,hc=>⟨m,h1,h2,lay_snoc h3 h4 hc⟩
theorem lay_fr {S:Nat→Prop} {w w':World} (hb:Fr S w w'):∀ {lo hi:Nat} {ys:List TC},Lay w lo hi ys→(∀ b,S b→b < lo∨hi ≤ b)→Lay w' lo hi ys
 | _,_,[],h,_=>h
 | lo,hi,_ :: _,⟨m,h1,h2,h3⟩,hS=>⟨m,h1,h2.fr hb (fun b hs=>by have:=hS b hs;have:=lay_le h3;omega),lay_fr hb h3 (fun b hs=>by have:=hS b hs;omega)⟩
theorem lay_hi {w:World}:∀ {lo hi hi':Nat} {ys:List TC},Lay w lo hi ys→hi ≤ hi'→Lay w lo hi' ys
 | _,_,_,[],h,h1=>Nat.le_trans h h1
 | _,_,_,_ :: _,⟨m,h1,h2,h3⟩,h4=>⟨m,h1,h2,lay_hi h3 h4⟩
theorem lay_get {w:World}:∀ {lo hi:Nat} {ys:List TC},Lay w lo hi ys→∀ i (h:i < ys.length),∃ a b,lo ≤ a∧b ≤ hi∧Cop a b w ys[i]
 | _,_,[],_,_,h=>by simp at h
 | lo,hi,x :: r,⟨m,h1,h2,h3⟩,0,_=>⟨lo,m,Nat.le_refl _,lay_le h3,h2⟩
 | lo,hi,x :: r,⟨m,h1,h2,h3⟩,i + 1,h=>by
  obtain ⟨a,b,h4,h5,h6⟩:=lay_get h3 i (by simpa using h)
  exact ⟨a,b,Nat.le_trans h1 h4,h5,h6⟩
theorem lay_at {w:World} {lo hi:Nat} {ys:List TC} (h:Lay w lo hi ys):∀ y ∈ ys,y.At (fun b=>lo ≤ b∧b < hi) w:=fun y hy=>by
 obtain ⟨i,hi,rfl⟩:=List.getElem_of_mem hy
 obtain ⟨a,b,h1,h2,h3⟩:=lay_get h i hi
 exact TC.At.mono (X:=fun c=>a ≤ c∧c < b) h3.at (fun c hc _=>⟨Nat.le_trans h1 hc.1,Nat.lt_of_lt_of_le hc.2 h2⟩)

theorem made_tcs (n:Nat):madeCells (thV zeroT (.slice none 0 0) (.slice none 0 0) (.slice none 0 0) (.slice none 0 0)).cells (n * 26) = (tcs (List.replicate n zTC)).toArray:=by
 apply Array.toList_inj.1
 refine List.ext_getElem ?_ (fun i h1 h2=>?_)
 ·simp [madeCells,tcs_length]
 ·have hlen:i < n * 26:=by simpa [madeCells] using h1
  have hd:i / 26 < (List.replicate n zTC).length:=by rw [List.length_replicate];omega
  have hr:i % 26 < (tcC zTC).length:=by rw [tcC_length];omega
  have hg:=tcs_get (List.replicate n zTC) (i / 26) hd (i % 26) ((tcC zTC)[i % 26]) (by rw [List.getElem_replicate];exact List.getElem?_eq_getElem hr)
  rw [show i / 26 * 26 + i % 26 = i by omega] at hg
  have e2:(tcs (List.replicate n zTC)).toArray.toList[i] = (tcC zTC)[i % 26]:=by
   have h3:=(List.getElem?_eq_some_iff.1 hg).2
   simpa using h3
  rw [e2]
  have e3:(thV zeroT (.slice none 0 0) (.slice none 0 0) (.slice none 0 0) (.slice none 0 0)).cells = (tcC zTC).toArray:=rfl
  simp only [madeCells,Array.getElem_toList,Array.getElem_map,Array.getElem_range,e3]
  rw [getElem!_pos (tcC zTC).toArray _ (by simp only [List.size_toArray,tcC_length];omega)]
  simp only [List.getElem_toArray,List.size_toArray,tcC_length]

set_option maxRecDepth 100000 in
set_option maxHeartbeats 4000000 in
theorem c_gcopies {X Y:Nat→Prop} {v:Value} {xs:List TC} (w:World) (h:TSl X Y w v xs) (hok:∀ x ∈ xs,TLen x.t) (hlen:xs.length ≤ 1000000) :
  Calls Try.prog 44 #[v] w fun e w'=>∃ ys,e = .returned (rowV w.heap.size xs.length)∧RowB w' w.heap.size ys∧Lay w' (w.heap.size + 1) w'.heap.size ys∧ys.map (·.t) = xs.map (·.t)∧Nw w w':=by
 obtain ⟨ao,cap,rfl,hc1,hc2⟩:=h.form
 obtain ⟨N,hN⟩:∃ N,xs.length = N:=⟨_,rfl⟩
 rw [hN] at h hc1 hlen ⊢
 replace hN:Hid _:=hN
 replace hok:Hid _:=hok
 obtain ⟨g,hg⟩:∃ g,Hid (g = w.heap.size):=⟨_,rfl⟩
 obtain ⟨Y1,hY⟩:∃ Y,Hid (Y = w.alloc (.cells (tcs (List.replicate N zTC)).toArray 34)):=⟨_,rfl⟩
 have n0:Nw w Y1:=by rw [hY.out];exact nw_alloc (nw_refl _) _
 have hR0:RowB Y1 g (List.replicate N zTC):=by rw [hY.out,hg.out];exact heap_alloc_new w _
 have hg1:g < Y1.heap.size:=heap_lt hR0
 obtain ⟨i0,hi0,hz0,hs0,hb0⟩:=info_parts3 Try.infoTb
 have hmade:madeCells (thV zeroT (.slice none 0 0) (.slice none 0 0) (.slice none 0 0) (.slice none 0 0)).cells (N * i0.size) = (tcs (List.replicate N zTC)).toArray:=by rw [hs0];exact made_tcs N
 rw [← hg.out]
 go_enter Try.func44,Try.ntmps44
 go_wp2_with (refine wpList_make_as rfl 22 34 _ _ rfl N rfl rfl i0 _ Try.underTs hi0 hz0 (by omega) (by rw [hb0];omega) _ hmade ?_;rw [← hY.out,← hg.out];refine stop_here ?_)
 unfold Hid
 clear hY hmade hi0 hz0 hs0 hb0
 go_wp2
 go_loopw [11] (fun kv wr=>∃ (k:Nat) (ys:List TC),k ≤ N∧kv = .int .i64 k∧Hid (RowB wr g (ys ++ List.replicate (N - k) zTC))∧Hid (Lay wr (g + 1) wr.heap.size ys)∧Hid (ys.map (·.t) = (xs.take k).map (·.t))∧Nw w wr) (fun kv _=>N - (intOf kv).toNat)
 case atStart=>exact ⟨0,[],Nat.zero_le _,rfl,hR0,(hg1:Lay Y1 (g + 1) Y1.heap.size []),rfl,n0⟩
 case round =>
  clear hR0 n0 hg1
  obtain ⟨k,ys,hk,rfl,hR,hL,hys,hw⟩:=hrel
  have hyl:Hid (ys.length = k):=by unfold Hid;have h9:=congrArg List.length hys.out;have h8:=hN.out;simp at h9;omega
  have hs:=h.nw hw
  by_cases hltN:k < N
  ·have hlt:k < xs.length:=by rw [hN.out];exact hltN
   have hst:Hid ((xs.take (k + 1)).map (·.t) = (xs.take k).map (·.t) ++ [xs[k].t]):=by unfold Hid;rw [List.take_succ_eq_append_getElem hlt,List.map_append];rfl
   have hokk:Hid (TLen xs[k].t):=hok.out _ (List.getElem_mem hlt)
   replace hR:=hR.out
   replace hL:=hL.out
   have nW:Nw wr wr:=nw_refl _
   have nwr:=hw
   obtain ⟨qv,offv,hva,_,hrr,hatv⟩:=(hs).get k hlt
   first | subst hva | (simp only [Option.some.injEq,Addr.mk.injEq,and_true] at hva;obtain ⟨rfl,rfl⟩:=hva)
   generalize xs[k] = x at *
   unfold tcC at hrr
   obtain ⟨Yv,hY⟩:∃ Y,Hid (Y = wr.alloc (.cells (thC zeroT (.slice none 0 0) (.slice none 0 0) (.slice none 0 0) (.slice none 0 0)).toArray 34)):=⟨_,rfl⟩
   have hVv:Yv.heap[wr.heap.size]? = some (.cells (thC zeroT (.slice none 0 0) (.slice none 0 0) (.slice none 0 0) (.slice none 0 0)).toArray 34 (0,0)):=by rw [hY.out];exact heap_alloc_new _ _
   obtain ⟨V1,hV⟩:∃ V,Hid (V = Yv.setRow wr.heap.size (thC x.t x.l x.c x.k x.d).toArray):=⟨_,rfl⟩
   have nV1:Nw wr V1:=by rw [hV.out,hY.out];exact Fr.setRow (nw_alloc (nw_refl _) _) (.inr (Nat.le_refl _)) _
   have hnew:V1.heap[wr.heap.size]? = some (.cells (thC x.t x.l x.c x.k x.d).toArray 34 (0,0)):=by rw [hV.out];exact setRow_heap _ _ _ _ _ _ hVv
   go_wp2_with (first | (refine wpList_load_as rfl 34 _ rfl qv (offv + k * 26) rfl (thV x.t x.l x.c x.k x.d) _ rfl hrr Try.rowT Try.sizeT ?_) | (refine wpList_alloc_agg rfl 34 rfl _ Try.zeroTh ?_;rw [← hY.out];refine stop_here ?_))
   unfold Hid
   go_wp2_with (refine wpList_store_all rfl 34 _ _ rfl (wr.heap.size) rfl (thV x.t x.l x.c x.k x.d) rfl (thC x.t x.l x.c x.k x.d) rfl (thC zeroT (.slice none 0 0) (.slice none 0 0) (.slice none 0 0) (.slice none 0 0)) 34 hVv rfl (ThAt.one hatv) Try.sizeT ?_;rw [← hV.out];refine stop_here ?_)
   unfold Hid
   clear hV hY hVv hrr
   replace hR:=hR.nw nV1
   replace hL:=lay_fr nV1 hL (fun b hb=>hb.elim)
   replace nW:=nw_trans nW nV1
   replace hatv:=hatv.nw nV1
   have hVv:=hnew
   clear hnew
   have hlAv:wr.heap.size < V1.heap.size:=heap_lt hVv
   generalize wr.heap.size = Av at *
   clear hs
   have hc2:Hid _:=c_tcopy V1 hatv hokk.out.l1 hokk.out.l2 hokk.out.l3 hokk.out.l4
   have hcon:Hid _:=hc2
   have hr0:=range_all hVv
   go_wp2_with (first | (refine wpList_load_as rfl 34 _ rfl (Av) 0 rfl (thV x.t x.l x.c x.k x.d) _ rfl hr0 Try.rowT Try.sizeT ?_) | (go_at_call 39;refine Calls.mono hcon.out ?_;rintro e W2 ⟨u1,u2,u3,u4,rfl,hcp,n2⟩;refine stop_here ?_))
   unfold Hid
   clear hcon hr0 hc2 hatv hokk
   replace hVv:=(n2.block _ (heap_lt hVv) (fun h=>h)).trans hVv
   replace hR:=hR.nw n2
   replace hL:=lay_fr n2 hL (fun b hb=>hb.elim)
   replace nW:=nw_trans nW n2
   obtain ⟨W9,hW9⟩:∃ V,Hid (V = W2.setRow g (tcs ((ys ++ List.replicate (N - k) zTC).set k ⟨x.t,u1,u2,u3,u4⟩)).toArray):=⟨_,rfl⟩
   have hlk:k < (ys ++ List.replicate (N - k) zTC).length:=by have h9:=hyl.out;rw [List.length_append,List.length_replicate];omega
   have hspl:=splice_tcs hlk ⟨x.t,u1,u2,u3,u4⟩
   have hfit:k * 26 + 26 ≤ (tcs (ys ++ List.replicate (N - k) zTC)).length:=by rw [tcs_length];omega
   have f9:Fr (fun b=>b = g) W2 W9:=by rw [hW9.out];exact (Fr.refl (fun b=>b = g) _).setRow (.inl rfl) _
   have hR9:RowB W9 g ((ys ++ List.replicate (N - k) zTC).set k ⟨x.t,u1,u2,u3,u4⟩):=by rw [hW9.out];exact setRow_heap _ _ _ _ _ _ hR
   obtain ⟨L9,hL9⟩:∃ L,Hid (L = tcs (ys ++ List.replicate (N - k) zTC)):=⟨_,rfl⟩
   unfold RowB at hR
   rw [← hL9.out] at hspl hfit hR
   replace hspl:Hid (splice L9 (k * 26) (thC x.t u1 u2 u3 u4) = tcs ((ys ++ List.replicate (N - k) zTC).set k ⟨x.t,u1,u2,u3,u4⟩)):=hspl
   go_wp2_with (refine wpList_store_as rfl 34 _ _ rfl g (k * 26) rfl (thV x.t u1 u2 u3 u4) rfl (thC x.t u1 u2 u3 u4) rfl L9 34 hR hfit (ThAt.one hcp.at) Try.sizeT ?_;rw [hspl.out,← hW9.out];refine stop_here ?_)
   unfold Hid
   clear hW9 hspl hfit hL9 hR
   have hset:Hid ((ys ++ List.replicate (N - k) zTC).set k ⟨x.t,u1,u2,u3,u4⟩ = (ys ++ [⟨x.t,u1,u2,u3,u4⟩]) ++ List.replicate (N - (k + 1)) zTC):=by
    have h9:=hyl.out
    unfold Hid
    rw [List.set_append,if_neg (by omega),h9,Nat.sub_self,show N - k = (N - (k + 1)) + 1 by omega,List.replicate_succ,List.set_cons_zero,List.append_assoc]
    rfl
   have hcop:=cop_of hcp
   have hL1:=lay_snoc (lay_hi hL (Nat.le_of_lt hlAv)) (Fr.size n2) hcop
   have hL9:Lay W9 (g + 1) W9.heap.size (ys ++ [⟨x.t,u1,u2,u3,u4⟩]):=lay_hi (lay_fr f9 hL1 (fun b hb=>by have hb2:b = g:=hb;omega)) (Fr.size f9)
   have hw9:Nw w W9:=Fr.trans (nw_trans nwr nW) f9 (fun b hb=>.inr (by have hb2:b = g:=hb;have h9:=hg.out;omega))
   rw [hset.out] at hR9
   have hys9:Hid ((ys ++ [(⟨x.t,u1,u2,u3,u4⟩:TC)]).map (·.t) = (xs.take (k + 1)).map (·.t)):=by unfold Hid;rw [List.map_append,hys.out,hst.out];rfl
   clear hset hL1 hcop hcp hst hys hyl
   go_wp2
   go_roundw
   case measure=>simp [intOf];omega
   case rel=>exact ⟨k + 1,_,by omega,by go_num,hR9,hL9,hys9,hw9⟩
  ·obtain rfl:k = N:=by omega
   have hR9:=hR.out
   rw [Nat.sub_self,List.replicate_zero,List.append_nil] at hR9
   replace hR9:Hid _:=hR9
   have hys9:Hid (ys.map (·.t) = xs.map (·.t)):=by unfold Hid;rw [hys.out,List.take_of_length_le (by have:=hN.out;omega)]
   clear hs hok
   go_wp2
   go_ret
   exact ⟨rfl,ys,hR9.out,hL.out,hys9.out,hw⟩
end Go.Proofs.Ytgmfofngmfekbaa

namespace Go.Proofs.Ytgmfofngmfekbaa
set_option linter.unusedVariables false
set_option linter.unusedSimpArgs false
set_option maxRecDepth 20000
open Go.RowKit

/-- What Find answers: a copy, in memory of its own. -/
def GFindP (xs:List TC) (id:Int) (w:World) (e:Ending) (w':World):Prop :=
 Nw w w'∧((∃ x y,findX xs id = some x∧y.t = x.t∧e = .returned (.tuple #[tcV y,.bool true])∧y.At (fun b=>w.heap.size ≤ b) w')∨(findX xs id = none∧e = .returned (.tuple #[tcV zTC,.bool false])))

set_option maxRecDepth 100000 in
set_option maxHeartbeats 6400000 in
theorem c_gfind {X Y:Nat→Prop} {v:Value} {xs:List TC} (id:Int) (w:World) (h:TSl X Y w v xs) (hp:PwX xs) (hok:∀ x ∈ xs,TLen x.t) (hn:xs.length ≤ 1000000) :
  Calls Try.prog 13 #[v,.int .u64 id] w (GFindP xs id w):=by
 obtain ⟨ao,cap,rfl,hc1,hc2⟩:=h.form
 obtain ⟨W,hW⟩:∃ W,Hid (W = w.alloc (.cells (thC zeroT (.slice none 0 0) (.slice none 0 0) (.slice none 0 0) (.slice none 0 0)).toArray 34)):=⟨_,rfl⟩
 have nW:Nw w W:=by rw [hW.out];exact nw_alloc (nw_refl w) _
 have hB0:W.heap[w.heap.size]? = some (.cells (thC zeroT (.slice none 0 0) (.slice none 0 0) (.slice none 0 0) (.slice none 0 0)).toArray 34 (0,0)):=by rw [hW.out];exact heap_alloc_new w _
 have hs:=h.nw nW
 clear h
 have hpl:Hid _:=c_gplace id W hs hp hn
 have hB0w:=heap_lt hB0
 cases hf:foundX xs id with
 | true =>
  obtain ⟨hlt,hfa,hid⟩:=find_at hp hf
  have hokk:Hid (TLen (xs[posX xs id]).t):=hok _ (List.getElem_mem hlt)
  rw [hf] at hpl
  replace hf:Hid _:=hf
  replace hfa:Hid _:=hfa
  clear hid
  obtain ⟨q1,off1,hva,_,hrr,hat⟩:=hs.get _ hlt
  subst hva
  generalize xs[posX xs id] = x at *
  generalize posX xs id = p at *
  unfold tcC at hrr
  clear hs hp hok
  go_enter Try.func13,Try.ntmps13
  go_upto_region 1 with ((refine wpList_alloc_agg rfl 34 rfl _ Try.zeroTh ?_;rw [← hW.out]))
  clear hW
  have hcon:Hid _:=hpl.out
  go_wp2_with ((go_at_call 38;refine Calls.mono hcon.out ?_;rintro e W1 ⟨rfl,n1⟩;refine stop_here ?_))
  unfold Hid
  clear hcon  hpl
  replace hB0:=(n1.block _ (heap_lt hB0) (fun h=>h)).trans hB0
  replace hat:=hat.nw n1
  replace hrr:=range_nw hrr n1
  replace nW:=nw_trans nW n1
  have hc2:Hid _:=c_tcopy W1 hat hokk.out.l1 hokk.out.l2 hokk.out.l3 hokk.out.l4
  have hcon:Hid _:=hc2
  go_wp2_with (first | (refine wpList_load_as rfl 34 _ rfl q1 (off1 + p * 26) rfl (thV x.t x.l x.c x.k x.d) _ rfl hrr Try.rowT Try.sizeT ?_) | (go_at_call 39;refine Calls.mono hcon.out ?_;rintro e W2 ⟨u1,u2,u3,u4,rfl,hcp,n2⟩;refine stop_here ?_))
  unfold Hid
  clear hcon  hc2 hat hokk hrr
  replace hB0:=(n2.block _ (heap_lt hB0) (fun h=>h)).trans hB0
  replace nW:=nw_trans nW n2
  have hat2:=hcp.at
  have hlW:=Fr.size n1
  have hlV:=Fr.size nW
  obtain ⟨W3,hV⟩:∃ V,Hid (V = W2.setRow (w.heap.size) (thC x.t u1 u2 u3 u4).toArray):=⟨_,rfl⟩
  have fV:Fr (fun k=>k = w.heap.size) W2 W3:=by rw [hV.out];exact (Fr.refl (fun k=>k = w.heap.size) W2).setRow (.inl rfl) _
  have hnew:W3.heap[w.heap.size]? = some (.cells (thC x.t u1 u2 u3 u4).toArray 34 (0,0)):=by rw [hV.out];exact setRow_heap _ _ _ _ _ _ hB0
  go_wp2_with (refine wpList_store_all rfl 34 _ _ rfl (w.heap.size) rfl (thV x.t u1 u2 u3 u4) rfl (thC x.t u1 u2 u3 u4) rfl (thC zeroT (.slice none 0 0) (.slice none 0 0) (.slice none 0 0) (.slice none 0 0)) 34 hB0 rfl (ThAt.one hat2) Try.sizeT ?_;rw [← hV.out];refine stop_here ?_)
  unfold Hid
  clear hV
  replace hB0:=hnew
  clear hnew
  replace nW:Nw w W3:=Fr.trans nW fV (fun k hk=>.inr (by omega))
  have hat3:ThAt (fun b=>w.heap.size ≤ b) W3 x.t u1 u2 u3 u4:=hat2.keep fV (fun b hb _ e=>by have e2:b = w.heap.size:=e;have hb2:W1.heap.size ≤ b:=hb;omega) (fun b hb _=>by have hb2:W1.heap.size ≤ b:=hb;omega)
  clear fV hat2 hcp
  go_wp2
  refine bodyPost_ret (results_cell2 rfl _ (w.heap.size) _ (thV x.t u1 u2 u3 u4) rfl rfl (range_all hB0) Try.rowT Try.sizeT) rfl ?_
  exact ⟨nW,.inl ⟨x,⟨x.t,u1,u2,u3,u4⟩,hfa.out,rfl,rfl,hat3⟩⟩
 | false =>
  have hno:Hid (findX xs id = none):=find_off hf
  rw [hf] at hpl
  replace hf:Hid _:=hf
  clear hs hp hok
  go_enter Try.func13,Try.ntmps13
  go_upto_region 1 with ((refine wpList_alloc_agg rfl 34 rfl _ Try.zeroTh ?_;rw [← hW.out]))
  clear hW
  have hcon:Hid _:=hpl.out
  go_wp2_with ((go_at_call 38;refine Calls.mono hcon.out ?_;rintro e W1 ⟨rfl,n1⟩;refine stop_here ?_))
  unfold Hid
  clear hcon  hpl
  replace hB0:=(n1.block _ (heap_lt hB0) (fun h=>h)).trans hB0
  replace nW:=nw_trans nW n1
  go_upto_region 3 with fail
  refine wp_region_list ?_
  simp only [List.toList_toArray,List.append_eq,List.cons_append,List.nil_append]
  refine wpList_build_as rfl 34 _ rfl (thV zeroT (.slice none 0 0) (.slice none 0 0) (.slice none 0 0) (.slice none 0 0)) (thC zeroT (.slice none 0 0) (.slice none 0 0) (.slice none 0 0) (.slice none 0 0)).toArray rfl ?z ?_
  case z =>
   simp only [List.map_nil]
   exact Try.builtZ
  simp only [pL,List.set]
  obtain ⟨W2,hV⟩:∃ V,Hid (V = W1.setRow (w.heap.size) (thC zeroT (.slice none 0 0) (.slice none 0 0) (.slice none 0 0) (.slice none 0 0)).toArray):=⟨_,rfl⟩
  have fV:Fr (fun k=>k = w.heap.size) W1 W2:=by rw [hV.out];exact (Fr.refl (fun k=>k = w.heap.size) W1).setRow (.inl rfl) _
  have hnew:W2.heap[w.heap.size]? = some (.cells (thC zeroT (.slice none 0 0) (.slice none 0 0) (.slice none 0 0) (.slice none 0 0)).toArray 34 (0,0)):=by rw [hV.out];exact setRow_heap _ _ _ _ _ _ hB0
  refine wpList_store_all rfl 34 _ _ rfl (w.heap.size) rfl (thV zeroT (.slice none 0 0) (.slice none 0 0) (.slice none 0 0) (.slice none 0 0)) rfl (thC zeroT (.slice none 0 0) (.slice none 0 0) (.slice none 0 0) (.slice none 0 0)) rfl (thC zeroT (.slice none 0 0) (.slice none 0 0) (.slice none 0 0) (.slice none 0 0)) 34 hB0 rfl (th_one _ _ _ _ _ rfl rfl rfl rfl) Try.sizeT ?_
  rw [← hV.out]
  clear hV
  replace hB0:=hnew
  clear hnew
  replace nW:Nw w W2:=Fr.trans nW fV (fun k hk=>.inr (by omega))
  clear fV
  go_wp2
  refine bodyPost_ret (results_cell2 rfl _ (w.heap.size) _ (thV zeroT (.slice none 0 0) (.slice none 0 0) (.slice none 0 0) (.slice none 0 0)) rfl rfl (range_all hB0) Try.rowT Try.sizeT) rfl ?_
  exact ⟨nW,.inr ⟨hno.out,rfl⟩⟩
end Go.Proofs.Ytgmfofngmfekbaa
