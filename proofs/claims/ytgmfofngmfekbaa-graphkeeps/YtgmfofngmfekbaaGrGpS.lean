/-
  GrS3, DrA3, GrQ1: in one text.
-/
import Derived.Test.YtgmfofngmfekbaaGrGoS
import Derived.Test.YtgmfofngmfekbaaDrGbS
import Derived.Test.YtgmfofngmfekbaaGrGbS
import Derived.Test.YtgmfofngmfekbaaGrGfS
namespace Go.Proofs.Ytgmfofngmfekbaa
set_option linter.unusedVariables false
set_option linter.unusedSimpArgs false
set_option maxRecDepth 20000

theorem same_held {a b:List TC} (h:a.map (·.t) = b.map (·.t)):heldB a = heldB b:=by
 funext i j
 have key:∀ l:List TC,heldB l i j = match (l.map (·.t))[i]?,(l.map (·.t))[j]? with
   | some x,some y=>hasB x.links y.id
   | _,_=>false:=fun l=>by
  unfold heldB
  rw [List.getElem?_map,List.getElem?_map]
  cases l[i]? <;> cases l[j]? <;> rfl
 rw [key a,key b,h]
theorem same_len {a b:List TC} (h:a.map (·.t) = b.map (·.t)):a.length = b.length:=by simpa using congrArg List.length h
theorem same_marks {a b:List TC} (h:a.map (·.t) = b.map (·.t)):marksX a = marksX b:=by
 unfold marksX
 rw [same_held h,same_len h]
theorem same_outX:∀ {a b:List TC} (_:a.map (·.t) = b.map (·.t)) (m:List Bool),(outX a m).map (·.t) = (outX b m).map (·.t)
 | [],[],_,_=>rfl
 | x :: a,y :: b,h,[]=>by unfold outX;rfl
 | x :: a,y :: b,h,c :: m=>by
  simp only [List.map_cons,List.cons.injEq] at h
  rw [out_cons,out_cons]
  split
  ·rw [List.map_cons,List.map_cons,h.1,same_outX h.2 m]
  ·exact same_outX h.2 m
 | [],_ :: _,h,_=>by simp at h
 | _ :: _,[],h,_=>by simp at h
theorem same_offX:∀ {a b:List TC} (_:a.map (·.t) = b.map (·.t)) (m:List Bool),offX a m = offX b m
 | [],[],_,_=>rfl
 | x :: a,y :: b,h,[]=>by unfold offX;rfl
 | x :: a,y :: b,h,c :: m=>by
  simp only [List.map_cons,List.cons.injEq] at h
  rw [off_cons,off_cons,h.1,same_offX h.2 m]
 | [],_ :: _,h,_=>by simp at h
 | _ :: _,[],h,_=>by simp at h
theorem same_mem {a b:List TC} (h:a.map (·.t) = b.map (·.t)) {P:Th→Prop} (hb:∀ x ∈ b,P x.t):∀ x ∈ a,P x.t:=fun x hx=>by
 have h1:x.t ∈ a.map (·.t):=List.mem_map.2 ⟨x,hx,rfl⟩
 rw [h] at h1
 obtain ⟨y,hy,e⟩:=List.mem_map.1 h1
 rw [← e]
 exact hb y hy
theorem same_at {a b:List TC} (h:a.map (·.t) = b.map (·.t)) {i:Nat} (ha:i < a.length) (hb:i < b.length):a[i].t = b[i].t:=map_same_at h i ha hb

/-- The IDs that are not marked are those of what is not there any more. -/
theorem off_gone:∀ {l:List TC} (_:PwX l) {m:List Bool} (_:m.length = l.length),offX l m = (l.filter (fun y=>(findX (outX l m) y.t.id).isNone)).map (·.t.id)
 | [],_,_,_=>by unfold offX;rfl
 | _ :: _,_,[],h=>by simp at h
 | a :: l,hp,b :: m,h=>by
  obtain ⟨h1,h2⟩:=List.pairwise_cons.1 hp
  have hm:m.length = l.length:=by simpa using h
  have ih:=off_gone h2 hm
  have hno:findX (outX l m) a.t.id = none:=find_none.2 (fun y hy e=>by have:=h1 y ((out_sub l m).mem hy);omega)
  rw [off_cons,out_cons]
  cases b with
  | false =>
   rw [if_neg Bool.noConfusion,if_neg Bool.noConfusion,List.filter_cons,if_pos (by rw [hno];rfl),List.map_cons,ih]
  | true =>
   rw [if_pos rfl,if_pos rfl]
   have e:findX (a :: outX l m) a.t.id = some a:=by unfold findX;simp
   rw [List.filter_cons,if_neg (by rw [e];exact Bool.noConfusion),ih]
   congr 1
   refine List.filter_congr (fun y hy=>?_)
   have:=h1 y hy
   have hne:(a.t.id == y.t.id) = false:=by rw [beq_eq_false_iff_ne];omega
   unfold findX
   rw [List.find?_cons,hne]
theorem gone_map {g now:List TC} {f:TC→TC} (hf:KeepX f):((g.map f).filter (fun y=>(findX now y.t.id).isNone)).map (·.t.id) = goneX g now:=by
 unfold goneX
 rw [List.filter_map,List.map_map]
 have h3:g.filter ((fun y:TC=>(findX now y.t.id).isNone) ∘ f) = g.filter (fun y=>(findX now y.t.id).isNone):=List.filter_congr (fun y _=>by simp [hf.id])
 rw [h3]
 exact List.map_congr_left (fun y _=>by simp [hf.id])

/-- What Unlink answers. -/
def unX (xs:List TC) (hold id:Int):List TC × List Int × Int:=match findX xs hold with
 | none=>(xs,[],131)
 | some d=>if d.t.kind = 1 then (if hasB d.t.links id = true then
   let now:=downX (putX xs { d with t:={ d.t with links:=rmL d.t.links id } })
   (now,goneX xs now,0) else (xs,[],124)) else (xs,[],131)
/-- By marks it is the same. -/
theorem un_marks {xs g1:List TC} (h:SoundX xs) {hold id:Int} {d T:TC} (hf:findX xs hold = some d) (hk:d.t.kind = 1) (hh:hasB d.t.links id = true) (ht:T.t = { d.t with links:=rmL d.t.links id }) (hg:g1.map (·.t) = (putX xs T).map (·.t)) :
  (outX g1 (marksX g1)).map (·.t) = (unX xs hold id).1.map (·.t)∧offX g1 (marksX g1) = (unX xs hold id).2.1∧(unX xs hold id).2.2 = 0:=by
 have hp:=rise_pw h.rise
 obtain ⟨hd,he⟩:=find_mem hf
 have hdr:RightT d.t:=by obtain ⟨i,hi,rfl⟩:=List.getElem_of_mem hd;exact (h.each i hi).right
 have hT0:({ d with t:={ d.t with links:=rmL d.t.links id } }:TC).t = { d.t with links:=rmL d.t.links id }:=rfl
 have e0:unX xs hold id = (downX (putX xs { d with t:={ d.t with links:=rmL d.t.links id } }),goneX xs (downX (putX xs { d with t:={ d.t with links:=rmL d.t.links id } })),0):=by
  unfold unX
  simp only [hf,if_pos hk,if_pos hh]
 rw [e0]
 generalize ({ d with t:={ d.t with links:=rmL d.t.links id } }:TC) = D at hT0
 have hgD:g1.map (·.t) = (putX xs D).map (·.t):=by
  rw [hg]
  exact same_put rfl hp (by rw [ht,hT0])
 have hput:=un_put hp hd (t:=D) (by rw [hT0])
 have hless:=un_less (d:=d.t) (t:=D) (id:=id) hT0
 have hr:∀ x ∈ xs,RightT (unF d.t D x).t:=fun x hx=>by
  unfold unF
  split
  ·rw [hT0];exact right_rm hdr hk hh
  ·obtain ⟨i,hi,rfl⟩:=List.getElem_of_mem hx;exact (h.each i hi).right
 have hod:=out_down h hless hr
 rw [← hput] at hod
 have hpp:PwX (putX xs D):=put_pw hp D
 refine ⟨?_,?_,rfl⟩
 ·rw [same_marks hgD,same_outX hgD,hod]
 ·rw [same_marks hgD,same_offX hgD,off_gone hpp (marks_len _),hod]
  have e5:=gone_map (g:=xs) (now:=downX (putX xs D)) hless.keep
  rw [← hput] at e5
  exact e5
end Go.Proofs.Ytgmfofngmfekbaa

namespace Go.Proofs.Ytgmfofngmfekbaa
set_option linter.unusedVariables false
set_option linter.unusedSimpArgs false
set_option maxRecDepth 20000
open Go.RowKit

def smallT (id q:Int):Th:={ zeroT with id:=id,kind:=1,df:=2,quota:=q }

theorem small_dir {id q n:Int} (h1:idOk id) (h2:btw 1 q 48) (h3:btw 0 n 63):DirT { smallT id q with next:=n }:=by
 refine ⟨rfl,h1,?_,.inr (.inr ⟨by show (2:Int) ≠ 0;decide,fun i h=>by simp [smallT,zeroT] at h⟩),rfl,.inl ⟨rfl,h3,h2,Nat.zero_le _,⟨fun i h=>by simp [smallT,zeroT] at h,fun i h=>by simp [smallT,zeroT] at h⟩,?_⟩⟩
 ·exact ⟨by show (1:Int) ≤ 2;decide,by show (2:Int) ≤ 4;decide,by show 0 ≤ 6;decide,⟨List.Pairwise.nil,fun c hc=>(List.not_mem_nil hc).elim⟩,fun i h=>(Nat.not_lt_zero i h).elim⟩
 ·show 1 + sumL [] ≤ q
  unfold btw at h2
  simp [sumL]
  omega

end Go.Proofs.Ytgmfofngmfekbaa

namespace Go.Proofs.Ytgmfofngmfekbaa
set_option linter.unusedVariables false
set_option linter.unusedSimpArgs false
set_option maxRecDepth 20000
open Go.RowKit

/-- A thing without a place. -/
def cT (t:Th):TC:=⟨t,.slice none 0 0,.slice none 0 0,.slice none 0 0,.slice none 0 0⟩
def eT (x:TC):TC:=cT x.t
theorem eT_keep:KeepX eT:=⟨fun _=>rfl,fun _=>rfl,fun _=>rfl⟩
theorem eT_map {a b:List TC} (h:a.map (·.t) = b.map (·.t)):a.map eT = b.map eT:=by
 have e:∀ l:List TC,l.map eT = (l.map (·.t)).map cT:=fun l=>by rw [List.map_map];rfl
 rw [e,e,h]
theorem same_fits {a b:List TC} (h:a.map (·.t) = b.map (·.t)) (did:Int) (l:Cat):fitsX a did l = fitsX b did l:=by
 rw [← fits_map eT_keep a,← fits_map eT_keep b,eT_map h]
theorem same_given {a b:List TC} (h:a.map (·.t) = b.map (·.t)) (d:Int):givenX a d = givenX b d:=by
 rw [← given_map eT_keep a,← given_map eT_keep b,eT_map h]
theorem same_refs {a b:List TC} (h:a.map (·.t) = b.map (·.t)) (d:Int):refsX a d = refsX b d:=by
 rw [← refs_map (f:=eT) (fun _=>rfl) a,← refs_map (f:=eT) (fun _=>rfl) b,eT_map h]
theorem same_rise {a b:List TC} (h:a.map (·.t) = b.map (·.t)) (hr:RiseX b):RiseX a:=pw_rise (same_pw h (rise_pw hr))
theorem same_sound {a b:List TC} (h:a.map (·.t) = b.map (·.t)) (hs:SoundX b):SoundX a where
 rise:=same_rise h hs.rise
 ne:=by rw [same_len h];exact hs.ne
 id:=by rw [same_at h (by rw [same_len h];exact hs.ne) hs.ne];exact hs.id
 kind:=by rw [same_at h (by rw [same_len h];exact hs.ne) hs.ne];exact hs.kind
 none:=by rw [same_refs h];exact hs.none
 each:=fun i hi=>by
  have hb:i < b.length:=by rw [← same_len h];exact hi
  have e:=same_at h hi hb
  have s:=hs.each i hb
  exact ⟨by rw [e];exact s.right,fun h0=>by rw [e,same_refs h];exact s.held h0,fun h0=>by rw [e] at h0 ⊢;rw [same_refs h];exact s.once h0,
   fun l hl=>by rw [e] at hl ⊢;rw [same_fits h];exact s.fits l hl,fun h0=>by rw [e] at h0 ⊢;rw [same_given h];exact s.next h0⟩
theorem same_mendable {a b:List TC} (h:a.map (·.t) = b.map (·.t)) (hs:MendX b):MendX a where
 rise:=same_rise h hs.rise
 ne:=by rw [same_len h];exact hs.ne
 id:=by rw [same_at h (by rw [same_len h];exact hs.ne) hs.ne];exact hs.id
 kind:=by rw [same_at h (by rw [same_len h];exact hs.ne) hs.ne];exact hs.kind
 each:=fun i hi=>by
  have hb:i < b.length:=by rw [← same_len h];exact hi
  rw [same_at h hi hb]
  exact hs.each i hb
theorem same_cut {a b:List TC} (h:a.map (·.t) = b.map (·.t)):(cutX a).map (·.t) = (cutX b).map (·.t):=by
 have e:∀ l:List TC,(cutX l).map (·.t) = (l.map (·.t)).map (fun t=>{ t with links:=t.links.filter (fun c=>fitsX l t.id c) }):=fun l=>by
  unfold cutX
  rw [List.map_map,List.map_map]
  rfl
 rw [e,e,h]
 congr 1
 funext t
 congr 1
 congr 1
 funext c
 exact same_fits h _ c
theorem same_kept {a b:List TC} (h:a.map (·.t) = b.map (·.t)):(keptX a).map (·.t) = (keptX b).map (·.t):=by
 unfold keptX
 rw [same_marks (same_cut h)]
 exact same_outX (same_cut h) _
theorem same_raise {a b:List TC} (h:a.map (·.t) = b.map (·.t)):(raiseX a).map (·.t) = (raiseX b).map (·.t):=by
 have e:∀ l:List TC,(raiseX l).map (·.t) = (l.map (·.t)).map (fun t=>if t.kind = 1∧t.next < (givenX l t.id:Int) then { t with next:=(givenX l t.id:Int) } else t):=fun l=>by
  unfold raiseX
  rw [List.map_map,List.map_map]
  refine List.map_congr_left (fun x _=>?_)
  show (raiseF l x).t = (if x.t.kind = 1∧x.t.next < (givenX l x.t.id:Int) then { x.t with next:=(givenX l x.t.id:Int) } else x.t)
  unfold raiseF
  split <;> rfl
 rw [e,e,h]
 congr 1
 funext t
 rw [same_given h]
theorem same_mend {a b:List TC} (h:a.map (·.t) = b.map (·.t)):(mendX a).map (·.t) = (mendX b).map (·.t):=same_raise (same_kept h)
theorem same_un {a b:List TC} (h:a.map (·.t) = b.map (·.t)) (hs:SoundX b) (hold id:Int):(unX a hold id).1.map (·.t) = (unX b hold id).1.map (·.t)∧(unX a hold id).2 = (unX b hold id).2:=by
 have ha:=same_sound h hs
 have hf:=same_find h hold
 cases hb:findX b hold with
 | none =>
  rw [hb,Option.map_none,Option.map_eq_none_iff] at hf
  unfold unX
  simp only [hf,hb]
  exact ⟨h,trivial⟩
 | some d =>
  rw [hb,Option.map_some,Option.map_eq_some_iff] at hf
  obtain ⟨d',hd',e⟩:=hf
  by_cases hk:d.t.kind = 1
  ·cases hh:hasB d.t.links id with
   | true =>
    have hT0:({ d with t:={ d.t with links:=rmL d.t.links id } }:TC).t = { d.t with links:=rmL d.t.links id }:=rfl
    have e1:({ d' with t:={ d'.t with links:=rmL d'.t.links id } }:TC).t = ({ d with t:={ d.t with links:=rmL d.t.links id } }:TC).t:=by
     show ({ d'.t with links:=rmL d'.t.links id }:Th) = { d.t with links:=rmL d.t.links id }
     rw [e]
    have hp:=same_put h (rise_pw hs.rise) e1
    obtain ⟨p1,p2,p3⟩:=un_marks hs hb hk hh hT0 (g1:=putX a { d' with t:={ d'.t with links:=rmL d'.t.links id } }) hp
    obtain ⟨q1,q2,q3⟩:=un_marks ha hd' (by rw [e];exact hk) (by rw [e];exact hh) (T:={ d' with t:={ d'.t with links:=rmL d'.t.links id } }) rfl (g1:=putX a { d' with t:={ d'.t with links:=rmL d'.t.links id } }) rfl
    exact ⟨q1.symm.trans p1,Prod.ext (q2.symm.trans p2) (q3.trans p3.symm)⟩
   | false =>
    have hk':d'.t.kind = 1:=by rw [e];exact hk
    have hh':¬ hasB d'.t.links id = true:=by rw [e,hh];exact Bool.noConfusion
    unfold unX
    simp only [hd',hb,if_pos hk,if_pos hk',if_neg hh',if_neg (show ¬ hasB d.t.links id = true by rw [hh];exact Bool.noConfusion)]
    exact ⟨h,trivial⟩
  ·have hk':¬ d'.t.kind = 1:=by rw [e];exact hk
   unfold unX
   simp only [hd',hb,if_neg hk,if_neg hk']
   exact ⟨h,trivial⟩

theorem un_sound {xs:List TC} (h:SoundX xs) (hold id:Int):SoundX (unX xs hold id).1:=by
 unfold unX
 cases hf:findX xs hold with
 | none=>exact h
 | some d =>
  simp only
  split
  ·rename_i hk
   split
   ·rename_i hh
    exact unlink_sound h hf hk hh rfl
   ·exact h
  ·exact h

/-- The chapter's example. -/
def nT0:Th:={ smallT 1 9 with next:=1,links:=[(65,4)] }
def nT1:Th:={ smallT 65 4 with next:=1,links:=[(4161,2)] }
def nT2:Th:={ zeroT with id:=4161,kind:=4,df:=2,quota:=2,data:=List.replicate 32 0 }
def nestC:List TC:=[cT nT0,cT nT1,cT nT2]
theorem n0_right:RightT nT0:=by
 have h0:DirT (smallT 1 9):=small_dir (n:=0) ⟨by decide,by decide⟩ ⟨by decide,by decide⟩ ⟨by decide,by decide⟩
 have hb:bornT (smallT 1 9) 4 = (nT0,65,0):=rfl
 have:=(born_right (q:=4) h0 rfl).1
 rw [hb] at this
 exact this.right
theorem n1_right:RightT nT1:=by
 have h0:DirT (smallT 65 4):=small_dir (n:=0) ⟨by decide,by decide⟩ ⟨by decide,by decide⟩ ⟨by decide,by decide⟩
 have hb:bornT (smallT 65 4) 2 = (nT1,4161,0):=rfl
 have:=(born_right (q:=2) h0 rfl).1
 rw [hb] at this
 exact this.right
theorem n2_right:RightT nT2:=by
 refine ⟨⟨by decide,by decide⟩,⟨by show (1:Int) ≤ 2;decide,by show (2:Int) ≤ 4;decide,by show 0 ≤ 6;decide,⟨List.Pairwise.nil,fun c hc=>(List.not_mem_nil hc).elim⟩,fun i h=>(Nat.not_lt_zero i h).elim⟩,.inr (.inr ⟨by show (2:Int) ≠ 0;decide,fun i h=>(Nat.not_lt_zero i h).elim⟩),rfl,.inr (.inr (.inr (.inl ⟨rfl,by decide,by decide,by decide,rfl⟩)))⟩
theorem nest_rise:RiseX nestC:=by
 intro i h
 match i,h with
 | 0,_=>exact (by decide:(1:Int) < 65)
 | 1,_=>exact (by decide:(65:Int) < 4161)
 | i + 2,h=>have h2:i + 3 < 3:=h;omega
theorem nest_at0:SoundAt nestC 0 (cT nT0) :=
 ⟨n0_right,fun h=>absurd h (Nat.lt_irrefl _),fun _=>(by decide:refsX nestC 1 ≤ 1),fun l hl=>by
  have hl2:l ∈ [((65:Int),(4:Int))]:=hl
  rw [List.mem_singleton] at hl2
  subst hl2
  rfl,fun _=>(by decide +kernel:((givenX nestC 1:Nat):Int) ≤ 1)⟩
theorem nest_at1:SoundAt nestC 1 (cT nT1) :=
 ⟨n1_right,fun _=>(by decide:1 ≤ refsX nestC 65),fun _=>(by decide:refsX nestC 65 ≤ 1),fun l hl=>by
  have hl2:l ∈ [((4161:Int),(2:Int))]:=hl
  rw [List.mem_singleton] at hl2
  subst hl2
  rfl,fun _=>(by decide +kernel:((givenX nestC 65:Nat):Int) ≤ 1)⟩
theorem nest_at2:SoundAt nestC 2 (cT nT2) :=
 ⟨n2_right,fun _=>(by decide:1 ≤ refsX nestC 4161),fun h=>absurd h (by decide:¬ (4:Int) = 1),fun l hl=>by
  have hl2:l ∈ ([]:List Cat):=hl
  exact absurd hl2 List.not_mem_nil,fun h=>absurd h (by decide:¬ (4:Int) = 1)⟩
theorem nest_sound:SoundX nestC where
 rise:=nest_rise
 ne:=Nat.succ_pos 2
 id:=rfl
 kind:=rfl
 none:=(by decide:refsX nestC 1 = 0)
 each:=fun i hi=>by
  match i,hi with
  | 0,_=>exact nest_at0
  | 1,_=>exact nest_at1
  | 2,_=>exact nest_at2
  | i + 3,h=>exact absurd h (by show ¬ i + 3 < 3;omega)
theorem nest_un:unX nestC 1 65 = ([cT { nT0 with links:=[] }],[65,4161],0):=by rfl
theorem nest_less:SoundX [cT { nT0 with links:=[] }]:=by
 have h:=un_sound nest_sound 1 65
 rw [nest_un] at h
 exact h
end Go.Proofs.Ytgmfofngmfekbaa
