/-
  GrP6, GrP7, GrP8, GrP9, GrP10: in one text.
-/
import Derived.Test.YtgmfofngmfekbaaGrGfS
namespace Go.Proofs.Ytgmfofngmfekbaa
set_option linter.unusedVariables false
set_option linter.unusedSimpArgs false
set_option maxRecDepth 20000

/-- The first, and what is linked. -/
def keepU:List TC→List TC
 | []=>[]
 | a :: l=>a :: l.filter (fun y=>decide (0 < refsX (a :: l) y.t.id))
/-- As long as something goes. -/
def downU:Nat→List TC→List TC
 | 0,l=>l
 | n + 1,l=>if (keepU l).length = l.length then l else downU n (keepU l)
theorem keepU_sub:∀ l:List TC,(keepU l).Sublist l
 | []=>List.Sublist.refl _
 | a :: _=>List.Sublist.cons_cons a List.filter_sublist
theorem keepU_le (l:List TC):(keepU l).length ≤ l.length:=(keepU_sub l).length_le
theorem downU_fix:∀ (n:Nat) (l:List TC),l.length ≤ n→(keepU (downU n l)).length = (downU n l).length
 | 0,l,h=>by
  have:l = []:=List.length_eq_zero_iff.1 (by omega)
  subst this
  rfl
 | n + 1,l,h=>by
  unfold downU
  split
  ·rename_i he;exact he
  ·rename_i hne
   exact downU_fix n _ (by have:=keepU_le l;omega)
theorem downU_ind {P:List TC→Prop} (hP:∀ l,P l→P (keepU l)):∀ (n:Nat) (l:List TC),P l→P (downU n l)
 | 0,_,h=>h
 | n + 1,l,h=>by
  unfold downU
  split
  ·exact h
  ·exact downU_ind hP n _ (hP l h)
theorem keepU_held {l:List TC} (h:(keepU l).length = l.length) (i:Nat) (hi:i < l.length) (h0:0 < i):1 ≤ refsX l l[i].t.id:=by
 have e:keepU l = l:=(keepU_sub l).eq_of_length h
 cases l with
 | nil=>simp at hi
 | cons a l =>
  have e2:l.filter (fun y=>decide (0 < refsX (a :: l) y.t.id)) = l:=(List.cons.inj e).2
  obtain ⟨j,rfl⟩:∃ j,i = j + 1:=⟨i - 1,by omega⟩
  have hj:j < l.length:=by simpa using hi
  have:=List.filter_eq_self.1 e2 (l[j]) (List.getElem_mem hj)
  have h3:0 < refsX (a :: l) (l[j]).t.id:=by simpa using this
  exact h3

/-- What is left: of g, the first ahead, and what it links is there. -/
structure LeftX (a:TC) (g l:List TC):Prop where
 sub:l.Sublist g
 head:∃ r,l = a :: r
 clo:∀ x ∈ l,∀ k ∈ x.t.links,∃ u ∈ l,u.t.id = k.1
theorem left_keep {a:TC} {g l:List TC} (h:LeftX a g l):LeftX a g (keepU l):=by
 obtain ⟨r,rfl⟩:=h.head
 refine ⟨(keepU_sub _).trans h.sub,⟨_,rfl⟩,fun x hx k hk=>?_⟩
 have hx2:=(keepU_sub _).mem hx
 obtain ⟨u,hu,he⟩:=h.clo x hx2 k hk
 refine ⟨u,?_,he⟩
 rcases List.mem_cons.1 hu with rfl | hu2
 ·exact List.mem_cons_self ..
 ·refine List.mem_cons_of_mem _ (List.mem_filter.2 ⟨hu2,?_⟩)
  have:0 < refsX (a :: r) u.t.id:=List.countP_pos_iff.2 ⟨x,hx2,by rw [he];exact has_of hk⟩
  simpa using this

theorem givStep_mono {d:Int} {n m x:Nat} (h:n ≤ m):givStep d n x ≤ givStep d m x:=by
 unfold givStep
 split <;> split <;> omega
theorem givStep_ge (d:Int) (n x:Nat):n ≤ givStep d n x:=by
 unfold givStep
 split <;> omega
theorem givL_mono {d:Int}:∀ (l:List Nat) {n m:Nat},n ≤ m→givL d l n ≤ givL d l m
 | [],_,_,h=>h
 | _ :: l,_,_,h=>givL_mono l (givStep_mono h)
theorem givL_ge (d:Int):∀ (l:List Nat) (n:Nat),n ≤ givL d l n
 | [],_=>Nat.le_refl _
 | x :: l,n=>Nat.le_trans (givStep_ge d n x) (givL_ge d l _)
theorem givX_sub {d:Int} {a b:List TC} (h:a.Sublist b):∀ {n m:Nat},n ≤ m→givX d a n ≤ givX d b m:=by
 induction h with
 | slnil=>exact fun h=>h
 | @cons l1 l2 x _ ih=>exact fun {n m} h=>ih (n:=n) (m:=givL d (aboveL x.t.id.toNat) m) (Nat.le_trans h (givL_ge d _ m))
 | @cons_cons l1 l2 x _ ih=>exact fun h=>ih (givL_mono _ h)
theorem given_sub {a b:List TC} (h:a.Sublist b) (d:Int):givenX a d ≤ givenX b d:=givX_sub h (Nat.le_refl _)

/-- A thing turned into one with fewer links. -/
structure LessX (f:TC→TC):Prop where
 keep:KeepX f
 links:∀ x,∀ k ∈ (f x).t.links,k ∈ x.t.links
 next:∀ x,(f x).t.next = x.t.next
theorem refs_less {f:TC→TC} (hf:LessX f) (xs:List TC) (id:Int):refsX (xs.map f) id ≤ refsX xs id:=by
 unfold refsX
 rw [List.countP_map]
 refine List.countP_mono_left (fun x _ hx=>?_)
 obtain ⟨k,hk,he⟩:=of_has (show hasB (f x).t.links id = true from hx)
 rw [← he]
 exact has_of (hf.links x k hk)

/-- What is left of a sound one of which one has fewer links is sound. -/
theorem left_sound {g:List TC} {f:TC→TC} (h:SoundX g) (hf:LessX f) (hr:∀ x ∈ g,RightT (f x).t):SoundX (downU (g.map f).length (g.map f)):=by
 have hpg:=rise_pw h.rise
 have hpf:=pw_map hf.keep hpg
 have hl:(g.map f).length = g.length:=List.length_map ..
 obtain ⟨a,r,hg⟩:∃ a r,g = a :: r:=by
  cases hgx:g with
  | nil=>have:=h.ne;rw [hgx] at this;simp at this
  | cons a r=>exact ⟨a,r,rfl⟩
 have hg0:g[0]'h.ne = a:=by simp [hg]
 have h0:LeftX (f a) (g.map f) (g.map f):=by
  refine ⟨List.Sublist.refl _,⟨r.map f,by rw [hg];rfl⟩,fun x hx k hk=>?_⟩
  obtain ⟨y,hy,rfl⟩:=List.mem_map.1 hx
  obtain ⟨i,hi,rfl⟩:=List.getElem_of_mem hy
  have hfit:=(h.each i hi).fits k (hf.links _ k hk)
  unfold fitsX at hfit
  cases hfd:findX g k.1 with
  | none=>rw [hfd] at hfit;exact absurd hfit (by simp)
  | some u=>exact ⟨f u,List.mem_map.2 ⟨u,(find_mem hfd).1,rfl⟩,by rw [hf.keep.id];exact (find_mem hfd).2⟩
 have hfix:=downU_fix (g.map f).length (g.map f) (Nat.le_refl _)
 have hL:=downU_ind (P:=LeftX (f a) (g.map f)) (fun l hl=>left_keep hl) (g.map f).length (g.map f) h0
 generalize downU (g.map f).length (g.map f) = R at hfix hL
 have hpR:=hpf.sublist hL.sub
 obtain ⟨rr,hR⟩:=hL.head
 have hne:0 < R.length:=by rw [hR];simp
 have hR0:R[0] = f a:=by simp [hR]
 have hrefs:∀ id,refsX R id ≤ refsX g id:=fun id=>Nat.le_trans (hL.sub.countP_le) (refs_less hf g id)
 have hof:∀ x ∈ R,∃ i,∃ hi:i < g.length,x = f (g[i]):=fun x hx=>by
  obtain ⟨y,hy,e⟩:=List.mem_map.1 (hL.sub.mem hx)
  obtain ⟨i,hi,rfl⟩:=List.getElem_of_mem hy
  exact ⟨i,hi,e.symm⟩
 refine ⟨pw_rise hpR,hne,?_,?_,?_,fun i hi=>?_⟩
 ·rw [hR0,hf.keep.id,← hg0];exact h.id
 ·rw [hR0,hf.keep.kind,← hg0];exact h.kind
 ·have:=hrefs 1;have:=h.none;omega
 ·have hm:=List.getElem_mem hi
  refine ⟨?_,fun hi0=>keepU_held hfix i hi hi0,fun hk=>?_,fun l hl2=>?_,fun hk=>?_⟩
  ·obtain ⟨j,hj,e⟩:=hof _ hm
   rw [e];exact hr _ (List.getElem_mem hj)
  ·obtain ⟨j,hj,e⟩:=hof _ hm
   have h1:=hrefs (R[i]).t.id
   rw [e,hf.keep.kind] at hk
   have h2:=(h.each j hj).once hk
   rw [e,hf.keep.id] at h1
   rw [e,hf.keep.id]
   omega
  ·obtain ⟨j,hj,e⟩:=hof _ hm
   obtain ⟨u,hu,hue⟩:=hL.clo _ hm l hl2
   obtain ⟨j2,hj2,e2⟩:=hof _ hu
   have hfit:=(h.each j hj).fits l (hf.links _ l (by rw [← e];exact hl2))
   have hid:(g[j2]).t.id = l.1:=by rw [← hue,e2,hf.keep.id]
   unfold fitsX at hfit ⊢
   rw [← hid,find_of hpg (List.getElem_mem hj2)] at hfit
   rw [← hue,find_of hpR hu,e2,e]
   simp only [hf.keep.quota,hf.keep.kind,hf.keep.id]
   exact hfit
  ·obtain ⟨j,hj,e⟩:=hof _ hm
   have h1:givenX R (R[i]).t.id ≤ givenX g (R[i]).t.id:=by
    have:=given_sub hL.sub (R[i]).t.id
    rw [given_map hf.keep] at this
    exact this
   rw [e,hf.keep.kind] at hk
   have h2:=(h.each j hj).next hk
   rw [e,hf.keep.id] at h1
   rw [e,hf.keep.id,hf.next]
   omega
end Go.Proofs.Ytgmfofngmfekbaa

namespace Go.Proofs.Ytgmfofngmfekbaa
set_option linter.unusedVariables false
set_option linter.unusedSimpArgs false
set_option maxRecDepth 20000

def loX (xs:List TC) (t:TC):List TC:=xs.filter (fun x=>decide (x.t.id < t.t.id))
def hiX (xs:List TC) (t:TC):List TC:=xs.filter (fun x=>decide (t.t.id < x.t.id))
theorem put_true (t:TC):∀ (xs acc:List TC),(∀ x ∈ xs,t.t.id < x.t.id)→xs.foldl (pstep t) (acc,true) = (acc ++ xs,true)
 | [],acc,_=>by simp
 | x :: xs,acc,h=>by
  have hx:=h x (List.mem_cons_self ..)
  rw [List.foldl_cons,pstep_B (by omega),put_true t xs _ (fun y hy=>h y (List.mem_cons_of_mem _ hy))]
  simp
theorem lo_hi {xs:List TC} {t:TC} (h:∀ x ∈ xs,t.t.id < x.t.id):loX xs t = []∧hiX xs t = xs:=by
 refine ⟨List.filter_eq_nil_iff.2 (fun x hx=>?_),List.filter_eq_self.2 (fun x hx=>?_)⟩
 ·have:=h x hx;simp;omega
 ·have:=h x hx;simpa using this
theorem put_go (t:TC):∀ (xs acc:List TC),xs.Pairwise (fun a b=>a.t.id < b.t.id) →
  (if (xs.foldl (pstep t) (acc,false)).2 = true then (xs.foldl (pstep t) (acc,false)).1 else (xs.foldl (pstep t) (acc,false)).1 ++ [t]) = acc ++ (loX xs t ++ t :: hiX xs t)
 | [],acc,_=>by simp [loX,hiX]
 | x :: xs,acc,h=>by
  obtain ⟨h1,h2⟩:=List.pairwise_cons.1 h
  rw [List.foldl_cons]
  by_cases ha:x.t.id < t.t.id
  ·rw [pstep_C (by omega),put_go t xs _ h2]
   have e1:loX (x :: xs) t = x :: loX xs t:=by unfold loX;rw [List.filter_cons,if_pos (by simpa using ha)]
   have e2:hiX (x :: xs) t = hiX xs t:=by unfold hiX;rw [List.filter_cons,if_neg (by simp;omega)]
   rw [e1,e2]
   simp
  ·by_cases hb:x.t.id = t.t.id
   ·have hall:∀ y ∈ xs,t.t.id < y.t.id:=fun y hy=>by have:=h1 y hy;omega
    obtain ⟨f1,f2⟩:=lo_hi hall
    rw [pstep_Ae hb,put_true t xs _ hall]
    have e1:loX (x :: xs) t = loX xs t:=by unfold loX;rw [List.filter_cons,if_neg (by simp;omega)]
    have e2:hiX (x :: xs) t = hiX xs t:=by unfold hiX;rw [List.filter_cons,if_neg (by simp;omega)]
    rw [e1,e2,f1,f2]
    simp
   ·have hall:∀ y ∈ xs,t.t.id < y.t.id:=fun y hy=>by have:=h1 y hy;omega
    obtain ⟨f1,f2⟩:=lo_hi hall
    rw [pstep_A (by omega) hb,put_true t xs _ hall]
    have e1:loX (x :: xs) t = loX xs t:=by unfold loX;rw [List.filter_cons,if_neg (by simp;omega)]
    have e2:hiX (x :: xs) t = x :: hiX xs t:=by unfold hiX;rw [List.filter_cons,if_pos (by simp;omega)]
    rw [e1,e2,f1,f2]
    simp
/-- What lies ahead of it, it, what lies behind. -/
theorem put_eq {xs:List TC} (h:xs.Pairwise (fun a b=>a.t.id < b.t.id)) (t:TC):putX xs t = loX xs t ++ t :: hiX xs t:=by
 have:=put_go t xs [] h
 rw [List.nil_append] at this
 exact this
theorem put_pw {xs:List TC} (h:xs.Pairwise (fun a b=>a.t.id < b.t.id)) (t:TC):(putX xs t).Pairwise (fun a b=>a.t.id < b.t.id):=by
 rw [put_eq h t,List.pairwise_append,List.pairwise_cons]
 have hlo:∀ x ∈ loX xs t,x.t.id < t.t.id:=fun x hx=>by simpa using (List.mem_filter.1 hx).2
 have hhi:∀ x ∈ hiX xs t,t.t.id < x.t.id:=fun x hx=>by simpa using (List.mem_filter.1 hx).2
 refine ⟨h.filter _,⟨hhi,h.filter _⟩,fun a ha b hb=>?_⟩
 have h1:=hlo a ha
 rcases List.mem_cons.1 hb with rfl | hb
 ·exact h1
 ·exact Int.lt_trans h1 (hhi b hb)
theorem put_mem {xs:List TC} (h:xs.Pairwise (fun a b=>a.t.id < b.t.id)) (t x:TC):x ∈ putX xs t↔x = t∨(x ∈ xs∧x.t.id ≠ t.t.id):=by
 rw [put_eq h t,List.mem_append,List.mem_cons]
 unfold loX hiX
 rw [List.mem_filter,List.mem_filter]
 simp only [decide_eq_true_eq]
 constructor
 ·rintro (⟨h1,h2⟩ | rfl | ⟨h1,h2⟩)
  ·exact .inr ⟨h1,by omega⟩
  ·exact .inl rfl
  ·exact .inr ⟨h1,by omega⟩
 ·rintro (rfl | ⟨h1,h2⟩)
  ·exact .inr (.inl rfl)
  ·rcases Int.lt_trichotomy x.t.id t.t.id with h3 | h3 | h3
   ·exact .inl ⟨h1,h3⟩
   ·exact absurd h3 h2
   ·exact .inr (.inr ⟨h1,h3⟩)
/-- What is put is found. -/
theorem put_find {xs:List TC} (h:xs.Pairwise (fun a b=>a.t.id < b.t.id)) (t:TC):findX (putX xs t) t.t.id = some t:=find_of (put_pw h t) ((put_mem h t t).2 (.inl rfl))
theorem find_none {xs:List TC} {id:Int}:findX xs id = none↔∀ x ∈ xs,x.t.id ≠ id:=by
 unfold findX
 rw [List.find?_eq_none]
 constructor
 ·exact fun h x hx e=>h x hx (by simp [e])
 ·exact fun h x hx e=>h x hx (by simpa using e)
/-- All else stays. -/
theorem put_other {xs:List TC} (h:xs.Pairwise (fun a b=>a.t.id < b.t.id)) (t:TC) {id:Int} (hid:id ≠ t.t.id):findX (putX xs t) id = findX xs id:=by
 cases hf:findX xs id with
 | none =>
  rw [find_none] at hf ⊢
  intro x hx e
  rcases (put_mem h t x).1 hx with rfl | ⟨h1,_⟩
  ·exact hid e.symm
  ·exact hf x h1 e
 | some x =>
  obtain ⟨h1,h2⟩:=find_mem hf
  rw [← h2]
  exact find_of (put_pw h t) ((put_mem h t x).2 (.inr ⟨h1,by rw [h2];exact hid⟩))
/-- One that is there is turned. -/
theorem put_map {xs:List TC} (h:xs.Pairwise (fun a b=>a.t.id < b.t.id)) (t:TC) (hx:∃ x ∈ xs,x.t.id = t.t.id):putX xs t = xs.map (fun x=>if x.t.id = t.t.id then t else x):=by
 rw [put_eq h t]
 obtain ⟨x,hx,he⟩:=hx
 obtain ⟨a,b,rfl⟩:=List.append_of_mem hx
 obtain ⟨_,hb,hab⟩:=List.pairwise_append.1 h
 obtain ⟨hb1,_⟩:=List.pairwise_cons.1 hb
 have ha:∀ y ∈ a,y.t.id < t.t.id:=fun y hy=>by have:=hab y hy x (List.mem_cons_self ..);omega
 have hb2:∀ y ∈ b,t.t.id < y.t.id:=fun y hy=>by have:=hb1 y hy;omega
 have e1:loX (a ++ x :: b) t = a:=by
  unfold loX
  rw [List.filter_append,List.filter_cons,if_neg (by simp;omega),List.filter_eq_self.2 (fun y hy=>by simpa using ha y hy),List.filter_eq_nil_iff.2 (fun y hy=>by have:=hb2 y hy;simp;omega),List.append_nil]
 have e2:hiX (a ++ x :: b) t = b:=by
  unfold hiX
  rw [List.filter_append,List.filter_cons,if_neg (by simp;omega),List.filter_eq_nil_iff.2 (fun y hy=>by have:=ha y hy;simp;omega),List.filter_eq_self.2 (fun y hy=>by simpa using hb2 y hy),List.nil_append]
 have m1:a.map (fun x=>if x.t.id = t.t.id then t else x) = a:=by
  have h3:a.map (fun x=>if x.t.id = t.t.id then t else x) = a.map id:=List.map_congr_left (fun y hy=>by have:=ha y hy;rw [if_neg (by omega)];rfl)
  rw [h3,List.map_id]
 have m2:b.map (fun x=>if x.t.id = t.t.id then t else x) = b:=by
  have h3:b.map (fun x=>if x.t.id = t.t.id then t else x) = b.map id:=List.map_congr_left (fun y hy=>by have:=hb2 y hy;rw [if_neg (by omega)];rfl)
  rw [h3,List.map_id]
 rw [e1,e2,List.map_append,List.map_cons,if_pos he,m1,m2]
end Go.Proofs.Ytgmfofngmfekbaa

namespace Go.Proofs.Ytgmfofngmfekbaa
set_option linter.unusedVariables false
set_option linter.unusedSimpArgs false
set_option maxRecDepth 20000

theorem rm_mem {ls:List Cat} {id:Int} {k:Cat} (h:k ∈ rmL ls id):k ∈ ls:=by
 unfold rmL at h
 rcases List.mem_append.1 h with h | h
 ·exact List.mem_of_mem_take h
 ·exact List.mem_of_mem_drop h
theorem right_rm {d:Th} (h:RightT d) (hk:d.kind = 1) {id:Int} (hh:hasB d.links id = true):RightT { d with links:=rmL d.links id }:=by
 have hd:=right_dir h hk
 obtain ⟨hp,he⟩:=(has_iff hd.lk id).1 hh
 rw [← rm_filter hd.lk hp he]
 exact right_keep h _

/-- The one turned into the other. -/
noncomputable def unF (d:Th) (t:TC) (x:TC):TC:=open Classical in if x.t = d then t else x
theorem un_less {d:Th} {t:TC} {id:Int} (ht:t.t = { d with links:=rmL d.links id }):LessX (unF d t):=by
 have h1:t.t.id = d.id:=by rw [ht]
 have h2:t.t.kind = d.kind:=by rw [ht]
 have h3:t.t.quota = d.quota:=by rw [ht]
 have h4:t.t.next = d.next:=by rw [ht]
 have h5:t.t.links = rmL d.links id:=by rw [ht]
 refine ⟨⟨fun x=>?_,fun x=>?_,fun x=>?_⟩,fun x k hk=>?_,fun x=>?_⟩
 ·unfold unF;split
  ·rename_i e;rw [e,h1]
  ·rfl
 ·unfold unF;split
  ·rename_i e;rw [e,h2]
  ·rfl
 ·unfold unF;split
  ·rename_i e;rw [e,h3]
  ·rfl
 ·unfold unF at hk
  split at hk
  ·rename_i e;rw [h5] at hk;rw [e];exact rm_mem hk
  ·exact hk
 ·unfold unF;split
  ·rename_i e;rw [e,h4]
  ·rfl
theorem un_put {g:List TC} (hp:g.Pairwise (fun a b=>a.t.id < b.t.id)) {d t:TC} (hd:d ∈ g) (hid:t.t.id = d.t.id):putX g t = g.map (unF d.t t):=by
 rw [put_map hp t ⟨d,hd,hid.symm⟩]
 refine List.map_congr_left (fun x hx=>?_)
 unfold unF
 by_cases e:x.t.id = t.t.id
 ·have h1:=find_of hp hx
  have h2:=find_of hp hd
  rw [e,hid] at h1
  have hxd:x = d:=Option.some.inj (h1.symm.trans h2)
  rw [if_pos e,if_pos (by rw [hxd])]
 ·rw [if_neg e,if_neg (fun h=>e (by rw [h,hid]))]
/-- What is left when a directory of a sound one drops a link is sound. -/
theorem unlink_sound {g:List TC} (h:SoundX g) {dir id:Int} {d t:TC} (hf:findX g dir = some d) (hk:d.t.kind = 1) (hh:hasB d.t.links id = true) (ht:t.t = { d.t with links:=rmL d.t.links id }) :
  SoundX (downU (putX g t).length (putX g t)):=by
 obtain ⟨hd,_⟩:=find_mem hf
 rw [un_put (rise_pw h.rise) hd (by rw [ht])]
 refine left_sound h (un_less ht) (fun x hx=>?_)
 obtain ⟨i,hi,rfl⟩:=List.getElem_of_mem hx
 have hr:=(h.each i hi).right
 unfold unF
 split
 ·rename_i e
  rw [ht]
  rw [e] at hr
  exact right_rm hr hk hh
 ·exact hr
end Go.Proofs.Ytgmfofngmfekbaa

namespace Go.Proofs.Ytgmfofngmfekbaa
set_option linter.unusedVariables false
set_option linter.unusedSimpArgs false
set_option maxRecDepth 20000

theorem sub_filter {l g:List TC} (h:l.Sublist g) (hp:g.Pairwise (fun a b=>a.t.id < b.t.id)):g.filter (fun y=>(findX l y.t.id).isSome) = l:=by
 induction h with
 | slnil=>rfl
 | @cons l1 l2 x hs ih =>
  obtain ⟨h1,h2⟩:=List.pairwise_cons.1 hp
  have e:findX l1 x.t.id = none:=find_none.2 (fun y hy e=>by have:=h1 y (hs.mem hy);omega)
  rw [List.filter_cons,if_neg (by rw [e];simp),ih h2]
 | @cons_cons l1 l2 x hs ih =>
  obtain ⟨h1,h2⟩:=List.pairwise_cons.1 hp
  have e:findX (x :: l1) x.t.id = some x:=by unfold findX;simp
  rw [List.filter_cons,if_pos (by rw [e];rfl)]
  congr 1
  have e2:l2.filter (fun y=>(findX (x :: l1) y.t.id).isSome) = l2.filter (fun y=>(findX l1 y.t.id).isSome):=List.filter_congr (fun y hy=>by
   have:=h1 y hy
   have hne:(x.t.id == y.t.id) = false:=by rw [beq_eq_false_iff_ne];omega
   unfold findX
   rw [List.find?_cons,hne])
  rw [e2,ih h2]

/-- The IDs of what is gone. -/
def goneX (g now:List TC):List Int:=(g.filter (fun y=>(findX now y.t.id).isNone)).map (·.t.id)
theorem gone_len {g now:List TC} {f:TC→TC} (hf:KeepX f) (hp:g.Pairwise (fun a b=>a.t.id < b.t.id)) (h:now.Sublist (g.map f)):now.length + (goneX g now).length = g.length:=by
 have h1:=sub_filter h (pw_map hf hp)
 rw [List.filter_map] at h1
 have h2:=congrArg List.length h1
 rw [List.length_map] at h2
 have h3:(g.filter ((fun y:TC=>(findX now y.t.id).isSome) ∘ f)) = g.filter (fun y=>(findX now y.t.id).isSome):=List.filter_congr (fun y _=>by simp [hf.id])
 rw [h3] at h2
 unfold goneX
 rw [List.length_map]
 have h4:=List.length_eq_countP_add_countP (fun y:TC=>(findX now y.t.id).isSome) (l:=g)
 rw [List.countP_eq_length_filter,List.countP_eq_length_filter] at h4
 have h5:g.filter (fun y=>decide (¬ ((findX now y.t.id).isSome = true))) = g.filter (fun y=>(findX now y.t.id).isNone):=List.filter_congr (fun y _=>by cases findX now y.t.id <;> rfl)
 rw [h5] at h4
 omega

/-- What is left, of a sound one of which one has fewer links. -/
theorem left_of {g:List TC} {f:TC→TC} (h:SoundX g) (hf:LessX f):∃ a,LeftX a (g.map f) (downU (g.map f).length (g.map f)):=by
 obtain ⟨a,r,hg⟩:∃ a r,g = a :: r:=by
  cases hgx:g with
  | nil=>have:=h.ne;rw [hgx] at this;simp at this
  | cons a r=>exact ⟨a,r,rfl⟩
 refine ⟨f a,downU_ind (P:=LeftX (f a) (g.map f)) (fun l hl=>left_keep hl) _ _ ⟨List.Sublist.refl _,⟨r.map f,by rw [hg];rfl⟩,fun x hx k hk=>?_⟩⟩
 obtain ⟨y,hy,rfl⟩:=List.mem_map.1 hx
 obtain ⟨i,hi,rfl⟩:=List.getElem_of_mem hy
 have hfit:=(h.each i hi).fits k (hf.links _ k hk)
 unfold fitsX at hfit
 cases hfd:findX g k.1 with
 | none=>rw [hfd] at hfit;exact absurd hfit (by simp)
 | some u=>exact ⟨f u,List.mem_map.2 ⟨u,(find_mem hfd).1,rfl⟩,by rw [hf.keep.id];exact (find_mem hfd).2⟩

/-- Of what is gone nobody holds any. -/
theorem gone_free {a:TC} {g now G:List TC} (h:LeftX a G now) {x:Int} (hx:x ∈ goneX g now):findX now x = none∧refsX now x = 0:=by
 obtain ⟨y,hy,rfl⟩:=List.mem_map.1 hx
 have h1:=(List.mem_filter.1 hy).2
 have h2:findX now y.t.id = none:=by cases hf:findX now y.t.id with
  | none=>rfl
  | some u=>rw [hf] at h1;exact absurd h1 (by simp)
 refine ⟨h2,List.countP_eq_zero.2 (fun z hz hh=>?_)⟩
 obtain ⟨k,hk,he⟩:=of_has hh
 obtain ⟨u,hu,hue⟩:=h.clo z hz k hk
 exact find_none.1 h2 u hu (by rw [hue,he])
/-- Each that is there was there: as it was, or with a link less. -/
theorem left_was {g now:List TC} (hp:g.Pairwise (fun a b=>a.t.id < b.t.id)) {d t:TC} {id:Int} (hd:d ∈ g) (hlk:LkOk d.t.links) (hh:hasB d.t.links id = true) (ht:t.t = { d.t with links:=rmL d.t.links id }) (h:now.Sublist (g.map (unF d.t t))) :
  ∀ y ∈ now,∃ x,findX g y.t.id = some x∧(y.t.id ≠ d.t.id→y.t = x.t)∧(y.t.id = d.t.id→y.t.links.length + 1 = x.t.links.length):=fun y hy=>by
 obtain ⟨x,hx,rfl⟩:=List.mem_map.1 (h.mem hy)
 have hid:(unF d.t t x).t.id = x.t.id:=(un_less ht).keep.id x
 refine ⟨x,by rw [hid];exact find_of hp hx,fun hne=>?_,fun he=>?_⟩
 ·unfold unF at hne ⊢
  split
  ·rename_i e
   rw [if_pos e] at hne
   exact absurd (by rw [ht]) hne
  ·rfl
 ·rw [hid] at he
  have h1:=find_of hp hx
  have h2:=find_of hp hd
  rw [he] at h1
  have hxd:x = d:=Option.some.inj (h1.symm.trans h2)
  subst hxd
  unfold unF
  rw [if_pos rfl,ht]
  obtain ⟨hpos,_⟩:=(has_iff hlk id).1 hh
  have:=rm_length hpos
  show (rmL x.t.links id).length + 1 = _
  omega
end Go.Proofs.Ytgmfofngmfekbaa

namespace Go.Proofs.Ytgmfofngmfekbaa
set_option linter.unusedVariables false
set_option linter.unusedSimpArgs false
set_option maxRecDepth 20000

/-- The fuel does not matter, if it is enough. -/
theorem downU_fuel:∀ (n m:Nat) (l:List TC),l.length ≤ n→l.length ≤ m→downU n l = downU m l
 | 0,0,_,_,_=>rfl
 | 0,m + 1,l,h,_=>by
  have:l = []:=List.length_eq_zero_iff.1 (by omega)
  subst this
  rfl
 | n + 1,0,l,_,h=>by
  have:l = []:=List.length_eq_zero_iff.1 (by omega)
  subst this
  rfl
 | n + 1,m + 1,l,h,k=>by
  unfold downU
  split
  ·rfl
  ·have:=keepU_le l
   exact downU_fuel n m _ (by omega) (by omega)
/-- All that is left in the end. -/
def downX (l:List TC):List TC:=downU l.length l
theorem downX_stop {l:List TC} (h:(keepU l).length = l.length):downX l = l:=by
 unfold downX
 cases hl:l.length with
 | zero=>rfl
 | succ n=>unfold downU;rw [if_pos h]
theorem downX_step {l:List TC} (h:(keepU l).length ≠ l.length):downX l = downX (keepU l):=by
 have hle:=keepU_le l
 unfold downX
 obtain ⟨n,hn⟩:∃ n,l.length = n + 1:=⟨l.length - 1,by omega⟩
 rw [hn]
 conv=>lhs;unfold downU
 rw [if_neg h]
 exact downU_fuel _ _ _ (by omega) (Nat.le_refl _)
theorem downX_less {l:List TC} (h:(keepU l).length ≠ l.length):(keepU l).length < l.length:=by
 have:=keepU_le l
 omega

/-- The first k of a round of Unlink. -/
def keepT (l:List TC):Nat→List TC
 | 0=>[]
 | k + 1=>keepT l k ++ (match l[k]? with
  | some y=>if k = 0∨0 < refsX l y.t.id then [y] else []
  | none=>[])
theorem keepT_step {l:List TC} {k:Nat} (h:k < l.length):keepT l (k + 1) = keepT l k ++ (if k = 0∨0 < refsX l (l[k]).t.id then [l[k]] else []):=by
 show keepT l k ++ _ = _
 rw [List.getElem?_eq_getElem h]
theorem keepT_len (l:List TC):∀ k,(keepT l k).length ≤ k
 | 0=>Nat.le_refl _
 | k + 1=>by
  have:=keepT_len l k
  show (keepT l k ++ _).length ≤ _
  rw [List.length_append]
  cases l[k]? with
  | none=>simp;omega
  | some y=>simp only;split <;> simp <;> omega
theorem keepT_all (l:List TC):keepT l l.length = keepU l:=by
 cases l with
 | nil=>rfl
 | cons a r =>
  have key:∀ k,k ≤ r.length→keepT (a :: r) (k + 1) = a :: (r.take k).filter (fun y=>decide (0 < refsX (a :: r) y.t.id)):=fun k=>by
   induction k with
   | zero=>intro _;simp [keepT]
   | succ k ih =>
    intro hk
    have hk2:k < r.length:=by omega
    rw [keepT_step (by simp;omega),ih (by omega),List.take_succ_eq_append_getElem hk2,List.filter_append]
    have e:(a :: r)[k + 1]'(by simp;omega) = r[k]:=rfl
    rw [e]
    by_cases h:0 < refsX (a :: r) (r[k]).t.id
    ·rw [if_pos (.inr h)]
     simp [h]
    ·rw [if_neg (by rintro (h1 | h1);omega;exact h h1)]
     simp only [List.filter_cons,List.filter_nil]
     rw [if_neg (by simpa using h)]
     simp
  have:=key r.length (Nat.le_refl _)
  rw [List.take_length] at this
  exact this

/-- The first k IDs that are gone. -/
def goneT (g now:List TC) (k:Nat):List Int:=goneX (g.take k) now
theorem goneT_step {g now:List TC} {k:Nat} (h:k < g.length):goneT g now (k + 1) = goneT g now k ++ (if (findX now (g[k]).t.id).isNone = true then [(g[k]).t.id] else []):=by
 unfold goneT goneX
 rw [List.take_succ_eq_append_getElem h,List.filter_append,List.map_append]
 congr 1
 simp only [List.filter_cons,List.filter_nil]
 split <;> simp_all
theorem goneT_all (g now:List TC):goneT g now g.length = goneX g now:=by unfold goneT;rw [List.take_length]
theorem goneT_len (g now:List TC) (k:Nat):(goneT g now k).length ≤ k:=by
 unfold goneT goneX
 rw [List.length_map]
 exact Nat.le_trans (List.length_filter_le _ _) (by rw [List.length_take];omega)

/-- The first k of those that are kept. -/
def outT (l:List TC) (m:List Bool) (k:Nat):List TC:=outX (l.take k) (m.take k)
theorem outX_append:∀ (a b:List TC) (m n:List Bool),m.length = a.length→outX (a ++ b) (m ++ n) = outX a m ++ outX b n
 | [],b,[],n,_=>by simp [outX]
 | [],_,_ :: _,_,h=>by simp at h
 | _ :: _,_,[],_,h=>by simp at h
 | x :: a,b,y :: m,n,h=>by
  rw [List.cons_append,List.cons_append,out_cons,out_cons,outX_append a b m n (by simpa using h)]
  split <;> rfl
theorem outT_step {l:List TC} {m:List Bool} {k:Nat} (h:k < l.length) (hm:k < m.length):outT l m (k + 1) = outT l m k ++ (if m[k] = true then [l[k]] else []):=by
 unfold outT
 rw [List.take_succ_eq_append_getElem h,List.take_succ_eq_append_getElem hm,outX_append _ _ _ _ (by simp;omega),out_cons]
 congr 1
theorem outT_all {l:List TC} {m:List Bool} (h:m.length = l.length):outT l m l.length = outX l m:=by
 unfold outT
 rw [List.take_length,← h,List.take_length]
end Go.Proofs.Ytgmfofngmfekbaa
