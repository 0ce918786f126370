/-
  GrP1, GrP2, GrP3, GrP4, GrP5: in one text.
-/
import Derived.Test.YtgmfofngmfekbaaGrGeS
namespace Go.Proofs.Ytgmfofngmfekbaa
set_option linter.unusedVariables false
set_option linter.unusedSimpArgs false
set_option maxRecDepth 20000

section
variable (R:Nat→Nat→Bool) (N:Nat)

/-- After k steps of the inner loop for i: what i holds is marked, if i is. -/
def markI (i:Nat):Nat→List Bool→List Bool
 | 0,s=>s
 | k + 1,s=>let s':=markI i k s;if (s'.getD i false && R i k) = true then s'.set k true else s'
/-- After i steps of the middle loop. -/
def markR:Nat→List Bool→List Bool
 | 0,s=>s
 | i + 1,s=>markI R i N (markR i s)
/-- After n rounds. -/
def markN (s0:List Bool):Nat→List Bool
 | 0=>s0
 | n + 1=>markR R N N (markN s0 n)

theorem markI_len (i:Nat):∀ (k:Nat) (s:List Bool),(markI R i k s).length = s.length
 | 0,_=>rfl
 | k + 1,s=>by
  have h:=markI_len i k s
  simp only [markI]
  split
  ·rw [List.length_set,h]
  ·exact h
theorem markR_len:∀ (i:Nat) (s:List Bool),(markR R N i s).length = s.length
 | 0,_=>rfl
 | i + 1,s=>by
  show (markI R i N (markR R N i s)).length = _
  rw [markI_len,markR_len i s]
theorem markN_len (s0:List Bool):∀ n,(markN R N s0 n).length = s0.length
 | 0=>rfl
 | n + 1=>by
  show (markR R N N (markN R N s0 n)).length = _
  rw [markR_len,markN_len s0 n]

/-- What is marked stays marked. -/
def Sub (s t:List Bool):Prop:=∀ j,s.getD j false = true→t.getD j false = true
theorem Sub.refl (s:List Bool):Sub s s:=fun _ h=>h
theorem Sub.trans {a b c:List Bool} (h:Sub a b) (k:Sub b c):Sub a c:=fun j x=>k j (h j x)
theorem getD_set (s:List Bool) (k j:Nat):(s.set k true).getD j false = true↔(s.getD j false = true∨(j = k∧k < s.length)):=by
 rw [List.getD_eq_getElem?_getD,List.getD_eq_getElem?_getD,List.getElem?_set]
 by_cases h:k = j
 ·subst h
  rw [if_pos rfl]
  by_cases hl:k < s.length
  ·rw [if_pos hl];simp [hl]
  ·rw [if_neg hl]
   have:s[k]? = none:=List.getElem?_eq_none (by omega)
   rw [this]
   simp [hl]
 ·rw [if_neg h]
  constructor
  ·exact fun x=>.inl x
  ·rintro (x | ⟨x,_⟩)
   ·exact x
   ·exact absurd x.symm h
theorem markI_sub (i:Nat):∀ (k:Nat) (s:List Bool),Sub s (markI R i k s)
 | 0,s=>Sub.refl s
 | k + 1,s=>by
  have h:=markI_sub i k s
  simp only [markI]
  split
  ·exact h.trans (fun j x=>(getD_set _ k j).2 (.inl x))
  ·exact h
theorem markR_sub:∀ (i:Nat) (s:List Bool),Sub s (markR R N i s)
 | 0,s=>Sub.refl s
 | i + 1,s=>(markR_sub i s).trans (markI_sub R i N _)
theorem markN_sub (s0:List Bool) (n:Nat):Sub (markN R N s0 n) (markN R N s0 (n + 1)):=markR_sub R N N _

/-- If i is marked, all that it holds is marked behind its loop. -/
theorem markI_hit (i:Nat):∀ (k:Nat) (s:List Bool) (j:Nat),s.getD i false = true→j < k→j < s.length→R i j = true→(markI R i k s).getD j false = true
 | 0,_,_,_,h,_,_=>absurd h (Nat.not_lt_zero _)
 | k + 1,s,j,hi,hj,hl,hr=>by
  by_cases e:j = k
  ·subst e
   have h1:(markI R i j s).getD i false = true:=markI_sub R i j s i hi
   simp only [markI]
   rw [if_pos (by rw [h1,hr];rfl)]
   exact (getD_set _ j j).2 (.inr ⟨rfl,by rw [markI_len];exact hl⟩)
  ·have h1:=markI_hit i k s j hi (by omega) hl hr
   simp only [markI]
   split
   ·exact (getD_set _ k j).2 (.inl h1)
   ·exact h1
theorem markR_hit:∀ (m:Nat) (s:List Bool) (i j:Nat),s.getD i false = true→i < m→j < N→j < s.length→R i j = true→(markR R N m s).getD j false = true
 | 0,_,_,_,_,h,_,_,_=>absurd h (Nat.not_lt_zero _)
 | m + 1,s,i,j,hi,him,hj,hl,hr=>by
  by_cases e:i = m
  ·subst e
   exact markI_hit R i N _ j (markR_sub R N i s i hi) hj (by rw [markR_len];exact hl) hr
  ·exact markI_sub R m N _ j (markR_hit m s i j hi (by omega) hj hl hr)

/-- What is marked anew is held by one that is marked. -/
def Held (s t:List Bool):Prop:=∀ j,t.getD j false = true→s.getD j false = true∨∃ i,i < N∧t.getD i false = true∧R i j = true
theorem markI_held {s0:List Bool} (i:Nat) (hi:i < N):∀ (k:Nat) (s:List Bool),Held R N s0 s→Held R N s0 (markI R i k s)
 | 0,_,h=>h
 | k + 1,s,h=>by
  have h1:=markI_held i hi k s h
  simp only [markI]
  split
  ·rename_i hc
   have hc2:(markI R i k s).getD i false = true∧R i k = true:=by simpa using hc
   intro j hj
   rcases (getD_set _ k j).1 hj with h2 | ⟨rfl,_⟩
   ·rcases h1 j h2 with h3 | ⟨a,ha,hb,hc3⟩
    ·exact .inl h3
    ·exact .inr ⟨a,ha,(getD_set _ k a).2 (.inl hb),hc3⟩
   ·exact .inr ⟨i,hi,(getD_set _ j i).2 (.inl hc2.1),hc2.2⟩
  ·exact h1
theorem markR_held {s0:List Bool}:∀ (m:Nat) (_:m ≤ N) (s:List Bool),Held R N s0 s→Held R N s0 (markR R N m s)
 | 0,_,_,h=>h
 | m + 1,hm,s,h=>markI_held R N m hm N _ (markR_held m (by omega) s h)
theorem markN_held (s0:List Bool):∀ n,Held R N s0 (markN R N s0 n)
 | 0=>fun _ h=>.inl h
 | n + 1=>markR_held R N N (Nat.le_refl _) _ (markN_held s0 n)

theorem sub_eq {s t:List Bool} (hl:s.length = t.length) (h:Sub s t) (hc:t.count true ≤ s.count true):s = t:=by
 induction s generalizing t with
 | nil=>cases t with
  | nil=>rfl
  | cons b t=>simp at hl
 | cons a s ih=>cases t with
  | nil=>simp at hl
  | cons b t =>
   have hab:a = true→b = true:=fun e=>by have:=h 0 (by simpa using e);simpa using this
   have hst:Sub s t:=fun j hj=>by have:=h (j + 1) (by simpa using hj);simpa using this
   have hle:s.count true ≤ t.count true:=by
    clear ih hc h hab
    have hl2:s.length = t.length:=by simpa using hl
    clear hl
    induction s generalizing t with
    | nil=>simp
    | cons c s ih2=>cases t with
     | nil=>simp at hl2
     | cons d t =>
      have h1:=ih2 (t:=t) (fun j hj=>by have:=hst (j + 1) (by simpa using hj);simpa using this) (by simpa using hl2)
      have h2:c = true→d = true:=fun e=>by have:=hst 0 (by simpa using e);simpa using this
      cases c <;> cases d <;> simp_all <;> omega
   cases a <;> cases b <;> simp_all
   all_goals first | (exact ih (by omega) hst (by omega)) | omega | skip
theorem count_lt {s t:List Bool} (hl:s.length = t.length) (h:Sub s t) (hne:s ≠ t):s.count true < t.count true:=by
 rcases Nat.lt_or_ge (s.count true) (t.count true) with h1 | h1
 ·exact h1
 ·exact absurd (sub_eq hl h h1) hne
/-- After as many rounds as there are, nothing changes. -/
theorem markN_fix (s0:List Bool) (hs:s0.length = N) (h0:0 < s0.count true):markN R N s0 (N + 1) = markN R N s0 N:=by
 have key:∀ n,markN R N s0 (n + 1) = markN R N s0 n∨n + 2 ≤ (markN R N s0 (n + 1)).count true:=by
  intro n
  induction n with
  | zero =>
   by_cases e:markN R N s0 1 = markN R N s0 0
   ·exact .inl e
   ·have:=count_lt (by rw [markN_len,markN_len]) (markN_sub R N s0 0) (fun h=>e h.symm)
    have h2:(markN R N s0 0).count true = s0.count true:=rfl
    right
    omega
  | succ n ih =>
   rcases ih with h1 | h1
   ·left
    show markR R N N (markN R N s0 (n + 1)) = markR R N N (markN R N s0 n)
    rw [h1]
   ·by_cases e:markN R N s0 (n + 2) = markN R N s0 (n + 1)
    ·exact .inl e
    ·have:=count_lt (by rw [markN_len,markN_len]) (markN_sub R N s0 (n + 1)) (fun h=>e h.symm)
     right
     omega
 rcases key N with h | h
 ·exact h
 ·have:=List.count_le_length (a:=true) (l:=markN R N s0 (N + 1))
  rw [markN_len,hs] at this
  omega
/-- What a marked one holds is marked. -/
theorem markN_closed (s0:List Bool) (hs:s0.length = N) (h0:0 < s0.count true) (i j:Nat) (hi:i < N) (hj:j < N) (hm:(markN R N s0 N).getD i false = true) (hr:R i j = true):(markN R N s0 N).getD j false = true:=by
 rw [← markN_fix R N s0 hs h0]
 exact markR_hit R N N _ i j hm hi hj (by rw [markN_len,hs];exact hj) hr
end
end Go.Proofs.Ytgmfofngmfekbaa

namespace Go.Proofs.Ytgmfofngmfekbaa
set_option linter.unusedVariables false
set_option linter.unusedSimpArgs false
set_option maxRecDepth 20000

theorem rise_pair {α:Type} (f:α→Int):∀ {ls:List α},(∀ i (h:i + 1 < ls.length),f ls[i] < f ls[i + 1])→ls.Pairwise (fun a b=>f a < f b)
 | [],_=>List.Pairwise.nil
 | [a],_=>by simp
 | a :: b :: ls,h=>by
  have ih:=rise_pair f (ls:=b :: ls) (fun i hi=>h (i + 1) (by simpa using hi))
  have hab:f a < f b:=h 0 (by simp)
  rw [List.pairwise_cons]
  refine ⟨fun c hc=>?_,ih⟩
  rcases List.mem_cons.1 hc with rfl | hc
  ·exact hab
  ·exact Int.lt_trans hab ((List.pairwise_cons.1 ih).1 c hc)
theorem pair_rise {α:Type} (f:α→Int) {ls:List α} (h:ls.Pairwise (fun a b=>f a < f b)):∀ i (h:i + 1 < ls.length),f ls[i] < f ls[i + 1] :=
 fun i hi=>List.pairwise_iff_getElem.1 h i (i + 1) (by omega) hi (by omega)

theorem sumL_filter {ls:List Cat} (h:∀ c ∈ ls,0 ≤ c.2) (p:Cat→Bool):sumL (ls.filter p) ≤ sumL ls:=by
 induction ls with
 | nil=>exact Int.le_refl _
 | cons c ls ih =>
  have h1:=ih (fun x hx=>h x (List.mem_cons_of_mem _ hx))
  have h2:=h c (List.mem_cons_self ..)
  have e:sumL (c :: ls) = c.2 + sumL ls:=by simp [sumL]
  rw [List.filter_cons]
  split
  ·have e2:sumL (c :: ls.filter p) = c.2 + sumL (ls.filter p):=by simp [sumL]
   omega
  ·omega
theorem lk_filter {ls:List Cat} (h:LkOk ls) (p:Cat→Bool):LkOk (ls.filter p):=by
 refine ⟨fun i hi=>?_,pair_rise (fun c:Cat=>c.1) ((rise_pair (fun c:Cat=>c.1) h.rise).filter p)⟩
 have hm:=(List.mem_filter.1 (List.getElem_mem hi)).1
 obtain ⟨j,hj,e⟩:=List.getElem_of_mem hm
 rw [← e]
 exact h.each j hj
theorem right_dir {t:Th} (h:RightT t) (hk:t.kind = 1):DirOk t:=by
 rcases h.parts with h1 | h1 | h1 | h1 | h1 | h1
 ·exact h1.2
 all_goals omega
theorem right_nolinks {t:Th} (h:RightT t) (hk:t.kind ≠ 1):t.links = []:=by
 rcases hl:t.links with _ | ⟨l,ls⟩
 ·rfl
 ·have:=h.same
  have e:t.links = []:=by
   rw [this]
   unfold ofK
   rw [if_neg hk]
   repeat (split;rfl)
   rfl
  rw [hl] at e
  exact absurd e (by simp)
theorem right_keep {t:Th} (h:RightT t) (p:Cat→Bool):RightT { t with links:=t.links.filter p }:=by
 by_cases hk:t.kind = 1
 ·have hd:=right_dir h hk
  refine ⟨h.id,h.rgt,h.pu,?_,.inl ⟨hk,⟨hd.next,hd.quota,Nat.le_trans (List.length_filter_le _ _) hd.len,lk_filter hd.lk p,?_⟩⟩⟩
  ·have e:=h.same
   unfold ofK at e ⊢
   rw [if_pos hk] at e
   rw [if_pos hk]
   exact congrArg (fun x:Th=>{ x with links:=t.links.filter p }) e
  ·have:=sumL_filter (ls:=t.links) (fun c hc=>by
    obtain ⟨i,hi,rfl⟩:=List.getElem_of_mem hc
    have:=(hd.lk.each i hi).2
    unfold btw at this
    omega) p
   have h2:=hd.sum
   show 1 + sumL (t.links.filter p) ≤ t.quota
   omega
 ·have e:=right_nolinks h hk
  have e2:({ t with links:=t.links.filter p }:Th) = t:=by
   rw [e,List.filter_nil,← e]
  rw [e2]
  exact h
theorem right_next {t:Th} (h:RightT t) (hk:t.kind = 1) (n:Nat) (hn:n ≤ 63):RightT { t with next:=(n:Int) }:=by
 have hd:=right_dir h hk
 refine ⟨h.id,h.rgt,h.pu,?_,.inl ⟨hk,⟨⟨by simp,by show (n:Int) ≤ 63;omega⟩,hd.quota,hd.len,hd.lk,hd.sum⟩⟩⟩
 have e:=h.same
 unfold ofK at e ⊢
 rw [if_pos hk] at e
 rw [if_pos hk]
 exact congrArg (fun x:Th=>{ x with next:=(n:Int) }) e

theorem given_le (xs:List TC) (d:Int):givenX xs d ≤ 63:=by
 have h1:∀ (l:List Nat) (n:Nat),n ≤ 63→givL d l n ≤ 63:=fun l=>by
  induction l with
  | nil=>exact fun n h=>h
  | cons x l ih=>exact fun n h=>ih _ (givStep_le h)
 have h2:∀ (l:List TC) (n:Nat),n ≤ 63→givX d l n ≤ 63:=fun l=>by
  induction l with
  | nil=>exact fun n h=>h
  | cons x l ih=>exact fun n h=>ih _ (h1 _ _ h)
 exact h2 xs 0 (Nat.zero_le _)
end Go.Proofs.Ytgmfofngmfekbaa

namespace Go.Proofs.Ytgmfofngmfekbaa
set_option linter.unusedVariables false
set_option linter.unusedSimpArgs false
set_option maxRecDepth 20000

theorem find_mem {xs:List TC} {id:Int} {x:TC} (h:findX xs id = some x):x ∈ xs∧x.t.id = id:=by
 unfold findX at h
 exact ⟨List.mem_of_find?_eq_some h,by have:=List.find?_some h;simpa using this⟩
theorem find_of {xs:List TC} (hp:xs.Pairwise (fun a b=>a.t.id < b.t.id)) {x:TC} (hx:x ∈ xs):findX xs x.t.id = some x:=by
 induction xs with
 | nil=>simp at hx
 | cons a xs ih =>
  obtain ⟨h1,h2⟩:=List.pairwise_cons.1 hp
  unfold findX
  rw [List.find?_cons]
  rcases List.mem_cons.1 hx with rfl | hx
  ·simp
  ·have:=h1 x hx
   have e:(a.t.id == x.t.id) = false:=by rw [beq_eq_false_iff_ne];omega
   rw [e]
   exact ih h2 hx
theorem rise_pw {xs:List TC} (h:RiseX xs):xs.Pairwise (fun a b=>a.t.id < b.t.id):=rise_pair (fun x:TC=>x.t.id) h
theorem pw_rise {xs:List TC} (h:xs.Pairwise (fun a b=>a.t.id < b.t.id)):RiseX xs:=pair_rise (fun x:TC=>x.t.id) h
theorem count_one {xs:List TC} (hp:xs.Pairwise (fun a b=>a.t.id < b.t.id)) {p:TC→Bool} (h:∀ a ∈ xs,∀ b ∈ xs,p a = true→p b = true→a.t.id = b.t.id):xs.countP p ≤ 1:=by
 induction xs with
 | nil=>simp
 | cons a xs ih =>
  obtain ⟨h1,h2⟩:=List.pairwise_cons.1 hp
  have h3:=ih h2 (fun x hx y hy=>h x (List.mem_cons_of_mem _ hx) y (List.mem_cons_of_mem _ hy))
  rw [List.countP_cons]
  split
  ·rename_i hpa
   have:xs.countP p = 0:=List.countP_eq_zero.2 (fun b hb hpb=>by
    have:=h a (List.mem_cons_self ..) b (List.mem_cons_of_mem _ hb) hpa hpb
    have:=h1 b hb
    omega)
   omega
  ·omega
theorem has_of {ls:List Cat} {l:Cat} (h:l ∈ ls):hasB ls l.1 = true:=List.any_eq_true.2 ⟨l,h,by simp⟩
theorem of_has {ls:List Cat} {id:Int} (h:hasB ls id = true):∃ l ∈ ls,l.1 = id:=by
 obtain ⟨l,hl,he⟩:=List.any_eq_true.1 h
 exact ⟨l,hl,by simpa using he⟩

/-- What a function of things keeps. -/
structure KeepX (f:TC→TC):Prop where
 id:∀ x,(f x).t.id = x.t.id
 kind:∀ x,(f x).t.kind = x.t.kind
 quota:∀ x,(f x).t.quota = x.t.quota
theorem find_map {f:TC→TC} (hf:KeepX f) (xs:List TC) (id:Int):findX (xs.map f) id = (findX xs id).map f:=by
 unfold findX
 rw [List.find?_map]
 congr 1
 congr 1
 funext x
 simp [hf.id]
theorem fits_map {f:TC→TC} (hf:KeepX f) (xs:List TC) (did:Int) (l:Cat):fitsX (xs.map f) did l = fitsX xs did l:=by
 unfold fitsX
 rw [find_map hf]
 cases findX xs l.1 with
 | none=>rfl
 | some x=>simp [hf.quota,hf.kind,hf.id]
theorem given_map {f:TC→TC} (hf:KeepX f) (xs:List TC) (d:Int):givenX (xs.map f) d = givenX xs d:=by
 unfold givenX givX
 rw [List.foldl_map]
 congr 1
 funext n x
 rw [hf.id]
theorem refs_map {f:TC→TC} (hl:∀ x,(f x).t.links = x.t.links) (xs:List TC) (id:Int):refsX (xs.map f) id = refsX xs id:=by
 unfold refsX
 rw [List.countP_map]
 congr 1
 funext x
 simp [hl]
theorem pw_map {f:TC→TC} (hf:KeepX f) {xs:List TC} (h:xs.Pairwise (fun a b=>a.t.id < b.t.id)):(xs.map f).Pairwise (fun a b=>a.t.id < b.t.id):=by
 rw [List.pairwise_map]
 exact h.imp (fun {a b} hab=>by rw [hf.id,hf.id];exact hab)

/-- Sound, but for what is yet to be given. -/
structure PreX (xs:List TC):Prop where
 pw:xs.Pairwise (fun a b=>a.t.id < b.t.id)
 ne:0 < xs.length
 id:xs[0].t.id = 1
 kind:xs[0].t.kind = 1
 none:refsX xs 1 = 0
 right:∀ x ∈ xs,RightT x.t
 held:∀ i (h:i < xs.length),0 < i→1 ≤ refsX xs xs[i].t.id
 once:∀ x ∈ xs,x.t.kind = 1→refsX xs x.t.id ≤ 1
 fits:∀ x ∈ xs,∀ l ∈ x.t.links,fitsX xs x.t.id l = true

/-- What is yet to be given is raised. -/
def raiseF (xs:List TC) (x:TC):TC:=if x.t.kind = 1∧x.t.next < (givenX xs x.t.id:Int) then { x with t:={ x.t with next:=(givenX xs x.t.id:Int) } } else x
def raiseX (xs:List TC):List TC:=xs.map (raiseF xs)
theorem raise_keep (xs:List TC):KeepX (raiseF xs):=⟨fun x=>by unfold raiseF;split <;> rfl,fun x=>by unfold raiseF;split <;> rfl,fun x=>by unfold raiseF;split <;> rfl⟩
theorem raise_links (xs:List TC) (x:TC):(raiseF xs x).t.links = x.t.links:=by unfold raiseF;split <;> rfl
theorem raise_sound {xs:List TC} (h:PreX xs):SoundX (raiseX xs):=by
 have hl:(raiseX xs).length = xs.length:=List.length_map ..
 have hg:∀ i (hi:i < (raiseX xs).length),(raiseX xs)[i] = raiseF xs (xs[i]'(by omega)):=fun i hi=>List.getElem_map ..
 have hk:=raise_keep xs
 refine ⟨pw_rise (pw_map hk h.pw),by rw [hl];exact h.ne,?_,?_,?_,fun i hi=>?_⟩
 ·rw [hg 0 (by rw [hl];exact h.ne),hk.id];exact h.id
 ·rw [hg 0 (by rw [hl];exact h.ne),hk.kind];exact h.kind
 ·show refsX (xs.map _) 1 = 0
  rw [refs_map (raise_links xs)];exact h.none
 ·have hi2:i < xs.length:=by omega
  have hm:=List.getElem_mem hi2
  rw [hg i hi]
  refine ⟨?_,fun h0=>?_,fun hk1=>?_,fun l hl2=>?_,fun hk1=>?_⟩
  ·unfold raiseF
   split
   ·rename_i hc
    exact right_next (h.right _ hm) hc.1 _ (given_le _ _)
   ·exact h.right _ hm
  ·rw [hk.id]
   show 1 ≤ refsX (xs.map _) _
   rw [refs_map (raise_links xs)]
   exact h.held i hi2 h0
  ·rw [hk.id]
   show refsX (xs.map _) _ ≤ 1
   rw [refs_map (raise_links xs)]
   exact h.once _ hm (by rw [← hk.kind];exact hk1)
  ·rw [raise_links] at hl2
   rw [hk.id]
   show fitsX (xs.map _) _ l = true
   rw [fits_map hk]
   exact h.fits _ hm l hl2
  ·rw [hk.id]
   show ((givenX (xs.map _) _:Nat):Int) ≤ _
   rw [given_map hk]
   have hk2:(xs[i]).t.kind = 1:=by rw [← hk.kind];exact hk1
   unfold raiseF
   split
   ·exact Int.le_refl _
   ·rename_i hc
    exact Int.not_lt.1 (fun hlt=>hc ⟨hk2,hlt⟩)
end Go.Proofs.Ytgmfofngmfekbaa

namespace Go.Proofs.Ytgmfofngmfekbaa
set_option linter.unusedVariables false
set_option linter.unusedSimpArgs false
set_option maxRecDepth 20000

/-- Those that are marked. -/
def outX:List TC→List Bool→List TC
 | a :: l,b :: m=>if b = true then a :: outX l m else outX l m
 | _,_=>[]
theorem out_cons (a:TC) (l:List TC) (b:Bool) (m:List Bool):outX (a :: l) (b :: m) = if b = true then a :: outX l m else outX l m:=by rw [outX]
theorem out_sub:∀ (l:List TC) (m:List Bool),(outX l m).Sublist l
 | [],_=>by unfold outX;exact List.Sublist.refl _
 | a :: l,[]=>by unfold outX;exact List.nil_sublist _
 | a :: l,b :: m=>by
  unfold outX
  split
  ·exact (out_sub l m).cons_cons a
  ·exact (out_sub l m).cons a
theorem out_mem:∀ (l:List TC) (m:List Bool) (x:TC),x ∈ outX l m↔∃ i,∃ h:i < l.length,l[i] = x∧m.getD i false = true
 | [],m,x=>by simp [outX]
 | a :: l,[],x=>by simp [outX]
 | a :: l,b :: m,x=>by
  have ih:=out_mem l m x
  have hs:(∃ i,∃ h:i < (a :: l).length,(a :: l)[i] = x∧(b :: m).getD i false = true)↔((a = x∧b = true)∨∃ i,∃ h:i < l.length,l[i] = x∧m.getD i false = true):=by
   constructor
   ·rintro ⟨i,hi,h1,h2⟩
    cases i with
    | zero=>exact .inl ⟨by simpa using h1,by simpa using h2⟩
    | succ i=>exact .inr ⟨i,by simpa using hi,by simpa using h1,by simpa using h2⟩
   ·rintro (⟨h1,h2⟩ | ⟨i,hi,h1,h2⟩)
    ·exact ⟨0,by simp,by simpa using h1,by simpa using h2⟩
    ·exact ⟨i + 1,by simpa using hi,by simpa using h1,by simpa using h2⟩
  rw [hs,← ih,out_cons]
  split
  ·rename_i hb
   rw [List.mem_cons]
   constructor
   ·rintro (rfl | h)
    ·exact .inl ⟨rfl,hb⟩
    ·exact .inr h
   ·rintro (⟨h,_⟩ | h)
    ·exact .inl h.symm
    ·exact .inr h
  ·rename_i hb
   constructor
   ·exact fun h=>.inr h
   ·rintro (⟨_,h⟩ | h)
    ·exact absurd h hb
    ·exact h

def seedB (n:Nat):List Bool:=(List.range n).map (fun i=>i == 0)
theorem seed_len (n:Nat):(seedB n).length = n:=by simp [seedB]
theorem seed_get {n j:Nat} (h:(seedB n).getD j false = true):j = 0:=by
 unfold seedB at h
 rw [List.getD_eq_getElem?_getD,List.getElem?_map] at h
 by_cases hj:j < n
 ·rw [List.getElem?_range hj] at h
  simpa using h
 ·rw [List.getElem?_eq_none (by simp;omega)] at h
  simp at h
theorem seed_zero {n:Nat} (h:0 < n):(seedB n).getD 0 false = true:=by
 unfold seedB
 rw [List.getD_eq_getElem?_getD,List.getElem?_map,List.getElem?_range h]
 rfl
theorem seed_count {n:Nat} (h:0 < n):0 < (seedB n).count true:=by
 rw [List.count_pos_iff]
 obtain ⟨m,rfl⟩:∃ m,n = m + 1:=⟨n - 1,by omega⟩
 unfold seedB
 rw [List.range_succ_eq_map]
 simp

/-- Does the one hold the other? -/
def heldB (l:List TC) (i j:Nat):Bool:=match l[i]?,l[j]? with
 | some x,some y=>hasB x.t.links y.t.id
 | _,_=>false
theorem heldB_at {l:List TC} {i j:Nat} (hi:i < l.length) (hj:j < l.length):heldB l i j = hasB l[i].t.links l[j].t.id:=by
 unfold heldB
 rw [List.getElem?_eq_getElem hi,List.getElem?_eq_getElem hj]
theorem heldB_lt {l:List TC} {i j:Nat} (h:heldB l i j = true):∃ hi:i < l.length,∃ hj:j < l.length,hasB l[i].t.links l[j].t.id = true:=by
 unfold heldB at h
 by_cases hi:i < l.length
 ·by_cases hj:j < l.length
  ·rw [List.getElem?_eq_getElem hi,List.getElem?_eq_getElem hj] at h
   exact ⟨hi,hj,h⟩
  ·rw [List.getElem?_eq_getElem hi,List.getElem?_eq_none (by omega)] at h
   exact absurd h (by simp)
 ·rw [List.getElem?_eq_none (show l.length ≤ i by omega)] at h
  exact absurd h (by simp)
def marksX (l:List TC):List Bool:=markN (heldB l) l.length (seedB l.length) l.length

/-- A thing without the links that don't fit. -/
def cutF (xs:List TC) (x:TC):TC:={ x with t:={ x.t with links:=x.t.links.filter (fun l=>fitsX xs x.t.id l) } }
def cutX (xs:List TC):List TC:=xs.map (cutF xs)
theorem cut_keep (xs:List TC):KeepX (cutF xs):=⟨fun _=>rfl,fun _=>rfl,fun _=>rfl⟩
def keptX (xs:List TC):List TC:=outX (cutX xs) (marksX (cutX xs))
/-- The things mended. -/
def mendX (xs:List TC):List TC:=raiseX (keptX xs)

theorem mend_pre {xs:List TC} (h:MendX xs):PreX (keptX xs):=by
 have hpx:=rise_pw h.rise
 have hk:=cut_keep xs
 have hpc:(cutX xs).Pairwise (fun a b=>a.t.id < b.t.id):=pw_map hk hpx
 have hlc:(cutX xs).length = xs.length:=List.length_map ..
 have hsub:(keptX xs).Sublist (cutX xs):=out_sub _ _
 have hpo:=hpc.sublist hsub
 have hcm:∀ y ∈ cutX xs,∃ x ∈ xs,y = cutF xs x:=fun y hy=>by
  obtain ⟨x,hx,e⟩:=List.mem_map.1 hy
  exact ⟨x,hx,e.symm⟩
 have hright:∀ y ∈ keptX xs,RightT y.t:=fun y hy=>by
  obtain ⟨x,hx,rfl⟩:=hcm y (hsub.mem hy)
  obtain ⟨i,hi,rfl⟩:=List.getElem_of_mem hx
  exact right_keep (h.each i hi) _
 have hlen:0 < (cutX xs).length:=by rw [hlc];exact h.ne
 have hsl:=seed_len (cutX xs).length
 have h0m:(marksX (cutX xs)).getD 0 false = true:=by
  have key:∀ n,(markN (heldB (cutX xs)) (cutX xs).length (seedB (cutX xs).length) n).getD 0 false = true:=fun n=>by
   induction n with
   | zero=>exact seed_zero hlen
   | succ n ih=>exact markN_sub _ _ _ n 0 ih
  exact key _
 -- the first
 obtain ⟨c0,cr,hc⟩:∃ c0 cr,cutX xs = c0 :: cr:=by
  cases hcx:cutX xs with
  | nil=>rw [hcx] at hlen;simp at hlen
  | cons a l=>exact ⟨a,l,rfl⟩
 have hc0:c0 = cutF xs (xs[0]'h.ne):=by
  have e:(cutX xs)[0]'hlen = cutF xs (xs[0]'h.ne):=List.getElem_map ..
  rw [← e]
  simp [hc]
 obtain ⟨kr,hkr⟩:∃ kr,keptX xs = c0 :: kr:=by
  unfold keptX
  cases hm:marksX (cutX xs) with
  | nil=>rw [hm] at h0m;simp at h0m
  | cons b m =>
   rw [hm] at h0m
   have hb:b = true:=by simpa using h0m
   rw [hc]
   exact ⟨outX cr m,by simp [outX,hb]⟩
 have hne:0 < (keptX xs).length:=by rw [hkr];simp
 have hg0:(keptX xs)[0] = c0:=by simp [hkr]
 have hid0:(keptX xs)[0].t.id = 1:=by rw [hg0,hc0];exact h.id
 -- what a kept one links
 have hfit:∀ x ∈ keptX xs,∀ l ∈ x.t.links,fitsX xs x.t.id l = true:=fun y hy l hl=>by
  obtain ⟨x,hx,rfl⟩:=hcm y (hsub.mem hy)
  exact (List.mem_filter.1 hl).2
 have htarget:∀ x ∈ keptX xs,∀ l ∈ x.t.links,∃ u ∈ keptX xs,u.t.id = l.1∧u.t.quota = l.2∧(u.t.kind ≠ 1∨u.t.id.tdiv 64 = x.t.id):=fun y hy l hl=>by
  have hf:=hfit y hy l hl
  obtain ⟨i,hi,hyi,hmi⟩:=(out_mem _ _ y).1 hy
  unfold fitsX at hf
  cases hfd:findX xs l.1 with
  | none=>rw [hfd] at hf;exact absurd hf (by simp)
  | some u0 =>
   rw [hfd] at hf
   obtain ⟨hu,hid⟩:=find_mem hfd
   have hf2:u0.t.quota = l.2∧(u0.t.kind ≠ 1∨u0.t.id.tdiv 64 = y.t.id):=by
    simp only [Bool.and_eq_true,Bool.or_eq_true,beq_iff_eq,bne_iff_ne] at hf
    exact hf
   have hcu:cutF xs u0 ∈ cutX xs:=List.mem_map.2 ⟨u0,hu,rfl⟩
   obtain ⟨j,hj,hju⟩:=List.getElem_of_mem hcu
   have hR:heldB (cutX xs) i j = true:=by
    rw [heldB_at hi hj,hyi,hju]
    show hasB y.t.links u0.t.id = true
    rw [hid]
    exact has_of hl
   have hmj:=markN_closed (heldB (cutX xs)) (cutX xs).length _ hsl (seed_count hlen) i j hi hj hmi hR
   exact ⟨cutF xs u0,(out_mem _ _ _).2 ⟨j,hj,hju,hmj⟩,hid,hf2.1,hf2.2⟩
 have hidok:∀ x ∈ keptX xs,1 ≤ x.t.id:=fun x hx=>(hright x hx).id.1
 refine ⟨hpo,hne,hid0,?_,?_,hright,?_,?_,?_⟩
 ·rw [hg0,hc0];exact h.kind
 ·refine List.countP_eq_zero.2 (fun x hx hh=>?_)
  obtain ⟨l,hl,he⟩:=of_has hh
  obtain ⟨u,hu,hu1,_,hu3⟩:=htarget x hx l hl
  have hue:u = (keptX xs)[0]:=by
   have h1:=find_of hpo hu
   have h2:=find_of hpo (List.getElem_mem hne)
   rw [hu1,he] at h1
   rw [hid0] at h2
   exact Option.some.inj (h1.symm.trans h2)
  rcases hu3 with h3 | h3
  ·exact h3 (by rw [hue,hg0,hc0];exact h.kind)
  ·have:=hidok x hx
   rw [hu1,he] at h3
   have e:(1:Int).tdiv 64 = 0:=by decide
   omega
 ·intro i hi h0
  have hm:=List.getElem_mem hi
  obtain ⟨j,hj,hji,hmj⟩:=(out_mem _ _ _).1 hm
  rcases markN_held (heldB (cutX xs)) (cutX xs).length _ _ j hmj with h1 | ⟨a,ha,hma,hR⟩
  ·have hj0:=seed_get h1
   subst hj0
   have e:(cutX xs)[0]'hlen = c0:=by simp [hc]
   have h2:=List.pairwise_iff_getElem.1 hpo 0 i hne hi h0
   rw [hg0,← hji,e] at h2
   omega
  ·obtain ⟨_,_,hh⟩:=heldB_lt hR
   have hka:(cutX xs)[a]'ha ∈ keptX xs:=(out_mem _ _ _).2 ⟨a,ha,rfl,hma⟩
   exact List.countP_pos_iff.2 ⟨_,hka,by rw [← hji];exact hh⟩
 ·intro x hx hkx
  refine count_one hpo (fun a ha b hb hpa hpb=>?_)
  have key:∀ a ∈ keptX xs,hasB a.t.links x.t.id = true→x.t.id.tdiv 64 = a.t.id:=fun a ha hh=>by
   obtain ⟨l,hl,he⟩:=of_has hh
   obtain ⟨u,hu,hu1,_,hu3⟩:=htarget a ha l hl
   have hue:u = x:=by
    have h1:=find_of hpo hu
    have h2:=find_of hpo hx
    rw [hu1,he] at h1
    exact Option.some.inj (h1.symm.trans h2)
   subst hue
   rcases hu3 with h3 | h3
   ·exact absurd hkx h3
   ·exact h3
  rw [← key a ha hpa,← key b hb hpb]
 ·intro x hx l hl
  obtain ⟨u,hu,hu1,hu2,hu3⟩:=htarget x hx l hl
  unfold fitsX
  rw [← hu1,find_of hpo hu]
  simp only [Bool.and_eq_true,Bool.or_eq_true,beq_iff_eq,bne_iff_ne]
  exact ⟨hu2,hu3⟩

/-- What is mended is sound. -/
theorem mend_sound {xs:List TC} (h:MendX xs):SoundX (mendX xs):=raise_sound (mend_pre h)
end Go.Proofs.Ytgmfofngmfekbaa

namespace Go.Proofs.Ytgmfofngmfekbaa
set_option linter.unusedVariables false
set_option linter.unusedSimpArgs false
set_option maxRecDepth 20000

theorem sound_mend {xs:List TC} (h:SoundX xs):MendX xs:=⟨h.rise,h.ne,h.id,h.kind,fun i hi=>(h.each i hi).right⟩
theorem sound_cut {xs:List TC} (h:SoundX xs):cutX xs = xs:=by
 have key:∀ x ∈ xs,cutF xs x = x:=fun x hx=>by
  obtain ⟨i,hi,rfl⟩:=List.getElem_of_mem hx
  have e:(xs[i]).t.links.filter (fun l=>fitsX xs (xs[i]).t.id l) = (xs[i]).t.links:=List.filter_eq_self.2 (fun l hl=>(h.each i hi).fits l hl)
  unfold cutF
  rw [e]
 unfold cutX
 have h2:xs.map (cutF xs) = xs.map id:=List.map_congr_left (fun x hx=>key x hx)
 rw [h2,List.map_id]
theorem out_all:∀ (l:List TC) (m:List Bool),m.length = l.length→(∀ i,i < l.length→m.getD i false = true)→outX l m = l
 | [],_,_,_=>by unfold outX;rfl
 | a :: l,[],h,_=>by simp at h
 | a :: l,b :: m,h,k=>by
  have hb:b = true:=by have:=k 0 (by simp);simpa using this
  rw [out_cons,if_pos hb,out_all l m (by simpa using h) (fun i hi=>by have:=k (i + 1) (by simpa using hi);simpa using this)]
theorem sound_marks {xs:List TC} (h:SoundX xs):∀ j,j < xs.length→(marksX xs).getD j false = true:=by
 have hpx:=rise_pw h.rise
 have hsl:=seed_len xs.length
 have hz:(marksX xs).getD 0 false = true:=by
  have key:∀ n,(markN (heldB xs) xs.length (seedB xs.length) n).getD 0 false = true:=fun n=>by
   induction n with
   | zero=>exact seed_zero h.ne
   | succ n ih=>exact markN_sub _ _ _ n 0 ih
  exact key _
 -- who holds the one at j
 have hold:∀ j (hj:j < xs.length),0 < j→∃ i,∃ hi:i < xs.length,(xs[i]).t.kind = 1∧hasB (xs[i]).t.links (xs[j]).t.id = true:=fun j hj h0=>by
  have h1:=(h.each j hj).held h0
  obtain ⟨y,hy,hh⟩:=List.countP_pos_iff.1 h1
  obtain ⟨i,hi,rfl⟩:=List.getElem_of_mem hy
  refine ⟨i,hi,?_,hh⟩
  by_cases hk:(xs[i]).t.kind = 1
  ·exact hk
  ·have e:=right_nolinks (h.each i hi).right hk
   rw [e] at hh
   exact absurd hh (by simp [hasB])
 have step:∀ i j (hi:i < xs.length) (hj:j < xs.length),(marksX xs).getD i false = true→hasB (xs[i]).t.links (xs[j]).t.id = true→(marksX xs).getD j false = true:=fun i j hi hj hm hh =>
  markN_closed (heldB xs) xs.length _ hsl (seed_count h.ne) i j hi hj hm (by rw [heldB_at hi hj];exact hh)
 have dirs:∀ j (hj:j < xs.length),(xs[j]).t.kind = 1→(marksX xs).getD j false = true:=by
  intro j
  induction j using Nat.strongRecOn with
  | _ j ih =>
   intro hj hk
   by_cases h0:j = 0
   ·subst h0;exact hz
   ·obtain ⟨i,hi,hki,hh⟩:=hold j hj (by omega)
    obtain ⟨l,hl,he⟩:=of_has hh
    have hf:=(h.each i hi).fits l hl
    unfold fitsX at hf
    rw [he,find_of hpx (List.getElem_mem hj)] at hf
    simp only [Bool.and_eq_true,Bool.or_eq_true,beq_iff_eq,bne_iff_ne] at hf
    have hd:(xs[j]).t.id.tdiv 64 = (xs[i]).t.id:=by
     rcases hf.2 with h3 | h3
     ·exact absurd hk h3
     ·exact h3
    have hjid:=(h.each j hj).right.id.1
    have hlt:(xs[i]).t.id < (xs[j]).t.id:=by
     rw [← hd,Int.tdiv_eq_ediv_of_nonneg (by omega)]
     omega
    have hij:i < j:=by
     rcases Nat.lt_trichotomy i j with h3 | h3 | h3
     ·exact h3
     ·subst h3;omega
     ·have:=List.pairwise_iff_getElem.1 hpx j i hj hi h3
      omega
    exact step i j hi hj (ih i hij hi hki) hh
 intro j hj
 by_cases h0:j = 0
 ·subst h0;exact hz
 ·obtain ⟨i,hi,hki,hh⟩:=hold j hj (by omega)
  exact step i j hi hj (dirs i hi hki) hh

/-- What is sound stays as it is. -/
theorem mend_same {xs:List TC} (h:SoundX xs):mendX xs = xs:=by
 have hk:keptX xs = xs:=by
  unfold keptX
  rw [sound_cut h]
  exact out_all _ _ (by unfold marksX;rw [markN_len,seed_len]) (sound_marks h)
 unfold mendX
 rw [hk]
 have key:∀ x ∈ xs,raiseF xs x = x:=fun x hx=>by
  obtain ⟨i,hi,rfl⟩:=List.getElem_of_mem hx
  unfold raiseF
  rw [if_neg]
  rintro ⟨h1,h2⟩
  have:=(h.each i hi).next h1
  omega
 unfold raiseX
 have h2:xs.map (raiseF xs) = xs.map id:=List.map_congr_left (fun x hx=>key x hx)
 rw [h2,List.map_id]
end Go.Proofs.Ytgmfofngmfekbaa
