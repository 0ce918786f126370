/-
  GrS1, GrS2: in one text.
-/
import Derived.Test.YtgmfofngmfekbaaGrGgS
namespace Go.Proofs.Ytgmfofngmfekbaa
set_option linter.unusedVariables false
set_option linter.unusedSimpArgs false
set_option maxRecDepth 20000

theorem markI_in {R:Nat→Nat→Bool} {S:Nat→Prop} (hS:∀ i j,S i→R i j = true→S j) (i:Nat):∀ (k:Nat) (s:List Bool),(∀ j,s.getD j false = true→S j)→∀ j,(markI R i k s).getD j false = true→S j
 | 0,_,h=>h
 | k + 1,s,h=>by
  have h1:=markI_in hS i k s h
  simp only [markI]
  split
  ·rename_i hc
   have hc2:(markI R i k s).getD i false = true∧R i k = true:=by simpa using hc
   intro j hj
   rcases (getD_set _ k j).1 hj with h2 | ⟨rfl,_⟩
   ·exact h1 j h2
   ·exact hS i j (h1 i hc2.1) hc2.2
  ·exact h1
theorem markR_in {R:Nat→Nat→Bool} {N:Nat} {S:Nat→Prop} (hS:∀ i j,S i→R i j = true→S j):∀ (m:Nat) (s:List Bool),(∀ j,s.getD j false = true→S j)→∀ j,(markR R N m s).getD j false = true→S j
 | 0,_,h=>h
 | m + 1,s,h=>markI_in hS m N _ (markR_in hS m s h)
theorem markN_in {R:Nat→Nat→Bool} {N:Nat} {S:Nat→Prop} (hS:∀ i j,S i→R i j = true→S j) (s0:List Bool) (h0:∀ j,s0.getD j false = true→S j):∀ n j,(markN R N s0 n).getD j false = true→S j
 | 0=>h0
 | n + 1=>markR_in hS N _ (markN_in hS s0 h0 n)
theorem markN_seed (R:Nat→Nat→Bool) (N:Nat) (s0:List Bool):∀ n,Sub s0 (markN R N s0 n)
 | 0=>Sub.refl s0
 | n + 1=>(markN_seed R N s0 n).trans (markN_sub R N s0 n)

/-- It is reached from the first, over links. -/
def RchX (xs:List TC) (j:Nat):Prop:=∀ S:Nat→Prop,(∀ i (h:i < xs.length),xs[i].t.id = 1→S i)→(∀ i k,S i→heldB xs i k = true→S k)→S j
theorem rch_first {xs:List TC} {j:Nat} (h:j < xs.length) (e:xs[j].t.id = 1):RchX xs j:=fun S h1 _=>h1 j h e
theorem rch_step {xs:List TC} {i j:Nat} (h:RchX xs i) (e:heldB xs i j = true):RchX xs j:=fun S h1 h2=>h2 i j (h S h1 h2) e
theorem marks_len (xs:List TC):(marksX xs).length = xs.length:=by
 unfold marksX;rw [markN_len,seed_len]
theorem pw_inj {xs:List TC} (hp:xs.Pairwise (fun a b=>a.t.id < b.t.id)) {i j:Nat} (hi:i < xs.length) (hj:j < xs.length) (e:xs[i].t.id = xs[j].t.id):i = j:=by
 rw [List.pairwise_iff_getElem] at hp
 rcases Nat.lt_trichotomy i j with h | h | h
 ·have:=hp i j hi hj h;omega
 ·exact h
 ·have:=hp j i hj hi h;omega
/-- What is marked is what is reached. -/
theorem marks_iff {xs:List TC} (hp:xs.Pairwise (fun a b=>a.t.id < b.t.id)) (hn:0 < xs.length) (h1:xs[0].t.id = 1) (j:Nat) (hj:j < xs.length):(marksX xs).getD j false = true↔RchX xs j:=by
 constructor
 ·intro h
  refine markN_in (S:=RchX xs) (fun i k=>rch_step) _ (fun k hk=>?_) xs.length j h
  obtain rfl:=seed_get hk
  exact rch_first hn h1
 ·intro h
  have:=h (fun k=>(marksX xs).getD k false = true) (fun i hi e=>by
   obtain rfl:=pw_inj hp hi hn (by rw [e,h1])
   exact markN_seed _ _ _ _ 0 (seed_zero hn)) (fun i k hi hk=>by
   obtain ⟨ha,hb,_⟩:=heldB_lt hk
   exact markN_closed _ _ _ (seed_len _) (seed_count hn) i k ha hb hi hk)
  exact this

/-- What is to be done yet: the links of those that aren't seen. -/
def restU:List TC→List Bool→Nat
 | x :: xs,b :: bs=>(if b = true then 0 else x.t.links.length) + restU xs bs
 | _,_=>0
theorem restU_set:∀ (xs:List TC) (bs:List Bool) (k:Nat) (h:k < xs.length) (_:k < bs.length),bs.getD k false = false→restU xs (bs.set k true) + xs[k].t.links.length = restU xs bs
 | x :: xs,b :: bs,0,_,_,hb=>by
  have:b = false:=by simpa using hb
  subst this
  simp [restU];omega
 | x :: xs,b :: bs,k + 1,h,h2,hb=>by
  have:=restU_set xs bs k (by simpa using h) (by simpa using h2) (by simpa using hb)
  simp only [List.set_cons_succ,restU,List.getElem_cons_succ]
  omega
 | [],_,_,h,_,_=>by simp at h
 | _ :: _,[],_,_,h,_=>by simp at h
theorem restU_le {xs:List TC} (h:∀ x ∈ xs,x.t.links.length ≤ 16):∀ bs,restU xs bs ≤ 16 * xs.length:=by
 induction xs with
 | nil=>intro bs;simp [restU]
 | cons x xs ih =>
  intro bs
  cases bs with
  | nil=>simp [restU]
  | cons b bs =>
   have h1:=ih (fun y hy=>h y (List.mem_cons_of_mem _ hy)) bs
   have h2:=h x (List.mem_cons_self ..)
   simp only [restU,List.length_cons]
   split <;> omega

/-- The walk over links: what is seen, what lies ahead. -/
structure RInv (xs:List TC) (seen:List Bool) (q:List Int):Prop where
 len:seen.length = xs.length
 snd:∀ j,seen.getD j false = true→RchX xs j
 qs:∀ id ∈ q,∀ j (h:j < xs.length),xs[j].t.id = id→RchX xs j
 clo:∀ i j,seen.getD i false = true→heldB xs i j = true→seen.getD j false = true∨∃ h:j < xs.length,xs[j].t.id ∈ q
 fst:∀ j (h:j < xs.length),xs[j].t.id = 1→seen.getD j false = true∨(1:Int) ∈ q
theorem getD_rep (n j:Nat):(List.replicate n false).getD j false = false:=by
 rw [List.getD_eq_getElem?_getD,List.getElem?_replicate]
 split <;> rfl
theorem rinv_start (xs:List TC):RInv xs (List.replicate xs.length false) [1]:=by
 refine ⟨List.length_replicate,fun j h=>?_,fun id hid j h e=>?_,fun i j h=>?_,fun j h e=>.inr (by simp)⟩
 ·rw [getD_rep] at h;exact Bool.noConfusion h
 ·rw [List.mem_singleton] at hid;subst hid;exact rch_first h e
 ·rw [getD_rep] at h;exact Bool.noConfusion h
theorem rinv_none {xs:List TC} {seen:List Bool} {id:Int} {q:List Int} (h:RInv xs seen (id :: q)) (hn:∀ j (h:j < xs.length),xs[j].t.id ≠ id) (hp:0 < xs.length) (h1:xs[0].t.id = 1):RInv xs seen q:=by
 refine ⟨h.len,h.snd,fun x hx=>h.qs x (List.mem_cons_of_mem _ hx),fun i j hi hj=>?_,fun j hj e=>?_⟩
 ·rcases h.clo i j hi hj with h2 | ⟨h2,h3⟩
  ·exact .inl h2
  ·rcases List.mem_cons.1 h3 with h4 | h4
   ·exact absurd h4 (hn j h2)
   ·exact .inr ⟨h2,h4⟩
 ·rcases h.fst j hj e with h2 | h2
  ·exact .inl h2
  ·rcases List.mem_cons.1 h2 with h4 | h4
   ·exact absurd (by rw [e,← h4]) (hn j hj)
   ·exact .inr h4
theorem rinv_seen {xs:List TC} (hp:xs.Pairwise (fun a b=>a.t.id < b.t.id)) {seen:List Bool} {id:Int} {q:List Int} (h:RInv xs seen (id :: q)) {k:Nat} (hk:k < xs.length) (he:xs[k].t.id = id) (hs:seen.getD k false = true):RInv xs seen q:=by
 have key:∀ j (hj:j < xs.length),xs[j].t.id = id→seen.getD j false = true:=fun j hj e=>by
  obtain rfl:=pw_inj hp hj hk (by rw [e,he])
  exact hs
 refine ⟨h.len,h.snd,fun x hx=>h.qs x (List.mem_cons_of_mem _ hx),fun i j hi hj=>?_,fun j hj e=>?_⟩
 ·rcases h.clo i j hi hj with h2 | ⟨h2,h3⟩
  ·exact .inl h2
  ·rcases List.mem_cons.1 h3 with h4 | h4
   ·exact .inl (key j h2 h4)
   ·exact .inr ⟨h2,h4⟩
 ·rcases h.fst j hj e with h2 | h2
  ·exact .inl h2
  ·rcases List.mem_cons.1 h2 with h4 | h4
   ·exact .inl (key j hj (by rw [e,h4]))
   ·exact .inr h4
theorem rinv_new {xs:List TC} (hp:xs.Pairwise (fun a b=>a.t.id < b.t.id)) {seen:List Bool} {id:Int} {q:List Int} (h:RInv xs seen (id :: q)) {k:Nat} (hk:k < xs.length) (he:xs[k].t.id = id):RInv xs (seen.set k true) (q ++ xs[k].t.links.map (·.1)):=by
 have hr:RchX xs k:=h.qs id (List.mem_cons_self ..) k hk he
 have hkl:k < seen.length:=by rw [h.len];exact hk
 have key:∀ j (hj:j < xs.length),xs[j].t.id = id→(seen.set k true).getD j false = true:=fun j hj e=>by
  obtain rfl:=pw_inj hp hj hk (by rw [e,he])
  exact (getD_set _ j j).2 (.inr ⟨rfl,hkl⟩)
 have held:∀ j,heldB xs k j = true→∃ hj:j < xs.length,xs[j].t.id ∈ xs[k].t.links.map (·.1):=fun j hj=>by
  obtain ⟨ha,hb,hc⟩:=heldB_lt hj
  obtain ⟨l,hl,e⟩:=of_has hc
  exact ⟨hb,List.mem_map.2 ⟨l,hl,e⟩⟩
 refine ⟨by rw [List.length_set];exact h.len,fun j hj=>?_,fun x hx j hj e=>?_,fun i j hi hj=>?_,fun j hj e=>?_⟩
 ·rcases (getD_set _ k j).1 hj with h2 | ⟨rfl,_⟩
  ·exact h.snd j h2
  ·exact hr
 ·rcases List.mem_append.1 hx with h2 | h2
  ·exact h.qs x (List.mem_cons_of_mem _ h2) j hj e
  ·obtain ⟨l,hl,e2⟩:=List.mem_map.1 h2
   exact rch_step hr (by rw [heldB_at hk hj,e,← e2];exact has_of hl)
 ·rcases (getD_set _ k i).1 hi with h2 | ⟨rfl,_⟩
  ·rcases h.clo i j h2 hj with h3 | ⟨h3,h4⟩
   ·exact .inl ((getD_set _ k j).2 (.inl h3))
   ·rcases List.mem_cons.1 h4 with h5 | h5
    ·exact .inl (key j h3 h5)
    ·exact .inr ⟨h3,List.mem_append_left _ h5⟩
  ·obtain ⟨h3,h4⟩:=held j hj
   exact .inr ⟨h3,List.mem_append_right _ h4⟩
 ·rcases h.fst j hj e with h2 | h2
  ·exact .inl ((getD_set _ k j).2 (.inl h2))
  ·rcases List.mem_cons.1 h2 with h4 | h4
   ·exact .inl (key j hj (by rw [e,h4]))
   ·exact .inr (List.mem_append_left _ h4)
theorem rinv_end {xs:List TC} (hp:xs.Pairwise (fun a b=>a.t.id < b.t.id)) (hn:0 < xs.length) (h1:xs[0].t.id = 1) {seen:List Bool} (h:RInv xs seen []):seen = marksX xs:=by
 have hl:seen.length = (marksX xs).length:=by rw [h.len,marks_len]
 refine List.ext_getElem hl (fun j hj1 hj2=>?_)
 have hjl:j < xs.length:=by rw [← h.len];exact hj1
 have e1:seen[j] = seen.getD j false:=by rw [List.getD_eq_getElem?_getD,List.getElem?_eq_getElem hj1];rfl
 have e2:(marksX xs)[j] = (marksX xs).getD j false:=by rw [List.getD_eq_getElem?_getD,List.getElem?_eq_getElem hj2];rfl
 rw [e1,e2,Bool.eq_iff_iff,marks_iff hp hn h1 j hjl]
 refine ⟨h.snd j,fun hr=>?_⟩
 exact hr (fun k=>seen.getD k false = true) (fun i hi e=>by
  rcases h.fst i hi e with h2 | h2
  ·exact h2
  ·exact absurd h2 (by simp)) (fun i k hi hk=>by
  rcases h.clo i k hi hk with h2 | ⟨_,h2⟩
  ·exact h2
  ·exact absurd h2 (by simp))
end Go.Proofs.Ytgmfofngmfekbaa

namespace Go.Proofs.Ytgmfofngmfekbaa
set_option linter.unusedVariables false
set_option linter.unusedSimpArgs false
set_option maxRecDepth 20000

/-- How many stand ahead of that ID. -/
def posX:List TC→Int→Nat
 | [],_=>0
 | x :: r,id=>if x.t.id < id then posX r id + 1 else 0
def foundX (xs:List TC) (id:Int):Bool:=(findX xs id).isSome
theorem posX_of:∀ (xs:List TC) (id:Int) (i:Nat),i ≤ xs.length→(∀ t (h:t < xs.length),t < i→xs[t].t.id < id)→(∀ (h:i < xs.length),¬ xs[i].t.id < id)→posX xs id = i
 | [],_,i,hi,_,_=>by simp at hi;simp [posX,hi]
 | c :: r,id,0,_,_,h2=>by
  have:=h2 (by simp)
  simp only [List.getElem_cons_zero] at this
  simp [posX,this]
 | c :: r,id,i + 1,hi,h1,h2=>by
  have h3:=h1 0 (by simp) (by omega)
  simp only [List.getElem_cons_zero] at h3
  have h4:=posX_of r id i (by simpa using hi) (fun t ht hti=>by have:=h1 (t + 1) (by simpa using ht) (by omega);simpa using this) (fun h=>by have:=h2 (by simpa using h);simpa using this)
  simp [posX,h3,h4]
theorem posX_le:∀ (xs:List TC) (id:Int),posX xs id ≤ xs.length
 | [],_=>Nat.le_refl _
 | c :: r,id=>by
  unfold posX
  have:=posX_le r id
  split
  ·simp;omega
  ·exact Nat.zero_le _
theorem find_pos {xs:List TC} (hp:xs.Pairwise (fun a b=>a.t.id < b.t.id)) {id:Int} {x:TC} (h:findX xs id = some x):∃ hl:posX xs id < xs.length,xs[posX xs id]'hl = x:=by
 obtain ⟨hx,he⟩:=find_mem h
 obtain ⟨i,hi,rfl⟩:=List.getElem_of_mem hx
 have:posX xs id = i:=posX_of xs id i (by omega) (fun t ht hti=>by
  have:=List.pairwise_iff_getElem.1 hp t i ht hi hti
  omega) (fun _=>by omega)
 exact ⟨by omega,by simp [this]⟩
theorem found_pos {xs:List TC} (hp:xs.Pairwise (fun a b=>a.t.id < b.t.id)) (id:Int):foundX xs id = if h:posX xs id < xs.length then (xs[posX xs id]'h).t.id == id else false:=by
 unfold foundX
 cases hf:findX xs id with
 | none =>
  have:=find_none.1 hf
  split
  ·rename_i h
   have h2:=this _ (List.getElem_mem h)
   simp [h2]
  ·rfl
 | some x =>
  obtain ⟨hl,rfl⟩:=find_pos hp hf
  rw [dif_pos hl]
  have:=find_id hf
  simp [this]
theorem find_at {xs:List TC} (hp:xs.Pairwise (fun a b=>a.t.id < b.t.id)) {id:Int} (h:foundX xs id = true):∃ hl:posX xs id < xs.length,findX xs id = some (xs[posX xs id]'hl)∧(xs[posX xs id]'hl).t.id = id:=by
 unfold foundX at h
 cases hf:findX xs id with
 | none=>rw [hf] at h;exact Bool.noConfusion h
 | some x =>
  obtain ⟨hl,rfl⟩:=find_pos hp hf
  exact ⟨hl,rfl,find_id hf⟩
theorem find_off {xs:List TC} {id:Int} (h:foundX xs id = false):findX xs id = none:=by
 unfold foundX at h
 cases hf:findX xs id with
 | none=>rfl
 | some x=>rw [hf] at h;exact Bool.noConfusion h

/-- Put by places: in its stead, or between. -/
theorem put_pos:∀ {xs:List TC} (_:xs.Pairwise (fun a b=>a.t.id < b.t.id)) (t:TC),putX xs t = if foundX xs t.t.id = true then xs.set (posX xs t.t.id) t else xs.take (posX xs t.t.id) ++ t :: xs.drop (posX xs t.t.id):=by
 intro xs hp t
 rw [put_eq hp]
 induction xs with
 | nil=>rfl
 | cons x r ih =>
  obtain ⟨h1,h2⟩:=List.pairwise_cons.1 hp
  have ih:=ih h2
  by_cases ha:x.t.id < t.t.id
  ·have e1:loX (x :: r) t = x :: loX r t:=by unfold loX;rw [List.filter_cons,if_pos (by simpa using ha)]
   have e2:hiX (x :: r) t = hiX r t:=by unfold hiX;rw [List.filter_cons,if_neg (by simp;omega)]
   have e3:posX (x :: r) t.t.id = posX r t.t.id + 1:=by simp only [posX,if_pos ha]
   have e4:foundX (x :: r) t.t.id = foundX r t.t.id:=by
    unfold foundX findX
    rw [List.find?_cons,show (x.t.id == t.t.id) = false by rw [beq_eq_false_iff_ne];omega]
   rw [e1,e2,e3,e4,List.cons_append,ih]
   split <;> rfl
  ·have hall:∀ y ∈ r,t.t.id < y.t.id:=fun y hy=>by have:=h1 y hy;omega
   obtain ⟨f1,f2⟩:=lo_hi hall
   have e3:posX (x :: r) t.t.id = 0:=by simp only [posX,if_neg ha]
   have e1:loX (x :: r) t = loX r t:=by unfold loX;rw [List.filter_cons,if_neg (by simp;omega)]
   by_cases hb:x.t.id = t.t.id
   ·have e2:hiX (x :: r) t = hiX r t:=by unfold hiX;rw [List.filter_cons,if_neg (by simp;omega)]
    have e4:foundX (x :: r) t.t.id = true:=by
     unfold foundX findX
     rw [List.find?_cons,show (x.t.id == t.t.id) = true by rw [beq_iff_eq];exact hb]
     rfl
    rw [e1,e2,e3,e4,f1,f2]
    rfl
   ·have e2:hiX (x :: r) t = x :: hiX r t:=by unfold hiX;rw [List.filter_cons,if_pos (by simp;omega)]
    have e4:foundX (x :: r) t.t.id = false:=by
     unfold foundX
     rw [find_none.2 (fun y hy=>by
      rcases List.mem_cons.1 hy with rfl | hy
      ·exact hb
      ·have:=hall y hy;omega)]
     rfl
    rw [e1,e2,e3,e4,f1,f2]
    rfl

/-- The greatest name that it must have given, of a directory. -/
def restF (xs:List TC) (x:TC):Int:=if x.t.kind = 1 then (givenX xs x.t.id:Int) else 0
/-- Sound, as the program asks it. -/
structure SndP (xs:List TC):Prop where
 rise:RiseX xs
 right:∀ x ∈ xs,RightT x.t
 ne:0 < xs.length
 id:xs[0].t.id = 1
 kind:xs[0].t.kind = 1
 fits:∀ x ∈ xs,∀ l ∈ x.t.links,fitsX xs x.t.id l = true
 held:∀ j,j < xs.length→(marksX xs).getD j false = true
 next:∀ x ∈ xs,restF xs x ≤ x.t.next
theorem right_next0 {t:Th} (h:RightT t) (hk:t.kind ≠ 1):t.next = 0:=by
 have:=h.same
 rw [this]
 unfold ofK
 rw [if_neg hk]
 split
 ·rfl
 ·split
  ·rfl
  ·split
   ·rfl
   ·split <;> rfl
theorem fits_of {xs:List TC} {did:Int} {l:Cat} (h:fitsX xs did l = true):∃ x,findX xs l.1 = some x∧x.t.quota = l.2∧(x.t.kind = 1→x.t.id.tdiv 64 = did):=by
 unfold fitsX at h
 cases hf:findX xs l.1 with
 | none=>rw [hf] at h;exact Bool.noConfusion h
 | some x =>
  rw [hf] at h
  simp only [Bool.and_eq_true,Bool.or_eq_true,beq_iff_eq,bne_iff_ne] at h
  exact ⟨x,rfl,h.1,fun hk=>by rcases h.2 with h3 | h3;exact absurd hk h3;exact h3⟩
/-- The program asks what the document asks. -/
theorem snd_iff (xs:List TC):SndP xs↔SoundX xs:=by
 constructor
 ·intro h
  have hp:=rise_pw h.rise
  have hz:∀ x ∈ xs,hasB x.t.links 1 = false:=fun x hx=>by
   rw [Bool.eq_false_iff]
   intro hh
   obtain ⟨l,hl,e⟩:=of_has hh
   obtain ⟨y,hy,_,h3⟩:=fits_of (h.fits x hx l hl)
   rw [e] at hy
   have h4:=find_of hp (List.getElem_mem h.ne)
   rw [h.id] at h4
   have hy0:y = xs[0]'h.ne:=Option.some.inj (hy.symm.trans h4)
   subst hy0
   have h5:=h3 h.kind
   rw [h.id] at h5
   have:=(h.right x hx).id.1
   have e0:(1:Int).tdiv 64 = 0:=by decide
   omega
  refine ⟨h.rise,h.ne,h.id,h.kind,List.countP_eq_zero.2 (fun x hx=>by rw [hz x hx];simp),fun i hi=>⟨h.right _ (List.getElem_mem hi),fun h0=>?_,fun hk=>?_,h.fits _ (List.getElem_mem hi),fun hk=>?_⟩⟩
  ·have hr:=(marks_iff hp h.ne h.id i hi).1 (h.held i hi)
   have:=hr (fun j=>∀ hj:j < xs.length,j = 0∨1 ≤ refsX xs xs[j].t.id) (fun j hj e hj2=>.inl (by
    exact pw_inj hp hj h.ne (by rw [e,h.id]))) (fun a b _ hab hb=>.inr (by
    obtain ⟨ha,_,hc⟩:=heldB_lt hab
    exact List.countP_pos_iff.2 ⟨xs[a],List.getElem_mem ha,hc⟩)) hi
   omega
  ·refine count_one hp (fun a ha b hb h1 h2=>?_)
   have key:∀ y ∈ xs,hasB y.t.links xs[i].t.id = true→xs[i].t.id.tdiv 64 = y.t.id:=fun y hy hh=>by
    obtain ⟨l,hl,e⟩:=of_has hh
    obtain ⟨z,hz,_,h3⟩:=fits_of (h.fits y hy l hl)
    rw [e,find_of hp (List.getElem_mem hi)] at hz
    obtain rfl:=Option.some.inj hz
    exact h3 hk
   rw [← key a ha h1,← key b hb h2]
  ·have:=h.next _ (List.getElem_mem hi)
   unfold restF at this
   rw [if_pos hk] at this
   exact this
 ·intro h
  refine ⟨h.rise,fun x hx=>?_,h.ne,h.id,h.kind,fun x hx=>?_,sound_marks h,fun x hx=>?_⟩
  ·obtain ⟨i,hi,rfl⟩:=List.getElem_of_mem hx;exact (h.each i hi).right
  ·obtain ⟨i,hi,rfl⟩:=List.getElem_of_mem hx;exact (h.each i hi).fits
  ·obtain ⟨i,hi,rfl⟩:=List.getElem_of_mem hx
   unfold restF
   split
   ·rename_i hk;exact (h.each i hi).next hk
   ·rename_i hk;rw [right_next0 (h.each i hi).right hk];exact Int.le_refl _

theorem sub_eq_of {a b g:List TC} (hp:g.Pairwise (fun a b=>a.t.id < b.t.id)) (ha:a.Sublist g) (hb:b.Sublist g) (h:∀ x ∈ g,x ∈ a↔x ∈ b):a = b:=by
 have h1:=sub_filter ha hp
 have h2:=sub_filter hb hp
 have mem:∀ {l:List TC},l.Sublist g→∀ x ∈ g,((findX l x.t.id).isSome = true↔x ∈ l):=fun {l} hl x hx=>by
  have hpl:=hp.sublist hl
  constructor
  ·intro hs
   cases hf:findX l x.t.id with
   | none=>rw [hf] at hs;exact Bool.noConfusion hs
   | some y =>
    obtain ⟨hy,he⟩:=find_mem hf
    have e1:=find_of hp hx
    have e2:=find_of hp (hl.mem hy)
    rw [he] at e2
    obtain rfl:=Option.some.inj (e1.symm.trans e2)
    exact hy
  ·intro hm;rw [find_of hpl hm];rfl
 rw [← h1,← h2]
 refine List.filter_congr (fun x hx=>?_)
 rw [Bool.eq_iff_iff,mem ha x hx,mem hb x hx]
 exact h x hx

/-- What is reached of a sound one of which one has fewer links is what is left. -/
theorem out_down {g:List TC} {f:TC→TC} (h:SoundX g) (hf:LessX f) (hr:∀ x ∈ g,RightT (f x).t):outX (g.map f) (marksX (g.map f)) = downX (g.map f):=by
 have hp:=pw_map hf.keep (rise_pw h.rise)
 have hn:0 < (g.map f).length:=by rw [List.length_map];exact h.ne
 have h1:(g.map f)[0].t.id = 1:=by rw [List.getElem_map,hf.keep.id];exact h.id
 obtain ⟨a,hL⟩:=left_of h hf
 have hS:=left_sound h hf hr
 unfold downX
 generalize downU (g.map f).length (g.map f) = R at hL hS ⊢
 generalize hG:g.map f = G at *
 have hpR:=hp.sublist hL.sub
 refine sub_eq_of hp (out_sub _ _) hL.sub (fun x hx=>?_)
 obtain ⟨i,hi,rfl⟩:=List.getElem_of_mem hx
 rw [out_mem]
 constructor
 ·rintro ⟨j,hj,e,hm⟩
  obtain rfl:=pw_inj hp hj hi (by rw [e])
  have hr:=(marks_iff hp hn h1 j hj).1 hm
  exact hr (fun k=>∀ hk:k < G.length,G[k] ∈ R) (fun k hk e hk2=>by
   obtain rfl:=pw_inj hp hk hn (by rw [e,h1])
   have e0:=List.getElem_mem hS.ne
   have e1:=find_of hp (hL.sub.mem e0)
   rw [hS.id] at e1
   have e2:=find_of hp (List.getElem_mem hn)
   rw [h1] at e2
   obtain e3:=Option.some.inj (e1.symm.trans e2)
   rw [← e3];exact e0) (fun c d hc hcd hd=>by
   obtain ⟨ha,hb,hc2⟩:=heldB_lt hcd
   obtain ⟨l,hl,e⟩:=of_has hc2
   obtain ⟨u,hu,hue⟩:=hL.clo _ (hc ha) l hl
   have e1:=find_of hp (hL.sub.mem hu)
   have e2:=find_of hp (List.getElem_mem hb)
   rw [hue,e] at e1
   obtain e3:=Option.some.inj (e1.symm.trans e2)
   rw [← e3];exact hu) hj
 ·intro hm
  refine ⟨i,hi,rfl,(marks_iff hp hn h1 i hi).2 ?_⟩
  obtain ⟨j,hj,e⟩:=List.getElem_of_mem hm
  have hr:=(marks_iff hpR hS.ne hS.id j hj).1 (sound_marks hS j hj)
  have:=hr (fun k=>∀ hk:k < R.length,∀ i (hi:i < G.length),G[i] = R[k]→RchX G i) (fun k hk e hk2 i hi e2=>rch_first hi (by rw [e2];exact e)) (fun c d hc hcd hd i hi e2=>by
   obtain ⟨ha,hb,hc2⟩:=heldB_lt hcd
   obtain ⟨m,hm,e3⟩:=List.getElem_of_mem (hL.sub.mem (List.getElem_mem ha))
   refine rch_step (hc ha m hm e3) ?_
   rw [heldB_at hm hi,e3,e2]
   exact hc2) hj i hi e.symm
  exact this
end Go.Proofs.Ytgmfofngmfekbaa
