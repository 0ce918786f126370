/-
  DrPlain, ThM, ThW1: in one text.
-/
import Derived.Test.YtgmfofngmfekbaaThGaS
import Derived.Deep.QuietTactic
import Derived.BigQuiet
import Derived.BigRegion
import Derived.Laws.StructEq
import Derived.ChangeKeysEq
namespace Go.Proofs.Ytgmfofngmfekbaa
set_option linter.unusedVariables false
set_option linter.unusedSimpArgs false
set_option maxRecDepth 20000
open Go.RowKit

/-- How much is used. -/
def usedL (ls:List Cat):Int:=1 + sumL ls
/-- Is there a link of that ID? -/
def hasB (ls:List Cat) (id:Int):Bool:=ls.any (fun c=>c.1 == id)
/-- How many links stand ahead of that ID. -/
def posL:List Cat→Int→Nat
 | [],_=>0
 | c :: r,id=>if c.1 < id then posL r id + 1 else 0
/-- One link more, in its place. -/
def insL (ls:List Cat) (c:Cat):List Cat:=ls.take (posL ls c.1) ++ c :: ls.drop (posL ls c.1)
/-- One link less. -/
def rmL (ls:List Cat) (id:Int):List Cat:=ls.take (posL ls id) ++ ls.drop (posL ls id + 1)

theorem sumL_cons (c:Cat) (r:List Cat):sumL (c :: r) = c.2 + sumL r:=by simp [sumL]
theorem sumL_append (a b:List Cat):sumL (a ++ b) = sumL a + sumL b:=by simp [sumL]

theorem lk_tail {c:Cat} {r:List Cat} (h:LkOk (c :: r)):LkOk r :=
 ⟨fun i hi=>h.each (i + 1) (Nat.succ_lt_succ hi),fun i hi=>h.rise (i + 1) (Nat.succ_lt_succ hi)⟩

theorem lk_lt:∀ {ls:List Cat},LkOk ls→∀ i j (hij:i < j) (hj:j < ls.length),ls[i].1 < ls[j].1
 | [],_,i,j,_,hj=>by simp at hj
 | [c],_,i,j,hij,hj=>by simp at hj;omega
 | c :: d :: r,h,0,1,_,_=>by simpa using h.rise 0 (by simp)
 | c :: d :: r,h,0,j + 2,_,hj=>by
  have h1:=h.rise 0 (by simp)
  have h2:=lk_lt (lk_tail h) 0 (j + 1) (by omega) (by simpa using hj)
  simp at h1 h2 ⊢
  omega
 | c :: d :: r,h,i + 1,j + 1,hij,hj=>by
  exact lk_lt (lk_tail h) i j (by omega) (by simpa using hj)

theorem pos_le:∀ (ls:List Cat) (id:Int),posL ls id ≤ ls.length
 | [],_=>Nat.le_refl _
 | c :: r,id=>by
  unfold posL
  have:=pos_le r id
  split
  ·simp;omega
  ·exact Nat.zero_le _

theorem pos_lt:∀ (ls:List Cat) (id:Int) (i:Nat) (h:i < ls.length),i < posL ls id→ls[i].1 < id
 | [],_,i,h,_=>by simp at h
 | c :: r,id,i,h,hp=>by
  unfold posL at hp
  split at hp
  ·rename_i hc
   cases i with
   | zero=>exact hc
   | succ i=>simpa using pos_lt r id i (by simpa using h) (by omega)
  ·omega

theorem pos_at:∀ (ls:List Cat) (id:Int) (h:posL ls id < ls.length),¬ (ls[posL ls id]'h).1 < id
 | [],_,h=>by simp at h
 | c :: r,id,h=>by
  by_cases hc:c.1 < id
  ·have e:posL (c :: r) id = posL r id + 1:=by simp only [posL,if_pos hc]
   have h2:posL r id < r.length:=by simpa [e] using h
   have h3:=pos_at r id h2
   simp only [e,List.getElem_cons_succ]
   exact h3
  ·have e:posL (c :: r) id = 0:=by simp only [posL,if_neg hc]
   simp only [e,List.getElem_cons_zero]
   exact hc

theorem pos_ge {ls:List Cat} (hl:LkOk ls) (id:Int) (i:Nat) (h:i < ls.length) (hp:posL ls id ≤ i):¬ ls[i].1 < id:=by
 have h1:=pos_at ls id (by omega)
 rcases Nat.eq_or_lt_of_le hp with e | e
 ·simpa [e] using h1
 ·have:=lk_lt hl _ _ e h
  omega

/-- What a search finds. -/
theorem pos_of:∀ (ls:List Cat) (id:Int) (i:Nat),i ≤ ls.length→(∀ t (h:t < ls.length),t < i→ls[t].1 < id)→(∀ (h:i < ls.length),¬ ls[i].1 < id)→posL ls id = i
 | [],_,i,hi,_,_=>by simp at hi;simp [posL,hi]
 | c :: r,id,0,_,_,h2=>by
  have:=h2 (by simp)
  simp only [List.getElem_cons_zero] at this
  unfold posL
  rw [if_neg this]
 | c :: r,id,i + 1,hi,h1,h2=>by
  have h3:=h1 0 (by simp) (by omega)
  simp only [List.getElem_cons_zero] at h3
  unfold posL
  rw [if_pos h3,pos_of r id i (by simpa using hi) (fun t h ht=>h1 (t + 1) (Nat.succ_lt_succ h) (by omega)) (fun h=>h2 (Nat.succ_lt_succ h))]

theorem has_iff {ls:List Cat} (hl:LkOk ls) (id:Int):hasB ls id = true↔∃ h:posL ls id < ls.length,(ls[posL ls id]'h).1 = id:=by
 unfold hasB
 constructor
 ·intro h
  obtain ⟨c,hc,he⟩:=List.any_eq_true.1 h
  obtain ⟨i,hi,rfl⟩:=List.getElem_of_mem hc
  have he:ls[i].1 = id:=by simpa using he
  have h1:¬ i < posL ls id:=fun hp=>by have:=pos_lt ls id i hi hp;omega
  have h2:posL ls id < ls.length:=by omega
  refine ⟨h2,?_⟩
  rcases Nat.eq_or_lt_of_le (Nat.le_of_not_lt h1) with e | e
  ·simpa [e] using he
  ·have a:=lk_lt hl _ _ e hi
   have b:=pos_at ls id h2
   omega
 ·rintro ⟨h,he⟩
  exact List.any_eq_true.2 ⟨_,List.getElem_mem h,by simpa using he⟩

/-- What a search tells: whether it is there. -/
def foundB (ls:List Cat) (id:Int):Bool:=if h:posL ls id < ls.length then (ls[posL ls id]'h).1 == id else false
theorem found_has {ls:List Cat} (hl:LkOk ls) (id:Int):foundB ls id = hasB ls id:=by
 have h:=has_iff hl id
 unfold foundB
 by_cases hp:posL ls id < ls.length
 ·rw [dif_pos hp]
  by_cases he:(ls[posL ls id]'hp).1 = id
  ·rw [h.2 ⟨hp,he⟩];simp [he]
  ·have:hasB ls id ≠ true:=fun hh=>he (h.1 hh).2
   rw [Bool.eq_false_iff.2 this];simpa using he
 ·rw [dif_neg hp]
  have:hasB ls id ≠ true:=fun hh=>hp (h.1 hh).1
  exact (Bool.eq_false_iff.2 this).symm

theorem ins_length (ls:List Cat) (c:Cat):(insL ls c).length = ls.length + 1:=by
 have:=pos_le ls c.1
 simp [insL];omega
theorem rm_length {ls:List Cat} {id:Int} (h:posL ls id < ls.length):(rmL ls id).length = ls.length - 1:=by
 simp [rmL];omega

theorem used_ins (ls:List Cat) (c:Cat):usedL (insL ls c) = usedL ls + c.2:=by
 have h:=sumL_append (ls.take (posL ls c.1)) (ls.drop (posL ls c.1))
 rw [List.take_append_drop] at h
 unfold usedL insL
 rw [sumL_append,sumL_cons,h]
 omega

/-- Places in a list that has one more. -/
theorem ins_get0 {ls:List Cat} {p:Nat} (c:Cat) (hp:p ≤ ls.length) (i:Nat) (h:i < (ls.take p ++ c :: ls.drop p).length) :
  (ls.take p ++ c :: ls.drop p)[i] = if i < p then ls[i]! else if i = p then c else ls[i - 1]!:=by
 have hl:(ls.take p).length = p:=by simp;omega
 have hn:i < ls.length + 1:=by simp at h;omega
 by_cases h1:i < p
 ·rw [if_pos h1,List.getElem_append_left (by omega),List.getElem_take,getElem!_pos ls i (by omega)]
 ·rw [if_neg h1,List.getElem_append_right (by omega)]
  by_cases h2:i = p
  ·subst h2
   rw [if_pos rfl]
   simp [hl]
  ·rw [if_neg h2,getElem!_pos ls (i - 1) (by omega)]
   have e:i - (ls.take p).length = (i - 1 - p) + 1:=by omega
   simp only [e,List.getElem_cons_succ,List.getElem_drop]
   congr 1
   omega

theorem ins_get (ls:List Cat) (c:Cat) (i:Nat) (h:i < (insL ls c).length):(insL ls c)[i] = if i < posL ls c.1 then ls[i]! else if i = posL ls c.1 then c else ls[i - 1]!:=ins_get0 c (pos_le ls c.1) i h

theorem lk_ins {ls:List Cat} (hl:LkOk ls) (c:Cat) (h1:idOk c.1) (h2:btw 1 c.2 48) (hn:hasB ls c.1 = false):LkOk (insL ls c):=by
 have hp:=pos_le ls c.1
 have hlt:=fun i h=>pos_lt ls c.1 i h
 have hge:=fun i h=>pos_ge hl c.1 i h
 have hne:∀ i (h:i < ls.length),ls[i].1 ≠ c.1:=fun i h e=>by
  have:hasB ls c.1 = true:=List.any_eq_true.2 ⟨ls[i],List.getElem_mem h,by simpa using e⟩
  rw [hn] at this
  cases this
 have hL:=ins_length ls c
 constructor
 ·intro i hi
  rw [hL] at hi
  rw [ins_get ls c i]
  split
  ·rw [getElem!_pos ls i (by omega)];exact hl.each i (by omega)
  ·split
   ·exact ⟨h1,h2⟩
   ·rw [getElem!_pos ls (i - 1) (by omega)];exact hl.each (i - 1) (by omega)
 ·intro i hi
  rw [hL] at hi
  rw [ins_get ls c i,ins_get ls c (i + 1)]
  by_cases a:i < posL ls c.1
  ·rw [if_pos a,getElem!_pos ls i (by omega)]
   by_cases b:i + 1 < posL ls c.1
   ·rw [if_pos b,getElem!_pos ls (i + 1) (by omega)]
    exact hl.rise i (by omega)
   ·rw [if_neg b,if_pos (by omega)]
    exact hlt i (by omega) a
  ·have a2:¬ i + 1 < posL ls c.1:=by omega
   have a3:¬ i + 1 = posL ls c.1:=by omega
   rw [if_neg a,if_neg a2,if_neg a3]
   by_cases b:i = posL ls c.1
   ·rw [if_pos b,getElem!_pos ls (i + 1 - 1) (by omega)]
    have:=hge (i + 1 - 1) (by omega) (by omega)
    have:=hne (i + 1 - 1) (by omega)
    omega
   ·rw [if_neg b,getElem!_pos ls (i - 1) (by omega),getElem!_pos ls (i + 1 - 1) (by omega)]
    exact lk_lt hl (i - 1) (i + 1 - 1) (by omega) (by omega)

theorem rm_eq {ls:List Cat} {id:Int} (hp:posL ls id < ls.length):ls = ls.take (posL ls id) ++ ls[posL ls id] :: ls.drop (posL ls id + 1):=by simp

/-- The document's: all but those of that ID. -/
theorem rm_filter {ls:List Cat} (hl:LkOk ls) {id:Int} (hp:posL ls id < ls.length) (he:(ls[posL ls id]'hp).1 = id):ls.filter (fun c=>c.1 != id) = rmL ls id:=by
 have e:=congrArg (List.filter (fun c:Cat=>c.1 != id)) (rm_eq hp)
 rw [e,List.filter_append,List.filter_cons]
 have h1:((ls[posL ls id]'hp).1 != id) = false:=by simp [he]
 rw [h1]
 unfold rmL
 congr 1
 ·rw [List.filter_eq_self]
  intro c hc
  obtain ⟨i,hi,rfl⟩:=List.getElem_of_mem hc
  have hi2:i < posL ls id:=by simp at hi;omega
  have:=pos_lt ls id i (by omega) hi2
  rw [List.getElem_take]
  simp;omega
 ·simp only [Bool.false_eq_true,if_false]
  rw [List.filter_eq_self]
  intro c hc
  obtain ⟨i,hi,rfl⟩:=List.getElem_of_mem hc
  have hi2:posL ls id + 1 + i < ls.length:=by simp at hi;omega
  have:=lk_lt hl (posL ls id) (posL ls id + 1 + i) (by omega) hi2
  rw [List.getElem_drop]
  simp;omega

theorem sum_each:∀ {ls:List Cat} (_:∀ i (h:i < ls.length),1 ≤ ls[i].2∧ls[i].2 ≤ 48),(ls.length:Int) ≤ sumL ls∧sumL ls ≤ 48 * ls.length
 | [],_=>by simp [sumL]
 | c :: r,h=>by
  have h1:=h 0 (by simp)
  have h2:=sum_each (ls:=r) (fun i hi=>h (i + 1) (Nat.succ_lt_succ hi))
  rw [sumL_cons]
  simp at h1 ⊢
  omega

theorem lk_quota {ls:List Cat} (hl:LkOk ls):∀ i (h:i < ls.length),1 ≤ ls[i].2∧ls[i].2 ≤ 48:=fun i h=>(hl.each i h).2
/-- What Add answers. -/
def addT (t:Th) (id q:Int):Th × Int :=
 if hasB t.links id = true then (t,123) else if 16 ≤ t.links.length then (t,122) else if q < 1∨t.quota - usedL t.links < q then (t,121) else ({ t with links:=insL t.links (id,q) },0)
/-- What Fresh answers. -/
def freshT (t:Th):Int × Int:=if 63 ≤ t.next∨4398046511104 ≤ t.id then (0,125) else (t.id * 64 + t.next + 1,0)
/-- What Born answers: the directory, the name, the error. -/
def bornT (t:Th) (q:Int):Th × Int × Int :=
 if (freshT t).2 = 0 then (if (addT t (freshT t).1 q).2 = 0 then ({ (addT t (freshT t).1 q).1 with next:=t.next + 1 },(freshT t).1,0) else (t,0,(addT t (freshT t).1 q).2)) else (t,0,(freshT t).2)
/-- What Drop answers. -/
def dropT (t:Th) (id:Int):Th × Int:=if hasB t.links id = true then ({ t with links:=rmL t.links id },0) else (t,124)

/-- A directory that can be. -/
structure DirT (t:Th):Prop where
 kind:t.kind = 1
 right:RightT t

theorem DirT.ok {t:Th} (h:DirT t):DirOk t:=by
 rcases h.right.parts with h1 | h1 | h1 | h1 | h1 | h1
 ·exact h1.2
 all_goals (have:=h.kind;omega)

theorem DirT.bare {t:Th} (h:DirT t):t = { baseT t with next:=t.next,links:=t.links }:=by
 have:=h.right.same
 unfold ofK at this
 rw [if_pos h.kind] at this
 exact this

theorem DirT.with {t:Th} (h:DirT t) (n:Int) (ls:List Cat) (hn:btw 0 n 63) (h16:ls.length ≤ 16) (hl:LkOk ls) (hs:1 + sumL ls ≤ t.quota):DirT { t with next:=n,links:=ls }:=by
 refine ⟨h.kind,h.right.id,h.right.rgt,h.right.pu,?_,.inl ⟨h.kind,hn,h.ok.quota,h16,hl,hs⟩⟩
 have hb:=h.bare
 unfold ofK
 rw [if_pos h.kind]
 unfold baseT zeroT at hb ⊢
 cases t
 simp only [Th.mk.injEq] at hb ⊢
 simp only [true_and,and_true] at hb ⊢
 exact hb

theorem add_right {t:Th} (h:DirT t) {id q:Int} (hi:idOk id) (he:(addT t id q).2 = 0):DirT (addT t id q).1∧hasB t.links id = false∧(addT t id q).1 = { t with links:=insL t.links (id,q) }∧1 ≤ q∧q ≤ 48:=by
 have ho:=h.ok
 unfold addT at he ⊢
 split at he
 ·cases he
 ·rename_i h1
  split at he
  ·cases he
  ·rename_i h2
   split at he
   ·cases he
   ·rename_i h3
    rw [if_neg h1,if_neg h2,if_neg h3]
    have hq:=ho.quota
    have hs:=(sum_each (lk_quota ho.lk)).1
    unfold btw at hq
    unfold usedL at h3
    have h5:=used_ins t.links (id,q)
    unfold usedL at h5
    simp only at h5
    have hn:hasB t.links id = false:=Bool.eq_false_iff.2 h1
    have hq48:q ≤ 48:=by omega
    refine ⟨?_,hn,rfl,by omega,hq48⟩
    exact h.with t.next _ ho.next (by rw [ins_length];omega) (lk_ins ho.lk (id,q) hi ⟨by show 1 ≤ q;omega,hq48⟩ hn) (by omega)

theorem fresh_ok {t:Th} (h:DirT t) (he:(freshT t).2 = 0):t.next ≤ 62∧t.id ≤ 4398046511103∧(freshT t).1 = t.id * 64 + t.next + 1∧idOk (freshT t).1:=by
 have hn:=h.ok.next
 have hi:=h.right.id
 unfold btw at hn
 unfold idOk at hi
 unfold freshT at he ⊢
 split at he
 ·cases he
 ·rename_i h1
  rw [if_neg h1]
  refine ⟨by omega,by omega,rfl,?_⟩
  unfold idOk
  show 1 ≤ t.id * 64 + t.next + 1∧t.id * 64 + t.next + 1 ≤ 281474976710655
  omega

theorem born_ok {t:Th} {q:Int} (he:(bornT t q).2.2 = 0):(freshT t).2 = 0∧(addT t (freshT t).1 q).2 = 0∧bornT t q = ({ (addT t (freshT t).1 q).1 with next:=t.next + 1 },(freshT t).1,0):=by
 unfold bornT at he ⊢
 by_cases h1:(freshT t).2 = 0
 ·rw [if_pos h1] at he ⊢
  by_cases h2:(addT t (freshT t).1 q).2 = 0
  ·rw [if_pos h2];exact ⟨h1,h2,rfl⟩
  ·rw [if_neg h2] at he;exact absurd he h2
 ·rw [if_neg h1] at he
  exact absurd he h1

theorem born_right {t:Th} (h:DirT t) {q:Int} (he:(bornT t q).2.2 = 0):DirT (bornT t q).1∧(bornT t q).1 = { t with next:=t.next + 1,links:=insL t.links ((bornT t q).2.1,q) }∧(bornT t q).2.1 = t.id * 64 + t.next + 1∧t.next ≤ 62∧idOk (bornT t q).2.1∧hasB t.links (bornT t q).2.1 = false∧1 ≤ q∧q ≤ 48:=by
 obtain ⟨h1,h2,h3⟩:=born_ok he
 obtain ⟨f1,f2,f3,f4⟩:=fresh_ok h h1
 obtain ⟨a1,a2,a3,a4,a5⟩:=add_right h f4 h2
 rw [h3]
 have e:({ (addT t (freshT t).1 q).1 with next:=t.next + 1 }:Th) = { t with next:=t.next + 1,links:=insL t.links ((freshT t).1,q) }:=by rw [a3]
 refine ⟨?_,e,f3,f1,f4,a2,a4,a5⟩
 show DirT { (addT t (freshT t).1 q).1 with next:=t.next + 1 }
 have hn:=h.ok.next
 unfold btw at hn
 have:=a1.with (t.next + 1) (addT t (freshT t).1 q).1.links (by unfold btw;omega) a1.ok.len a1.ok.lk a1.ok.sum
 exact this

end Go.Proofs.Ytgmfofngmfekbaa

namespace Go.Proofs.Ytgmfofngmfekbaa
set_option linter.unusedVariables false
set_option linter.unusedSimpArgs false
set_option maxRecDepth 20000
open Go.RowKit

/-- A thing's cells. -/
def thC (t:Th) (uL uC uK uD:Value):List Value :=
 [.int .u64 t.id,.int .i64 t.kind,.int .i64 t.df,uL,.int .i64 t.cdf,uC,.int .i64 t.quota,.int .i64 t.next,uK,uD,.int .u64 t.r0,.int .u64 t.r1,.int .u64 t.r2,.int .u64 t.r3,.int .i64 t.minted,.int .i64 t.boot,.bool t.halted,.int .u64 t.value,
 .int .u64 t.s0,.int .u64 t.s1,.int .u64 t.s2,.int .u64 t.s3,.int .u64 t.s4,.int .u64 t.s5,.int .u64 t.s6,.int .u64 t.s7]

/-- A thing as a value. -/
def thV (t:Th) (uL uC uK uD:Value):Value:=.agg (thC t uL uC uK uD).toArray

/-- Bytes in blocks of the class X. -/
def BSl (X:Nat→Prop) (w:World) (v:Value) (bs:List UInt8):Prop:=Slp X w v bs.length (bs.map bv)

theorem BSl.form {X:Nat→Prop} {w:World} {v:Value} {bs:List UInt8} (h:BSl X w v bs):∃ ao cap,v = .slice ao bs.length cap∧bs.length ≤ cap∧cap ≤ 9223372036854775807:=by
 obtain ⟨ao,cap,rfl,⟨h1,h2⟩,_⟩:=h
 exact ⟨ao,cap,rfl,h1,h2⟩

theorem BSl.keep {X X':Nat→Prop} {w w':World} {v:Value} {bs:List UInt8} (h:BSl X w v bs) {T:Nat→Prop} (hf:Fr T w w') (hT:∀ b,X b→b < w.heap.size→¬ T b) (hX:∀ b,X b→b < w.heap.size→X' b):BSl X' w' v bs:=by
 obtain ⟨ao,cap,hv,hc,hn,hcs⟩:=h
 refine ⟨ao,cap,hv,hc,hn,fun i c hi=>?_⟩
 obtain ⟨b,off,h1,h2,h3⟩:=hcs i c hi
 have hb:b < w.heap.size:=World.block_lt_of_cell? w _ h3
 exact ⟨b,off,h1,hX b h2 hb,by rw [World.cell?_of_block (w:=w) (hf.block b hb (hT b h2 hb))];exact h3⟩

theorem BSl.nw {X:Nat→Prop} {w w':World} {v:Value} {bs:List UInt8} (h:BSl X w v bs) (hf:Nw w w'):BSl X w' v bs:=h.keep hf (fun _ _ _=>id) (fun _ h _=>h)
theorem BSl.mono {X X':Nat→Prop} {w:World} {v:Value} {bs:List UInt8} (h:BSl X w v bs) (hX:∀ b,X b→b < w.heap.size→X' b):BSl X' w v bs:=h.keep (Fr.refl (fun _=>False) w) (fun _ _ _=>id) hX
theorem BSl.sl {X:Nat→Prop} {w:World} {v:Value} {bs:List UInt8} (h:BSl X w v bs):Sl w.heap.size w v bs.length (bs.map bv):=by
 obtain ⟨ao,cap,hv,hc,hn,hcs⟩:=h
 refine ⟨ao,cap,hv,hc,hn,fun i c hi=>?_⟩
 obtain ⟨b,off,h1,h2,h3⟩:=hcs i c hi
 exact ⟨b,off,h1,World.block_lt_of_cell? w _ h3,h3⟩
theorem bsl_of_sl {K:Nat} {w:World} {v:Value} {bs:List UInt8} (h:Sl K w v bs.length (bs.map bv)):BSl (fun b=>b < K) w v bs:=h

theorem bsl_nil (X:Nat→Prop) (w:World):BSl X w (.slice none 0 0) []:=⟨none,0,rfl,⟨Nat.le_refl _,Nat.zero_le _⟩,fun _=>rfl,fun i c h=>by simp at h⟩

/-- What a thing's lists hold. -/
structure ThAt (X:Nat→Prop) (w:World) (t:Th) (uL uC uK uD:Value):Prop where
 l:CSl X w uL t.cats
 c:CSl X w uC t.ccats
 k:CSl X w uK t.links
 d:BSl X w uD t.data

theorem ThAt.keep {X X':Nat→Prop} {w w':World} {t:Th} {uL uC uK uD:Value} (h:ThAt X w t uL uC uK uD) {T:Nat→Prop} (hf:Fr T w w') (hT:∀ b,X b→b < w.heap.size→¬ T b) (hX:∀ b,X b→b < w.heap.size→X' b):ThAt X' w' t uL uC uK uD :=
 ⟨h.l.keep hf hT hX,h.c.keep hf hT hX,h.k.keep hf hT hX,h.d.keep hf hT hX⟩
theorem ThAt.nw {X:Nat→Prop} {w w':World} {t:Th} {uL uC uK uD:Value} (h:ThAt X w t uL uC uK uD) (hf:Nw w w'):ThAt X w' t uL uC uK uD:=h.keep hf (fun _ _ _=>id) (fun _ h _=>h)
theorem ThAt.mono {X X':Nat→Prop} {w:World} {t:Th} {uL uC uK uD:Value} (h:ThAt X w t uL uC uK uD) (hX:∀ b,X b→b < w.heap.size→X' b):ThAt X' w t uL uC uK uD:=h.keep (Fr.refl (fun _=>False) w) (fun _ _ _=>id) hX

theorem Try.rowT:(Try.prog.underlying 34).map TypeDesc.isRow = some true:=by kernel_rfl
theorem Try.sizeT:(Try.prog.info? 34).map (·.size) = some 26:=by kernel_rfl
theorem Try.zeroTh:(Try.prog.info? 34).bind (·.zero) = some (thV zeroT (.slice none 0 0) (.slice none 0 0) (.slice none 0 0) (.slice none 0 0)):=by kernel_rfl
theorem Try.row4:(Try.prog.underlying 29).map TypeDesc.isRow = some true:=by kernel_rfl
theorem Try.size4:(Try.prog.info? 29).map (·.size) = some 4:=by kernel_rfl
theorem Try.row8:(Try.prog.underlying 32).map TypeDesc.isRow = some true:=by kernel_rfl
theorem Try.size8:(Try.prog.info? 32).map (·.size) = some 8:=by kernel_rfl

theorem Try.rowF:(Try.prog.underlying 97).map TypeDesc.isRow = some true:=by kernel_rfl
theorem Try.sizeF:(Try.prog.info? 97).map (·.size) = some 22:=by kernel_rfl

/-- All of a thing but its lists. -/
def flC (t:Th):List Value :=
 [.int .u64 t.id,.int .i64 t.kind,.int .i64 t.quota,.int .i64 t.df,.int .i64 t.cdf,.int .i64 t.next,.int .u64 t.r0,.int .u64 t.r1,.int .u64 t.r2,.int .u64 t.r3,.int .i64 t.minted,.int .i64 t.boot,.bool t.halted,.int .u64 t.value,
 .int .u64 t.s0,.int .u64 t.s1,.int .u64 t.s2,.int .u64 t.s3,.int .u64 t.s4,.int .u64 t.s5,.int .u64 t.s6,.int .u64 t.s7]
end Go.Proofs.Ytgmfofngmfekbaa

namespace Go.Proofs.Ytgmfofngmfekbaa
set_option linter.unusedVariables false
set_option linter.unusedSimpArgs false
set_option maxRecDepth 20000
open Go.RowKit

def flZ:List Value :=
 [.int .u64 0,.int .i64 0,.int .i64 0,.int .i64 0,.int .i64 0,.int .i64 0,.int .u64 0,.int .u64 0,.int .u64 0,.int .u64 0,.int .i64 0,.int .i64 0,.bool false,.int .u64 0,
 .int .u64 0,.int .u64 0,.int .u64 0,.int .u64 0,.int .u64 0,.int .u64 0,.int .u64 0,.int .u64 0]
theorem Try.zeroFl:(Try.prog.info? 97).bind (·.zero) = some (.agg flZ.toArray):=by kernel_rfl

def rgC (t:Th):List Value:=[.int .u64 t.r0,.int .u64 t.r1,.int .u64 t.r2,.int .u64 t.r3]
def slC (t:Th):List Value:=[.int .u64 t.s0,.int .u64 t.s1,.int .u64 t.s2,.int .u64 t.s3,.int .u64 t.s4,.int .u64 t.s5,.int .u64 t.s6,.int .u64 t.s7]
def rgV (t:Th):Value:=.agg (rgC t).toArray
def slV (t:Th):Value:=.agg (slC t).toArray
def flV (t:Th):Value:=.agg (flC t).toArray

theorem builtFl (t:Th):Try.prog.built 97 [(0,.int .u64 t.id),(1,.int .i64 t.kind),(2,.int .i64 t.quota),(3,.int .i64 t.df),(4,.int .i64 t.cdf),(5,.int .i64 t.next),(6,rgV t),(7,.int .i64 t.minted),(8,.int .i64 t.boot),(9,.bool t.halted),(10,.int .u64 t.value),(11,slV t)] = some (flC t).toArray:=by kernel_rfl

set_option maxHeartbeats 1600000 in
theorem c_flatOf (t:Th) (uL uC uK uD:Value) (w:World) :
  Calls Try.prog 76 #[thV t uL uC uK uD] w fun e w'=>e = .returned (flV t)∧Nw w w':=by
 obtain ⟨W,hW⟩:∃ W,Hid (W = w.alloc (.cells (thC t uL uC uK uD).toArray 34)):=⟨_,rfl⟩
 have nW:Nw w W:=by rw [hW.out];exact nw_alloc (nw_refl w) _
 have hA:W.heap[w.heap.size]? = some (.cells (thC t uL uC uK uD).toArray 34 (0,0)):=by rw [hW.out];exact heap_alloc_new w _
 have a0:W.cell? ⟨w.heap.size,0,none⟩ = some (.int .u64 t.id):=cell_blk hA rfl
 have a1:W.cell? ⟨w.heap.size,1,none⟩ = some (.int .i64 t.kind):=cell_blk hA rfl
 have a2:W.cell? ⟨w.heap.size,2,none⟩ = some (.int .i64 t.df):=cell_blk hA rfl
 have a4:W.cell? ⟨w.heap.size,4,none⟩ = some (.int .i64 t.cdf):=cell_blk hA rfl
 have a6:W.cell? ⟨w.heap.size,6,none⟩ = some (.int .i64 t.quota):=cell_blk hA rfl
 have a7:W.cell? ⟨w.heap.size,7,none⟩ = some (.int .i64 t.next):=cell_blk hA rfl
 have a14:W.cell? ⟨w.heap.size,14,none⟩ = some (.int .i64 t.minted):=cell_blk hA rfl
 have a15:W.cell? ⟨w.heap.size,15,none⟩ = some (.int .i64 t.boot):=cell_blk hA rfl
 have a16:W.cell? ⟨w.heap.size,16,none⟩ = some (.bool t.halted):=cell_blk hA rfl
 have a17:W.cell? ⟨w.heap.size,17,none⟩ = some (.int .u64 t.value):=cell_blk hA rfl
 have h4:W.rangeAt w.heap.size 10 (rgC t):=range_blk hA 10 _ (fun j v hj=>by rcases j with _ | _ | _ | _ | j <;> first | exact hj | (simp [rgC] at hj;done))
 have h8:W.rangeAt w.heap.size 18 (slC t):=range_blk hA 18 _ (fun j v hj=>by rcases j with _ | _ | _ | _ | _ | _ | _ | _ | j <;> first | exact hj | (simp [slC] at hj;done))
 have hs:W.heap.size = w.heap.size + 1:=by rw [hW.out];simp
 obtain ⟨W2,hW2⟩:∃ W2,Hid (W2 = W.alloc (.cells flZ.toArray 97)):=⟨_,rfl⟩
 have n2:Nw W W2:=by rw [hW2.out];exact nw_alloc (nw_refl W) _
 have hB:W2.heap[W.heap.size]? = some (.cells flZ.toArray 97 (0,0)):=by rw [hW2.out];exact heap_alloc_new W _
 have keep:∀ k v,W.cell? ⟨w.heap.size,k,none⟩ = some v→W2.cell? ⟨w.heap.size,k,none⟩ = some v:=fun k v h=>by rw [World.cell?_of_block (w:=W) (n2.block _ (heap_lt hA) (fun h=>h))];exact h
 replace a0:=keep _ _ a0;replace a1:=keep _ _ a1;replace a2:=keep _ _ a2;replace a4:=keep _ _ a4;replace a6:=keep _ _ a6;replace a7:=keep _ _ a7;replace a14:=keep _ _ a14;replace a15:=keep _ _ a15;replace a16:=keep _ _ a16;replace a17:=keep _ _ a17
 replace h4:W2.rangeAt w.heap.size 10 (rgC t):=fun j v hj=>keep _ _ (h4 j v hj)
 replace h8:W2.rangeAt w.heap.size 18 (slC t):=fun j v hj=>keep _ _ (h8 j v hj)
 clear keep
 have hfin:(W2.setRow W.heap.size (flC t).toArray).rangeAt W.heap.size 0 (flC t)∧Nw w (W2.setRow W.heap.size (flC t).toArray):=⟨range_all (setRow_heap _ _ _ _ _ _ hB),Fr.setRow (nw_trans nW n2) (.inr nW.size) _⟩
 replace hfin:Hid _:=hfin
 go_enter Try.func76,Try.ntmps76
 go_upto_region 1 with (first | (refine wpList_box_agg rfl 34 _ rfl (thV t uL uC uK uD) _ rfl rfl ?_;rw [← hW.out]) | (refine wpList_alloc_agg rfl 97 rfl _ Try.zeroFl ?_;rw [← hW2.out]))
 go_wp2_with (first
  | (refine wpList_load_as rfl 29 _ rfl w.heap.size 10 rfl (rgV t) _ rfl h4 Try.row4 Try.size4 ?_)
  | (refine wpList_load_as rfl 32 _ rfl w.heap.size 18 rfl (slV t) _ rfl h8 Try.row8 Try.size8 ?_;refine stop_here ?_))
 unfold Hid
 refine wpList_build_as rfl 97 _ rfl (flV t) (flC t).toArray rfl ?z ?_
 case z =>
  simp only [List.map_cons,List.map_nil,Act.eval]
  exact builtFl t
 refine wpList_store_all rfl 97 _ _ rfl W.heap.size (by rw [hs];rfl) (flV t) rfl (flC t) rfl flZ 97 hB rfl (by unfold flC;simp [Value.oneCell']) Try.sizeF ?_
 go_wp2
 refine bodyPost_ret (results_cell1 rfl _ W.heap.size _ (flV t) rfl (by rw [hs];rfl) hfin.out.1 Try.rowF Try.sizeF) rfl ?_
 exact ⟨rfl,hfin.out.2⟩

theorem Try.cells64:Try.prog.cellsOf 23 = 1:=by kernel_rfl
theorem Try.cellsSlot:Try.prog.cellsOf 31 = 2:=by kernel_rfl

theorem eq4 (d:Nat) (a0 a1 a2 a3 b0 b1 b2 b3:Int) (w:World) :
  (Op.equalIn (d + 2) 29 (.agg #[.int .u64 a0,.int .u64 a1,.int .u64 a2,.int .u64 a3]) (.agg #[.int .u64 b0,.int .u64 b1,.int .u64 b2,.int .u64 b3])).run Try.prog w = .ok (a0 == b0 && (a1 == b1 && (a2 == b2 && a3 == b3))) w:=by
 obtain ⟨i,hi⟩:=info_of_underlying (P:=Try.prog) Try.underlying23
 rw [run_equalIn_array w (d + 1) _ _ Try.underlying29 hi,Try.cells64,show List.range 4 = [0,1,2,3] from rfl]
 simp [go_sem,Op.eqItems]
 by_cases h0:a0 = b0 <;> by_cases h1:a1 = b1 <;> by_cases h2:a2 = b2 <;> by_cases h3:a3 = b3 <;> simp [h0,h1,h2,h3]

theorem eq8 (d:Nat) (a0 a1 a2 a3 a4 a5 a6 a7 b0 b1 b2 b3 b4 b5 b6 b7:Int) (w:World) :
  (Op.equalIn (d + 3) 32 (.agg #[.int .u64 a0,.int .u64 a1,.int .u64 a2,.int .u64 a3,.int .u64 a4,.int .u64 a5,.int .u64 a6,.int .u64 a7]) (.agg #[.int .u64 b0,.int .u64 b1,.int .u64 b2,.int .u64 b3,.int .u64 b4,.int .u64 b5,.int .u64 b6,.int .u64 b7])).run Try.prog w
   = .ok ((a0 == b0 && a1 == b1) && ((a2 == b2 && a3 == b3) && ((a4 == b4 && a5 == b5) && (a6 == b6 && a7 == b7)))) w:=by
 obtain ⟨i,hi⟩:=info_of_underlying (P:=Try.prog) Try.underlying31
 rw [run_equalIn_array w (d + 2) _ _ Try.underlying32 hi,Try.cellsSlot,show List.range 4 = [0,1,2,3] from rfl]
 simp [go_sem,Op.eqItems]
 by_cases h0:a0 = b0
 ·by_cases h1:a1 = b1
  ·by_cases h2:a2 = b2
   ·by_cases h3:a3 = b3
    ·by_cases h4:a4 = b4
     ·by_cases h5:a5 = b5
      ·by_cases h6:a6 = b6
       ·by_cases h7:a7 = b7 <;> simp [h0,h1,h2,h3,h4,h5,h6,h7]
       ·simp [h0,h1,h2,h3,h4,h5,h6]
      ·simp [h0,h1,h2,h3,h4,h5]
     ·simp [h0,h1,h2,h3,h4]
    ·simp [h0,h1,h2,h3]
   ·simp [h0,h1,h2]
  ·simp [h0,h1]
 ·simp [h0]

def e4 (t u:Th):Bool:=t.r0 == u.r0 && (t.r1 == u.r1 && (t.r2 == u.r2 && t.r3 == u.r3))
def e8 (t u:Th):Bool:=(t.s0 == u.s0 && t.s1 == u.s1) && ((t.s2 == u.s2 && t.s3 == u.s3) && ((t.s4 == u.s4 && t.s5 == u.s5) && (t.s6 == u.s6 && t.s7 == u.s7)))
def eFl (t u:Th):Bool:=t.id == u.id && (t.kind == u.kind && (t.quota == u.quota && (t.df == u.df && (t.cdf == u.cdf && (t.next == u.next && (e4 t u && (t.minted == u.minted && (t.boot == u.boot && (t.halted == u.halted && (t.value == u.value && e8 t u))))))))))

theorem eFl_iff (t u:Th):eFl t u = true↔flC t = flC u:=by simp [eFl,e4,e8,flC,and_assoc]

theorem run_eq_flat (t u:Th) (w:World):(binOp .eql 97 (flV t) (flV u)).run Try.prog w = .ok (.bool (eFl t u)) w:=by
 have k4:∀ d w,(Op.equalIn (d + 2) 29 (.agg #[.int .u64 t.r0,.int .u64 t.r1,.int .u64 t.r2,.int .u64 t.r3]) (.agg #[.int .u64 u.r0,.int .u64 u.r1,.int .u64 u.r2,.int .u64 u.r3])).run Try.prog w = .ok (e4 t u) w:=fun d w=>eq4 d _ _ _ _ _ _ _ _ w
 have k8:∀ d w,(Op.equalIn (d + 3) 32 (.agg #[.int .u64 t.s0,.int .u64 t.s1,.int .u64 t.s2,.int .u64 t.s3,.int .u64 t.s4,.int .u64 t.s5,.int .u64 t.s6,.int .u64 t.s7]) (.agg #[.int .u64 u.s0,.int .u64 u.s1,.int .u64 u.s2,.int .u64 u.s3,.int .u64 u.s4,.int .u64 u.s5,.int .u64 u.s6,.int .u64 u.s7])).run Try.prog w = .ok (e8 t u) w:=fun d w=>eq8 d _ _ _ _ _ _ _ _ _ _ _ _ _ _ _ _ w
 unfold flV flC eFl
 simp [go_sem,k4,k8]
 by_cases h0:t.id = u.id
 ·by_cases h1:t.kind = u.kind
  ·by_cases h2:t.quota = u.quota
   ·by_cases h3:t.df = u.df
    ·by_cases h4:t.cdf = u.cdf
     ·by_cases h5:t.next = u.next
      ·by_cases h6:e4 t u = true
       ·by_cases h7:t.minted = u.minted
        ·by_cases h8:t.boot = u.boot
         ·by_cases h9:t.halted = u.halted
          ·by_cases h10:t.value = u.value
           ·by_cases h11:e8 t u = true
            ·simp [h0,h1,h2,h3,h4,h5,h6,h7,h8,h9,h10,h11]
            ·have h11:e8 t u = false:=by simpa using h11
             simp [h0,h1,h2,h3,h4,h5,h6,h7,h8,h9,h10,h11]
           ·simp [h0,h1,h2,h3,h4,h5,h6,h7,h8,h9,h10]
          ·simp [h0,h1,h2,h3,h4,h5,h6,h7,h8,h9]
         ·simp [h0,h1,h2,h3,h4,h5,h6,h7,h8]
        ·simp [h0,h1,h2,h3,h4,h5,h6,h7]
       ·have h6:e4 t u = false:=by simpa using h6
        simp [h0,h1,h2,h3,h4,h5,h6]
      ·simp [h0,h1,h2,h3,h4,h5]
     ·simp [h0,h1,h2,h3,h4]
    ·simp [h0,h1,h2,h3]
   ·simp [h0,h1,h2]
  ·simp [h0,h1]
 ·simp [h0]
end Go.Proofs.Ytgmfofngmfekbaa
