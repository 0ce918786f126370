/-
  Plain mathematics of layer 11: things, which of them can be, and their images. It names nothing of the program.
-/
import Derived.Test.YtghlilncdfiojaaCodecS
import Derived.Test.YtghlilncdfiojaaLabS
import Derived.Test.YtghlilncdfiojaaThA0S
import Derived.Test.YtghlilncdfiojaaNumCanS
namespace Go.Proofs.Ytghlilncdfiojaa
set_option linter.unusedVariables false
set_option linter.unusedSimpArgs false
set_option maxRecDepth 20000
open Go.RowKit

/-- A thing. -/
structure Th where
 id:Int
 kind:Int
 df:Int
 cats:List Cat
 cdf:Int
 ccats:List Cat
 quota:Int
 next:Int
 links:List Cat
 data:List UInt8
 r0:Int
 r1:Int
 r2:Int
 r3:Int
 minted:Int
 boot:Int
 halted:Bool
 value:Int
 s0:Int
 s1:Int
 s2:Int
 s3:Int
 s4:Int
 s5:Int
 s6:Int
 s7:Int

def zeroT:Th:=⟨0,0,0,[],0,[],0,0,[],[],0,0,0,0,0,0,false,0,0,0,0,0,0,0,0,0⟩

/-- What every kind has. -/
def baseT (t:Th):Th:={ zeroT with id:=t.id,kind:=t.kind,df:=t.df,cats:=t.cats,quota:=t.quota }

/-- No more than what its kind has. -/
def ofK (t:Th):Th :=
 if t.kind = 1 then { baseT t with next:=t.next,links:=t.links }
 else if t.kind = 2 then { baseT t with cdf:=t.cdf,ccats:=t.ccats,r0:=t.r0,r1:=t.r1,r2:=t.r2,r3:=t.r3,minted:=t.minted,boot:=t.boot,halted:=t.halted }
 else if t.kind = 3 then { baseT t with cdf:=t.cdf,ccats:=t.ccats,value:=t.value }
 else if t.kind = 4 then { baseT t with data:=t.data }
 else if t.kind = 5 then { baseT t with s0:=t.s0,s1:=t.s1,s2:=t.s2,s3:=t.s3,s4:=t.s4,s5:=t.s5,s6:=t.s6,s7:=t.s7 }
 else baseT t

/-- All but what its kind has. -/
def bareK (t:Th):Th :=
 if t.kind = 1 then { t with next:=0,links:=[] }
 else if t.kind = 2 then { t with cdf:=0,ccats:=[],r0:=0,r1:=0,r2:=0,r3:=0,minted:=0,boot:=0,halted:=false }
 else if t.kind = 3 then { t with cdf:=0,ccats:=[],value:=0 }
 else if t.kind = 4 then { t with data:=[] }
 else if t.kind = 5 then { t with s0:=0,s1:=0,s2:=0,s3:=0,s4:=0,s5:=0,s6:=0,s7:=0 }
 else t

theorem bare_iff (t:Th):bareK t = baseT t↔t = ofK t:=by
 cases t
 simp only [bareK,ofK,baseT,zeroT]
 split
 ·simp
 ·split
  ·simp
  ·split
   ·simp
   ·split
    ·simp
    ·split <;> simp

def idOk (x:Int):Prop:=1 ≤ x∧x ≤ 281474976710655
def btw (a x b:Int):Prop:=a ≤ x∧x ≤ b
def sumL (ls:List Cat):Int:=(ls.map (·.2)).sum

/-- Links as they must be. -/
structure LkOk (ls:List Cat):Prop where
 each:∀ i (h:i < ls.length),idOk ls[i].1∧btw 1 ls[i].2 48
 rise:∀ i (h:i + 1 < ls.length),ls[i].1 < ls[i + 1].1

structure DirOk (t:Th):Prop where
 next:btw 0 t.next 63
 quota:btw 1 t.quota 48
 len:t.links.length ≤ 16
 lk:LkOk t.links
 sum:1 + sumL t.links ≤ t.quota

def can (x:Int):Prop:=Num.canonV x = x

structure ThrOk (t:Th):Prop where
 quota:t.quota = 1
 rgt:Rgt t.cdf t.ccats
 pu:Pu t.cdf t.ccats
 regs:can t.r0∧can t.r1∧can t.r2∧can t.r3
 minted:btw 0 t.minted 31
 boot:btw 0 t.boot 255

structure GatOk (t:Th):Prop where
 quota:t.quota = 1
 rgt:Rgt t.cdf t.ccats
 pu:Pu t.cdf t.ccats
 value:can t.value

structure SegOk (t:Th):Prop where
 lo:32 ≤ t.data.length
 hi:t.data.length ≤ 128
 whole:t.data.length % 32 = 0
 quota:t.quota = 1 + (t.data.length / 32:Nat)

def slOk (d s:Int):Prop:=(d = 0∧s = 0)∨(idOk d∧idOk s)

structure SpcOk (t:Th):Prop where
 quota:t.quota = 1
 slots:slOk t.s0 t.s1∧slOk t.s2 t.s3∧slOk t.s4 t.s5∧slOk t.s6 t.s7

def KindOk (t:Th):Prop:=(t.kind = 1∧DirOk t)∨(t.kind = 2∧ThrOk t)∨(t.kind = 3∧GatOk t)∨(t.kind = 4∧SegOk t)∨(t.kind = 5∧SpcOk t)∨(t.kind = 6∧t.quota = 1)

/-- Can it be? -/
structure RightT (t:Th):Prop where
 id:idOk t.id
 rgt:Rgt t.df t.cats
 pu:t.kind = 2∨t.kind = 3∨Pu t.df t.cats
 same:t = ofK t
 parts:KindOk t

/-- Numbers that fit their types. -/
structure WfT (t:Th):Prop where
 r0:0 ≤ t.r0∧t.r0 < 18446744073709551616
 r1:0 ≤ t.r1∧t.r1 < 18446744073709551616
 r2:0 ≤ t.r2∧t.r2 < 18446744073709551616
 r3:0 ≤ t.r3∧t.r3 < 18446744073709551616
 value:0 ≤ t.value∧t.value < 18446744073709551616

theorem wf_zero:WfT zeroT:=⟨by decide,by decide,by decide,by decide,by decide⟩

def pairB (k:Nat) (cs:List Cat):List UInt8:=cs.flatMap fun c=>be 8 c.1.toNat ++ be k c.2.toNat
def labB (d:Int) (cs:List Cat):List UInt8:=be 1 d.toNat ++ pairB 1 cs

def nF (x:Int):Fld:=⟨x.toNat,[]⟩
def bF (b:List UInt8):Fld:=⟨0,b⟩

def tailL (k:Int):List UInt8 :=
 if k = 1 then [50,98] else if k = 2 then [98,56,56,56,56,49,49,49] else if k = 3 then [98,56] else if k = 4 then [98] else if k = 5 then [56,56,56,56,56,56,56,56] else []
def shL (k:Int):List UInt8:=[56,49,98,50] ++ tailL k

def headF (t:Th):List Fld:=[nF t.id,nF t.kind,bF (labB t.df t.cats),nF t.quota]
def partF (t:Th):List Fld :=
 if t.kind = 1 then [nF t.next,bF (pairB 2 t.links)]
 else if t.kind = 2 then [bF (labB t.cdf t.ccats),nF t.r0,nF t.r1,nF t.r2,nF t.r3,nF t.minted,nF t.boot,nF (if t.halted then 1 else 0)]
 else if t.kind = 3 then [bF (labB t.cdf t.ccats),nF t.value]
 else if t.kind = 4 then [bF t.data]
 else if t.kind = 5 then [nF t.s0,nF t.s1,nF t.s2,nF t.s3,nF t.s4,nF t.s5,nF t.s6,nF t.s7]
 else []
def flds (t:Th):List Fld:=headF t ++ partF t
def imgO (t:Th):Option (List UInt8):=pack (shL t.kind) (flds t)

def sizeT (t:Th):Nat:=14 + 9 * t.cats.length +
 (if t.kind = 1 then 4 + 10 * t.links.length else if t.kind = 2 then 38 + 9 * t.ccats.length else if t.kind = 3 then 11 + 9 * t.ccats.length else if t.kind = 4 then 2 + t.data.length else if t.kind = 5 then 64 else 0)

theorem pairB_length (k:Nat) (cs:List Cat):(pairB k cs).length = (8 + k) * cs.length:=by
 induction cs with
 | nil=>rfl
 | cons c cs ih =>
  have e:pairB k (c :: cs) = (be 8 c.1.toNat ++ be k c.2.toNat) ++ pairB k cs:=rfl
  rw [e,List.length_append,ih,List.length_append,be_length,be_length,List.length_cons,Nat.mul_add]
  omega

theorem labB_length (d:Int) (cs:List Cat):(labB d cs).length = 1 + 9 * cs.length:=by
 unfold labB
 rw [List.length_append,be_length,pairB_length]

theorem be_inj {k:Nat} {a b:Int} (h:be k a.toNat = be k b.toNat) (ha:0 ≤ a) (hb:0 ≤ b) (ha':a.toNat < 256 ^ k) (hb':b.toNat < 256 ^ k):a = b:=by
 have:=congrArg val h
 rw [val_be k _ ha',val_be k _ hb'] at this
 omega

/-- Numbers that fit their bytes. -/
def FitsB (k:Nat) (cs:List Cat):Prop:=∀ i (h:i < cs.length),0 ≤ cs[i].1∧cs[i].1.toNat < 256 ^ 8∧0 ≤ cs[i].2∧cs[i].2.toNat < 256 ^ k

theorem fits_tail {k:Nat} {c:Cat} {cs:List Cat} (h:FitsB k (c :: cs)):FitsB k cs:=fun i hi=>h (i + 1) (by simpa using hi)

theorem pairB_inj {k:Nat}:∀ {a b:List Cat},FitsB k a→FitsB k b→pairB k a = pairB k b→a = b
 | [],[],_,_,_=>rfl
 | [],d :: b,_,_,h=>by
  have:=congrArg List.length h
  rw [pairB_length,pairB_length,List.length_nil,List.length_cons] at this
  have:0 < (8 + k) * (b.length + 1):=Nat.mul_pos (by omega) (by omega)
  omega
 | c :: a,[],_,_,h=>by
  have:=congrArg List.length h
  rw [pairB_length,pairB_length,List.length_nil,List.length_cons] at this
  have:0 < (8 + k) * (a.length + 1):=Nat.mul_pos (by omega) (by omega)
  omega
 | c :: a,d :: b,ha,hb,h=>by
  have e:(be 8 c.1.toNat ++ (be k c.2.toNat ++ pairB k a)) = (be 8 d.1.toNat ++ (be k d.2.toNat ++ pairB k b)):=by
   have:(be 8 c.1.toNat ++ be k c.2.toNat) ++ pairB k a = (be 8 d.1.toNat ++ be k d.2.toNat) ++ pairB k b:=h
   rw [List.append_assoc,List.append_assoc] at this
   exact this
  obtain ⟨e1,e2⟩:=List.append_inj e (by rw [be_length,be_length])
  obtain ⟨e3,e4⟩:=List.append_inj e2 (by rw [be_length,be_length])
  obtain ⟨a1,a2,a3,a4⟩:=ha 0 (by simp)
  obtain ⟨b1,b2,b3,b4⟩:=hb 0 (by simp)
  have h1:c.1 = d.1:=be_inj e1 a1 b1 a2 b2
  have h2:c.2 = d.2:=be_inj e3 a3 b3 a4 b4
  rw [pairB_inj (fits_tail ha) (fits_tail hb) e4,show c = d from Prod.ext h1 h2]

theorem fits_rgt {d:Int} {cs:List Cat} (h:Rgt d cs):FitsB 1 cs:=fun i hi=>by
 obtain ⟨h1,h2,h3,h4⟩:=h.each i hi
 refine ⟨by omega,?_,h3,?_⟩
 ·show _ < 18446744073709551616;omega
 ·show _ < 256;omega

theorem fits_lk {cs:List Cat} (h:LkOk cs):FitsB 2 cs:=fun i hi=>by
 obtain ⟨⟨h1,h2⟩,h3,h4⟩:=h.each i hi
 refine ⟨by omega,?_,by omega,?_⟩
 ·show _ < 18446744073709551616;omega
 ·show _ < 65536;omega

theorem labB_inj {d d':Int} {cs cs':List Cat} (h:Rgt d cs) (h':Rgt d' cs') (e:labB d cs = labB d' cs'):d = d'∧cs = cs':=by
 unfold labB at e
 obtain ⟨e1,e2⟩:=List.append_inj e (by rw [be_length,be_length])
 refine ⟨be_inj e1 (by have:=h.lo;omega) (by have:=h'.lo;omega) ?_ ?_,pairB_inj (fits_rgt h) (fits_rgt h') e2⟩
 ·show _ < 256;have:=h.hi;omega
 ·show _ < 256;have:=h'.hi;omega

theorem packF_n {c:UInt8} {k:Nat} {x:Int} (h98:c ≠ 98) (hw:wdt c = some k) (h:x.toNat < 256 ^ k):packF c (nF x) = some (be k x.toNat):=by
 unfold packF nF
 rw [if_neg h98,hw]
 simp only
 rw [if_pos h]

theorem packF_b {b:List UInt8} (h:b.length ≤ 1024):packF 98 (bF b) = some (be 2 b.length ++ b):=by
 unfold packF bF
 rw [if_pos rfl]
 simp only
 rw [if_pos h]

theorem p8 {x:Int} (h:x < 18446744073709551616):packF 56 (nF x) = some (be 8 x.toNat):=packF_n (by decide) (by decide) (by show _ < 18446744073709551616;omega)
theorem p2 {x:Int} (h:x < 65536):packF 50 (nF x) = some (be 2 x.toNat):=packF_n (by decide) (by decide) (by show _ < 65536;omega)
theorem p1 {x:Int} (h:x < 256):packF 49 (nF x) = some (be 1 x.toNat):=packF_n (by decide) (by decide) (by show _ < 256;omega)

theorem shL_length (k:Int):(shL k).length ≤ 200:=by
 unfold shL tailL
 split
 ·decide
 ·split
  ·decide
  ·split
   ·decide
   ·split
    ·decide
    ·split <;> decide

theorem packL_cons {c:UInt8} {f:Fld} {y:List UInt8} (h:packF c f = some y) {l:List (UInt8 × Fld)} {z:List UInt8} (hl:packL l = some z):packL ((c,f) :: l) = some (y ++ z):=by
 simp only [packL,h,hl]

theorem kind_of {t:Th} (h:KindOk t):t.kind = 1∨t.kind = 2∨t.kind = 3∨t.kind = 4∨t.kind = 5∨t.kind = 6:=by
 rcases h with ⟨h,_⟩ | ⟨h,_⟩ | ⟨h,_⟩ | ⟨h,_⟩ | ⟨h,_⟩ | ⟨h,_⟩ <;> simp [h]

theorem quota_of {t:Th} (h:KindOk t):1 ≤ t.quota∧t.quota ≤ 48:=by
 rcases h with ⟨_,h⟩ | ⟨_,h⟩ | ⟨_,h⟩ | ⟨_,h⟩ | ⟨_,h⟩ | ⟨_,h⟩
 ·exact h.quota
 ·have:=h.quota;omega
 ·have:=h.quota;omega
 ·have:=h.quota;have:=h.hi;omega
 ·have:=h.quota;omega
 ·omega

theorem slot_lt {d s:Int} (h:slOk d s):d < 18446744073709551616∧s < 18446744073709551616:=by
 rcases h with ⟨h1,h2⟩ | ⟨⟨_,h1⟩,_,h2⟩ <;> constructor <;> omega

/-- What can be has an image, of so many bytes. -/
theorem img_some {t:Th} (h:RightT t) (hw:WfT t):∃ y,imgO t = some y∧y.length = sizeT t∧∃ z,y = be 8 t.id.toNat ++ be 1 t.kind.toNat ++ z:=by
 obtain ⟨q1,q2⟩:=quota_of h.parts
 have hid:=h.id
 have hl6:=h.rgt.len
 have hlb:=labB_length t.df t.cats
 have hk:=kind_of h.parts
 have tail:∃ y,packL ((tailL t.kind).zip (partF t)) = some y∧(partF t).length = (tailL t.kind).length∧14 + 9 * t.cats.length + y.length = sizeT t:=by
  rcases h.parts with ⟨hk,h⟩ | ⟨hk,h⟩ | ⟨hk,h⟩ | ⟨hk,h⟩ | ⟨hk,h⟩ | ⟨hk,h⟩
  ·have h16:=h.len
   have hb:=pairB_length 2 t.links
   refine ⟨be 2 t.next.toNat ++ ((be 2 (pairB 2 t.links).length ++ pairB 2 t.links) ++ []),?_,by simp [partF,tailL,hk],?_⟩
   ·simp only [partF,tailL,hk,if_true,List.zip_cons_cons,List.zip_nil_left]
    exact packL_cons (p2 (by have:=h.next.2;omega)) (packL_cons (packF_b (by omega)) rfl)
   ·simp only [sizeT,hk,if_true,List.length_append,be_length,hb,List.length_nil];omega
  ·have h16:=h.rgt.len
   have hb:=labB_length t.cdf t.ccats
   refine ⟨(be 2 (labB t.cdf t.ccats).length ++ labB t.cdf t.ccats) ++ (be 8 t.r0.toNat ++ (be 8 t.r1.toNat ++ (be 8 t.r2.toNat ++ (be 8 t.r3.toNat ++ (be 1 t.minted.toNat ++ (be 1 t.boot.toNat ++ (be 1 (if t.halted then (1:Int) else 0).toNat ++ []))))))),?_,by simp [partF,tailL,hk],?_⟩
   ·simp only [partF,tailL,hk,if_true,List.zip_cons_cons,List.zip_nil_left,show ¬ (2:Int) = 1 by decide,if_false]
    exact packL_cons (packF_b (by omega)) (packL_cons (p8 hw.r0.2) (packL_cons (p8 hw.r1.2) (packL_cons (p8 hw.r2.2) (packL_cons (p8 hw.r3.2) (packL_cons (p1 (by have:=h.minted.2;omega)) (packL_cons (p1 (by have:=h.boot.2;omega)) (packL_cons (p1 (by cases t.halted <;> decide)) rfl)))))))
   ·simp only [sizeT,hk,if_true,List.length_append,be_length,hb,List.length_nil,show ¬ (2:Int) = 1 by decide,if_false];omega
  ·have h16:=h.rgt.len
   have hb:=labB_length t.cdf t.ccats
   refine ⟨(be 2 (labB t.cdf t.ccats).length ++ labB t.cdf t.ccats) ++ (be 8 t.value.toNat ++ []),?_,by simp [partF,tailL,hk],?_⟩
   ·simp only [partF,tailL,hk,if_true,List.zip_cons_cons,List.zip_nil_left,show ¬ (3:Int) = 1 by decide,show ¬ (3:Int) = 2 by decide,if_false]
    exact packL_cons (packF_b (by omega)) (packL_cons (p8 hw.value.2) rfl)
   ·simp only [sizeT,hk,if_true,List.length_append,be_length,hb,List.length_nil,show ¬ (3:Int) = 1 by decide,show ¬ (3:Int) = 2 by decide,if_false];omega
  ·have h128:=h.hi
   refine ⟨(be 2 t.data.length ++ t.data) ++ [],?_,by simp [partF,tailL,hk],?_⟩
   ·simp only [partF,tailL,hk,if_true,List.zip_cons_cons,List.zip_nil_left,show ¬ (4:Int) = 1 by decide,show ¬ (4:Int) = 2 by decide,show ¬ (4:Int) = 3 by decide,if_false]
    exact packL_cons (packF_b (by omega)) rfl
   ·simp only [sizeT,hk,if_true,List.length_append,be_length,List.length_nil,show ¬ (4:Int) = 1 by decide,show ¬ (4:Int) = 2 by decide,show ¬ (4:Int) = 3 by decide,if_false];omega
  ·obtain ⟨g0,g1,g2,g3⟩:=h.slots
   refine ⟨be 8 t.s0.toNat ++ (be 8 t.s1.toNat ++ (be 8 t.s2.toNat ++ (be 8 t.s3.toNat ++ (be 8 t.s4.toNat ++ (be 8 t.s5.toNat ++ (be 8 t.s6.toNat ++ (be 8 t.s7.toNat ++ []))))))),?_,by simp [partF,tailL,hk],?_⟩
   ·simp only [partF,tailL,hk,if_true,List.zip_cons_cons,List.zip_nil_left,show ¬ (5:Int) = 1 by decide,show ¬ (5:Int) = 2 by decide,show ¬ (5:Int) = 3 by decide,show ¬ (5:Int) = 4 by decide,if_false]
    exact packL_cons (p8 (slot_lt g0).1) (packL_cons (p8 (slot_lt g0).2) (packL_cons (p8 (slot_lt g1).1) (packL_cons (p8 (slot_lt g1).2) (packL_cons (p8 (slot_lt g2).1) (packL_cons (p8 (slot_lt g2).2) (packL_cons (p8 (slot_lt g3).1) (packL_cons (p8 (slot_lt g3).2) rfl)))))))
   ·simp only [sizeT,hk,if_true,List.length_append,be_length,List.length_nil,show ¬ (5:Int) = 1 by decide,show ¬ (5:Int) = 2 by decide,show ¬ (5:Int) = 3 by decide,show ¬ (5:Int) = 4 by decide,if_false]
  ·refine ⟨[],?_,by simp [partF,tailL,hk],?_⟩
   ·simp only [partF,tailL,hk,show ¬ (6:Int) = 1 by decide,show ¬ (6:Int) = 2 by decide,show ¬ (6:Int) = 3 by decide,show ¬ (6:Int) = 4 by decide,show ¬ (6:Int) = 5 by decide,if_false];rfl
   ·simp only [sizeT,hk,List.length_nil,show ¬ (6:Int) = 1 by decide,show ¬ (6:Int) = 2 by decide,show ¬ (6:Int) = 3 by decide,show ¬ (6:Int) = 4 by decide,show ¬ (6:Int) = 5 by decide,if_false]
 obtain ⟨y,t1,t2,t3⟩:=tail
 have e:(shL t.kind).zip (flds t) = (56,nF t.id) :: (49,nF t.kind) :: (98,bF (labB t.df t.cats)) :: (50,nF t.quota) :: (tailL t.kind).zip (partF t):=rfl
 refine ⟨be 8 t.id.toNat ++ (be 1 t.kind.toNat ++ ((be 2 (labB t.df t.cats).length ++ labB t.df t.cats) ++ (be 2 t.quota.toNat ++ y))),?_,?_,((be 2 (labB t.df t.cats).length ++ labB t.df t.cats) ++ (be 2 t.quota.toNat ++ y)),by simp⟩
 ·unfold imgO pack
  rw [if_pos ⟨shL_length _,by simp [flds,headF,shL,t2]⟩,e]
  exact packL_cons (p8 (by have:=hid.2;omega)) (packL_cons (p1 (by omega)) (packL_cons (packF_b (by omega)) (packL_cons (p2 (by omega)) t1)))
 ·simp only [List.length_append,be_length,hlb];omega

/-- What an image tells when it is unpacked. -/
theorem unp_img {t:Th} {y:List UInt8} (h:imgO t = some y):unpack (shL t.kind) y = some (List.zipWith nrm (shL t.kind) (flds t)):=unpack_pack h

/-- Which kind an image tells. -/
theorem img_kind {t:Th} {y:List UInt8} (h:RightT t) (hw:WfT t) (e:imgO t = some y):14 ≤ y.length∧∃ hy:8 < y.length,(y[8].toNat:Int) = t.kind:=by
 obtain ⟨y',e1,e2,z,e3⟩:=img_some h hw
 rw [e] at e1
 obtain rfl:=Option.some.inj e1
 have hk:=kind_of h.parts
 have hs:14 ≤ y.length:=by rw [e2];unfold sizeT;omega
 refine ⟨hs,by omega,?_⟩
 have:y[8]? = some (UInt8.ofNat t.kind.toNat):=by
  rw [e3,List.append_assoc,List.getElem?_append_right (by rw [be_length];omega),be_length]
  simp [be]
 rw [List.getElem?_eq_getElem (by omega)] at this
 rw [Option.some.inj this]
 simp
 omega

theorem tnj {a b:Int} (h:a.toNat = b.toNat) (ha:0 ≤ a) (hb:0 ≤ b):a = b:=by omega

set_option maxHeartbeats 3200000 in
/-- Unlike things have unlike images. -/
theorem img_inj {t u:Th} {y:List UInt8} (ht:RightT t) (hu:RightT u) (wt:WfT t) (wu:WfT u) (et:imgO t = some y) (eu:imgO u = some y):t = u:=by
 obtain ⟨_,_,k1⟩:=img_kind ht wt et
 obtain ⟨_,_,k2⟩:=img_kind hu wu eu
 have hk:t.kind = u.kind:=by omega
 have f1:=unp_img et
 have f2:=unp_img eu
 rw [hk,f2] at f1
 have f:=Option.some.inj f1
 obtain ⟨a1,a2⟩:=quota_of ht.parts
 obtain ⟨b1,b2⟩:=quota_of hu.parts
 have i1:=ht.id
 have i2:=hu.id
 unfold idOk at i1 i2
 simp only [flds,headF,shL,List.cons_append,List.nil_append,List.zipWith_cons_cons,List.cons.injEq,nrm,nF,bF,Fld.mk.injEq,if_true,show ¬ (56:UInt8) = 98 by decide,show ¬ (49:UInt8) = 98 by decide,show ¬ (50:UInt8) = 98 by decide,if_false,and_true,true_and] at f
 obtain ⟨c1,_,c3,c4,f⟩:=f
 obtain ⟨l1,l2⟩:=labB_inj hu.rgt ht.rgt c3
 have g1:u.id = t.id:=by omega
 have g4:u.quota = t.quota:=by omega
 have st:=ht.same
 have su:=hu.same
 rw [st,su]
 rcases ht.parts with ⟨kt,h⟩ | ⟨kt,h⟩ | ⟨kt,h⟩ | ⟨kt,h⟩ | ⟨kt,h⟩ | ⟨kt,h⟩
 ·have ku:u.kind = 1:=by omega
  rcases hu.parts with ⟨ku',h'⟩ | ⟨ku',h'⟩ | ⟨ku',h'⟩ | ⟨ku',h'⟩ | ⟨ku',h'⟩ | ⟨ku',h'⟩ <;> try (exfalso;omega)
  simp only [partF,tailL,kt,ku,if_true,List.zipWith_cons_cons,List.cons.injEq,nrm,nF,bF,Fld.mk.injEq,show ¬ (50:UInt8) = 98 by decide,if_false,and_true,true_and,List.zipWith_nil_left] at f
  obtain ⟨d1,d2⟩:=f
  have d2:=pairB_inj (fits_lk h'.lk) (fits_lk h.lk) d2
  have:=h.next
  have:=h'.next
  unfold btw at *
  have d1:u.next = t.next:=by omega
  simp only [ofK,baseT,zeroT,kt,ku,if_true,g1,g4,l1,l2,d1,d2]
 ·have ku:u.kind = 2:=by omega
  rcases hu.parts with ⟨ku',h'⟩ | ⟨ku',h'⟩ | ⟨ku',h'⟩ | ⟨ku',h'⟩ | ⟨ku',h'⟩ | ⟨ku',h'⟩ <;> try (exfalso;omega)
  simp only [partF,tailL,kt,ku,if_true,List.zipWith_cons_cons,List.cons.injEq,nrm,nF,bF,Fld.mk.injEq,show ¬ (56:UInt8) = 98 by decide,show ¬ (49:UInt8) = 98 by decide,show ¬ (2:Int) = 1 by decide,if_false,and_true,true_and,List.zipWith_nil_left] at f
  obtain ⟨d1,d2,d3,d4,d5,d6,d7,d8⟩:=f
  obtain ⟨m1,m2⟩:=labB_inj h'.rgt h.rgt d1
  have:=wt.r0;have:=wt.r1;have:=wt.r2;have:=wt.r3;have:=wu.r0;have:=wu.r1;have:=wu.r2;have:=wu.r3
  have:=h.minted;have:=h'.minted;have:=h.boot;have:=h'.boot
  unfold btw at *
  have d2:u.r0 = t.r0:=tnj d2 wu.r0.1 wt.r0.1
  have d3:u.r1 = t.r1:=tnj d3 wu.r1.1 wt.r1.1
  have d4:u.r2 = t.r2:=tnj d4 wu.r2.1 wt.r2.1
  have d5:u.r3 = t.r3:=tnj d5 wu.r3.1 wt.r3.1
  have d6:u.minted = t.minted:=by omega
  have d7:u.boot = t.boot:=by omega
  have d8:u.halted = t.halted:=by
   revert d8
   cases u.halted <;> cases t.halted <;> simp
  simp only [ofK,baseT,zeroT,kt,ku,if_true,show ¬ (2:Int) = 1 by decide,if_false,g1,g4,l1,l2,d2,d3,d4,d5,d6,d7,d8,m1,m2]
 ·have ku:u.kind = 3:=by omega
  rcases hu.parts with ⟨ku',h'⟩ | ⟨ku',h'⟩ | ⟨ku',h'⟩ | ⟨ku',h'⟩ | ⟨ku',h'⟩ | ⟨ku',h'⟩ <;> try (exfalso;omega)
  simp only [partF,tailL,kt,ku,if_true,List.zipWith_cons_cons,List.cons.injEq,nrm,nF,bF,Fld.mk.injEq,show ¬ (56:UInt8) = 98 by decide,show ¬ (3:Int) = 1 by decide,show ¬ (3:Int) = 2 by decide,if_false,and_true,true_and,List.zipWith_nil_left] at f
  obtain ⟨d1,d2⟩:=f
  obtain ⟨m1,m2⟩:=labB_inj h'.rgt h.rgt d1
  have:=wt.value;have:=wu.value
  have d2:u.value = t.value:=by omega
  simp only [ofK,baseT,zeroT,kt,ku,if_true,show ¬ (3:Int) = 1 by decide,show ¬ (3:Int) = 2 by decide,if_false,g1,g4,l1,l2,d2,m1,m2]
 ·have ku:u.kind = 4:=by omega
  simp only [partF,tailL,kt,ku,if_true,List.zipWith_cons_cons,List.cons.injEq,nrm,nF,bF,Fld.mk.injEq,show ¬ (4:Int) = 1 by decide,show ¬ (4:Int) = 2 by decide,show ¬ (4:Int) = 3 by decide,if_false,and_true,true_and,List.zipWith_nil_left] at f
  simp only [ofK,baseT,zeroT,kt,ku,if_true,show ¬ (4:Int) = 1 by decide,show ¬ (4:Int) = 2 by decide,show ¬ (4:Int) = 3 by decide,if_false,g1,g4,l1,l2,f]
 ·have ku:u.kind = 5:=by omega
  rcases hu.parts with ⟨ku',h'⟩ | ⟨ku',h'⟩ | ⟨ku',h'⟩ | ⟨ku',h'⟩ | ⟨ku',h'⟩ | ⟨ku',h'⟩ <;> try (exfalso;omega)
  simp only [partF,tailL,kt,ku,if_true,List.zipWith_cons_cons,List.cons.injEq,nrm,nF,bF,Fld.mk.injEq,show ¬ (56:UInt8) = 98 by decide,show ¬ (5:Int) = 1 by decide,show ¬ (5:Int) = 2 by decide,show ¬ (5:Int) = 3 by decide,show ¬ (5:Int) = 4 by decide,if_false,and_true,true_and,List.zipWith_nil_left] at f
  obtain ⟨d0,d1,d2,d3,d4,d5,d6,d7⟩:=f
  have nn:∀ {d s:Int},slOk d s→0 ≤ d∧0 ≤ s:=fun {d s} h=>by
   rcases h with ⟨h1,h2⟩ | ⟨⟨h1,_⟩,h2,_⟩ <;> constructor <;> omega
  obtain ⟨z0,z1,z2,z3⟩:=h.slots
  obtain ⟨y0,y1,y2,y3⟩:=h'.slots
  have x0:=nn z0;have x1:=nn z1;have x2:=nn z2;have x3:=nn z3
  have v0:=nn y0;have v1:=nn y1;have v2:=nn y2;have v3:=nn y3
  have d0:u.s0 = t.s0:=tnj d0 v0.1 x0.1
  have d1:u.s1 = t.s1:=tnj d1 v0.2 x0.2
  have d2:u.s2 = t.s2:=tnj d2 v1.1 x1.1
  have d3:u.s3 = t.s3:=tnj d3 v1.2 x1.2
  have d4:u.s4 = t.s4:=tnj d4 v2.1 x2.1
  have d5:u.s5 = t.s5:=tnj d5 v2.2 x2.2
  have d6:u.s6 = t.s6:=tnj d6 v3.1 x3.1
  have d7:u.s7 = t.s7:=tnj d7 v3.2 x3.2
  simp only [ofK,baseT,zeroT,kt,ku,if_true,show ¬ (5:Int) = 1 by decide,show ¬ (5:Int) = 2 by decide,show ¬ (5:Int) = 3 by decide,show ¬ (5:Int) = 4 by decide,if_false,g1,g4,l1,l2,d0,d1,d2,d3,d4,d5,d6,d7]
 ·have ku:u.kind = 6:=by omega
  simp only [ofK,baseT,zeroT,kt,ku,show ¬ (6:Int) = 1 by decide,show ¬ (6:Int) = 2 by decide,show ¬ (6:Int) = 3 by decide,show ¬ (6:Int) = 4 by decide,show ¬ (6:Int) = 5 by decide,if_false,g1,g4,l1,l2]
end Go.Proofs.Ytghlilncdfiojaa
