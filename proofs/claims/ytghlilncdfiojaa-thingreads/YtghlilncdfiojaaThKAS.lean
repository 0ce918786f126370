/-
  ThK2, ThK3: in one text.
-/
import Derived.Test.YtghlilncdfiojaaThK1S
namespace Go.Proofs.Ytghlilncdfiojaa
set_option linter.unusedVariables false
set_option linter.unusedSimpArgs false
set_option maxRecDepth 20000
open Go.RowKit

theorem unpF_num {c:UInt8} {k:Nat} {bs r:List UInt8} {f:Fld} (h98:c ≠ 98) (hw:wdt c = some k) (h:unpF c bs = some (f,r)):∃ x:Int,f = nF x∧0 ≤ x∧x.toNat < 256 ^ k:=by
 unfold unpF at h
 rw [if_neg h98,hw] at h
 simp only at h
 split at h
 ·rename_i hk
  simp only [Option.some.injEq,Prod.mk.injEq] at h
  obtain ⟨rfl,_⟩:=h
  have hv:=val_lt (bs.take k)
  rw [List.length_take,Nat.min_eq_left hk] at hv
  exact ⟨(val (bs.take k):Nat),rfl,by omega,hv⟩
 ·cases h

theorem unpL_pairs {b:UInt8} {k:Nat} (hb:b ≠ 98) (hw:wdt b = some k):∀ (m:Nat) {bs r:List UInt8} {fs:List Fld},unpL (repS 56 b m) bs = some (fs,r)→∃ xs:List Cat,fs = prF xs∧xs.length = m∧FitsB k xs
 | 0,bs,r,fs,h=>by
  simp only [repS,Lib.repeatL,unpL,Option.some.injEq,Prod.mk.injEq] at h
  exact ⟨[],h.1.symm,rfl,fun i hi=>by simp at hi⟩
 | m + 1,bs,r,fs,h=>by
  have e:repS 56 b (m + 1) = 56 :: b :: repS 56 b m:=rfl
  rw [e] at h
  simp only [unpL] at h
  cases h1:unpF 56 bs with
  | none=>rw [h1] at h;simp at h
  | some p =>
   obtain ⟨f1,r1⟩:=p
   rw [h1] at h
   simp only at h
   cases h2:unpF b r1 with
   | none=>rw [h2] at h;simp at h
   | some p2 =>
    obtain ⟨f2,r2⟩:=p2
    rw [h2] at h
    simp only at h
    cases h3:unpL (repS 56 b m) r2 with
    | none=>rw [h3] at h;simp at h
    | some p3 =>
     obtain ⟨gs,r3⟩:=p3
     rw [h3] at h
     simp only [Option.some.injEq,Prod.mk.injEq] at h
     obtain ⟨rfl,_⟩:=h
     obtain ⟨xs,rfl,hl,hf⟩:=unpL_pairs hb hw m h3
     obtain ⟨x,rfl,x0,x1⟩:=unpF_num (k:=8) (by decide) (by decide) h1
     obtain ⟨y,rfl,y0,y1⟩:=unpF_num hb hw h2
     refine ⟨(x,y) :: xs,rfl,by simp [hl],fun i hi=>?_⟩
     cases i with
     | zero=>exact ⟨x0,x1,y0,y1⟩
     | succ i=>exact hf i (by simpa using hi)

theorem unpack_lnk {m:Nat} {bs:List UInt8} {fs:List Fld} (h:unpack (repS 56 50 m) bs = some fs):∃ xs:List Cat,fs = prF xs∧xs.length = m∧FitsB 2 xs :=
 unpL_pairs (k:=2) (by decide) (by decide) m (unpack_some h).2
theorem unpack_lab {m:Nat} {bs:List UInt8} {fs:List Fld} (h:unpack (49 :: repS 56 49 m) bs = some fs):∃ (d:Int) (xs:List Cat),fs = nF d :: prF xs∧xs.length = m∧FitsB 1 xs∧0 ≤ d∧d < 256:=by
 have h2:=(unpack_some h).2
 simp only [unpL] at h2
 cases h1:unpF 49 bs with
 | none=>rw [h1] at h2;simp at h2
 | some p =>
  obtain ⟨f1,r1⟩:=p
  rw [h1] at h2
  simp only at h2
  cases h3:unpL (repS 56 49 m) r1 with
  | none=>rw [h3] at h2;simp at h2
  | some p3 =>
   obtain ⟨gs,r3⟩:=p3
   rw [h3] at h2
   simp only [Option.some.injEq,Prod.mk.injEq] at h2
   obtain ⟨rfl,_⟩:=h2
   obtain ⟨xs,rfl,hl,hf⟩:=unpL_pairs (k:=1) (by decide) (by decide) m h3
   obtain ⟨x,rfl,x0,x1⟩:=unpF_num (k:=1) (by decide) (by decide) h1
   have x1':x.toNat < 256:=x1
   exact ⟨x,xs,rfl,hl,hf,x0,by omega⟩

theorem prF_inj {k:Nat}:∀ {a b:List Cat},FitsB k a→FitsB k b→prF a = prF b→a = b
 | [],[],_,_,_=>rfl
 | [],d :: b,_,_,h=>by cases h
 | c :: a,[],_,_,h=>by cases h
 | c :: a,d :: b,ha,hb,h=>by
  have e:(nF c.1 :: nF c.2 :: prF a) = (nF d.1 :: nF d.2 :: prF b):=h
  simp only [List.cons.injEq,nF,Fld.mk.injEq,and_true] at e
  obtain ⟨e1,e2,e3⟩:=e
  obtain ⟨a1,a2,a3,a4⟩:=ha 0 (by simp)
  obtain ⟨b1,b2,b3,b4⟩:=hb 0 (by simp)
  have h1:c.1 = d.1:=tnj e1 a1 b1
  have h2:c.2 = d.2:=tnj e2 a3 b3
  rw [prF_inj (fits_tail ha) (fits_tail hb) e3,show c = d from Prod.ext h1 h2]

theorem nrm_pairs {b:UInt8} (hb:b ≠ 98):∀ xs:List Cat,List.zipWith nrm (repS 56 b xs.length) (prF xs) = prF xs
 | []=>rfl
 | c :: xs=>by
  have ih:=nrm_pairs hb xs
  show nrm 56 (nF c.1) :: nrm b (nF c.2) :: List.zipWith nrm (repS 56 b xs.length) (prF xs) = nF c.1 :: nF c.2 :: prF xs
  rw [ih]
  simp only [nrm,if_neg hb,show ¬ (56:UInt8) = 98 by decide,if_false,nF]

/-- What the links' bytes tell is the links. -/
theorem lnk_back {ls:List Cat} (h:LkOk ls) (hl:ls.length ≤ 16):(pairB 2 ls).length / 10 = ls.length∧unpack (repS 56 50 ls.length) (pairB 2 ls) = some (prF ls):=by
 refine ⟨by rw [pairB_length];omega,?_⟩
 rw [unpack_pack (pack_lnk h hl),nrm_pairs (by decide)]
theorem lab_back {d:Int} {xs:List Cat} (h:Rgt d xs):(labB d xs).length / 9 = xs.length∧unpack (49 :: repS 56 49 xs.length) (labB d xs) = some (nF d :: prF xs):=by
 refine ⟨by rw [labB_length];omega,?_⟩
 rw [unpack_pack (pack_lab h)]
 show some (nrm 49 (nF d) :: List.zipWith nrm (repS 56 49 xs.length) (prF xs)) = _
 rw [nrm_pairs (by decide)]
 rfl

/-- Chunk itself. -/
theorem c_chunk (a:Option Addr) (n c:Nat) (w:World):Calls Try.prog 90 #[.slice a n c,.int .i64 2] w fun e w'=>e = .returned (.func (.func 100) #[] #[.pointer (some ⟨w.heap.size,0,none⟩),.pointer (some ⟨w.heap.size + 1,0,none⟩)])∧w' = (w.alloc (.cells #[.slice a n c] 71)).alloc (.cells #[.int .i64 2] 3):=by
 go_enter Try.func90,Try.ntmps90
 go_wp2
 go_ret
 exact ⟨rfl,rfl⟩
end Go.Proofs.Ytghlilncdfiojaa

namespace Go.Proofs.Ytghlilncdfiojaa
set_option linter.unusedVariables false
set_option linter.unusedSimpArgs false
set_option maxRecDepth 20000
open Go.RowKit

/-- Pairs of numbers in memory. -/
def PrM (w:World) (b off:Nat) (xs:List Cat):Prop:=∀ i (h:i < xs.length),b < w.heap.size∧w.cell? ⟨b,off + 2 * i * 2,none⟩ = some (.int .u64 xs[i].1)∧w.cell? ⟨b,off + 2 * i * 2 + 2,none⟩ = some (.int .u64 xs[i].2)

theorem PrM.below {w w':World} {b off:Nat} {xs:List Cat} (h:PrM w b off xs) (hb:Below w.heap.size w w'):PrM w' b off xs:=fun i hi=>by
 obtain ⟨h0,h1,h2⟩:=h i hi
 exact ⟨Nat.lt_of_lt_of_le h0 hb.size,(hb.cell (p:=⟨b,_,none⟩) h0).trans h1,(hb.cell (p:=⟨b,_,none⟩) h0).trans h2⟩

theorem prF_len:∀ xs:List Cat,(prF xs).length = 2 * xs.length
 | []=>rfl
 | c :: xs=>by
  have:=prF_len xs
  show (nF c.1 :: nF c.2 :: prF xs).length = _
  simp only [List.length_cons,this]
  omega
theorem prF_get:∀ (xs:List Cat) (i:Nat) (h:i < xs.length),(prF xs)[2 * i]? = some (nF xs[i].1)∧(prF xs)[2 * i + 1]? = some (nF xs[i].2)
 | c :: xs,0,_=>⟨rfl,rfl⟩
 | c :: xs,i + 1,h=>by
  have:=prF_get xs i (by simpa using h)
  show (nF c.1 :: nF c.2 :: prF xs)[2 * i + 1 + 1]? = _∧(nF c.1 :: nF c.2 :: prF xs)[2 * i + 1 + 1 + 1]? = _
  simpa using this

theorem prs_of {k:Nat} {w:World} {v:Value} {xs:List Cat} (hf:FitsB k xs) (h:FieldsAt w.heap.size w v (prF xs)) (hl:xs.length ≤ 1000):∃ b off,Prs2 v xs.length b off∧PrM w b off xs:=by
 obtain ⟨ao,cap,rfl,hc,hn,hcs⟩:=h
 rw [prF_len] at hc ⊢
 by_cases h0:xs.length = 0
 ·rw [h0]
  exact ⟨0,0,.inl ⟨ao,cap,rfl,rfl⟩,fun i hi=>by omega⟩
 ·obtain ⟨b,off,_,rfl,_⟩:=hcs (2 * 0) _ (prF_get xs 0 (by omega)).1
  refine ⟨b,off,.inr ⟨cap,rfl,hc,by omega⟩,fun i hi=>?_⟩
  obtain ⟨b1,o1,_,e1,l1,c1,_⟩:=hcs _ _ (prF_get xs i hi).1
  obtain ⟨b2,o2,_,e2,_,c2,_⟩:=hcs _ _ (prF_get xs i hi).2
  cases e1
  cases e2
  obtain ⟨f1,_,f2,_⟩:=hf i hi
  refine ⟨l1,?_,?_⟩
  ·rw [c1]
   show some (Value.int .u64 ((xs[i].1.toNat:Nat):Int)) = _
   rw [Int.toNat_of_nonneg f1]
  ·rw [show off + 2 * i * 2 + 2 = off + (2 * i + 1) * 2 by omega,c2]
   show some (Value.int .u64 ((xs[i].2.toNat:Nat):Int)) = _
   rw [Int.toNat_of_nonneg f2]

/-- The same behind a first number. -/
theorem prs_tail {k:Nat} {w:World} {v:Value} {d:Int} {xs:List Cat} (hd:0 ≤ d) (hf:FitsB k xs) (h:FieldsAt w.heap.size w v (nF d :: prF xs)) (hl:xs.length ≤ 1000) :
  ∃ b off cap,v = .slice (some ⟨b,off,none⟩) (1 + 2 * xs.length) cap∧1 + 2 * xs.length ≤ cap∧b < w.heap.size∧w.cell? ⟨b,off,none⟩ = some (.int .u64 d)∧PrM w b (off + 2) xs:=by
 obtain ⟨ao,cap,rfl,hc,hn,hcs⟩:=h
 rw [List.length_cons,prF_len] at hc ⊢
 obtain ⟨b,off,_,rfl,l0,c0,_⟩:=hcs 0 _ rfl
 refine ⟨b,off,cap,by rw [Nat.add_comm],by omega,l0,?_,fun i hi=>?_⟩
 ·rw [show off = off + 0 * 2 by omega,c0]
  show some (Value.int .u64 ((d.toNat:Nat):Int)) = _
  rw [Int.toNat_of_nonneg hd]
 ·obtain ⟨b1,o1,_,e1,l1,c1,_⟩:=hcs (2 * i + 1) _ (show (nF d :: prF xs)[2 * i + 1]? = _ from (prF_get xs i hi).1)
  obtain ⟨b2,o2,_,e2,_,c2,_⟩:=hcs (2 * i + 1 + 1) _ (show (nF d :: prF xs)[2 * i + 1 + 1]? = _ from (prF_get xs i hi).2)
  cases e1
  cases e2
  obtain ⟨f1,_,f2,_⟩:=hf i hi
  refine ⟨l1,?_,?_⟩
  ·rw [show off + 2 + 2 * i * 2 = off + (2 * i + 1) * 2 by omega,c1]
   show some (Value.int .u64 ((xs[i].1.toNat:Nat):Int)) = _
   rw [Int.toNat_of_nonneg f1]
  ·rw [show off + 2 + 2 * i * 2 + 2 = off + (2 * i + 1 + 1) * 2 by omega,c2]
   show some (Value.int .u64 ((xs[i].2.toNat:Nat):Int)) = _
   rw [Int.toNat_of_nonneg f2]

theorem repS_len (a b:UInt8):∀ m,(repS a b m).length = 2 * m
 | 0=>rfl
 | m + 1=>by
  have:=repS_len a b m
  show (a :: b :: repS a b m).length = _
  simp only [List.length_cons,this]
  omega

/-- What the links' bytes tell: the links, if they are links' bytes. -/
theorem lnk_ex (bs:List UInt8):∃ xs:List Cat,FitsB 2 xs∧xs.length ≤ 100∧(∀ ls,LkOk ls→ls.length ≤ 16→bs = pairB 2 ls→xs = ls) ∧
  (unpack (repS 56 50 (bs.length / 10)) bs = some (prF xs)∨(unpack (repS 56 50 (bs.length / 10)) bs = none∧xs = [])):=by
 cases h:unpack (repS 56 50 (bs.length / 10)) bs with
 | none =>
  refine ⟨[],fun i hi=>by simp at hi,by simp,fun ls h1 h2 e=>?_,.inr ⟨rfl,rfl⟩⟩
  obtain ⟨e1,e2⟩:=lnk_back h1 h2
  rw [e,e1,e2] at h
  cases h
 | some fs =>
  have hs:=(unpack_some h).1
  obtain ⟨xs,rfl,hl,hf⟩:=unpack_lnk h
  rw [repS_len] at hs
  refine ⟨xs,hf,by omega,fun ls h1 h2 e=>?_,.inl rfl⟩
  obtain ⟨e1,e2⟩:=lnk_back h1 h2
  rw [e,e1,e2] at h
  exact (prF_inj (k:=2) (fits_lk h1) hf (Option.some.inj h)).symm

/-- What a label's bytes tell. -/
theorem lab_ex (bs:List UInt8):((unpack (49 :: repS 56 49 (bs.length / 9)) bs = none∧∀ d xs,Rgt d xs→bs ≠ labB d xs) ∨
  ∃ (d:Int) (xs:List Cat),FitsB 1 xs∧0 ≤ d∧d < 256∧xs.length ≤ 100∧(∀ d' xs',Rgt d' xs'→bs = labB d' xs'→d = d'∧xs = xs') ∧
   unpack (49 :: repS 56 49 (bs.length / 9)) bs = some (nF d :: prF xs)):=by
 cases h:unpack (49 :: repS 56 49 (bs.length / 9)) bs with
 | none =>
  refine .inl ⟨rfl,fun d xs hr e=>?_⟩
  obtain ⟨e1,e2⟩:=lab_back hr
  rw [e,e1,e2] at h
  cases h
 | some fs =>
  have hs:=(unpack_some h).1
  obtain ⟨d,xs,rfl,hl,hf,d0,d1⟩:=unpack_lab h
  rw [List.length_cons,repS_len] at hs
  refine .inr ⟨d,xs,hf,d0,d1,by omega,fun d' xs' hr e=>?_,rfl⟩
  obtain ⟨e1,e2⟩:=lab_back hr
  have h9:=h
  rw [e,e1,e2] at h
  have h8:=Option.some.inj h
  simp only [List.cons.injEq,nF,Fld.mk.injEq,and_true] at h8
  exact ⟨(tnj h8.1 (by have:=hr.lo;omega) d0).symm,(prF_inj (k:=1) (fits_rgt hr) hf h8.2).symm⟩
end Go.Proofs.Ytghlilncdfiojaa
