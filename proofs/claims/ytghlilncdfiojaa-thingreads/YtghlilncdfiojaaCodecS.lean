/-
  CodecPlain, CodecPlain2, CodecW1, CodecW2, CodecW3, CodecFld, CodecW4, CodecR1, CodecR2, CodecC1, CodecU1, CodecU2, CodecU3, CodecU4, CodecR3: in one text.
-/
import Derived.WalkKit
import Derived.Test.YtghlilncdfiojaaRows
import Derived.Test.YtghlilncdfiojaaLibS
namespace Go.Proofs.Ytghlilncdfiojaa
set_option linter.unusedVariables false
set_option linter.unusedSimpArgs false
set_option maxRecDepth 20000

structure Fld where
 num:Nat
 bytes:List UInt8

def be:Nat→Nat→List UInt8
 | 0,_=>[]
 | k + 1,n=>UInt8.ofNat (n / 256 ^ k) :: be k n

def valFrom (m:Nat) (bs:List UInt8):Nat:=bs.foldl (fun n b=>n * 256 + b.toNat) m
def val (bs:List UInt8):Nat:=valFrom 0 bs

def wdt (c:UInt8):Option Nat :=
 if c = 49 then some 1 else if c = 50 then some 2 else if c = 52 then some 4 else if c = 56 then some 8 else none

def packF (c:UInt8) (f:Fld):Option (List UInt8) :=
 if c = 98 then (if f.bytes.length ≤ 1024 then some (be 2 f.bytes.length ++ f.bytes) else none)
 else match wdt c with
  | some k=>if f.num < 256 ^ k then some (be k f.num) else none
  | none=>none

def packL:List (UInt8 × Fld)→Option (List UInt8)
 | []=>some []
 | p :: l=>match packF p.1 p.2 with
  | some x=>match packL l with
   | some y=>some (x ++ y)
   | none=>none
  | none=>none

def pack (s:List UInt8) (fs:List Fld):Option (List UInt8) :=
 if s.length ≤ 200∧fs.length = s.length then packL (s.zip fs) else none

def unpF (c:UInt8) (b:List UInt8):Option (Fld × List UInt8) :=
 if c = 98 then
  (if 2 ≤ b.length∧val (b.take 2) ≤ 1024∧val (b.take 2) ≤ (b.drop 2).length then
   some (⟨0,(b.drop 2).take (val (b.take 2))⟩,(b.drop 2).drop (val (b.take 2))) else none)
 else match wdt c with
  | some k=>if k ≤ b.length then some (⟨val (b.take k),[]⟩,b.drop k) else none
  | none=>none

def unpL:List UInt8→List UInt8→Option (List Fld × List UInt8)
 | [],b=>some ([],b)
 | c :: s,b=>match unpF c b with
  | some (f,r)=>match unpL s r with
   | some (fs,r')=>some (f :: fs,r')
   | none=>none
  | none=>none

def unpack (s b:List UInt8):Option (List Fld) :=
 if s.length ≤ 200 then
  match unpL s b with
  | some (fs,[])=>some fs
  | _=>none
 else none

theorem be_length (k n:Nat):(be k n).length = k:=by
 induction k with
 | zero=>rfl
 | succ k ih=>simp [be,ih]

theorem be_get (k n i:Nat) (h:i < k):(be k n)[i]? = some (UInt8.ofNat (n / 256 ^ (k - 1 - i))):=by
 induction k generalizing i with
 | zero=>omega
 | succ k ih =>
  cases i with
  | zero=>simp [be]
  | succ i =>
   simp only [be,List.getElem?_cons_succ]
   rw [ih i (by omega)]
   congr 4
   omega

theorem valFrom_snoc (m:Nat) (bs:List UInt8) (x:UInt8):valFrom m (bs ++ [x]) = valFrom m bs * 256 + x.toNat:=by
 simp [valFrom]

theorem val_snoc (bs:List UInt8) (x:UInt8):val (bs ++ [x]) = val bs * 256 + x.toNat:=valFrom_snoc 0 bs x

theorem valFrom_lt (m:Nat) (bs:List UInt8):valFrom m bs < (m + 1) * 256 ^ bs.length:=by
 induction bs generalizing m with
 | nil=>simp [valFrom]
 | cons x bs ih =>
  have h:=ih (m * 256 + x.toNat)
  have hx:x.toNat < 256:=x.toNat_lt
  simp only [valFrom,List.foldl_cons,List.length_cons] at *
  refine Nat.lt_of_lt_of_le h ?_
  rw [Nat.pow_succ,Nat.mul_comm (256 ^ bs.length) 256,← Nat.mul_assoc]
  exact Nat.mul_le_mul_right _ (by omega)

theorem val_lt (bs:List UInt8):val bs < 256 ^ bs.length:=by
 have:=valFrom_lt 0 bs
 simpa [val] using this

theorem valFrom_add (m:Nat) (bs:List UInt8):valFrom m bs = m * 256 ^ bs.length + val bs:=by
 induction bs generalizing m with
 | nil=>simp [valFrom,val]
 | cons x bs ih =>
  have h1:=ih (m * 256 + x.toNat)
  have h2:=ih (0 * 256 + x.toNat)
  simp only [val,valFrom,List.foldl_cons,List.length_cons] at *
  rw [h1,h2,Nat.pow_succ,Nat.add_mul]
  simp only [Nat.zero_mul,Nat.zero_add]
  rw [Nat.mul_assoc,Nat.mul_comm 256,Nat.add_assoc]

theorem val_cons (x:UInt8) (bs:List UInt8):val (x :: bs) = x.toNat * 256 ^ bs.length + val bs:=by
 have:=valFrom_add x.toNat bs
 simp only [val,valFrom,List.foldl_cons,Nat.zero_mul,Nat.zero_add] at *
 exact this

theorem val_be (k n:Nat) (h:n < 256 ^ k):val (be k n) = n:=by
 have key:∀ k,val (be k n) = n % 256 ^ k:=by
  intro k
  induction k with
  | zero=>simp [be,val,valFrom,Nat.mod_one]
  | succ k ih =>
   rw [be,val_cons,be_length,ih]
   have e:(UInt8.ofNat (n / 256 ^ k)).toNat = n / 256 ^ k % 256:=by simp
   rw [e,Nat.pow_succ,Nat.mod_mul,Nat.mul_comm,Nat.add_comm]
 rw [key,Nat.mod_eq_of_lt h]

theorem be_val (bs:List UInt8):be bs.length (val bs) = bs:=by
 induction bs with
 | nil=>rfl
 | cons x bs ih =>
  have hx:x.toNat < 256:=x.toNat_lt
  have hv:=val_lt bs
  have hp:0 < 256 ^ bs.length:=Nat.pow_pos (by decide)
  have beMod:∀ k j n,j ≤ k→be j (n % 256 ^ k) = be j n:=by
   intro k j n hj
   induction j with
   | zero=>rfl
   | succ j ihj =>
    rw [be,be,ihj (by omega)]
    congr 1
    apply UInt8.toNat_inj.1
    simp only [UInt8.toNat_ofNat']
    have hk:256 ^ k = 256 ^ j * 256 ^ (k - j):=by rw [← Nat.pow_add];congr 1;omega
    rw [hk,Nat.mod_mul_right_div_self]
    have:256 ^ (k - j) = 256 * 256 ^ (k - j - 1):=by rw [Nat.mul_comm,← Nat.pow_succ];congr 1;omega
    rw [this]
    exact Nat.mod_mul_right_mod _ _ _
  rw [List.length_cons,be,val_cons]
  congr 1
  ·apply UInt8.toNat_inj.1
   simp only [UInt8.toNat_ofNat']
   rw [Nat.mul_comm,Nat.mul_add_div hp,Nat.div_eq_of_lt hv,Nat.add_zero]
   exact Nat.mod_eq_of_lt hx
  ·rw [← beMod bs.length bs.length _ (Nat.le_refl _),Nat.mul_add_mod',Nat.mod_eq_of_lt hv,ih]

theorem packL_snoc (l:List (UInt8 × Fld)) (p:UInt8 × Fld):packL (l ++ [p]) = match packL l with
  | some x=>match packF p.1 p.2 with
   | some y=>some (x ++ y)
   | none=>none
  | none=>none:=by
 induction l with
 | nil=>simp [packL]
 | cons q l ih =>
  simp only [List.cons_append,packL,ih]
  cases packF q.1 q.2 <;> simp
  cases packL l <;> simp
  cases packF p.1 p.2 <;> simp

theorem packL_append (l m:List (UInt8 × Fld)):packL (l ++ m) = match packL l with
  | some x=>match packL m with
   | some y=>some (x ++ y)
   | none=>none
  | none=>none:=by
 induction l with
 | nil=>simp [packL];cases packL m <;> simp
 | cons q l ih =>
  simp only [List.cons_append,packL,ih]
  cases packF q.1 q.2 <;> simp
  cases packL l <;> simp
  cases packL m <;> simp

theorem unpL_append (s t b:List UInt8):unpL (s ++ t) b = match unpL s b with
  | some (fs,r)=>match unpL t r with
   | some (gs,r')=>some (fs ++ gs,r')
   | none=>none
  | none=>none:=by
 induction s generalizing b with
 | nil =>
  simp only [List.nil_append,unpL]
  cases unpL t b <;> simp
 | cons c s ih =>
  simp only [List.cons_append,unpL]
  cases h:unpF c b with
  | none=>simp
  | some p =>
   obtain ⟨f,r⟩:=p
   simp only [ih]
   cases h2:unpL s r with
   | none=>simp
   | some q =>
    obtain ⟨fs,r'⟩:=q
    simp only
    cases h3:unpL t r' with
    | none=>simp
    | some q=>obtain ⟨gs,r''⟩:=q;simp

theorem unpL_snoc (s b:List UInt8) (c:UInt8):unpL (s ++ [c]) b = match unpL s b with
  | some (fs,r)=>match unpF c r with
   | some (f,r')=>some (fs ++ [f],r')
   | none=>none
  | none=>none:=by
 rw [unpL_append]
 cases unpL s b with
 | none=>simp
 | some q =>
  obtain ⟨fs,r⟩:=q
  simp only [unpL]
  cases unpF c r with
  | none=>simp
  | some p=>obtain ⟨f,r'⟩:=p;simp

theorem unpL_length {s b:List UInt8} {fs:List Fld} {r:List UInt8} (h:unpL s b = some (fs,r)):fs.length = s.length:=by
 induction s generalizing b fs with
 | nil=>simp [unpL] at h;simp [← h.1]
 | cons c s ih =>
  simp only [unpL] at h
  cases h1:unpF c b with
  | none=>simp [h1] at h
  | some p =>
   obtain ⟨f,r1⟩:=p
   simp only [h1] at h
   cases h2:unpL s r1 with
   | none=>simp [h2] at h
   | some q =>
    obtain ⟨gs,r2⟩:=q
    simp only [h2,Option.some.injEq,Prod.mk.injEq] at h
    obtain ⟨rfl,rfl⟩:=h
    simp [ih h2]
end Go.Proofs.Ytghlilncdfiojaa

namespace Go.Proofs.Ytghlilncdfiojaa
set_option linter.unusedVariables false
set_option linter.unusedSimpArgs false
set_option maxRecDepth 20000

/-- What a letter doesn't need is nothing. -/
def nrm (c:UInt8) (f:Fld):Fld:=if c = 98 then ⟨0,f.bytes⟩ else ⟨f.num,[]⟩

theorem unpF_packF {c:UInt8} {f:Fld} {y:List UInt8} (h:packF c f = some y) (r:List UInt8):unpF c (y ++ r) = some (nrm c f,r):=by
 unfold packF at h
 unfold unpF nrm
 by_cases h98:c = 98
 ·rw [if_pos h98] at h
  rw [if_pos h98,if_pos h98]
  split at h
  ·rename_i hle
   simp only [Option.some.injEq] at h
   subst h
   have e1:(be 2 f.bytes.length ++ f.bytes ++ r).take 2 = be 2 f.bytes.length:=by
    rw [List.append_assoc,List.take_left' (be_length _ _)]
   have e2:(be 2 f.bytes.length ++ f.bytes ++ r).drop 2 = f.bytes ++ r:=by
    rw [List.append_assoc,List.drop_left' (be_length _ _)]
   have e3:val (be 2 f.bytes.length) = f.bytes.length:=val_be 2 _ (by omega)
   rw [e1,e2,e3,if_pos ⟨by simp [be_length],hle,by simp⟩]
   simp
  ·cases h
 ·rw [if_neg h98] at h
  rw [if_neg h98,if_neg h98]
  cases hw:wdt c with
  | none=>rw [hw] at h;simp at h
  | some k =>
   rw [hw] at h
   simp only at h
   split at h
   ·rename_i hlt
    simp only [Option.some.injEq] at h
    subst h
    simp only
    rw [if_pos (by simp [be_length]),List.take_left' (be_length _ _),List.drop_left' (be_length _ _),val_be k _ hlt]
   ·cases h

theorem unpL_packL {s:List UInt8} {fs:List Fld} {y:List UInt8} (hl:fs.length = s.length) (h:packL (s.zip fs) = some y) (r:List UInt8):unpL s (y ++ r) = some (List.zipWith nrm s fs,r):=by
 induction s generalizing fs y with
 | nil =>
  cases fs with
  | nil=>simp [packL] at h;subst h;simp [unpL]
  | cons f fs=>simp at hl
 | cons c s ih =>
  cases fs with
  | nil=>simp at hl
  | cons f fs =>
   simp only [List.zip_cons_cons,packL] at h
   cases h1:packF c f with
   | none=>rw [h1] at h;simp at h
   | some a =>
    rw [h1] at h
    simp only at h
    cases h2:packL (s.zip fs) with
    | none=>rw [h2] at h;simp at h
    | some b =>
     rw [h2] at h
     simp only [Option.some.injEq] at h
     subst h
     have hl':fs.length = s.length:=by simpa using hl
     simp only [unpL,List.append_assoc]
     rw [unpF_packF h1]
     simp only
     rw [ih hl' h2]
     simp

theorem packF_unpF {c:UInt8} {b r:List UInt8} {f:Fld} (h:unpF c b = some (f,r)):∃ y,packF c f = some y∧b = y ++ r∧nrm c f = f:=by
 unfold unpF at h
 unfold packF nrm
 by_cases h98:c = 98
 ·rw [if_pos h98] at h
  rw [if_pos h98,if_pos h98]
  split at h
  ·rename_i hc
   simp only [Option.some.injEq,Prod.mk.injEq] at h
   obtain ⟨rfl,rfl⟩:=h
   have hlen:((b.drop 2).take (val (b.take 2))).length = val (b.take 2):=by rw [List.length_take];omega
   refine ⟨be 2 (val (b.take 2)) ++ (b.drop 2).take (val (b.take 2)),?_,?_,rfl⟩
   ·simp only
    rw [hlen,if_pos hc.2.1]
   ·have e:be 2 (val (b.take 2)) = b.take 2:=by
     have:=be_val (b.take 2)
     rw [show (b.take 2).length = 2 by rw [List.length_take];omega] at this
     exact this
    rw [e,List.append_assoc,List.take_append_drop,List.take_append_drop]
  ·cases h
 ·rw [if_neg h98] at h
  rw [if_neg h98,if_neg h98]
  cases hw:wdt c with
  | none=>rw [hw] at h;simp at h
  | some k =>
   rw [hw] at h
   simp only at h
   split at h
   ·rename_i hk
    simp only [Option.some.injEq,Prod.mk.injEq] at h
    obtain ⟨rfl,rfl⟩:=h
    have hl:(b.take k).length = k:=by rw [List.length_take];omega
    have hv:=val_lt (b.take k)
    have e:=be_val (b.take k)
    rw [hl] at hv e
    refine ⟨be k (val (b.take k)),?_,?_,rfl⟩
    ·simp only
     rw [if_pos hv]
    ·rw [e,List.take_append_drop]
   ·cases h

theorem pack_some {s:List UInt8} {fs:List Fld} {y:List UInt8} (h:pack s fs = some y):s.length ≤ 200∧fs.length = s.length∧packL (s.zip fs) = some y:=by
 unfold pack at h
 split at h
 ·rename_i hc;exact ⟨hc.1,hc.2,h⟩
 ·cases h

theorem unpack_some {s b:List UInt8} {fs:List Fld} (h:unpack s b = some fs):s.length ≤ 200∧unpL s b = some (fs,[]):=by
 unfold unpack at h
 split at h
 ·rename_i hc
  cases hu:unpL s b with
  | none=>rw [hu] at h;simp at h
  | some q =>
   obtain ⟨gs,r⟩:=q
   rw [hu] at h
   cases r with
   | nil=>simp at h;subst h;exact ⟨hc,rfl⟩
   | cons a r=>simp at h
 ·cases h

/-- Packed, then unpacked. -/
theorem unpack_pack {s:List UInt8} {fs:List Fld} {y:List UInt8} (h:pack s fs = some y):unpack s y = some (List.zipWith nrm s fs):=by
 obtain ⟨h1,h2,h3⟩:=pack_some h
 have:=unpL_packL h2 h3 []
 rw [List.append_nil] at this
 unfold unpack
 rw [if_pos h1,this]

end Go.Proofs.Ytghlilncdfiojaa

namespace Go.Proofs.Ytghlilncdfiojaa
set_option linter.unusedVariables false
set_option linter.unusedSimpArgs false
set_option maxRecDepth 20000
open Go.RowKit

def err21:PanicEntry:={ v:=.iface 38 (.int .i64 21),recovered:=false }

theorem c_must_yes (w:World) :
  Calls Try.prog 65 #[.bool true] w fun e w'=>e = .returned (.tuple #[])∧w = w':=by
 go_enter Try.func65,Try.ntmps65
 go_wp2
 go_end0
 exact ⟨rfl,rfl⟩

theorem c_must_no (w:World) :
  Calls Try.prog 65 #[.bool false] w fun e w'=>e = .panicked [err21]∧w = w':=by
 go_enter Try.func65,Try.ntmps65
 go_wp2
 exact ⟨rfl,rfl,rfl⟩

theorem c_widthOf_yes (x k:Int) (h:(x = 49∧k = 1)∨(x = 50∧k = 2)∨(x = 52∧k = 4)∨(x = 56∧k = 8)) (w:World) :
  Calls Try.prog 86 #[.int .u8 x] w fun e w'=>e = .returned (.int .i64 k)∧w = w':=by
 rcases h with ⟨rfl,rfl⟩ | ⟨rfl,rfl⟩ | ⟨rfl,rfl⟩ | ⟨rfl,rfl⟩ <;>
 ·go_enter Try.func86,Try.ntmps86
  go_wp2
  go_ret
  exact ⟨rfl,rfl⟩

theorem c_widthOf_no (x:Int) (h1:(x == 49) = false) (h2:(x == 50) = false) (h3:(x == 52) = false) (h4:(x == 56) = false) (w:World) :
  Calls Try.prog 86 #[.int .u8 x] w fun e w'=>e = .panicked [err21]∧w = w':=by
 go_enter Try.func86,Try.ntmps86
 go_wp2
 exact ⟨rfl,rfl,rfl⟩

theorem c_width_yes (x k:Int) (h:(x = 49∧k = 1)∨(x = 50∧k = 2)∨(x = 52∧k = 4)∨(x = 56∧k = 8)∨(x = 98∧k = 0)) (w:World) :
  Calls Try.prog 74 #[.int .u8 x] w fun e w'=>e = .returned (.int .i64 k)∧w = w':=by
 rcases h with ⟨rfl,rfl⟩ | ⟨rfl,rfl⟩ | ⟨rfl,rfl⟩ | ⟨rfl,rfl⟩ | ⟨rfl,rfl⟩ <;>
 ·go_enter Try.func74,Try.ntmps74
  go_wp2
  go_ret
  exact ⟨rfl,rfl⟩

theorem c_width_no (x:Int) (h1:(x == 49) = false) (h2:(x == 50) = false) (h3:(x == 52) = false) (h4:(x == 56) = false) (h5:(x == 98) = false) (w:World) :
  Calls Try.prog 74 #[.int .u8 x] w fun e w'=>e = .returned (.int .i64 (-1))∧w = w':=by
 go_enter Try.func74,Try.ntmps74
 go_wp2
 go_ret
 exact ⟨rfl,rfl⟩

set_option maxHeartbeats 400000 in
theorem c_take_yes (R n len cap:Nat) (ao:Option Addr) (w:World) (hr:w.cell? ⟨R,0,none⟩ = some (.slice ao len cap)) (hf:w.frozen? ⟨R,0,none⟩ = false)
  (hn:n ≤ len) (hc:len ≤ cap) (hm:cap ≤ maxLen) :
  Calls Try.prog 107 #[.pointer (some ⟨R,0,none⟩),.int .i64 n] w fun e w'=>e = .returned (.slice ao n cap)∧w' = w.setCell ⟨R,0,none⟩ (cut1 ao n len cap):=by
 unfold maxLen at hm
 go_enter Try.func107,Try.ntmps107
 go_wp2_with (go_at_call 65;refine (c_must_yes _).mono ?_;rintro e w' ⟨rfl,rfl⟩)
 all_goals
  go_ret
  exact ⟨rfl,by simp [cut1,sliced, *]⟩

set_option maxHeartbeats 400000 in
theorem c_take_no (R n len cap:Nat) (ao:Option Addr) (w:World) (hr:w.cell? ⟨R,0,none⟩ = some (.slice ao len cap))
  (hn:len < n) (hc:len ≤ cap) (hm:cap ≤ maxLen) :
  Calls Try.prog 107 #[.pointer (some ⟨R,0,none⟩),.int .i64 n] w fun e w'=>e = .panicked [err21]∧w = w':=by
 unfold maxLen at hm
 have hd:decide (n ≤ len) = false:=decide_eq_false (by omega)
 go_enter Try.func107,Try.ntmps107
 go_wp2_with (go_at_call 65;refine (c_must_no _).mono ?_;rintro e w' ⟨rfl,rfl⟩)
 exact ⟨rfl,rfl,rfl⟩

theorem close_or (n:Nat) (x:UInt8) (h:Hid (n < 72057594037927936)) :
  Value.int .u64 (bits .or .u64 (IntKind.u64.wrap ((n:Int) * 256)) (IntKind.u64.wrap (x.toNat:Int))) = .int .u64 ((n * 256 + x.toNat:Nat):Int):=by
 have h:=h.out
 have hx:x.toNat < 256:=x.toNat_lt
 have e1:IntKind.u64.wrap ((n:Int) * 256) = ((n * 256:Nat):Int):=by rw [IntKind.wrap_u64];omega
 have e2:IntKind.u64.wrap (x.toNat:Int) = (x.toNat:Int):=by rw [IntKind.wrap_u64];omega
 rw [e1,e2,bits_or_u64_nat (n * 256) x.toNat (by omega) (by omega)]
 congr 2
 rw [show (256:Nat) = 2 ^ 8 from rfl,Nat.mul_comm n,← Nat.two_pow_add_eq_or_of_lt (by omega) n]

theorem close_add (n:Nat) (x:UInt8) (h:Hid (n < 72057594037927936)) :
  Value.int .u64 (IntKind.u64.wrap (IntKind.u64.wrap ((n:Int) * 256) + IntKind.u64.wrap (x.toNat:Int))) = .int .u64 ((n * 256 + x.toNat:Nat):Int):=by
 have h:=h.out
 have hx:x.toNat < 256:=x.toNat_lt
 congr 1
 rw [IntKind.wrap_u64,IntKind.wrap_u64,IntKind.wrap_u64]
 omega

theorem take_val_snoc (xs:List UInt8) (k:Nat) (h:k < xs.length):val (xs.take (k + 1)) = val (xs.take k) * 256 + xs[k].toNat:=by
 rw [List.take_succ_eq_append_getElem h,val_snoc]

theorem take_val_lt (xs:List UInt8) (k:Nat) (h:k < 8):val (xs.take k) < 72057594037927936:=by
 have h1:=val_lt (xs.take k)
 have h2:(xs.take k).length ≤ 7:=by rw [List.length_take];omega
 have h3:256 ^ (xs.take k).length ≤ 256 ^ 7:=Nat.pow_le_pow_right (by decide) h2
 omega

set_option maxHeartbeats 800000 in
theorem c_number_yes (K R n cap:Nat) (ao:Option Addr) (xs:List UInt8) (w:World) (hr:w.cell? ⟨R,0,none⟩ = some (.slice ao xs.length cap)) (hf:w.frozen? ⟨R,0,none⟩ = false)
  (hs:Sl K w (.slice ao xs.length cap) xs.length (xs.map bv)) (hK:K ≤ R) (hn:n ≤ xs.length) (h8:n ≤ 8) (hc:xs.length ≤ cap) (hm:cap ≤ maxLen) :
  Calls Try.prog 99 #[.pointer (some ⟨R,0,none⟩),.int .i64 n] w fun e w'=>e = .returned (.int .u64 (val (xs.take n):Nat))∧w' = w.setCell ⟨R,0,none⟩ (cut1 ao n xs.length cap):=by
 go_enter Try.func99,Try.ntmps99
 go_wp2_with (go_at_call 107;refine (c_take_yes R n xs.length cap ao _ hr hf hn hc hm).mono ?_;rintro e w' ⟨rfl,rfl⟩)
 go_loop [5,12] (fun u i=>∃ k:Nat,k ≤ n∧i = .int .i64 k∧u = .int .u64 (val (xs.take k):Nat)) (fun _ i=>n - (intOf i).toNat)
 case atStart=>exact ⟨0,Nat.zero_le _,rfl,rfl⟩
 case round =>
  obtain ⟨k,hk,rfl,rfl⟩:=hrel
  by_cases hlt:k < n
  ·obtain ⟨b,off,rfl,hbK,hcell⟩:=sl_bytes_get hs k (by omega)
   have hcell':(w.setCell ⟨R,0,none⟩ (cut1 (some ⟨b,off,none⟩) n xs.length cap)).cell? ⟨b,off + k,none⟩ = some (.int .u8 ((xs[k]'(by omega)).toNat:Int)):=by
    rw [World.cell?_setCell_other _ _ _ _ (by intro e;have:=congrArg Addr.block e;simp at this;omega)];exact hcell
   have H1:Hid (val (xs.take (k + 1)) = val (xs.take k) * 256 + (xs[k]'(by omega)).toNat):=take_val_snoc xs k (by omega)
   have hv:Hid (val (xs.take k) < 72057594037927936):=take_val_lt xs k (by omega)
   generalize val (xs.take k) = m at *
   go_wp2
   go_round
   case rel=>exact ⟨k + 1,by omega,by go_num,by rw [H1.out];exact close_or m _ hv⟩
   case measure=>simp [intOf];omega
  ·go_wp2
   go_ret
   have:k = n:=by omega
   subst this
   exact ⟨rfl,rfl⟩

theorem c_number_no (R n len cap:Nat) (ao:Option Addr) (w:World) (hr:w.cell? ⟨R,0,none⟩ = some (.slice ao len cap))
  (hn:len < n) (hc:len ≤ cap) (hm:cap ≤ maxLen) :
  Calls Try.prog 99 #[.pointer (some ⟨R,0,none⟩),.int .i64 n] w fun e w'=>e = .panicked [err21]∧w = w':=by
 go_enter Try.func99,Try.ntmps99
 go_wp2_with (go_at_call 107;refine (c_take_no R n len cap ao _ hr hn hc hm).mono ?_;rintro e w' ⟨rfl,rfl⟩)
 exact ⟨rfl,rfl,rfl⟩

set_option maxHeartbeats 800000 in
theorem c_refnumber (K cap:Nat) (ao:Option Addr) (xs:List UInt8) (w:World)
  (hs:Sl K w (.slice ao xs.length cap) xs.length (xs.map bv)) (h8:xs.length ≤ 8) :
  Calls Try.prog 78 #[.slice ao xs.length cap] w fun e w'=>e = .returned (.int .u64 (val xs:Nat))∧w = w':=by
 go_enter Try.func78,Try.ntmps78
 go_wp2
 go_loop [3,4] (fun u i=>∃ k:Nat,k ≤ xs.length∧i = .int .i64 k∧u = .int .u64 (val (xs.take k):Nat)) (fun _ i=>xs.length - (intOf i).toNat)
 case atStart=>exact ⟨0,Nat.zero_le _,rfl,rfl⟩
 case round =>
  obtain ⟨k,hk,rfl,rfl⟩:=hrel
  by_cases hlt:k < xs.length
  ·obtain ⟨b,off,rfl,hbK,hcell⟩:=sl_bytes_get hs k (by omega)
   have H1:Hid (val (xs.take (k + 1)) = val (xs.take k) * 256 + (xs[k]'(by omega)).toNat):=take_val_snoc xs k (by omega)
   have hv:Hid (val (xs.take k) < 72057594037927936):=take_val_lt xs k (by omega)
   clear hs
   generalize val (xs.take k) = m at *
   go_wp2
   go_round
   case rel=>exact ⟨k + 1,by omega,by go_num,by rw [H1.out];exact close_add m _ hv⟩
   case measure=>simp [intOf];omega
  ·go_wp2
   go_ret
   have e:xs.take k = xs:=List.take_of_length_le (by omega)
   rw [e]
   exact ⟨rfl,rfl⟩
end Go.Proofs.Ytghlilncdfiojaa

namespace Go.Proofs.Ytghlilncdfiojaa
set_option linter.unusedVariables false
set_option linter.unusedSimpArgs false
set_option maxRecDepth 20000
open Go.RowKit

theorem Try.info5:(Try.prog.info? 5).map (fun i=>(i.zero,i.size,i.bytes)) = some (some (.int .u8 0),1,1):=by kernel_rfl

theorem shr_test_yes (n k:Nat) (h:n < 256 ^ k):((n:Int) / 2 ^ (8 * k) == 0) = true:=by
 have e:(2:Int) ^ (8 * k) = ((256 ^ k:Nat):Int):=by rw [Int.pow_mul];simp
 rw [beq_iff_eq,e]
 exact Int.ediv_eq_zero_of_lt (by omega) (by omega)

theorem shr_test_no (n k:Nat) (h:¬ n < 256 ^ k):((n:Int) / 2 ^ (8 * k) == 0) = false:=by
 have e:(2:Int) ^ (8 * k) = ((256 ^ k:Nat):Int):=by rw [Int.pow_mul];simp
 rw [beq_eq_false_iff_ne,e,← Int.natCast_ediv]
 have:0 < n / 256 ^ k:=Nat.div_pos (by omega) (Nat.pow_pos (by decide))
 omega

theorem byte_of_shr (n m:Nat):Value.int .u8 ((n:Int) / 2 ^ (8 * m) % 256) = bv (UInt8.ofNat (n / 256 ^ m)):=by
 have e:(2:Int) ^ (8 * m) = ((256 ^ m:Nat):Int):=by rw [Int.pow_mul];simp
 rw [e,← Int.natCast_ediv,bv]
 simp

/-- One round more of a number's bytes. -/
theorem owns_push {w:World} {B:Nat} {v:Value} {acc:List UInt8} {c:Value} {x:UInt8} (hc:c = bv x) (h:w.ownsRow B 5 1 v (acc.length + 1) (acc.map bv ++ [c])) :
  w.ownsRow B 5 1 v (acc ++ [x]).length ((acc ++ [x]).map bv):=by
 subst hc
 simpa using h

set_option maxHeartbeats 800000 in
theorem c_appendNumber_yes (B k n:Nat) (v:Value) (xs:List UInt8) (w:World) (hown:w.ownsRow B 5 1 v xs.length (xs.map bv)) (hB:B ≤ w.heap.size) (hk:k ≤ 8) (hnk:n < 256 ^ k) (hn:n < 18446744073709551616) (hx:xs.length ≤ 1000000000) :
  Calls Try.prog 85 #[v,.int .i64 k,.int .u64 n] w fun e w'=>∃ v',e = .returned v'∧w'.ownsRow B 5 1 v' (xs ++ be k n).length ((xs ++ be k n).map bv)∧Below B w w':=by
 obtain ⟨i0,hi,hz0,hz1,hz2⟩:=info_parts Try.info5
 have ht:=shr_test_yes n k hnk
 go_enter Try.func85,Try.ntmps85
 go_wp2_with (go_at_call 65;refine (c_must_yes _).mono ?_;rintro e w' ⟨rfl,rfl⟩)
 go_loopw [0,7] (fun t i wr=>∃ (j:Nat) (iv:Int) (acc:List UInt8),j ≤ k∧Hid (acc = xs ++ (be k n).take j)∧i = .int .i64 iv∧iv + j + 1 = k∧wr.ownsRow B 5 1 t acc.length (acc.map bv)∧Below B w wr) (fun _ i _=>((intOf i) + 1).toNat)
 case atStart=>exact ⟨0,_,xs,Nat.zero_le _,by simp [Hid],rfl,by omega,hown,Below.refl _ _⟩
 case round =>
  obtain ⟨j,iv,acc,hj,hacc,rfl,hiv,hown1,hbel⟩:=hrel
  by_cases hlt:j < k
  ·obtain ⟨m,rfl⟩:∃ m:Nat,iv = m:=⟨iv.toNat,by omega⟩
   have hlen:acc.length ≤ 1000000008:=by rw [hacc.out,List.length_append,List.length_take,be_length];omega
   have hsz:=hbel.size
   go_wp2_with (at_builtin;refine wpList_append_sl _ rfl _ _ 28 rfl B 5 i0 (.int .u8 0) 1 1 Try.underlying28 hi hz0 hz1 hz2 rfl (by decide) _ _ _ rfl (hown1.alloc _) _ _ 1 _ rfl (sl_lit wr _ 5 1 (by omega)) rfl ?c1 ?c2 ?c3 ?c4 ?_)
   case c1=>first | rfl | (intro u hu;simp at hu;subst hu;rfl)
   case c2=>unfold maxLen;omega
   case c3=>omega
   case c4=>simp;omega
   intro v' w1 hown2 hgrow _
   have hb2:Below B w w1:=(hbel.alloc (by omega) _).grown hgrow (by simp;omega) (owns_ge hown1)
   have hown3:=owns_push (byte_of_shr n m) hown2
   have hacc2:Hid (acc ++ [UInt8.ofNat (n / 256 ^ m)] = xs ++ (be k n).take (j + 1)):=by
    have hb:=be_get k n j hlt
    rw [show k - 1 - j = m by omega] at hb
    unfold Hid
    rw [hacc.out,List.take_add_one,hb]
    simp
   clear hown2 hgrow hown1 hbel
   go_wp2
   go_roundw
   case rel=>exact ⟨j + 1,_,_,by omega,hacc2,rfl,by omega,hown3,hb2⟩
   case measure=>simp [intOf]
  ·have he:acc = xs ++ be k n:=by rw [hacc.out,List.take_of_length_le (by rw [be_length];omega)]
   go_wp2
   go_ret
   subst he
   exact ⟨_,rfl,hown1,hbel⟩

theorem c_appendNumber_no (k n:Nat) (v:Value) (w:World) (hk:k ≤ 8) (hnk:¬ n < 256 ^ k) (hn:n < 18446744073709551616) :
  Calls Try.prog 85 #[v,.int .i64 k,.int .u64 n] w fun e w'=>e = .panicked [err21]∧w = w':=by
 have ht:=shr_test_no n k hnk
 go_enter Try.func85,Try.ntmps85
 go_wp2_with (go_at_call 65;refine (c_must_no _).mono ?_;rintro e w' ⟨rfl,rfl⟩)
 exact ⟨rfl,rfl,rfl⟩

set_option maxHeartbeats 800000 in
theorem c_appendBytes_yes (B K:Nat) (v bvv:Value) (xs bs:List UInt8) (w:World) (hown:w.ownsRow B 5 1 v xs.length (xs.map bv)) (hB:B ≤ w.heap.size) (hs:Sl K w bvv bs.length (bs.map bv)) (hK:K ≤ B) (hl:bs.length ≤ 1024) (hx:xs.length ≤ 1000000000) :
  Calls Try.prog 84 #[v,bvv] w fun e w'=>∃ v',e = .returned v'∧w'.ownsRow B 5 1 v' (xs ++ (be 2 bs.length ++ bs)).length ((xs ++ (be 2 bs.length ++ bs)).map bv)∧Below B w w':=by
 obtain ⟨i0,hi,hz0,hz1,hz2⟩:=info_parts Try.info5
 obtain ⟨ao,cap,rfl,hcap,hnil,hcs⟩:=hs
 have hs:Sl K w (.slice ao bs.length cap) bs.length (bs.map bv):=⟨ao,cap,rfl,hcap,hnil,hcs⟩
 clear hcs hnil
 have hd:decide ((bs.length:Int) ≤ 1024) = true:=decide_eq_true (by omega)
 go_enter Try.func84,Try.ntmps84
 go_wp2_with (first
  | (go_at_call 65;refine (c_must_yes _).mono ?_;rintro e w' ⟨rfl,rfl⟩)
  | (go_at_call 85;refine (c_appendNumber_yes B 2 bs.length v xs _ hown hB (by omega) (by omega) (by omega) hx).mono ?_;rintro e w1 ⟨v1,rfl,hown1,hb1⟩)
  | (at_builtin;refine wpList_append_sl _ rfl _ _ 28 rfl B 5 i0 (.int .u8 0) 1 1 Try.underlying28 hi hz0 hz1 hz2 rfl (by decide) _ _ _ rfl hown1 K _ _ _ rfl (hs.keep (hb1.mono hK)) (by simp) (bv_oneCell _) ?c1 ?c2 ?c3 ?_))
 case c1=>unfold maxLen;simp [be_length];omega
 case c2=>simp [be_length];omega
 case c3=>have:=hb1.size;omega
 intro v' w2 hown2 hgrow _
 have hb2:Below B w w2:=hb1.grown hgrow (by have:=hb1.size;omega) (owns_ge hown1)
 have hown3:w2.ownsRow B 5 1 v' (xs ++ (be 2 bs.length ++ bs)).length ((xs ++ (be 2 bs.length ++ bs)).map bv):=by simpa [Nat.add_assoc] using hown2
 clear hown2 hgrow hown1 hb1
 go_wp2
 go_ret
 exact ⟨_,rfl,hown3,hb2⟩

theorem c_appendBytes_no (v:Value) (ao:Option Addr) (len cap:Nat) (w:World) (hl:1024 < len) (hm:len ≤ maxLen) :
  Calls Try.prog 84 #[v,.slice ao len cap] w fun e w'=>e = .panicked [err21]∧w = w':=by
 unfold maxLen at hm
 have hd:decide ((len:Int) ≤ 1024) = false:=decide_eq_false (by omega)
 go_enter Try.func84,Try.ntmps84
 go_wp2_with (go_at_call 65;refine (c_must_no _).mono ?_;rintro e w' ⟨rfl,rfl⟩)
 exact ⟨rfl,rfl,rfl⟩

end Go.Proofs.Ytghlilncdfiojaa

namespace Go.Proofs.Ytghlilncdfiojaa
set_option linter.unusedVariables false
set_option linter.unusedSimpArgs false
set_option maxRecDepth 20000
open Go.RowKit

set_option maxHeartbeats 800000 in
theorem c_appendField_num (B k n:Nat) (c:Int) (v bvv:Value) (xs:List UInt8) (w:World) (hown:w.ownsRow B 5 1 v xs.length (xs.map bv)) (hB:B ≤ w.heap.size)
  (hc:Hid ((c = 49∧(k:Int) = 1)∨(c = 50∧(k:Int) = 2)∨(c = 52∧(k:Int) = 4)∨(c = 56∧(k:Int) = 8))) (hnk:n < 256 ^ k) (hn:n < 18446744073709551616) (hx:xs.length ≤ 1000000000) :
  Calls Try.prog 66 #[v,.int .u8 c,.agg #[.int .u64 n,bvv]] w fun e w'=>∃ v',e = .returned v'∧w'.ownsRow B 5 1 v' (xs ++ be k n).length ((xs ++ be k n).map bv)∧Below B w w':=by
 have hc98:(c == 98) = false:=beq_eq_false_iff_ne.2 (by have:=hc.out;omega)
 have hk:k ≤ 8:=by have:=hc.out;omega
 go_enter Try.func66,Try.ntmps66
 go_wp2
 have hS:(fun w':World=>w'.cell? ⟨w.heap.size,0,none⟩ = some (.int .u64 n)) (w.alloc (.cells #[.int .u64 n,bvv] 74)).drew:=by simp [go_sem]
 refine wp_region_ord [] 5 [(0,true),(1,true),(3,true),(4,true),(2,false)] (fun w'=>w'.cell? ⟨w.heap.size,0,none⟩ = some (.int .u64 n)) (by kernel_rfl) (by kernel_rfl) ?_
 refine ord_quiet _ ?_ rfl hS rfl ?_ ?_
 rotate_left
 ·intro w' hS';go_simp;rfl
 refine ord_quiet _ ?_ rfl hS rfl ?_ ?_
 rotate_left
 ·intro w' hS';go_simp;rfl
 refine ord_quiet _ ?_ rfl hS rfl ?_ ?_
 rotate_left
 ·intro w' hS';go_simp;rfl
 refine ord_quiet _ ?_ rfl hS rfl ?_ ?_
 rotate_left
 ·intro w' hS';go_simp;rfl
 refine ord_act _ rfl fun K hK=>?_
 go_wp2_with (go_at_call 86;refine (c_widthOf_yes _ _ hc.out _).mono ?_;rintro e w' ⟨rfl,rfl⟩)
 refine hK _ _ hS ?_
 clear hK K
 refine ord_tail ?_
 simp only [List.drop_succ_cons,List.drop_zero]
 go_wp2_with (go_at_call 85;refine (c_appendNumber_yes B k n v xs _ ((hown.alloc _).drew) (by simp;omega) hk hnk hn hx).mono ?_;rintro e w1 ⟨v1,rfl,hown1,hb1⟩)
 go_ret
 exact ⟨_,rfl,hown1,(((Below.refl _ _).alloc hB _).drew).trans hb1⟩

set_option maxHeartbeats 800000 in
theorem c_appendField_over (k n:Nat) (c:Int) (v bvv:Value) (w:World)
  (hc:Hid ((c = 49∧(k:Int) = 1)∨(c = 50∧(k:Int) = 2)∨(c = 52∧(k:Int) = 4)∨(c = 56∧(k:Int) = 8))) (hnk:¬ n < 256 ^ k) (hn:n < 18446744073709551616) :
  Calls Try.prog 66 #[v,.int .u8 c,.agg #[.int .u64 n,bvv]] w fun e w'=>e = .panicked [err21]∧Below w.heap.size w w':=by
 have hc98:(c == 98) = false:=beq_eq_false_iff_ne.2 (by have:=hc.out;omega)
 have hk:k ≤ 8:=by have:=hc.out;omega
 go_enter Try.func66,Try.ntmps66
 go_wp2
 have hS:(fun w':World=>w'.cell? ⟨w.heap.size,0,none⟩ = some (.int .u64 n)) (w.alloc (.cells #[.int .u64 n,bvv] 74)).drew:=by simp [go_sem]
 refine wp_region_ord [] 5 [(0,true),(1,true),(3,true),(4,true),(2,false)] (fun w'=>w'.cell? ⟨w.heap.size,0,none⟩ = some (.int .u64 n)) (by kernel_rfl) (by kernel_rfl) ?_
 refine ord_quiet _ ?_ rfl hS rfl ?_ ?_
 rotate_left
 ·intro w' hS';go_simp;rfl
 refine ord_quiet _ ?_ rfl hS rfl ?_ ?_
 rotate_left
 ·intro w' hS';go_simp;rfl
 refine ord_quiet _ ?_ rfl hS rfl ?_ ?_
 rotate_left
 ·intro w' hS';go_simp;rfl
 refine ord_quiet _ ?_ rfl hS rfl ?_ ?_
 rotate_left
 ·intro w' hS';go_simp;rfl
 refine ord_act _ rfl fun K hK=>?_
 go_wp2_with (go_at_call 86;refine (c_widthOf_yes _ _ hc.out _).mono ?_;rintro e w' ⟨rfl,rfl⟩)
 refine hK _ _ hS ?_
 clear hK K
 refine ord_tail ?_
 simp only [List.drop_succ_cons,List.drop_zero]
 go_wp2_with (go_at_call 85;refine (c_appendNumber_no k n v _ hk hnk hn).mono ?_;rintro e w1 ⟨rfl,rfl⟩)
 exact ⟨rfl,rfl,((Below.refl _ _).alloc (Nat.le_refl _) _).drew⟩

set_option maxHeartbeats 800000 in
theorem c_appendField_none (n:Nat) (c:Int) (v bvv:Value) (w:World) (hc98:(c == 98) = false) (h1:(c == 49) = false) (h2:(c == 50) = false) (h3:(c == 52) = false) (h4:(c == 56) = false) :
  Calls Try.prog 66 #[v,.int .u8 c,.agg #[.int .u64 n,bvv]] w fun e w'=>e = .panicked [err21]∧Below w.heap.size w w':=by
 go_enter Try.func66,Try.ntmps66
 go_wp2
 have hS:(fun w':World=>w'.cell? ⟨w.heap.size,0,none⟩ = some (.int .u64 n)) (w.alloc (.cells #[.int .u64 n,bvv] 74)).drew:=by simp [go_sem]
 refine wp_region_ord [] 5 [(0,true),(1,true),(3,true),(4,true),(2,false)] (fun w'=>w'.cell? ⟨w.heap.size,0,none⟩ = some (.int .u64 n)) (by kernel_rfl) (by kernel_rfl) ?_
 refine ord_quiet _ ?_ rfl hS rfl ?_ ?_
 rotate_left
 ·intro w' hS';go_simp;rfl
 refine ord_quiet _ ?_ rfl hS rfl ?_ ?_
 rotate_left
 ·intro w' hS';go_simp;rfl
 refine ord_quiet _ ?_ rfl hS rfl ?_ ?_
 rotate_left
 ·intro w' hS';go_simp;rfl
 refine ord_quiet _ ?_ rfl hS rfl ?_ ?_
 rotate_left
 ·intro w' hS';go_simp;rfl
 refine ord_act _ rfl fun K hK=>?_
 go_wp2_with (go_at_call 86;refine (c_widthOf_no _ h1 h2 h3 h4 _).mono ?_;rintro e w' ⟨rfl,rfl⟩)
 intro a' hd _
 exact ⟨hd,rfl,((Below.refl _ _).alloc (Nat.le_refl _) _).drew⟩

set_option maxHeartbeats 800000 in
theorem c_appendField_bytes (B K n:Nat) (v bvv:Value) (xs bs:List UInt8) (w:World) (hown:w.ownsRow B 5 1 v xs.length (xs.map bv)) (hB:B ≤ w.heap.size) (hs:Sl K w bvv bs.length (bs.map bv)) (hK:K ≤ B) (hl:bs.length ≤ 1024) (hx:xs.length ≤ 1000000000) :
  Calls Try.prog 66 #[v,.int .u8 98,.agg #[.int .u64 n,bvv]] w fun e w'=>∃ v',e = .returned v'∧w'.ownsRow B 5 1 v' (xs ++ (be 2 bs.length ++ bs)).length ((xs ++ (be 2 bs.length ++ bs)).map bv)∧Below B w w':=by
 go_enter Try.func66,Try.ntmps66
 go_wp2_with (go_at_call 84;refine (c_appendBytes_yes B K v bvv xs bs _ (hown.alloc _) (by simp;omega) (hs.keep ((Below.refl _ _).alloc (by omega) _)) hK hl hx).mono ?_;rintro e w1 ⟨v1,rfl,hown1,hb1⟩)
 go_ret
 exact ⟨_,rfl,hown1,((Below.refl _ _).alloc hB _).trans hb1⟩

set_option maxHeartbeats 800000 in
theorem c_appendField_long (n:Nat) (v:Value) (ao:Option Addr) (len cap:Nat) (w:World) (hl:1024 < len) (hm:len ≤ maxLen) :
  Calls Try.prog 66 #[v,.int .u8 98,.agg #[.int .u64 n,.slice ao len cap]] w fun e w'=>e = .panicked [err21]∧Below w.heap.size w w':=by
 go_enter Try.func66,Try.ntmps66
 go_wp2_with (go_at_call 84;refine (c_appendBytes_no v ao len cap _ hl hm).mono ?_;rintro e w1 ⟨rfl,rfl⟩)
 exact ⟨rfl,rfl,(Below.refl _ _).alloc (Nat.le_refl _) _⟩
end Go.Proofs.Ytghlilncdfiojaa

namespace Go.Proofs.Ytghlilncdfiojaa
set_option linter.unusedVariables false
set_option linter.unusedSimpArgs false
set_option maxRecDepth 20000
open Go.RowKit

/-- The slice value v has the fields fs, in blocks below K. -/
def FieldsAt (K:Nat) (w:World) (v:Value) (fs:List Fld):Prop :=
 ∃ ao cap,v = .slice ao fs.length cap∧fs.length ≤ cap∧(ao = none→cap = 0) ∧
  ∀ i f,fs[i]? = some f→∃ b off bvv,ao = some ⟨b,off,none⟩∧b < K∧w.cell? ⟨b,off + i * 2,none⟩ = some (.int .u64 (f.num:Nat))∧w.cell? ⟨b,off + i * 2 + 1,none⟩ = some bvv ∧
   Sl K w bvv f.bytes.length (f.bytes.map bv)∧f.num < 18446744073709551616∧f.bytes.length ≤ 140737488355328

theorem FieldsAt.keep {K:Nat} {w w':World} {v:Value} {fs:List Fld} (h:FieldsAt K w v fs) (hb:Below K w w'):FieldsAt K w' v fs:=by
 obtain ⟨ao,cap,hv,hc,hn,hcs⟩:=h
 refine ⟨ao,cap,hv,hc,hn,fun i f hi=>?_⟩
 obtain ⟨b,off,bvv,ha,hbk,h1,h2,h3,h4⟩:=hcs i f hi
 exact ⟨b,off,bvv,ha,hbk,by rw [hb.cell (p:=⟨b,_,none⟩) hbk];exact h1,by rw [hb.cell (p:=⟨b,_,none⟩) hbk];exact h2,h3.keep hb,h4⟩

theorem FieldsAt.mono {K K':Nat} {w:World} {v:Value} {fs:List Fld} (h:FieldsAt K w v fs) (hk:K ≤ K'):FieldsAt K' w v fs:=by
 obtain ⟨ao,cap,hv,hc,hn,hcs⟩:=h
 refine ⟨ao,cap,hv,hc,hn,fun i f hi=>?_⟩
 obtain ⟨b,off,bvv,ha,hbk,h1,h2,h3,h4⟩:=hcs i f hi
 exact ⟨b,off,bvv,ha,Nat.lt_of_lt_of_le hbk hk,h1,h2,h3.mono hk,h4⟩

theorem wdt_int {c:UInt8} {k:Nat} (h:wdt c = some k):((c.toNat:Int) = 49∧(k:Int) = 1)∨((c.toNat:Int) = 50∧(k:Int) = 2)∨((c.toNat:Int) = 52∧(k:Int) = 4)∨((c.toNat:Int) = 56∧(k:Int) = 8):=by
 unfold wdt at h
 by_cases h1:c = 49
 ·subst h1;simp at h;subst h;decide
 by_cases h2:c = 50
 ·subst h2;simp at h;subst h;decide
 by_cases h3:c = 52
 ·subst h3;simp at h;subst h;decide
 by_cases h4:c = 56
 ·subst h4;simp at h;subst h;decide
 simp [h1,h2,h3,h4] at h

theorem byte_ne {c d:UInt8} (h:c ≠ d) (n:Int) (hd:(d.toNat:Int) = n):((c.toNat:Int) == n) = false:=by
 rw [beq_eq_false_iff_ne]
 intro e
 apply h
 apply UInt8.toNat_inj.1
 omega

theorem wdt_none {c:UInt8} (h:wdt c = none):((c.toNat:Int) == 49) = false∧((c.toNat:Int) == 50) = false∧((c.toNat:Int) == 52) = false∧((c.toNat:Int) == 56) = false:=by
 unfold wdt at h
 by_cases h1:c = 49
 ·simp [h1] at h
 by_cases h2:c = 50
 ·simp [h2] at h
 by_cases h3:c = 52
 ·simp [h3] at h
 by_cases h4:c = 56
 ·simp [h4] at h
 exact ⟨byte_ne h1 49 rfl,byte_ne h2 50 rfl,byte_ne h3 52 rfl,byte_ne h4 56 rfl⟩

/-- A field appended: by the plain function, or given up. -/
theorem c_appendField (B K:Nat) (c:UInt8) (f:Fld) (v bvv:Value) (xs:List UInt8) (w:World) (hown:w.ownsRow B 5 1 v xs.length (xs.map bv)) (hB:B ≤ w.heap.size)
  (hs:Sl K w bvv f.bytes.length (f.bytes.map bv)) (hK:K ≤ B) (hn:f.num < 18446744073709551616) (hl:f.bytes.length ≤ 140737488355328) (hx:xs.length ≤ 1000000000) :
  Calls Try.prog 66 #[v,.int .u8 (c.toNat:Int),.agg #[.int .u64 (f.num:Nat),bvv]] w fun e w' =>
   ((∃ ys v',packF c f = some ys∧e = .returned v'∧w'.ownsRow B 5 1 v' (xs ++ ys).length ((xs ++ ys).map bv))∨(packF c f = none∧e = .panicked [err21]))∧Below B w w':=by
 by_cases h98:c = 98
 ·subst h98
  by_cases hle:f.bytes.length ≤ 1024
  ·refine (c_appendField_bytes B K f.num v bvv xs f.bytes w hown hB hs hK hle hx).mono ?_
   rintro e w' ⟨v',he,ho,hb⟩
   exact ⟨.inl ⟨_,v',by simp [packF,hle],he,ho⟩,hb⟩
  ·obtain ⟨ao,cap,rfl,_⟩:=hs
   refine (c_appendField_long f.num v ao f.bytes.length cap w (by omega) (by unfold maxLen;omega)).mono ?_
   rintro e w' ⟨he,hb⟩
   exact ⟨.inr ⟨by simp [packF,hle],he⟩,hb.mono hB⟩
 ·cases hw:wdt c with
  | none =>
   obtain ⟨h1,h2,h3,h4⟩:=wdt_none hw
   refine (c_appendField_none f.num (c.toNat:Int) v bvv w (byte_ne h98 98 rfl) h1 h2 h3 h4).mono ?_
   rintro e w' ⟨he,hb⟩
   exact ⟨.inr ⟨by simp [packF,h98,hw],he⟩,hb.mono hB⟩
  | some k =>
   by_cases hlt:f.num < 256 ^ k
   ·refine (c_appendField_num B k f.num (c.toNat:Int) v bvv xs w hown hB (wdt_int hw) hlt hn hx).mono ?_
    rintro e w' ⟨v',he,ho,hb⟩
    exact ⟨.inl ⟨_,v',by simp [packF,h98,hw,hlt],he,ho⟩,hb⟩
   ·refine (c_appendField_over k f.num (c.toNat:Int) v bvv w (wdt_int hw) hlt hn).mono ?_
    rintro e w' ⟨he,hb⟩
    exact ⟨.inr ⟨by simp [packF,h98,hw,hlt],he⟩,hb.mono hB⟩
end Go.Proofs.Ytghlilncdfiojaa

namespace Go.Proofs.Ytghlilncdfiojaa
set_option linter.unusedVariables false
set_option linter.unusedSimpArgs false
set_option maxRecDepth 20000
open Go.RowKit

theorem catch_panicking (p q:Addr) (x y:Value) (u:TypeId) (pv:Value) (older:List PanicEntry) (w:World) (hc:w.cell? p = some x) (hz:w.frozen? p = false) (hc2:w.cell? q = some y) (hz2:w.frozen? q = false) (hpq:q ≠ p) :
  CallsD Try.prog 64 #[.pointer (some p),.pointer (some q)] (.panicking ({ v:=.iface u pv,recovered:=false } :: older)) w fun e u' w' =>
   e = .returned (.tuple #[])∧u' = .panicking ({ v:=.iface u pv,recovered:=true } :: older)∧w' = (w.setCell p (.slice none 0 0)).setCell q (.int .i64 21):=by
 have hc3:(w.setCell p (.slice none 0 0)).cell? q = some y:=by rw [World.cell?_setCell_other _ _ _ _ (Ne.symm hpq)];exact hc2
 refine callsD_of_wpS Try.func64 rfl fun c₀ cs hu=>?_
 apply wpS_seq
 apply wpS_region
 simp [wpOpsS,go_sem,recoverD,hu,Try.ntmps64,Exit.thenS]
 refine wpS_cond (t:=true) (by simp [Act.eval,Array.replicate]) ?_
 simp only [if_true]
 apply wpS_region
 simp [wpOpsS,go_sem,hc,hz,hc3,hz2,bodyPostS,results,Try.results64]

theorem catch_idle (p q:Addr) (w:World) :
  CallsD Try.prog 64 #[.pointer (some p),.pointer (some q)] .returning w fun e u' w'=>e = .returned (.tuple #[])∧u' = .returning∧w' = w:=by
 refine callsD_of_wpS Try.func64 rfl fun c₀ cs hu=>?_
 apply wpS_seq
 apply wpS_region
 simp [wpOpsS,go_sem,recoverD,hu,Try.ntmps64,Exit.thenS]
 refine wpS_cond (t:=false) (by simp [Act.eval,Array.replicate]) ?_
 simp only [Bool.false_eq_true,if_false]
 refine wpS_of_wp (wp_skip ?_)
 cases c₀
 simp_all [bodyPostS,results,Try.results64]

/-- The door, when the body gave up: nothing, and the error. -/
theorem door_panic (R:Ending→World→Prop) (tmps:Array Value) (N:Nat) (W:World) (x y:Value) (hc:W.cell? ⟨N,0,none⟩ = some x) (hz:W.frozen? ⟨N,0,none⟩ = false) (hc2:W.cell? ⟨N + 1,0,none⟩ = some y) (hz2:W.frozen? ⟨N + 1,0,none⟩ = false)
  (h4:tmps.getD 4 undef = .pointer (some ⟨N,0,none⟩)) (h5:tmps.getD 5 undef = .pointer (some ⟨N + 1,0,none⟩))
  (hR:R (.returned (.tuple #[.slice none 0 0,.int .i64 21])) ((W.setCell ⟨N,0,none⟩ (.slice none 0 0)).setCell ⟨N + 1,0,none⟩ (.int .i64 21))) :
  bodyPostD Try.prog Try.f41 R (.panic [err21]) { tmps:=tmps,defers:=[{ target:=.fn (.func 64) #[.pointer (some ⟨N,0,none⟩),.pointer (some ⟨N + 1,0,none⟩)],args:=#[] }] } W:=by
 refine leaves_cons (f:=64) (args:=#[.pointer (some ⟨N,0,none⟩),.pointer (some ⟨N + 1,0,none⟩)]) (by simp) (by simp [go_sem]) ?_
 refine (catch_panicking ⟨N,0,none⟩ ⟨N + 1,0,none⟩ x y _ _ [] _ hc hz hc2 hz2 (by simp)).mono ?_
 rintro e u' w'' ⟨rfl,rfl,rfl⟩
 have e1:((W.setCell ⟨N,0,none⟩ (.slice none 0 0)).setCell ⟨N + 1,0,none⟩ (.int .i64 21)).cell? ⟨N,0,none⟩ = some (.slice none 0 0):=by
  rw [World.cell?_setCell_other _ _ _ _ (by simp)];exact World.cell?_setCell_same _ _ _ hc
 have e2:((W.setCell ⟨N,0,none⟩ (.slice none 0 0)).setCell ⟨N + 1,0,none⟩ (.int .i64 21)).cell? ⟨N + 1,0,none⟩ = some (.int .i64 21) :=
  World.cell?_setCell_same _ _ _ (by rw [World.cell?_setCell_other _ _ _ _ (by simp)];exact hc2)
 have h4':tmps[4]?.getD undef = .pointer (some ⟨N,0,none⟩):=by simpa using h4
 have h5':tmps[5]?.getD undef = .pointer (some ⟨N + 1,0,none⟩):=by simpa using h5
 simp [Leaves,settle,results,Try.results41,go_sem,h4',h5',e1,e2]
 exact hR

/-- The door, when the body came to its end. -/
theorem door_return (R:Ending→World→Prop) (tmps:Array Value) (N:Nat) (W:World) (x y:Value) (hc:W.cell? ⟨N,0,none⟩ = some x) (hc2:W.cell? ⟨N + 1,0,none⟩ = some y)
  (h4:tmps.getD 4 undef = .pointer (some ⟨N,0,none⟩)) (h5:tmps.getD 5 undef = .pointer (some ⟨N + 1,0,none⟩))
  (hR:R (.returned (.tuple #[x,y])) W) :
  bodyPostD Try.prog Try.f41 R .ret { tmps:=tmps,defers:=[{ target:=.fn (.func 64) #[.pointer (some ⟨N,0,none⟩),.pointer (some ⟨N + 1,0,none⟩)],args:=#[] }] } W:=by
 refine leaves_cons (f:=64) (args:=#[.pointer (some ⟨N,0,none⟩),.pointer (some ⟨N + 1,0,none⟩)]) (by simp) (by simp [go_sem]) ?_
 refine (catch_idle ⟨N,0,none⟩ ⟨N + 1,0,none⟩ _).mono ?_
 rintro e u' w'' ⟨rfl,rfl,rfl⟩
 have h4':tmps[4]?.getD undef = .pointer (some ⟨N,0,none⟩):=by simpa using h4
 have h5':tmps[5]?.getD undef = .pointer (some ⟨N + 1,0,none⟩):=by simpa using h5
 simp [Leaves,settle,results,Try.results41,go_sem,h4',h5',hc,hc2]
 exact hR

set_option maxHeartbeats 1600000 in
theorem c_pack_refused (sh:ByteArray) (ao:Option Addr) (len cap:Nat) (w:World) (hs:sh.size ≤ maxLen) (hl:len ≤ maxLen) (h:¬ (sh.size ≤ 200∧len = sh.size)) :
  Calls Try.prog 41 #[.string sh,.slice ao len cap] w fun e w'=>e = .returned (.tuple #[.slice none 0 0,.int .i64 21])∧Below w.heap.size w w':=by
 have hmf:∀ (fn:Fn) (first cap:Array Value) (w:World),(Instr.makeFunc fn first cap).run Try.prog w = .ok (.func fn first cap) w:=fun _ _ _ _=>rfl
 unfold maxLen at hs hl
 by_cases h1:sh.size ≤ 200
 ·have hd1:decide ((sh.size:Int) ≤ 200) = true:=decide_eq_true (by omega)
  have hd2:((len:Int) == (sh.size:Int)) = false:=beq_eq_false_iff_ne.2 (by omega)
  go_enter_defers Try.func41,Try.ntmps41
  go_wp2_with (go_at_call 65;refine (c_must_no _).mono ?_;rintro e w' ⟨rfl,rfl⟩)
  refine door_panic _ _ w.heap.size _ (.slice none 0 0) (.int .i64 0) (by simp [go_sem]) (by simp [go_sem]) (by simp [go_sem]) (by simp [go_sem]) rfl rfl ⟨rfl,?_⟩
  exact ((((Below.refl _ _).alloc (Nat.le_refl _) _).alloc (by simp) _).setCell (Nat.le_refl _) _).setCell (by simp) _
 ·have hd1:decide ((sh.size:Int) ≤ 200) = false:=decide_eq_false (by omega)
  go_enter_defers Try.func41,Try.ntmps41
  go_wp2_with (go_at_call 65;refine (c_must_no _).mono ?_;rintro e w' ⟨rfl,rfl⟩)
  refine door_panic _ _ w.heap.size _ (.slice none 0 0) (.int .i64 0) (by simp [go_sem]) (by simp [go_sem]) (by simp [go_sem]) (by simp [go_sem]) rfl rfl ⟨rfl,?_⟩
  exact ((((Below.refl _ _).alloc (Nat.le_refl _) _).alloc (by simp) _).setCell (Nat.le_refl _) _).setCell (by simp) _

theorem fields_get {K:Nat} {w:World} {ao:Option Addr} {cap:Nat} {fs:List Fld} (h:FieldsAt K w (.slice ao fs.length cap) fs) (k:Nat) (hk:k < fs.length) :
  ∃ b off bvv,ao = some ⟨b,off,none⟩∧b < K∧w.cell? ⟨b,off + k * 2,none⟩ = some (.int .u64 (fs[k].num:Nat))∧w.cell? ⟨b,off + k * 2 + 1,none⟩ = some bvv ∧
   Sl K w bvv fs[k].bytes.length (fs[k].bytes.map bv)∧fs[k].num < 18446744073709551616∧fs[k].bytes.length ≤ 140737488355328:=by
 obtain ⟨ao',cap',hv,_,_,hcs⟩:=h
 simp only [Value.slice.injEq,true_and] at hv
 obtain ⟨rfl,rfl⟩:=hv
 exact hcs k fs[k] (by simp [hk])

/-- What a round of Pack keeps. -/
structure PackAt (N:Nat) (w wr:World) (v:Value) (acc:List UInt8):Prop where
 b0:wr.heap[N]? = some (.cells #[v] 28 (0,0))
 b1:wr.heap[N + 1]? = some (.cells #[.int .i64 0] 38 (0,0))
 own:wr.ownsRow (N + 2) 5 1 v acc.length (acc.map bv)
 bel:Below N w wr

theorem packAt_start (w:World):PackAt w.heap.size w ((w.alloc (.cells #[.slice none 0 0] 28)).alloc (.cells #[.int .i64 0] 38)) (.slice none 0 0) []:=by
 refine ⟨?_,?_,World.ownsRow_nil _ _ _ _,((Below.refl _ _).alloc (Nat.le_refl _) _).alloc (by simp) _⟩
 ·rw [Below.heap_alloc _ _ _ (by simp)];exact heap_alloc_new w _
 ·have:=heap_alloc_new (w.alloc (.cells #[.slice none 0 0] 28)) (.cells #[.int .i64 0] 38)
  simpa using this

theorem packAt_end {N:Nat} {w wr:World} {v:Value} {acc:List UInt8} (h:PackAt N w wr v acc) :
  ((wr.setCell ⟨N,0,none⟩ v).setCell ⟨N + 1,0,none⟩ (.int .i64 0)).cell? ⟨N,0,none⟩ = some v∧((wr.setCell ⟨N,0,none⟩ v).setCell ⟨N + 1,0,none⟩ (.int .i64 0)).cell? ⟨N + 1,0,none⟩ = some (.int .i64 0) ∧
  Below N w ((wr.setCell ⟨N,0,none⟩ v).setCell ⟨N + 1,0,none⟩ (.int .i64 0)) ∧
  Sl ((wr.setCell ⟨N,0,none⟩ v).setCell ⟨N + 1,0,none⟩ (.int .i64 0)).heap.size ((wr.setCell ⟨N,0,none⟩ v).setCell ⟨N + 1,0,none⟩ (.int .i64 0)) v acc.length (acc.map bv):=by
 refine ⟨?_,?_,(h.bel.setCell (Nat.le_refl _) _).setCell (by simp) _,?_⟩
 ·rw [World.cell?_setCell_other _ _ _ _ (by simp)]
  exact World.cell?_setCell_same _ _ _ (cell_of_one h.b0)
 ·exact World.cell?_setCell_same _ _ _ (by rw [World.cell?_setCell_other _ _ _ _ (by simp)];exact cell_of_one h.b1)
 ·exact sl_of_owns (ownsRow_setCell_below (ownsRow_setCell_below h.own (by simp) _) (by simp) _)

theorem packAt_alloc {N:Nat} {w wr:World} {v:Value} {acc:List UInt8} (h:PackAt N w wr v acc) (o:Obj):PackAt N w (wr.alloc o).drew v acc:=by
 have hN:=lt_of_block h.b1
 have hN0:=lt_of_block h.b0
 exact ⟨(Below.heap_alloc wr o N hN0).trans h.b0,(Below.heap_alloc wr o (N + 1) hN).trans h.b1,(h.own.alloc o).drew,(h.bel.alloc (by omega) o).drew⟩

theorem packAt_step {N:Nat} {w W w1:World} {v v1:Value} {acc acc1:List UInt8} (h:PackAt N w W v acc) (hb:Below (N + 2) W w1) (ho:w1.ownsRow (N + 2) 5 1 v1 acc1.length (acc1.map bv)):PackAt N w (w1.setCell ⟨N,0,none⟩ v1) v1 acc1:=by
 refine ⟨one_setCell ((hb.block N (by omega)).trans h.b0),?_,ownsRow_setCell_below ho (by show N < _;omega) _,(h.bel.trans (hb.mono (by omega))).setCell (Nat.le_refl _) _⟩
 rw [Below.heap_setCell _ _ _ _ (by simp)]
 exact (hb.block (N + 1) (by omega)).trans h.b1

theorem packAt_door {N:Nat} {w W w1:World} {v:Value} {acc:List UInt8} (h:PackAt N w W v acc) (hb:Below (N + 2) W w1) :
  w1.cell? ⟨N,0,none⟩ = some v∧w1.frozen? ⟨N,0,none⟩ = false∧w1.cell? ⟨N + 1,0,none⟩ = some (.int .i64 0)∧w1.frozen? ⟨N + 1,0,none⟩ = false ∧
  Below N w ((w1.setCell ⟨N,0,none⟩ (.slice none 0 0)).setCell ⟨N + 1,0,none⟩ (.int .i64 21)):=by
 have b0:=(hb.block N (by omega)).trans h.b0
 have b1:=(hb.block (N + 1) (by omega)).trans h.b1
 exact ⟨cell_of_one b0,free_of_one b0,cell_of_one b1,free_of_one b1,((h.bel.trans (hb.mono (by omega))).setCell (Nat.le_refl _) _).setCell (by simp) _⟩

theorem zip_get (sh:ByteArray) (fs:List Fld) (k:Nat) (h1:k < fs.length) (h2:k < sh.size):(sh.data.toList.zip fs)[k]? = some (sh[k],fs[k]):=by
 have h3:sh.data.toList[k]? = some sh[k]:=by
  rw [List.getElem?_eq_getElem (by simpa using h2)];rfl
 simp [List.getElem?_zip_eq_some,h3,h1]

theorem packL_round {sh:ByteArray} {fs:List Fld} {k:Nat} {acc ys:List UInt8} (h1:k < fs.length) (h2:k < sh.size) (ha:packL ((sh.data.toList.zip fs).take k) = some acc) (hp:packF sh[k] fs[k] = some ys) :
  packL ((sh.data.toList.zip fs).take (k + 1)) = some (acc ++ ys):=by
 rw [List.take_add_one,zip_get sh fs k h1 h2]
 simp only [Option.toList_some]
 rw [packL_snoc,ha]
 simp [hp]

theorem packL_stop {sh:ByteArray} {fs:List Fld} {k:Nat} {acc:List UInt8} (h1:k < fs.length) (h2:k < sh.size) (ha:packL ((sh.data.toList.zip fs).take k) = some acc) (hp:packF sh[k] fs[k] = none) :
  packL (sh.data.toList.zip fs) = none:=by
 have e:sh.data.toList.zip fs = ((sh.data.toList.zip fs).take k ++ [(sh[k],fs[k])]) ++ (sh.data.toList.zip fs).drop (k + 1):=by
  have:=List.take_append_drop (k + 1) (sh.data.toList.zip fs)
  rw [List.take_add_one,zip_get sh fs k h1 h2] at this
  simpa using this.symm
 rw [e,packL_append,packL_snoc,ha]
 simp [hp]

theorem packF_length {c:UInt8} {f:Fld} {ys:List UInt8} (h:packF c f = some ys):ys.length ≤ 1026:=by
 unfold packF at h
 split at h
 ·split at h
  ·simp at h;subst h;simp [be_length];omega
  ·cases h
 ·split at h
  ·rename_i k hk
   split at h
   ·simp at h;subst h
    rw [be_length]
    have:=wdt_int hk
    omega
   ·cases h
  ·cases h

set_option maxHeartbeats 1600000 in
theorem c_pack_run (sh:ByteArray) (K:Nat) (ao:Option Addr) (cap:Nat) (fs:List Fld) (w:World) (hs:sh.size ≤ 200) (hl:fs.length = sh.size) (hf:FieldsAt K w (.slice ao fs.length cap) fs) (hK:K ≤ w.heap.size) :
  Calls Try.prog 41 #[.string sh,.slice ao fs.length cap] w fun e w'=>Below w.heap.size w w' ∧
   ((∃ ys v,packL (sh.data.toList.zip fs) = some ys∧e = .returned (.tuple #[v,.int .i64 0])∧Sl w'.heap.size w' v ys.length (ys.map bv)) ∨
   (packL (sh.data.toList.zip fs) = none∧e = .returned (.tuple #[.slice none 0 0,.int .i64 21]))):=by
 have hmf:∀ (fn:Fn) (first cap:Array Value) (w:World),(Instr.makeFunc fn first cap).run Try.prog w = .ok (.func fn first cap) w:=fun _ _ _ _=>rfl
 have hd1:decide ((sh.size:Int) ≤ 200) = true:=decide_eq_true (by omega)
 have hd2:((fs.length:Int) == (sh.size:Int)) = true:=beq_iff_eq.2 (by omega)
 have hl':Hid (fs.length = sh.size):=hl
 have hls:fs.length ≤ 200:=by omega
 clear hl
 go_enter_defers Try.func41,Try.ntmps41
 go_wp2_with (go_at_call 65;refine (c_must_yes _).mono ?_;rintro e w' ⟨rfl,rfl⟩)
 go_loopw [22] (fun i wr=>∃ (k:Nat) (v:Value) (acc:List UInt8),k ≤ fs.length∧i = .int .i64 k∧Hid (packL ((sh.data.toList.zip fs).take k) = some acc)∧acc.length ≤ k * 1026∧PackAt w.heap.size w wr v acc) (fun i _=>fs.length - (intOf i).toNat)
 case atStart=>exact ⟨0,_,[],Nat.zero_le _,rfl,rfl,Nat.zero_le _,packAt_start w⟩
 case round =>
  obtain ⟨k,v,acc,hk,rfl,hacc,hlen,hat⟩:=hrel
  have hc0:=cell_of_one hat.b0
  have hz0:=free_of_one hat.b0
  have hc1:=cell_of_one hat.b1
  have hz1:=free_of_one hat.b1
  have hN:=lt_of_block hat.b1
  obtain ⟨ao',cap',rfl⟩:∃ ao' cap',v = .slice ao' acc.length cap':=owns_form hat.own
  by_cases hlt:k < fs.length
  ·obtain ⟨b,off,bvv,rfl,hbK,hcn,hcb,hsb,hnum,hbl⟩:=fields_get hf k hlt
   obtain ⟨bo,bc,rfl⟩:∃ bo bc,bvv = .slice bo (fs[k].bytes.length) bc:=sl_form hsb
   have hcn:wr.cell? ⟨b,off + k * 2,none⟩ = some (.int .u64 (fs[k].num:Nat)):=by rw [hat.bel.cell (p:=⟨b,_,none⟩) (by show b < _;omega)];exact hcn
   have hcb:wr.cell? ⟨b,off + k * 2 + 1,none⟩ = some (.slice bo (fs[k].bytes.length) bc):=by rw [hat.bel.cell (p:=⟨b,_,none⟩) (by show b < _;omega)];exact hcb
   have hks:k < sh.size:=by have:=hl'.out;omega
   have hks':(k:Int) < (sh.size:Int):=by omega
   have hk0:(0:Int) ≤ (k:Int):=by omega
   go_wp2
   generalize hWf:wr.alloc (Obj.cells #[Value.int IntKind.u64 ↑fs[k].num,Value.slice bo fs[k].bytes.length bc] 74) = Wf
   have hS:(fun w':World=>w'.cell? ⟨w.heap.size,0,none⟩ = some (.slice ao' acc.length cap')∧w'.cell? ⟨wr.heap.size,0,none⟩ = some (.int .u64 (fs[k].num:Nat))∧w'.cell? ⟨wr.heap.size,1,none⟩ = some (.slice bo (fs[k].bytes.length) bc)) Wf.drew:=by
    subst hWf
    refine ⟨?_,by simp [go_sem],by simp [go_sem]⟩
    rw [World.cell?_drew,World.cell?_alloc_past _ _ _ (by show w.heap.size < _;omega)]
    exact hc0
   refine wp_region_ord [] 5 [(0,true),(1,true),(2,true),(3,true),(4,true)] (fun w'=>w'.cell? ⟨w.heap.size,0,none⟩ = some (.slice ao' acc.length cap')∧w'.cell? ⟨wr.heap.size,0,none⟩ = some (.int .u64 (fs[k].num:Nat))∧w'.cell? ⟨wr.heap.size,1,none⟩ = some (.slice bo (fs[k].bytes.length) bc)) (by kernel_rfl) (by kernel_rfl) ?_
   refine ord_quiet _ ?_ rfl hS rfl ?_ ?_
   rotate_left
   ·rintro w' ⟨hS1,hS2,hS3⟩;go_simp;rfl
   refine ord_quiet _ ?_ rfl hS rfl ?_ ?_
   rotate_left
   ·rintro w' ⟨hS1,hS2,hS3⟩;go_simp;rfl
   refine ord_quiet _ ?_ rfl hS rfl ?_ ?_
   rotate_left
   ·rintro w' ⟨hS1,hS2,hS3⟩;go_simp;rfl
   refine ord_quiet _ ?_ rfl hS rfl ?_ ?_
   rotate_left
   ·rintro w' ⟨hS1,hS2,hS3⟩;go_simp;rfl
   refine ord_quiet _ ?_ rfl hS rfl ?_ ?_
   rotate_left
   ·rintro w' ⟨hS1,hS2,hS3⟩;go_simp;rfl
   refine ord_tail ?_
   simp only [List.drop_succ_cons,List.drop_zero]
   have hatF:PackAt w.heap.size w Wf.drew (.slice ao' acc.length cap') acc:=by subst hWf;exact packAt_alloc hat _
   have hszF:w.heap.size + 2 ≤ Wf.drew.heap.size:=by subst hWf;simp;omega
   have hsbF:=hsb.keep (hatF.bel.mono hK)
   have hlen1:acc.length ≤ 1000000000:=by omega
   go_wp2_with fail
   refine (c_appendField (w.heap.size + 2) K sh[k] fs[k] _ _ acc _ hatF.own hszF hsbF (by omega) hnum hbl hlen1).mono ?_
   rintro e w1 ⟨⟨ys,v1,hp,rfl,hown1⟩ | ⟨hp,rfl⟩,hb1⟩
   ·obtain ⟨ao1,cap1,rfl⟩:∃ ao1 cap1,v1 = .slice ao1 (acc ++ ys).length cap1:=owns_form hown1
    have hnew:=packAt_step hatF hb1 hown1
    have hacc1:Hid (packL ((sh.data.toList.zip fs).take (k + 1)) = some (acc ++ ys)):=packL_round hlt hks hacc.out hp
    have hlen2:=packF_length hp
    have hc0':w1.cell? ⟨w.heap.size,0,none⟩ = some (.slice ao' acc.length cap'):=by rw [hb1.cell (p:=⟨w.heap.size,0,none⟩) (by show w.heap.size < w.heap.size + 2;omega)];exact cell_of_one hatF.b0
    have hz0':w1.frozen? ⟨w.heap.size,0,none⟩ = false:=by rw [hb1.frozen (p:=⟨w.heap.size,0,none⟩) (by show w.heap.size < w.heap.size + 2;omega)];exact free_of_one hatF.b0
    have hlen3:Hid ((acc ++ ys).length ≤ (k + 1) * 1026):=by unfold Hid;rw [List.length_append];omega
    clear hS hatF hown1 hb1 hp hacc hat hsbF hsb hcn hcb hc0 hz0 hc1 hz1
    generalize acc ++ ys = acc1 at *
    go_wp2
    go_roundw
    case rel=>exact ⟨k + 1,_,_,by omega,by go_num,hacc1,hlen3.out,hnew⟩
    case measure=>simp [intOf];omega
   ·have hnone:packL (sh.data.toList.zip fs) = none:=packL_stop hlt hks hacc.out hp
    have hd:=packAt_door hatF hb1
    exact door_panic _ _ w.heap.size _ _ _ hd.1 hd.2.1 hd.2.2.1 hd.2.2.2.1 rfl rfl ⟨hd.2.2.2.2,.inr ⟨hnone,rfl⟩⟩
  ·have hend:=packAt_end hat
   have htk:packL (sh.data.toList.zip fs) = some acc:=by
    have e:=hacc.out
    rw [List.take_of_length_le (by rw [List.length_zip];omega)] at e
    exact e
   go_wp2
   exact door_return _ _ w.heap.size _ (.slice ao' acc.length cap') (.int .i64 0) hend.1 hend.2.1 rfl rfl ⟨hend.2.2.1,.inl ⟨acc,_,htk,rfl,hend.2.2.2⟩⟩
end Go.Proofs.Ytghlilncdfiojaa

namespace Go.Proofs.Ytghlilncdfiojaa
set_option linter.unusedVariables false
set_option linter.unusedSimpArgs false
set_option maxRecDepth 20000
open Go.RowKit

def numTo (k n j:Nat):List UInt8:=List.replicate (k - j) 0 ++ (be k n).drop (k - j)

theorem numTo_length (k n j:Nat) (h:j ≤ k):(numTo k n j).length = k:=by
 unfold numTo
 rw [List.length_append,List.length_replicate,List.length_drop,be_length]
 omega

theorem numTo_zero (k n:Nat):numTo k n 0 = List.replicate k 0:=by
 unfold numTo
 rw [Nat.sub_zero,List.drop_of_length_le (by rw [be_length];omega),List.append_nil]

theorem numTo_all (k n:Nat):numTo k n k = be k n:=by simp [numTo]

theorem numTo_succ (k n j m:Nat) (h:m + j + 1 = k):(numTo k n j).set m (UInt8.ofNat (n / 256 ^ j)) = numTo k n (j + 1):=by
 have hb:=be_get k n m (by omega)
 rw [show k - 1 - m = j by omega] at hb
 have hd:(be k n).drop m = UInt8.ofNat (n / 256 ^ j) :: (be k n).drop (m + 1):=by
  rw [List.drop_eq_getElem_cons (by rw [be_length];omega)]
  congr 1
  rw [List.getElem?_eq_getElem (by rw [be_length];omega)] at hb
  exact Option.some.inj hb
 unfold numTo
 rw [show k - j = m + 1 by omega,show k - (j + 1) = m by omega,hd,List.replicate_succ',List.append_assoc,List.set_append_right _ _ (by simp)]
 simp

theorem byte_of_mod (n j:Nat):Value.int .u8 (((n / 256 ^ j:Nat):Int) % 256) = bv (UInt8.ofNat (n / 256 ^ j)):=by
 rw [bv]
 simp

theorem div_test (n j:Nat):((n:Int) / 256 ^ j == 0) = decide (n < 256 ^ j):=by
 have e:(n:Int) / 256 ^ j = ((n / 256 ^ j:Nat):Int):=by simp
 rw [e,Bool.eq_iff_iff,beq_iff_eq,decide_eq_true_iff]
 constructor
 ·intro h
  have h':n / 256 ^ j = 0:=by omega
  rcases Nat.div_eq_zero_iff.1 h' with h0 | h0
  ·have:=Nat.pow_pos (n:=j) (show 0 < 256 by decide);omega
  ·exact h0
 ·intro h
  rw [Nat.div_eq_of_lt h];rfl

set_option maxHeartbeats 800000 in
theorem c_refNumberO (k n:Nat) (w:World) (hk:k ≤ 8) (hn:n < 18446744073709551616) :
  Calls Try.prog 47 #[.int .u64 n,.int .i64 k] w fun e w'=>∃ v',e = .returned (.tuple #[v',.bool (decide (n < 256 ^ k))])∧w'.ownsRow w.heap.size 5 1 v' k ((be k n).map bv)∧Below w.heap.size w w':=by
 obtain ⟨i0,hi,hz0,hz1,hz2⟩:=info_parts Try.info5
 go_enter Try.func47,Try.ntmps47
 go_wp2_with (at_make;refine wpList_make_full _ rfl _ _ 28 rfl w.heap.size 5 i0 (.int .u8 0) 1 Try.underlying28 hi hz0 hz1 _ _ _ _ k rfl rfl rfl rfl (by rw [hz2];omega) (by unfold maxLen;omega) (Nat.le_refl _) ?_)
 intro w1 hown hgrow
 have hb1:Below w.heap.size w w1:=(Below.refl _ _).grown hgrow (Nat.le_refl _) (by intro k hk;cases hk)
 have hown:w1.ownsRow w.heap.size 5 1 (.slice (some ⟨w.heap.size,0,none⟩) k k) k ((numTo k n 0).map bv):=by
  have e:(madeCells #[Value.int .u8 0] k).toList = (numTo k n 0).map bv:=by
   rw [numTo_zero,toList_madeCells_one]
   simp [bv]
  rw [← e]
  exact hown
 clear hgrow
 go_wp2
 go_loopw [0,7] (fun u i wr=>∃ (j:Nat) (iv:Int),j ≤ k∧i = .int .i64 iv∧iv + j + 1 = k∧u = .int .u64 (n / 256 ^ j:Nat)∧wr.ownsRow w.heap.size 5 1 (.slice (some ⟨w.heap.size,0,none⟩) k k) k ((numTo k n j).map bv)∧Below w.heap.size w wr) (fun _ i _=>((intOf i) + 1).toNat)
 case atStart=>exact ⟨0,_,Nat.zero_le _,rfl,by omega,by simp,hown,hb1⟩
 case round =>
  obtain ⟨j,iv,hj,rfl,hiv,rfl,hown1,hbel⟩:=hrel
  by_cases hlt:j < k
  ·obtain ⟨m,rfl⟩:∃ m:Nat,iv = m:=⟨iv.toNat,by omega⟩
   have hcm:=hown1.cellAt m (by omega)
   rw [List.getElem?_map,List.getElem?_eq_getElem (by rw [numTo_length k n j hj];omega)] at hcm
   simp only [Option.map_some] at hcm
   have hzm:=hown1.frozenAt m
   have hst:=(hown1.stored m (bv (UInt8.ofNat (n / 256 ^ j)))).1
   rw [← List.map_set,numTo_succ k n j m (by omega)] at hst
   have hb2:Below w.heap.size w (wr.setCell ⟨w.heap.size,m,none⟩ (bv (UInt8.ofNat (n / 256 ^ j)))):=hbel.setCell (Nat.le_refl _) _
   have hdiv:Hid (n / 256 ^ j / 256 = n / 256 ^ (j + 1)):=by unfold Hid;rw [Nat.div_div_eq_div_mul,Nat.pow_succ]
   have hq:n / 256 ^ j < 18446744073709551616:=Nat.lt_of_le_of_lt (Nat.div_le_self _ _) hn
   have H:Hid ((wr.setCell ⟨w.heap.size,m,none⟩ (bv (UInt8.ofNat (n / 256 ^ j)))).ownsRow w.heap.size 5 1 (.slice (some ⟨w.heap.size,0,none⟩) k k) k ((numTo k n (j + 1)).map bv)∧Below w.heap.size w (wr.setCell ⟨w.heap.size,m,none⟩ (bv (UInt8.ofNat (n / 256 ^ j))))):=⟨hst,hb2⟩
   rw [← byte_of_mod] at H
   clear hst hb2 hown1 hbel
   generalize n / 256 ^ j = q at *
   go_wp2
   go_roundw
   case rel=>exact ⟨j + 1,_,by omega,rfl,by omega,by rw [← hdiv.out];rfl,H.out.1,H.out.2⟩
   case measure=>simp [intOf]
  ·have hjk:j = k:=by omega
   subst hjk
   have ht:=div_test n j
   rw [numTo_all] at hown1
   go_wp2
   go_ret2
   exact ⟨_,rfl,hown1,hbel⟩

theorem c_refNumber (k n:Nat) (w:World) (hk:k ≤ 8) (hn:n < 18446744073709551616) :
  Calls Try.prog 47 #[.int .u64 n,.int .i64 k] w fun e w'=>∃ v',e = .returned (.tuple #[v',.bool (decide (n < 256 ^ k))])∧Sl w'.heap.size w' v' k ((be k n).map bv)∧Below w.heap.size w w' :=
 (c_refNumberO k n w hk hn).mono fun e w' ⟨v',h1,h2,h3⟩=>⟨v',h1,sl_of_owns h2,h3⟩
end Go.Proofs.Ytghlilncdfiojaa

namespace Go.Proofs.Ytghlilncdfiojaa
set_option linter.unusedVariables false
set_option linter.unusedSimpArgs false
set_option maxRecDepth 20000
open Go.RowKit

theorem owns_keep {W w1:World} {base e size n:Nat} {v:Value} {xs:List Value} (h:W.ownsRow base e size v n xs) (hb:Below W.heap.size W w1):w1.ownsRow base e size v n xs:=by
 refine ⟨h.1,?_⟩
 rcases h.2 with h2 | ⟨g,cap,cur,hv,hg,hh,r⟩
 ·exact .inl h2
 ·exact .inr ⟨g,cap,cur,hv,hg,(hb.block g (Array.getElem?_eq_some_iff.1 hh).1).trans hh,r⟩

theorem owns_ne {w:World} {base e size n:Nat} {v:Value} {xs:List Value} (h:w.ownsRow base e size v n xs) (F:Nat) (hF:w.heap.size ≤ F):some F ≠ v.ownBlock:=by
 intro e
 have:=(h.lt F e.symm).2
 omega

theorem refpack_refused (sh:ByteArray) (ao:Option Addr) (len cap:Nat) (w:World) (hs:sh.size ≤ maxLen) (hl:len ≤ maxLen) (h:¬ (sh.size ≤ 200∧len = sh.size)) :
  Calls Try.prog 48 #[.string sh,.slice ao len cap] w fun e w'=>e = .returned (.tuple #[.slice none 0 0,.int .i64 21])∧w = w':=by
 unfold maxLen at hs hl
 by_cases h1:sh.size ≤ 200
 ·have hd1:decide ((200:Int) < (sh.size:Int)) = false:=decide_eq_false (by omega)
  have hd2:((sh.size:Int) != (len:Int)) = true:=bne_iff_ne.2 (by omega)
  go_enter Try.func48,Try.ntmps48
  go_wp2
  go_ret2
  exact ⟨rfl,rfl⟩
 ·have hd1:decide ((200:Int) < (sh.size:Int)) = true:=decide_eq_true (by omega)
  go_enter Try.func48,Try.ntmps48
  go_wp2
  go_ret2
  exact ⟨rfl,rfl⟩

set_option maxHeartbeats 3200000 in
theorem refpack_run (sh:ByteArray) (K:Nat) (ao:Option Addr) (cap:Nat) (fs:List Fld) (w:World) (hs:sh.size ≤ 200) (hl:fs.length = sh.size) (hf:FieldsAt K w (.slice ao fs.length cap) fs) (hK:K ≤ w.heap.size) :
  Calls Try.prog 48 #[.string sh,.slice ao fs.length cap] w fun e w'=>Below w.heap.size w w' ∧
   ((∃ ys v,packL (sh.data.toList.zip fs) = some ys∧e = .returned (.tuple #[v,.int .i64 0])∧Sl w'.heap.size w' v ys.length (ys.map bv)) ∨
   (packL (sh.data.toList.zip fs) = none∧e = .returned (.tuple #[.slice none 0 0,.int .i64 21]))):=by
 obtain ⟨i0,hi,hi0,hi1,hi2⟩:=info_parts Try.info5
 have hd1:decide ((200:Int) < (sh.size:Int)) = false:=decide_eq_false (by omega)
 have hd2:((sh.size:Int) != (fs.length:Int)) = false:=by simp;omega
 have hl':Hid (fs.length = sh.size):=hl
 have hls:fs.length ≤ 200:=by omega
 clear hl
 go_enter Try.func48,Try.ntmps48
 go_wp2
 go_loopw [6,27] (fun o i wr=>∃ (k:Nat) (acc:List UInt8),k ≤ fs.length∧i = .int .i64 k∧Hid (packL ((sh.data.toList.zip fs).take k) = some acc)∧acc.length ≤ k * 1026∧wr.ownsRow w.heap.size 5 1 o acc.length (acc.map bv)∧Below w.heap.size w wr) (fun _ i _=>fs.length - (intOf i).toNat)
 case atStart=>exact ⟨0,[],Nat.zero_le _,rfl,rfl,Nat.zero_le _,World.ownsRow_lit w #[] 0 (Nat.le_refl _) (by decide) rfl,(Below.refl _ _).alloc (Nat.le_refl _) _⟩
 case round =>
  obtain ⟨k,acc,hk,rfl,hacc,hlen,hown,hbel⟩:=hrel
  by_cases hlt:k < fs.length
  ·obtain ⟨b,off,bvv,rfl,hbK,hcn,hcb,hsb,hnum,hbl⟩:=fields_get hf k hlt
   obtain ⟨bo,bc,rfl⟩:∃ bo bc,bvv = .slice bo (fs[k].bytes.length) bc:=sl_form hsb
   have hcn:wr.cell? ⟨b,off + k * 2,none⟩ = some (.int .u64 (fs[k].num:Nat)):=by rw [hbel.cell (p:=⟨b,_,none⟩) (by show b < _;omega)];exact hcn
   have hcb:wr.cell? ⟨b,off + k * 2 + 1,none⟩ = some (.slice bo (fs[k].bytes.length) bc):=by rw [hbel.cell (p:=⟨b,_,none⟩) (by show b < _;omega)];exact hcb
   have hks:k < sh.size:=by have:=hl'.out;omega
   have hks':(k:Int) < (sh.size:Int):=by omega
   have hk0:(0:Int) ≤ (k:Int):=by omega
   have hsz:=hbel.size
   by_cases h98:sh[k] = 98
   ·have hc:(((sh[k].toNat:Nat):Int) = 98∧(0:Int) = 0):=⟨by rw [h98];rfl,rfl⟩
    by_cases hle:fs[k].bytes.length ≤ 1024
    ·have hd3:decide ((1024:Int) < (fs[k].bytes.length:Int)) = false:=decide_eq_false (by omega)
     go_wp2_with (first | (go_at_call 74;refine (c_width_yes _ 0 (by omega) _).mono ?_;rintro e w' ⟨rfl,rfl⟩))
     generalize hWf:wr.alloc (Obj.cells #[Value.int IntKind.u64 ↑fs[k].num,Value.slice bo fs[k].bytes.length bc] 74) = Wf
     have hF1:Wf.cell? ⟨wr.heap.size,1,none⟩ = some (.slice bo fs[k].bytes.length bc):=by subst hWf;simp [go_sem]
     have hF0:wr.heap.size < Wf.heap.size:=by subst hWf;simp
     have hownF:Wf.ownsRow w.heap.size 5 1 u6 acc.length (acc.map bv):=by subst hWf;exact hown.alloc _
     have hbelF:Below w.heap.size w Wf:=by subst hWf;exact hbel.alloc (by omega) _
     refine (c_refNumber 2 fs[k].bytes.length _ (by omega) (by omega)).mono ?_
     rintro e w1 ⟨v1,rfl,hs1,hb1⟩
     have hown1:=owns_keep hownF hb1
     have hF2:w1.cell? ⟨wr.heap.size,1,none⟩ = some (.slice bo fs[k].bytes.length bc):=by rw [hb1.cell (p:=⟨wr.heap.size,1,none⟩) hF0];exact hF1
     have hbel1:Below w.heap.size w w1:=hbelF.trans (hb1.mono (by omega))
     have hs1':=hs1
     rw [show (2:Nat) = (be 2 fs[k].bytes.length).length from (be_length _ _).symm] at hs1'
     have hsz1:=hbel1.size
     have hp:packF sh[k] fs[k] = some (be 2 fs[k].bytes.length ++ fs[k].bytes):=by simp [packF,h98,hle]
     have hacc1:Hid (packL ((sh.data.toList.zip fs).take (k + 1)) = some (acc ++ (be 2 fs[k].bytes.length ++ fs[k].bytes))):=packL_round hlt hks hacc.out hp
     have hlen3:Hid ((acc ++ (be 2 fs[k].bytes.length ++ fs[k].bytes)).length ≤ (k + 1) * 1026):=by unfold Hid;rw [List.length_append];have:=packF_length hp;omega
     clear hp
     go_wp2_with (at_builtin;refine wpList_append_sl _ rfl _ _ 28 rfl w.heap.size 5 i0 (.int .u8 0) 1 1 Try.underlying28 hi hi0 hi1 hi2 rfl (by decide) _ _ _ rfl hown1 _ _ _ _ rfl hs1 (by simp [be_length]) (bv_oneCell _) ?c1 ?c2 ?c3 ?_)
     case c1=>unfold maxLen;omega
     case c2=>omega
     case c3=>omega
     intro v2 w2 hown2 hgrow2 _
     have hbel2:Below w.heap.size w w2:=hbel1.grown hgrow2 (by omega) (owns_ge hown1)
     have hF3:w2.cell? ⟨wr.heap.size,1,none⟩ = some (.slice bo fs[k].bytes.length bc):=hgrow2.cell hF2 (owns_ne hown _ (Nat.le_refl _))
     have hsb2:=hsb.keep (hbel2.mono hK)
     have hsz2:=hbel2.size
     clear hgrow2 hown1 hF1 hF2 hs1 hs1' hb1 hownF hbelF hown hcn hcb
     go_wp2_with (at_builtin;refine wpList_append_sl _ rfl _ _ 28 rfl w.heap.size 5 i0 (.int .u8 0) 1 1 Try.underlying28 hi hi0 hi1 hi2 rfl (by decide) _ _ _ rfl hown2 _ _ _ _ rfl hsb2 (by simp) (bv_oneCell _) ?d1 ?d2 ?d3 ?_)
     case d1=>unfold maxLen;omega
     case d2=>omega
     case d3=>omega
     intro v3 w3 hown3 hgrow3 _
     have hbel3:Below w.heap.size w w3:=hbel2.grown hgrow3 (by omega) (owns_ge hown2)
     have hown4:w3.ownsRow w.heap.size 5 1 v3 (acc ++ (be 2 fs[k].bytes.length ++ fs[k].bytes)).length ((acc ++ (be 2 fs[k].bytes.length ++ fs[k].bytes)).map bv):=by simpa [be_length,Nat.add_assoc] using hown3
     clear hgrow3 hown3 hown2 hF3 hsb2
     go_wp2
     go_roundw
     case rel=>exact ⟨k + 1,_,by omega,by go_num,hacc1,hlen3.out,hown4,hbel3⟩
     case measure=>simp [intOf];omega
    ·have hd3:decide ((1024:Int) < (fs[k].bytes.length:Int)) = true:=decide_eq_true (by omega)
     have hnone:packL (sh.data.toList.zip fs) = none:=packL_stop hlt hks hacc.out (by simp [packF,h98,hle])
     go_wp2_with (first | (go_at_call 74;refine (c_width_yes _ 0 (by omega) _).mono ?_;rintro e w' ⟨rfl,rfl⟩))
     go_ret2
     exact ⟨hbel.alloc (by omega) _,.inr ⟨hnone,rfl⟩⟩
   ·cases hw:wdt sh[k] with
    | none =>
     obtain ⟨h1,h2,h3,h4⟩:=wdt_none hw
     have h5:=byte_ne h98 98 rfl
     have hnone:packL (sh.data.toList.zip fs) = none:=packL_stop hlt hks hacc.out (by simp [packF,h98,hw])
     clear hw
     go_wp2_with (first | (go_at_call 74;refine (c_width_no _ h1 h2 h3 h4 h5 _).mono ?_;rintro e w' ⟨rfl,rfl⟩))
     go_ret2
     exact ⟨hbel.alloc (by omega) _,.inr ⟨hnone,rfl⟩⟩
    | some q =>
     have hq:=wdt_int hw
     have hq0:decide ((q:Int) < 0) = false:=decide_eq_false (by omega)
     have hq1:((q:Int) == 0) = false:=beq_eq_false_iff_ne.2 (by omega)
     have hq8:q ≤ 8:=by omega
     have hq':Hid ((((sh[k].toNat:Nat):Int) = 49∧(q:Int) = 1)∨(((sh[k].toNat:Nat):Int) = 50∧(q:Int) = 2)∨(((sh[k].toNat:Nat):Int) = 52∧(q:Int) = 4)∨(((sh[k].toNat:Nat):Int) = 56∧(q:Int) = 8)):=hq
     clear hq
     have hw':Hid (wdt sh[k] = some q):=hw
     clear hw
     go_wp2_with (first | (go_at_call 74;refine (c_width_yes _ q (by have:=hq'.out;omega) _).mono ?_;rintro e w' ⟨rfl,rfl⟩))
     generalize hWf:wr.alloc (Obj.cells #[Value.int IntKind.u64 ↑fs[k].num,Value.slice bo fs[k].bytes.length bc] 74) = Wf
     have hownF:Wf.ownsRow w.heap.size 5 1 u6 acc.length (acc.map bv):=by subst hWf;exact hown.alloc _
     have hbelF:Below w.heap.size w Wf:=by subst hWf;exact hbel.alloc (by omega) _
     have hszF:=hbelF.size
     refine (c_refNumber q fs[k].num _ hq8 hnum).mono ?_
     rintro e w1 ⟨v1,rfl,hs1,hb1⟩
     have hown1:=owns_keep hownF hb1
     have hbel1:Below w.heap.size w w1:=hbelF.trans (hb1.mono (by omega))
     have hsz1:=hbel1.size
     by_cases hov:fs[k].num < 256 ^ q
     ·have hd:decide (fs[k].num < 256 ^ q) = true:=decide_eq_true hov
      have hp:packF sh[k] fs[k] = some (be q fs[k].num):=by simp [packF,h98,hw'.out,hov]
      have hacc1:Hid (packL ((sh.data.toList.zip fs).take (k + 1)) = some (acc ++ be q fs[k].num)):=packL_round hlt hks hacc.out hp
      have hlen3:Hid ((acc ++ be q fs[k].num).length ≤ (k + 1) * 1026):=by unfold Hid;rw [List.length_append];have:=packF_length hp;omega
      clear hp hcn hcb hownF hbelF hb1 hown
      go_wp2_with (at_builtin;refine wpList_append_sl _ rfl _ _ 28 rfl w.heap.size 5 i0 (.int .u8 0) 1 1 Try.underlying28 hi hi0 hi1 hi2 rfl (by decide) _ _ _ rfl hown1 _ _ _ _ rfl hs1 (by simp [be_length]) (bv_oneCell _) ?e1 ?e2 ?e3 ?_)
      case e1=>unfold maxLen;omega
      case e2=>omega
      case e3=>omega
      intro v2 w2 hown2 hgrow2 _
      have hbel2:Below w.heap.size w w2:=hbel1.grown hgrow2 (by omega) (owns_ge hown1)
      have hown4:w2.ownsRow w.heap.size 5 1 v2 (acc ++ be q fs[k].num).length ((acc ++ be q fs[k].num).map bv):=by simpa [be_length] using hown2
      clear hgrow2 hown2 hown1 hs1
      go_wp2
      go_roundw
      case rel=>exact ⟨k + 1,_,by omega,by go_num,hacc1,hlen3.out,hown4,hbel2⟩
      case measure=>simp [intOf];omega
     ·have hd:decide (fs[k].num < 256 ^ q) = false:=decide_eq_false hov
      have hnone:packL (sh.data.toList.zip fs) = none:=packL_stop hlt hks hacc.out (by simp [packF,h98,hw'.out,hov])
      clear hcn hcb hownF hbelF hb1 hown hown1 hs1
      go_wp2
      go_ret2
      exact ⟨hbel1,.inr ⟨hnone,rfl⟩⟩
  ·have htk:packL (sh.data.toList.zip fs) = some acc:=by
    have e:=hacc.out
    rw [List.take_of_length_le (by rw [List.length_zip];omega)] at e
    exact e
   go_wp2
   go_ret2
   exact ⟨hbel,.inl ⟨acc,_,htk,rfl,sl_of_owns hown⟩⟩

theorem ba_len (sh:ByteArray):sh.data.toList.length = sh.size:=Array.length_toList

/-- What both ways of packing come to. -/
def Packed (s:List UInt8) (fs:List Fld) (w:World) (e:Ending) (w':World):Prop :=
 Below w.heap.size w w'∧((∃ ys v,pack s fs = some ys∧e = .returned (.tuple #[v,.int .i64 0])∧Sl w'.heap.size w' v ys.length (ys.map bv)) ∨
  (pack s fs = none∧e = .returned (.tuple #[.slice none 0 0,.int .i64 21])))

theorem c_pack (sh:ByteArray) (K:Nat) (v:Value) (fs:List Fld) (w:World) (hs:sh.size ≤ maxLen) (hl:fs.length ≤ maxLen) (hf:FieldsAt K w v fs) (hK:K ≤ w.heap.size) :
  Calls Try.prog 41 #[.string sh,v] w fun e w'=>Packed sh.data.toList fs w e w':=by
 obtain ⟨ao,cap,rfl,h1⟩:=hf
 have hf:FieldsAt K w (.slice ao fs.length cap) fs:=⟨ao,cap,rfl,h1⟩
 have hsz:sh.data.toList.length = sh.size:=ba_len sh
 by_cases h:sh.size ≤ 200∧fs.length = sh.size
 ·refine (c_pack_run sh K ao cap fs w h.1 h.2 hf hK).mono ?_
  rintro e w' ⟨hb,h2⟩
  refine ⟨hb,?_⟩
  unfold pack
  rw [hsz,if_pos h]
  exact h2
 ·refine (c_pack_refused sh ao fs.length cap w hs hl h).mono ?_
  rintro e w' ⟨he,hb⟩
  exact ⟨hb,.inr ⟨by unfold pack;rw [hsz,if_neg h],he⟩⟩

theorem c_refpack (sh:ByteArray) (K:Nat) (v:Value) (fs:List Fld) (w:World) (hs:sh.size ≤ maxLen) (hl:fs.length ≤ maxLen) (hf:FieldsAt K w v fs) (hK:K ≤ w.heap.size) :
  Calls Try.prog 48 #[.string sh,v] w fun e w'=>Packed sh.data.toList fs w e w':=by
 obtain ⟨ao,cap,rfl,h1⟩:=hf
 have hf:FieldsAt K w (.slice ao fs.length cap) fs:=⟨ao,cap,rfl,h1⟩
 have hsz:sh.data.toList.length = sh.size:=ba_len sh
 by_cases h:sh.size ≤ 200∧fs.length = sh.size
 ·refine (refpack_run sh K ao cap fs w h.1 h.2 hf hK).mono ?_
  rintro e w' ⟨hb,h2⟩
  refine ⟨hb,?_⟩
  unfold pack
  rw [hsz,if_pos h]
  exact h2
 ·refine (refpack_refused sh ao fs.length cap w hs hl h).mono ?_
  rintro e w' ⟨he,rfl⟩
  exact ⟨Below.refl _ _,.inr ⟨by unfold pack;rw [hsz,if_neg h],he⟩⟩
end Go.Proofs.Ytghlilncdfiojaa

namespace Go.Proofs.Ytghlilncdfiojaa
set_option linter.unusedVariables false
set_option linter.unusedSimpArgs false
set_option maxRecDepth 20000
open Go.RowKit

theorem Try.info74:(Try.prog.info? 74).map (fun i=>(i.zero,i.size,i.bytes)) = some (some (.agg #[.int .u64 0,.slice none 0 0]),2,32):=by kernel_rfl

/-- Cells of fields: two a field, the bytes in blocks of one class. -/
def FldX (X:Nat→Prop) (w:World) (fs:List Fld) (cs:List Value):Prop :=
 cs.length = fs.length * 2∧∀ i f,fs[i]? = some f→∃ bvv,cs[i * 2]? = some (.int .u64 (f.num:Nat))∧cs[i * 2 + 1]? = some bvv ∧
  Slp X w bvv f.bytes.length (f.bytes.map bv)∧f.num < 18446744073709551616∧f.bytes.length ≤ 140737488355328

theorem FldX.nil (X:Nat→Prop) (w:World):FldX X w [] []:=⟨rfl,fun i f h=>by simp at h⟩

theorem FldX.keep {X X':Nat→Prop} {w w':World} {fs:List Fld} {cs:List Value} (h:FldX X w fs cs) (hX:∀ b,X b→X' b∧w'.heap[b]? = w.heap[b]?):FldX X' w' fs cs:=by
 refine ⟨h.1,fun i f hi=>?_⟩
 obtain ⟨bvv,h1,h2,h3,h4⟩:=h.2 i f hi
 exact ⟨bvv,h1,h2,h3.keep hX,h4⟩

theorem FldX.push {X:Nat→Prop} {w:World} {fs:List Fld} {cs:List Value} (h:FldX X w fs cs) (f:Fld) (bvv:Value) (hs:Slp X w bvv f.bytes.length (f.bytes.map bv)) (hn:f.num < 18446744073709551616) (hl:f.bytes.length ≤ 140737488355328) :
  FldX X w (fs ++ [f]) (cs ++ [.int .u64 (f.num:Nat),bvv]):=by
 refine ⟨by simp [h.1];omega,fun i g hi=>?_⟩
 by_cases hlt:i < fs.length
 ·rw [List.getElem?_append_left hlt] at hi
  obtain ⟨b1,h1,h2,h3⟩:=h.2 i g hi
  exact ⟨b1,by rw [List.getElem?_append_left (by rw [h.1];omega)];exact h1,by rw [List.getElem?_append_left (by rw [h.1];omega)];exact h2,h3⟩
 ·have hil:i < (fs ++ [f]).length:=(List.getElem?_eq_some_iff.1 hi).1
  have:i = fs.length:=by simp at hil;omega
  subst this
  simp at hi
  subst hi
  refine ⟨bvv,?_,?_,hs,hn,hl⟩
  ·rw [← h.1];simp
  ·rw [← h.1,List.getElem?_append_right (by omega)];simp

theorem fieldsAt_of_own {X:Nat→Prop} {w:World} {base:Nat} {v:Value} {fs:List Fld} {cs:List Value} (ho:w.ownsRow base 74 2 v fs.length cs) (h:FldX X w fs cs) (hX:∀ b,X b→b < w.heap.size):FieldsAt w.heap.size w v fs:=by
 have hs:=sl_of_owns ho
 obtain ⟨ao,cap,rfl,hc,hn,hcs⟩:=hs
 refine ⟨ao,cap,rfl,hc.1,hn,fun i f hi=>?_⟩
 obtain ⟨bvv,h1,h2,h3,h4⟩:=h.2 i f hi
 obtain ⟨b,off,ha,hb,hcell⟩:=hcs _ _ h1
 obtain ⟨b',off',ha',_,hcell'⟩:=hcs _ _ h2
 rw [ha] at ha'
 simp only [Option.some.injEq,Addr.mk.injEq,and_true] at ha'
 obtain ⟨rfl,rfl⟩:=ha'
 exact ⟨b,off,bvv,ha,hb,hcell,by rw [Nat.add_assoc];exact hcell',h3.sl hX,h4⟩

/-- What a round of a copy keeps. -/
structure CopyAt (w wr:World) (o:Value) (fs:List Fld) (cs:List Value):Prop where
 own:wr.ownsRow w.heap.size 74 2 o fs.length cs
 fld:FldX (fun b=>b < wr.heap.size∧o.ownBlock ≠ some b) wr fs cs
 bel:Below w.heap.size w wr

theorem copyAt_start (w:World):CopyAt w (w.alloc (.cells #[] 74)) (.slice (some ⟨w.heap.size,0,none⟩) 0 0) [] [] :=
 ⟨World.ownsRow_lit w #[] 0 (Nat.le_refl _) (by decide) rfl,FldX.nil _ _,(Below.refl _ _).alloc (Nat.le_refl _) _⟩

/-- A field more: w6 holds the new bytes at a block that was not there in wr; w9 is what the append leaves. -/
theorem copyAt_step {w wr w6 w9:World} {o v6 v9:Value} {fs:List Fld} {cs:List Value} (f:Fld) (h:CopyAt w wr o fs cs) (hb:Below wr.heap.size wr w6)
  {X6:Nat→Prop} (hs6:Slp X6 w6 v6 f.bytes.length (f.bytes.map bv)) (h6:∀ b,X6 b→wr.heap.size ≤ b∧b < w6.heap.size) (hn:f.num < 18446744073709551616) (hl:f.bytes.length ≤ 140737488355328)
  (obj:Obj) (ho9:w9.ownsRow w.heap.size 74 2 v9 (fs ++ [f]).length (cs ++ [.int .u64 (f.num:Nat),v6])) (hg:(w6.alloc obj).grownBy w9 o.ownBlock) (hat:v9.ownBlock = o.ownBlock∨v9.ownBlock = some (w6.heap.size + 1)) :
  CopyAt w w9 v9 (fs ++ [f]) (cs ++ [.int .u64 (f.num:Nat),v6]):=by
 have hsz6:=hb.size
 have hsz9:=hg.size
 simp only [World.size_alloc] at hsz9
 have hoo:∀ b,o.ownBlock = some b→w.heap.size ≤ b∧b < wr.heap.size:=fun b hb'=>h.own.lt b hb'
 have keep6:∀ b,b < w6.heap.size→o.ownBlock ≠ some b→w9.heap[b]? = w6.heap[b]?:=fun b hb1 hb2 =>
  (hg.block b (by simp;omega) (Ne.symm hb2)).trans (Below.heap_alloc w6 obj b hb1)
 have hne9:∀ b,b < w6.heap.size→o.ownBlock ≠ some b→v9.ownBlock ≠ some b:=by
  intro b hb1 hb2 he
  rcases hat with h1 | h1
  ·exact hb2 (h1.symm.trans he)
  ·rw [h1] at he
   simp at he
   omega
 refine ⟨ho9,FldX.push ?_ f v6 ?_ hn hl,?_⟩
 ·refine h.fld.keep fun b hx=>?_
  have hb1:b < w6.heap.size:=by omega
  exact ⟨⟨by omega,hne9 b hb1 hx.2⟩,(keep6 b hb1 hx.2).trans (hb.block b hx.1)⟩
 ·refine hs6.keep fun b hx=>?_
  obtain ⟨h1,h2⟩:=h6 b hx
  have hb2:o.ownBlock ≠ some b:=fun e=>by have:=(hoo b e).2;omega
  exact ⟨⟨by omega,hne9 b h2 hb2⟩,keep6 b h2 hb2⟩
 ·have h1:Below w.heap.size w w6:=h.bel.trans (hb.mono h.bel.size)
  have:=h.bel.size
  refine (h1.alloc (by omega) obj).grown hg (by simp;omega) (fun b hb'=>(hoo b hb').1)

end Go.Proofs.Ytghlilncdfiojaa

namespace Go.Proofs.Ytghlilncdfiojaa
set_option linter.unusedVariables false
set_option linter.unusedSimpArgs false
set_option maxRecDepth 20000
open Go.RowKit

/-- The reader at block R has the bytes xs left, in blocks below K. -/
structure RdAt (K R:Nat) (w:World) (xs:List UInt8) (ao:Option Addr) (cap:Nat):Prop where
 blk:w.heap[R]? = some (.cells #[.slice ao xs.length cap] 121 (0,0))
 sl:Sl K w (.slice ao xs.length cap) xs.length (xs.map bv)
 le:K ≤ R
 lec:xs.length ≤ cap
 max:cap ≤ maxLen

theorem grown_setCell (w:World) (R:Nat) (v:Value):w.grownBy (w.setCell ⟨R,0,none⟩ v) (some R) :=
 ⟨rfl,rfl,rfl,by simp [World.setCell],fun k _ hk=>Below.heap_setCell _ _ _ _ (fun e=>hk (by simp [e]))⟩

theorem grown_trans {w w1 w2:World} {row:Option Nat} (h:w.grownBy w1 row) (g:w1.grownBy w2 row):w.grownBy w2 row :=
 ⟨g.os.trans h.os,g.tape.trans h.tape,g.output.trans h.output,Nat.le_trans h.size g.size,fun k hk hne=>(g.block k (Nat.lt_of_lt_of_le hk h.size) hne).trans (h.block k hk hne)⟩

theorem grown_of_below {w w1:World} {row:Option Nat} (h:Below w.heap.size w w1):w.grownBy w1 row :=
 ⟨h.os,h.tape,h.output,h.size,fun k hk _=>h.block k hk⟩

theorem below_of_grown {w w1:World} {R K:Nat} (h:w.grownBy w1 (some R)) (hK:K ≤ R) (hR:K ≤ w.heap.size):Below K w w1 :=
 ⟨h.os,h.tape,h.output,h.size,fun k hk=>h.block k (by omega) (fun e=>by simp at e;omega)⟩

/-- The reader behind a cut. -/
theorem rdAt_cut {K R n:Nat} {w:World} {xs:List UInt8} {ao:Option Addr} {cap:Nat} (h:RdAt K R w xs ao cap) (hn:n ≤ xs.length) :
  ∃ ao',cut1 ao n xs.length cap = .slice ao' (xs.drop n).length (cap - n)∧RdAt K R (w.setCell ⟨R,0,none⟩ (cut1 ao n xs.length cap)) (xs.drop n) ao' (cap - n):=by
 obtain ⟨ao',he⟩:=cut1_form ao n xs.length cap
 have hl:(xs.drop n).length = xs.length - n:=List.length_drop
 have hc:=h.lec
 have hsl:=h.sl.cut1 n xs.length hn (Nat.le_refl _)
 rw [List.take_of_length_le (by rw [hl];exact Nat.le_refl _)] at hsl
 refine ⟨ao',by rw [hl];exact he,?_⟩
 rw [he] at hsl ⊢
 refine ⟨?_,?_,h.le,by rw [hl];omega,by have:=h.max;omega⟩
 ·rw [hl];exact one_setCell h.blk
 ·rw [hl]
  exact hsl.keep ((Below.refl _ _).setCell h.le _)

theorem rdAt_keep {K R:Nat} {w w1:World} {xs:List UInt8} {ao:Option Addr} {cap:Nat} (h:RdAt K R w xs ao cap) (hb:Below w.heap.size w w1):RdAt K R w1 xs ao cap:=by
 have hlt:=lt_of_block h.blk
 have:=h.le
 exact ⟨(hb.block R hlt).trans h.blk,h.sl.keep (hb.mono (by omega)),h.le,h.lec,h.max⟩

theorem c_number {K R n:Nat} {w:World} {xs:List UInt8} {ao:Option Addr} {cap:Nat} (h:RdAt K R w xs ao cap) (hn:n ≤ xs.length) (h8:n ≤ 8) :
  Calls Try.prog 99 #[.pointer (some ⟨R,0,none⟩),.int .i64 n] w fun e w'=>e = .returned (.int .u64 (val (xs.take n):Nat))∧(∃ ao',RdAt K R w' (xs.drop n) ao' (cap - n))∧w.grownBy w' (some R):=by
 refine (c_number_yes K R n cap ao xs w (cell_of_one h.blk) (free_of_one h.blk) h.sl h.le hn h8 h.lec h.max).mono ?_
 rintro e w' ⟨he,rfl⟩
 obtain ⟨ao',_,hr⟩:=rdAt_cut h hn
 exact ⟨he,⟨ao',hr⟩,grown_setCell _ _ _⟩

theorem c_take {K R n:Nat} {w:World} {xs:List UInt8} {ao:Option Addr} {cap:Nat} (h:RdAt K R w xs ao cap) (hn:n ≤ xs.length) :
  Calls Try.prog 107 #[.pointer (some ⟨R,0,none⟩),.int .i64 n] w fun e w'=>e = .returned (.slice ao n cap)∧Sl K w' (.slice ao n cap) n ((xs.take n).map bv)∧(∃ ao',RdAt K R w' (xs.drop n) ao' (cap - n))∧w.grownBy w' (some R):=by
 refine (c_take_yes R n xs.length cap ao w (cell_of_one h.blk) (free_of_one h.blk) hn h.lec h.max).mono ?_
 rintro e w' ⟨he,rfl⟩
 obtain ⟨ao',_,hr⟩:=rdAt_cut h hn
 refine ⟨he,?_,⟨ao',hr⟩,grown_setCell _ _ _⟩
 have hs:=h.sl.cut1 0 n (Nat.zero_le _) hn
 simp only [Nat.sub_zero,List.drop_zero] at hs
 have e:cut1 ao 0 n cap = .slice ao n cap:=by
  unfold cut1 sliced
  by_cases hc:cap = 0
  ·simp [hc]
  ·simp only [Nat.zero_mul,Nat.sub_zero,if_neg hc]
   congr 1
   cases ao <;> simp [Addr.add]
 rw [e] at hs
 exact hs.keep ((Below.refl _ _).setCell h.le _)

/-- New memory, behind w. -/
def Fresh (w w':World) (v:Value) (bs:List UInt8):Prop:=Slp (fun b=>w.heap.size ≤ b∧b < w'.heap.size) w' v bs.length (bs.map bv)

theorem fresh_of_owns {w w':World} {v:Value} {bs:List UInt8} (h:w'.ownsRow w.heap.size 5 1 v bs.length (bs.map bv)):Fresh w w' v bs :=
 (slp_of_owns h).keep fun b hb=>⟨h.lt b hb,rfl⟩

theorem fresh_nil (w w':World):Fresh w w' (.slice none 0 0) []:=⟨none,0,rfl,⟨Nat.le_refl _,Nat.zero_le _⟩,fun _=>rfl,fun i c h=>by simp at h⟩

theorem Fresh.later {w w1 w':World} {v:Value} {bs:List UInt8} (h:Fresh w1 w' v bs) (hs:w.heap.size ≤ w1.heap.size):Fresh w w' v bs :=
 Slp.keep h fun b hb=>⟨⟨Nat.le_trans hs hb.1,hb.2⟩,rfl⟩

set_option maxHeartbeats 800000 in
theorem c_cloneX (K n:Nat) (ao:Option Addr) (cap:Nat) (bs:List UInt8) (w:World) (hs:Sl K w (.slice ao n cap) n (bs.map bv)) (hn:bs.length = n) (hK:K ≤ w.heap.size) (hl:n ≤ 1000000000) :
  Calls Try.prog 106 #[.slice ao n cap] w fun e w'=>∃ v',e = .returned v'∧Fresh w w' v' bs∧Below w.heap.size w w':=by
 subst hn
 obtain ⟨i0,hi,hz0,hz1,hz2⟩:=info_parts Try.info5
 have q22:∀ (w:World) (a:Option Addr) (n c n' c':Nat),(binOp .eql 28 (.slice a n c) (.slice none n' c')).run Try.prog w = .ok (.bool a.isNone) w:=fun w a n c n' c'=>Lib.run_eql_slice_nil w _ _ a n c n' c' Try.underlying28
 cases ao with
 | none =>
  obtain ⟨ao',cap',hv,hcap,hnil,hcs⟩:=hs
  simp only [Value.slice.injEq,true_and] at hv
  obtain ⟨rfl,rfl⟩:=hv
  have hc0:=hnil rfl
  have hb0:bs = []:=List.eq_nil_of_length_eq_zero (by omega)
  subst hb0
  go_enter Try.func106,Try.ntmps106
  go_wp2
  go_ret
  exact ⟨_,rfl,fresh_nil _ _,Below.refl _ _⟩
 | some ad =>
  go_enter Try.func106,Try.ntmps106
  go_wp2_with (at_builtin;refine wpList_append_sl _ rfl _ _ 28 rfl w.heap.size 5 i0 (.int .u8 0) 1 1 Try.underlying28 hi hz0 hz1 hz2 rfl (by decide) _ 0 [] rfl (World.ownsRow_lit w #[] 0 (Nat.le_refl _) (by decide) rfl) K _ bs.length (bs.map bv) rfl ?c0 (by simp) (bv_oneCell _) ?c1 ?c2 ?c3 ?_)
  case c0=>exact hs.keep ((Below.refl _ _).alloc hK _)
  case c1=>unfold maxLen;omega
  case c2=>omega
  case c3=>simp
  intro v' w2 hown2 hgrow _
  have hb2:Below w.heap.size w w2:=((Below.refl _ _).alloc (Nat.le_refl _) _).grown hgrow (by simp) (by intro k hk;simp [Value.ownBlock] at hk;omega)
  have hown3:w2.ownsRow w.heap.size 5 1 v' bs.length (bs.map bv):=by simpa using hown2
  clear hown2 hgrow
  go_wp2
  go_ret
  exact ⟨_,rfl,fresh_of_owns hown3,hb2⟩

/-- The bytes of a b. -/
def cntB (xs:List UInt8):List UInt8:=(xs.drop 2).take (val (xs.take 2))
def cntR (xs:List UInt8):List UInt8:=(xs.drop 2).drop (val (xs.take 2))

set_option maxHeartbeats 800000 in
theorem c_counted {K R:Nat} {w:World} {xs:List UInt8} {ao:Option Addr} {cap:Nat} (h:RdAt K R w xs ao cap) (h2:2 ≤ xs.length) (h1:val (xs.take 2) ≤ 1024) (h3:val (xs.take 2) ≤ (xs.drop 2).length) :
  Calls Try.prog 98 #[.pointer (some ⟨R,0,none⟩)] w fun e w'=>∃ v',e = .returned v'∧Fresh w w' v' (cntB xs)∧(∃ ao' cap',RdAt K R w' (cntR xs) ao' cap')∧w.grownBy w' (some R):=by
 unfold cntB cntR
 have hd:decide (((val (xs.take 2):Nat):Int) ≤ 1024) = true:=decide_eq_true (by omega)
 have hlt:=lt_of_block h.blk
 have hle:=h.le
 generalize hn:val (xs.take 2) = n at *
 have hn':Hid (val (xs.take 2) = n):=hn
 clear hn
 go_enter Try.func98,Try.ntmps98
 go_wp2_with fail
 refine (c_number (n:=2) h h2 (by omega)).mono ?_
 rintro e w1 ⟨rfl,⟨ao1,hr1⟩,hg1⟩
 rw [hn'.out]
 go_wp2_with (first
  | (go_at_call 65;refine (c_must_yes _).mono ?_;rintro e w' ⟨rfl,rfl⟩)
  | (go_at_call 107;refine (c_take (n:=n) hr1 h3).mono ?_;rintro e w2 ⟨rfl,hs2,⟨ao2,hr2⟩,hg2⟩))
 have hsz:w.heap.size ≤ w2.heap.size:=Nat.le_trans hg1.size hg2.size
 refine (c_cloneX K n ao1 (cap - 2) ((xs.drop 2).take n) w2 hs2 (by rw [List.length_take];omega) (by omega) (by omega)).mono ?_
 rintro e w3 ⟨v3,rfl,hf3,hb3⟩
 have hr3:=rdAt_keep hr2 hb3
 have hg3:=grown_trans (grown_trans hg1 hg2) (grown_of_below hb3)
 clear hr2 hs2 hr1
 go_wp2
 go_ret
 exact ⟨_,rfl,hf3.later hsz,⟨ao2,_,hr3⟩,hg3⟩

theorem c_counted_short {K R:Nat} {w:World} {xs:List UInt8} {ao:Option Addr} {cap:Nat} (h:RdAt K R w xs ao cap) (h2:¬ 2 ≤ xs.length) :
  Calls Try.prog 98 #[.pointer (some ⟨R,0,none⟩)] w fun e w'=>e = .panicked [err21]∧w.grownBy w' (some R):=by
 go_enter Try.func98,Try.ntmps98
 go_wp2_with fail
 refine (c_number_no R 2 xs.length cap ao w (cell_of_one h.blk) (by omega) h.lec h.max).mono ?_
 rintro e w1 ⟨rfl,rfl⟩
 exact ⟨rfl,rfl,World.grownBy.refl _ _⟩

theorem c_counted_long {K R:Nat} {w:World} {xs:List UInt8} {ao:Option Addr} {cap:Nat} (h:RdAt K R w xs ao cap) (h2:2 ≤ xs.length) (h1:¬ val (xs.take 2) ≤ 1024) :
  Calls Try.prog 98 #[.pointer (some ⟨R,0,none⟩)] w fun e w'=>e = .panicked [err21]∧w.grownBy w' (some R):=by
 have hd:decide (((val (xs.take 2):Nat):Int) ≤ 1024) = false:=decide_eq_false (by omega)
 generalize hn:val (xs.take 2) = n at *
 have hn':Hid (val (xs.take 2) = n):=hn
 clear hn
 go_enter Try.func98,Try.ntmps98
 go_wp2_with fail
 refine (c_number (n:=2) h h2 (by omega)).mono ?_
 rintro e w1 ⟨rfl,⟨ao1,hr1⟩,hg1⟩
 rw [hn'.out]
 clear hr1
 go_wp2_with (first
  | (go_at_call 65;refine (c_must_no _).mono ?_;rintro e w' ⟨rfl,rfl⟩))
 exact ⟨rfl,rfl,hg1⟩

theorem c_counted_cut {K R:Nat} {w:World} {xs:List UInt8} {ao:Option Addr} {cap:Nat} (h:RdAt K R w xs ao cap) (h2:2 ≤ xs.length) (h1:val (xs.take 2) ≤ 1024) (h3:¬ val (xs.take 2) ≤ (xs.drop 2).length) :
  Calls Try.prog 98 #[.pointer (some ⟨R,0,none⟩)] w fun e w'=>e = .panicked [err21]∧w.grownBy w' (some R):=by
 have hd:decide (((val (xs.take 2):Nat):Int) ≤ 1024) = true:=decide_eq_true (by omega)
 generalize hn:val (xs.take 2) = n at *
 have hn':Hid (val (xs.take 2) = n):=hn
 clear hn
 go_enter Try.func98,Try.ntmps98
 go_wp2_with fail
 refine (c_number (n:=2) h h2 (by omega)).mono ?_
 rintro e w1 ⟨rfl,⟨ao1,hr1⟩,hg1⟩
 rw [hn'.out]
 go_wp2_with (first
  | (go_at_call 65;refine (c_must_yes _).mono ?_;rintro e w' ⟨rfl,rfl⟩)
  | (go_at_call 107;refine (c_take_no R n _ _ ao1 _ (cell_of_one hr1.blk) (by omega) hr1.lec hr1.max).mono ?_;rintro e w2 ⟨rfl,rfl⟩))
 exact ⟨rfl,rfl,hg1⟩
end Go.Proofs.Ytghlilncdfiojaa

namespace Go.Proofs.Ytghlilncdfiojaa
set_option linter.unusedVariables false
set_option linter.unusedSimpArgs false
set_option maxRecDepth 20000
open Go.RowKit

/-- w2 is w1 but for block C. -/
structure ButAt (C:Nat) (w1 w2:World):Prop where
 os:w2.os = w1.os
 tape:w2.tape = w1.tape
 output:w2.output = w1.output
 size:w2.heap.size = w1.heap.size
 block:∀ k,k ≠ C→w2.heap[k]? = w1.heap[k]?

theorem butAt_two (w1:World) (C i j:Nat) (u v:Value):ButAt C w1 ((w1.setCell ⟨C,i,none⟩ u).setCell ⟨C,j,none⟩ v) :=
 ⟨rfl,rfl,rfl,by simp [World.setCell],fun k hk=>by rw [Below.heap_setCell _ _ _ _ hk,Below.heap_setCell _ _ _ _ hk]⟩

theorem RdAt.but {K R C:Nat} {w1 w2:World} {xs:List UInt8} {ao:Option Addr} {cap:Nat} (h:RdAt K R w1 xs ao cap) (hb:ButAt C w1 w2) (hC:K ≤ C) (hR:R ≠ C):RdAt K R w2 xs ao cap :=
 ⟨(hb.block R hR).trans h.blk,h.sl.keep ⟨hb.os,hb.tape,hb.output,by rw [hb.size];exact Nat.le_refl _,fun k hk=>hb.block k (by omega)⟩,h.le,h.lec,h.max⟩

theorem Fresh.but {C:Nat} {w w1 w2:World} {v:Value} {bs:List UInt8} (h:Fresh w w1 v bs) (hb:ButAt C w1 w2) (hC:C < w.heap.size):Fresh w w2 v bs :=
 Slp.keep h fun b hx=>⟨⟨hx.1,by rw [hb.size];exact hx.2⟩,hb.block b (by omega)⟩

theorem grown_but {R C:Nat} {w w1 w2:World} (h:(w.grownBy w1 (some R))) (hb:ButAt C w1 w2) (hC:w.heap.size ≤ C):w.grownBy w2 (some R) :=
 ⟨hb.os.trans h.os,hb.tape.trans h.tape,hb.output.trans h.output,by rw [hb.size];exact h.size,fun k hk hne=>(hb.block k (by omega)).trans (h.block k hk hne)⟩

theorem grown_alloc {R:Nat} {w w1:World} {o:Obj} (h:(w.alloc o).grownBy w1 (some R)):w.grownBy w1 (some R) :=
 grown_trans (World.grownBy_alloc w o _) h

/-- Facts on the result's cell behind a call. -/
theorem res_cells {R:Nat} {w w1:World} {x y:Value} (h:(w.alloc (.cells #[x,y] 74)).grownBy w1 (some R)) (hR:R < w.heap.size) :
  w1.cell? ⟨w.heap.size,0,none⟩ = some x∧w1.cell? ⟨w.heap.size,1,none⟩ = some y∧w1.frozen? ⟨w.heap.size,0,none⟩ = false∧w1.frozen? ⟨w.heap.size,1,none⟩ = false:=by
 have hb:w1.heap[w.heap.size]? = some (.cells #[x,y] 74 (0,0)):=(h.block w.heap.size (by simp) (by simp;omega)).trans (heap_alloc_new w _)
 simp [World.cell?,World.frozen?,hb]

set_option maxHeartbeats 800000 in
theorem c_field_b {K R:Nat} {w:World} {xs:List UInt8} {ao:Option Addr} {cap:Nat} (h:RdAt K R w xs ao cap) (h2:2 ≤ xs.length) (h1:val (xs.take 2) ≤ 1024) (h3:val (xs.take 2) ≤ (xs.drop 2).length) :
  Calls Try.prog 89 #[.pointer (some ⟨R,0,none⟩),.int .u8 98] w fun e w'=>∃ v',e = .returned (.agg #[.int .u64 0,v'])∧Fresh w w' v' (cntB xs)∧(∃ ao' cap',RdAt K R w' (cntR xs) ao' cap')∧w.grownBy w' (some R):=by
 have hlt:=lt_of_block h.blk
 have hle:=h.le
 have hA:RdAt K R (w.alloc (.cells #[.int .u64 0,.slice none 0 0] 74)) xs ao cap:=rdAt_keep h ((Below.refl _ _).alloc (Nat.le_refl _) _)
 go_enter Try.func89,Try.ntmps89
 go_wp2_with fail
 refine (c_counted hA h2 h1 h3).mono ?_
 rintro e w1 ⟨v1,rfl,hf1,⟨ao1,cap1,hr1⟩,hg1⟩
 obtain ⟨hc0,hc1,hz0,hz1⟩:=res_cells hg1 hlt
 obtain ⟨a1,l1,c1,rfl⟩:∃ a1 l1 c1,v1 = .slice a1 l1 c1:=by
  obtain ⟨a1,c1,hv,_⟩:=hf1
  exact ⟨a1,_,c1,hv⟩
 have hbut:=butAt_two w1 w.heap.size 0 1 (.int .u64 0) (.slice a1 l1 c1)
 have hF:=(Fresh.but hf1 hbut (by simp)).later (w:=w) (by simp)
 have hR:=hr1.but hbut (by omega) (by omega)
 have hG:=grown_but (grown_alloc hg1) hbut (Nat.le_refl _)
 clear hf1 hr1 hg1 hA hbut
 go_wp2
 exact bodyPost_ret (v:=.agg #[.int .u64 0,.slice a1 l1 c1]) (by simp [results,Try.results89,go_sem,hc0,hc1]) rfl ⟨_,rfl,hF,⟨ao1,cap1,hR⟩,hG⟩

set_option maxHeartbeats 800000 in
theorem c_field_n {K R:Nat} {w:World} {xs:List UInt8} {ao:Option Addr} {cap:Nat} (c:Int) (k:Nat) (h:RdAt K R w xs ao cap) (hc98:(c == 98) = false)
  (hc:Hid ((c = 49∧(k:Int) = 1)∨(c = 50∧(k:Int) = 2)∨(c = 52∧(k:Int) = 4)∨(c = 56∧(k:Int) = 8))) (hk:k ≤ xs.length) :
  Calls Try.prog 89 #[.pointer (some ⟨R,0,none⟩),.int .u8 c] w fun e w'=>e = .returned (.agg #[.int .u64 (val (xs.take k):Nat),.slice none 0 0])∧(∃ ao' cap',RdAt K R w' (xs.drop k) ao' cap')∧w.grownBy w' (some R):=by
 have hlt:=lt_of_block h.blk
 have hle:=h.le
 have hk8:k ≤ 8:=by have:=hc.out;omega
 have hA:RdAt K R (w.alloc (.cells #[.int .u64 0,.slice none 0 0] 74)) xs ao cap:=rdAt_keep h ((Below.refl _ _).alloc (Nat.le_refl _) _)
 go_enter Try.func89,Try.ntmps89
 go_wp2_with (go_at_call 86;refine (c_widthOf_yes _ k hc.out _).mono ?_;rintro e w' ⟨rfl,rfl⟩)
 refine (c_number (n:=k) hA hk hk8).mono ?_
 rintro e w1 ⟨rfl,⟨ao1,hr1⟩,hg1⟩
 obtain ⟨hc0,hc1,hz0,hz1⟩:=res_cells hg1 hlt
 generalize hq:val (xs.take k) = q
 have Hq:Hid (val (xs.take k) = q):=hq
 clear hq
 have hbut:=butAt_two w1 w.heap.size 0 1 (.int .u64 (q:Nat)) (.slice none 0 0)
 have hR:=hr1.but hbut (by omega) (by omega)
 have hG:=grown_but (grown_alloc hg1) hbut (Nat.le_refl _)
 clear hr1 hg1 hA hbut
 go_wp2
 exact bodyPost_ret (v:=.agg #[.int .u64 (q:Nat),.slice none 0 0]) (by simp [results,Try.results89,go_sem,hc0,hc1]) rfl ⟨by rw [Hq.out],⟨ao1,_,hR⟩,hG⟩

set_option maxHeartbeats 800000 in
theorem c_field_short {K R:Nat} {w:World} {xs:List UInt8} {ao:Option Addr} {cap:Nat} (c:Int) (k:Nat) (h:RdAt K R w xs ao cap) (hc98:(c == 98) = false)
  (hc:Hid ((c = 49∧(k:Int) = 1)∨(c = 50∧(k:Int) = 2)∨(c = 52∧(k:Int) = 4)∨(c = 56∧(k:Int) = 8))) (hk:¬ k ≤ xs.length) :
  Calls Try.prog 89 #[.pointer (some ⟨R,0,none⟩),.int .u8 c] w fun e w'=>e = .panicked [err21]∧w.grownBy w' (some R):=by
 have hA:RdAt K R (w.alloc (.cells #[.int .u64 0,.slice none 0 0] 74)) xs ao cap:=rdAt_keep h ((Below.refl _ _).alloc (Nat.le_refl _) _)
 go_enter Try.func89,Try.ntmps89
 go_wp2_with (go_at_call 86;refine (c_widthOf_yes _ k hc.out _).mono ?_;rintro e w' ⟨rfl,rfl⟩)
 refine (c_number_no R k xs.length cap ao _ (cell_of_one hA.blk) (by omega) h.lec h.max).mono ?_
 rintro e w1 ⟨rfl,rfl⟩
 exact ⟨rfl,rfl,World.grownBy_alloc w _ _⟩

set_option maxHeartbeats 800000 in
theorem c_field_none {R:Nat} {w:World} (c:Int) (hc98:(c == 98) = false) (h1:(c == 49) = false) (h2:(c == 50) = false) (h3:(c == 52) = false) (h4:(c == 56) = false) :
  Calls Try.prog 89 #[.pointer (some ⟨R,0,none⟩),.int .u8 c] w fun e w'=>e = .panicked [err21]∧w.grownBy w' (some R):=by
 go_enter Try.func89,Try.ntmps89
 go_wp2_with (go_at_call 86;refine (c_widthOf_no _ h1 h2 h3 h4 _).mono ?_;rintro e w' ⟨rfl,rfl⟩)
 exact ⟨rfl,rfl,World.grownBy_alloc w _ _⟩

set_option maxHeartbeats 800000 in
theorem c_field_bad {K R:Nat} {w:World} {xs:List UInt8} {ao:Option Addr} {cap:Nat} (h:RdAt K R w xs ao cap) (hb:¬ (2 ≤ xs.length∧val (xs.take 2) ≤ 1024∧val (xs.take 2) ≤ (xs.drop 2).length)) :
  Calls Try.prog 89 #[.pointer (some ⟨R,0,none⟩),.int .u8 98] w fun e w'=>e = .panicked [err21]∧w.grownBy w' (some R):=by
 have hA:RdAt K R (w.alloc (.cells #[.int .u64 0,.slice none 0 0] 74)) xs ao cap:=rdAt_keep h ((Below.refl _ _).alloc (Nat.le_refl _) _)
 have hbad:Calls Try.prog 98 #[.pointer (some ⟨R,0,none⟩)] (w.alloc (.cells #[.int .u64 0,.slice none 0 0] 74)) fun e w'=>e = .panicked [err21]∧(w.alloc (.cells #[.int .u64 0,.slice none 0 0] 74)).grownBy w' (some R):=by
  by_cases h1:2 ≤ xs.length
  ·by_cases h2:val (xs.take 2) ≤ 1024
   ·exact c_counted_cut hA h1 h2 (fun h3=>hb ⟨h1,h2,h3⟩)
   ·exact c_counted_long hA h1 h2
  ·exact c_counted_short hA h1
 have hbad:Hid (Calls Try.prog 98 #[.pointer (some ⟨R,0,none⟩)] (w.alloc (.cells #[.int .u64 0,.slice none 0 0] 74)) fun e w'=>e = .panicked [err21]∧(w.alloc (.cells #[.int .u64 0,.slice none 0 0] 74)).grownBy w' (some R)):=hbad
 go_enter Try.func89,Try.ntmps89
 go_wp2_with fail
 refine hbad.out.mono ?_
 rintro e w1 ⟨rfl,hg⟩
 exact ⟨rfl,rfl,grown_alloc hg⟩

/-- A field read: by the plain function, or given up. -/
def FieldRead (K R:Nat) (c:UInt8) (xs:List UInt8) (w:World) (e:Ending) (w':World):Prop :=
 w.grownBy w' (some R) ∧
  ((∃ f r bvv ao' cap',unpF c xs = some (f,r)∧e = .returned (.agg #[.int .u64 (f.num:Nat),bvv])∧Fresh w w' bvv f.bytes∧RdAt K R w' r ao' cap'∧f.num < 18446744073709551616∧f.bytes.length ≤ 1024) ∨
  (unpF c xs = none∧e = .panicked [err21]))

theorem c_field {K R:Nat} {w:World} {xs:List UInt8} {ao:Option Addr} {cap:Nat} (c:UInt8) (h:RdAt K R w xs ao cap) :
  Calls Try.prog 89 #[.pointer (some ⟨R,0,none⟩),.int .u8 (c.toNat:Int)] w fun e w'=>FieldRead K R c xs w e w':=by
 by_cases h98:c = 98
 ·subst h98
  by_cases hb:2 ≤ xs.length∧val (xs.take 2) ≤ 1024∧val (xs.take 2) ≤ (xs.drop 2).length
  ·refine (c_field_b h hb.1 hb.2.1 hb.2.2).mono ?_
   rintro e w' ⟨v',he,hf,⟨ao',cap',hr⟩,hg⟩
   exact ⟨hg,.inl ⟨⟨0,cntB xs⟩,cntR xs,v',ao',cap',by simp only [unpF,if_true];rw [if_pos hb];rfl,he,hf,hr,by show (0:Nat) < _;omega,by show (cntB xs).length ≤ 1024;unfold cntB;rw [List.length_take];omega⟩⟩
  ·refine (c_field_bad h hb).mono ?_
   rintro e w' ⟨he,hg⟩
   exact ⟨hg,.inr ⟨by simp only [unpF,if_true];rw [if_neg hb],he⟩⟩
 ·cases hw:wdt c with
  | none =>
   obtain ⟨h1,h2,h3,h4⟩:=wdt_none hw
   refine (c_field_none (c.toNat:Int) (byte_ne h98 98 rfl) h1 h2 h3 h4).mono ?_
   rintro e w' ⟨he,hg⟩
   exact ⟨hg,.inr ⟨by simp [unpF,h98,hw],he⟩⟩
  | some k =>
   have hk:=wdt_int hw
   by_cases hlt:k ≤ xs.length
   ·refine (c_field_n (c.toNat:Int) k h (byte_ne h98 98 rfl) hk hlt).mono ?_
    rintro e w' ⟨he,⟨ao',cap',hr⟩,hg⟩
    refine ⟨hg,.inl ⟨⟨val (xs.take k),[]⟩,xs.drop k,_,ao',cap',by simp [unpF,h98,hw,hlt],he,fresh_nil _ _,hr,?_,by simp⟩⟩
    have h1:=val_lt (xs.take k)
    have h2:(xs.take k).length ≤ 8:=by rw [List.length_take];omega
    have h3:256 ^ (xs.take k).length ≤ 256 ^ 8:=Nat.pow_le_pow_right (by decide) h2
    show val (xs.take k) < _
    omega
   ·refine (c_field_short (c.toNat:Int) k h (byte_ne h98 98 rfl) hk hlt).mono ?_
    rintro e w' ⟨he,hg⟩
    exact ⟨hg,.inr ⟨by simp [unpF,h98,hw,hlt],he⟩⟩
end Go.Proofs.Ytghlilncdfiojaa

namespace Go.Proofs.Ytghlilncdfiojaa
set_option linter.unusedVariables false
set_option linter.unusedSimpArgs false
set_option maxRecDepth 20000
open Go.RowKit

theorem catch_panickingU (p q:Addr) (x y:Value) (u:TypeId) (pv:Value) (older:List PanicEntry) (w:World) (hc:w.cell? p = some x) (hz:w.frozen? p = false) (hc2:w.cell? q = some y) (hz2:w.frozen? q = false) (hpq:q ≠ p) :
  CallsD Try.prog 88 #[.pointer (some p),.pointer (some q)] (.panicking ({ v:=.iface u pv,recovered:=false } :: older)) w fun e u' w' =>
   e = .returned (.tuple #[])∧u' = .panicking ({ v:=.iface u pv,recovered:=true } :: older)∧w' = (w.setCell p (.slice none 0 0)).setCell q (.int .i64 21):=by
 have hc3:(w.setCell p (.slice none 0 0)).cell? q = some y:=by rw [World.cell?_setCell_other _ _ _ _ (Ne.symm hpq)];exact hc2
 refine callsD_of_wpS Try.func88 rfl fun c₀ cs hu=>?_
 apply wpS_seq
 apply wpS_region
 simp [wpOpsS,go_sem,recoverD,hu,Try.ntmps88,Exit.thenS]
 refine wpS_cond (t:=true) (by simp [Act.eval,Array.replicate]) ?_
 simp only [if_true]
 apply wpS_region
 simp [wpOpsS,go_sem,hc,hz,hc3,hz2,bodyPostS,results,Try.results88]

theorem catch_idleU (p q:Addr) (w:World) :
  CallsD Try.prog 88 #[.pointer (some p),.pointer (some q)] .returning w fun e u' w'=>e = .returned (.tuple #[])∧u' = .returning∧w' = w:=by
 refine callsD_of_wpS Try.func88 rfl fun c₀ cs hu=>?_
 apply wpS_seq
 apply wpS_region
 simp [wpOpsS,go_sem,recoverD,hu,Try.ntmps88,Exit.thenS]
 refine wpS_cond (t:=false) (by simp [Act.eval,Array.replicate]) ?_
 simp only [Bool.false_eq_true,if_false]
 refine wpS_of_wp (wp_skip ?_)
 cases c₀
 simp_all [bodyPostS,results,Try.results88]

/-- The door, when the body gave up: nothing, and the error. -/
theorem door_panicU (R:Ending→World→Prop) (tmps:Array Value) (N:Nat) (W:World) (x y:Value) (hc:W.cell? ⟨N,0,none⟩ = some x) (hz:W.frozen? ⟨N,0,none⟩ = false) (hc2:W.cell? ⟨N + 1,0,none⟩ = some y) (hz2:W.frozen? ⟨N + 1,0,none⟩ = false)
  (h4:tmps.getD 4 undef = .pointer (some ⟨N,0,none⟩)) (h5:tmps.getD 5 undef = .pointer (some ⟨N + 1,0,none⟩))
  (hR:R (.returned (.tuple #[.slice none 0 0,.int .i64 21])) ((W.setCell ⟨N,0,none⟩ (.slice none 0 0)).setCell ⟨N + 1,0,none⟩ (.int .i64 21))) :
  bodyPostD Try.prog Try.f75 R (.panic [err21]) { tmps:=tmps,defers:=[{ target:=.fn (.func 88) #[.pointer (some ⟨N,0,none⟩),.pointer (some ⟨N + 1,0,none⟩)],args:=#[] }] } W:=by
 refine leaves_cons (f:=88) (args:=#[.pointer (some ⟨N,0,none⟩),.pointer (some ⟨N + 1,0,none⟩)]) (by simp) (by simp [go_sem]) ?_
 refine (catch_panickingU ⟨N,0,none⟩ ⟨N + 1,0,none⟩ x y _ _ [] _ hc hz hc2 hz2 (by simp)).mono ?_
 rintro e u' w'' ⟨rfl,rfl,rfl⟩
 have e1:((W.setCell ⟨N,0,none⟩ (.slice none 0 0)).setCell ⟨N + 1,0,none⟩ (.int .i64 21)).cell? ⟨N,0,none⟩ = some (.slice none 0 0):=by
  rw [World.cell?_setCell_other _ _ _ _ (by simp)];exact World.cell?_setCell_same _ _ _ hc
 have e2:((W.setCell ⟨N,0,none⟩ (.slice none 0 0)).setCell ⟨N + 1,0,none⟩ (.int .i64 21)).cell? ⟨N + 1,0,none⟩ = some (.int .i64 21) :=
  World.cell?_setCell_same _ _ _ (by rw [World.cell?_setCell_other _ _ _ _ (by simp)];exact hc2)
 have h4':tmps[4]?.getD undef = .pointer (some ⟨N,0,none⟩):=by simpa using h4
 have h5':tmps[5]?.getD undef = .pointer (some ⟨N + 1,0,none⟩):=by simpa using h5
 simp [Leaves,settle,results,Try.results75,go_sem,h4',h5',e1,e2]
 exact hR

/-- The door, when the body came to its end. -/
theorem door_returnU (R:Ending→World→Prop) (tmps:Array Value) (N:Nat) (W:World) (x y:Value) (hc:W.cell? ⟨N,0,none⟩ = some x) (hc2:W.cell? ⟨N + 1,0,none⟩ = some y)
  (h4:tmps.getD 4 undef = .pointer (some ⟨N,0,none⟩)) (h5:tmps.getD 5 undef = .pointer (some ⟨N + 1,0,none⟩))
  (hR:R (.returned (.tuple #[x,y])) W) :
  bodyPostD Try.prog Try.f75 R .ret { tmps:=tmps,defers:=[{ target:=.fn (.func 88) #[.pointer (some ⟨N,0,none⟩),.pointer (some ⟨N + 1,0,none⟩)],args:=#[] }] } W:=by
 refine leaves_cons (f:=88) (args:=#[.pointer (some ⟨N,0,none⟩),.pointer (some ⟨N + 1,0,none⟩)]) (by simp) (by simp [go_sem]) ?_
 refine (catch_idleU ⟨N,0,none⟩ ⟨N + 1,0,none⟩ _).mono ?_
 rintro e u' w'' ⟨rfl,rfl,rfl⟩
 have h4':tmps[4]?.getD undef = .pointer (some ⟨N,0,none⟩):=by simpa using h4
 have h5':tmps[5]?.getD undef = .pointer (some ⟨N + 1,0,none⟩):=by simpa using h5
 simp [Leaves,settle,results,Try.results75,go_sem,h4',h5',hc,hc2]
 exact hR

/-- What a round of Unpack keeps. -/
structure UnpAt (N K:Nat) (w wr:World) (v:Value) (fs:List Fld) (cs:List Value) (r:List UInt8) (ao:Option Addr) (cap:Nat):Prop where
 b0:wr.heap[N]? = some (.cells #[v] 71 (0,0))
 b1:wr.heap[N + 1]? = some (.cells #[.int .i64 0] 38 (0,0))
 rd:RdAt K (N + 2) wr r ao cap
 own:wr.ownsRow (N + 3) 74 2 v fs.length cs
 fld:FldX (fun b=>N + 3 ≤ b∧b < wr.heap.size∧v.ownBlock ≠ some b) wr fs cs
 bel:Below N w wr

theorem unpAt_start (K:Nat) (w:World) (ao:Option Addr) (cap:Nat) (xs:List UInt8) (hs:Sl K w (.slice ao xs.length cap) xs.length (xs.map bv)) (hK:K ≤ w.heap.size) (hc:xs.length ≤ cap) (hm:cap ≤ maxLen) :
  UnpAt w.heap.size K w (((w.alloc (.cells #[.slice none 0 0] 71)).alloc (.cells #[.int .i64 0] 38)).alloc (.cells #[.slice ao xs.length cap] 121)) (.slice none 0 0) [] [] xs ao cap:=by
 have hb:Below w.heap.size w (((w.alloc (.cells #[.slice none 0 0] 71)).alloc (.cells #[.int .i64 0] 38)).alloc (.cells #[.slice ao xs.length cap] 121)) :=
  (((Below.refl _ _).alloc (Nat.le_refl _) _).alloc (by simp) _).alloc (by simp;omega) _
 refine ⟨?_,?_,⟨?_,hs.keep (hb.mono hK),by omega,hc,hm⟩,World.ownsRow_nil _ _ _ _,FldX.nil _ _,hb⟩
 ·rw [Below.heap_alloc _ _ _ (by simp;omega),Below.heap_alloc _ _ _ (by simp)];exact heap_alloc_new w _
 ·rw [Below.heap_alloc _ _ _ (by simp)]
  have:=heap_alloc_new (w.alloc (.cells #[.slice none 0 0] 71)) (.cells #[.int .i64 0] 38)
  simpa using this
 ·have:=heap_alloc_new ((w.alloc (.cells #[.slice none 0 0] 71)).alloc (.cells #[.int .i64 0] 38)) (.cells #[.slice ao xs.length cap] 121)
  simpa using this

theorem unpAt_door {N K:Nat} {w wr w1:World} {v:Value} {fs:List Fld} {cs:List Value} {r:List UInt8} {ao:Option Addr} {cap:Nat} (h:UnpAt N K w wr v fs cs r ao cap) (hg:wr.grownBy w1 (some (N + 2))) :
  w1.cell? ⟨N,0,none⟩ = some v∧w1.frozen? ⟨N,0,none⟩ = false∧w1.cell? ⟨N + 1,0,none⟩ = some (.int .i64 0)∧w1.frozen? ⟨N + 1,0,none⟩ = false ∧
  Below N w ((w1.setCell ⟨N,0,none⟩ (.slice none 0 0)).setCell ⟨N + 1,0,none⟩ (.int .i64 21)):=by
 have hN:=lt_of_block h.rd.blk
 have b0:=(hg.block N (by omega) (by simp)).trans h.b0
 have b1:=(hg.block (N + 1) (by omega) (by simp)).trans h.b1
 exact ⟨cell_of_one b0,free_of_one b0,cell_of_one b1,free_of_one b1,((h.bel.trans (below_of_grown hg (by omega) (by omega))).setCell (Nat.le_refl _) _).setCell (by simp) _⟩

theorem unpAt_step {N K:Nat} {w wr w1 w6:World} {v v6 bvv:Value} {fs:List Fld} {cs:List Value} {r r':List UInt8} {ao ao':Option Addr} {cap cap':Nat} (f:Fld) (h:UnpAt N K w wr v fs cs r ao cap) (hK:K ≤ N)
  (hg:wr.grownBy w1 (some (N + 2))) (hf:Fresh wr w1 bvv f.bytes) (hr:RdAt K (N + 2) w1 r' ao' cap') (hn:f.num < 18446744073709551616) (hl:f.bytes.length ≤ 1024)
  (obj:Obj) (ho:w6.ownsRow (N + 3) 74 2 v6 (fs ++ [f]).length (cs ++ [.int .u64 (f.num:Nat),bvv])) (hg6:(w1.alloc obj).grownBy w6 v.ownBlock) (hat:v6.ownBlock = v.ownBlock∨v6.ownBlock = some (w1.heap.size + 1)) :
  UnpAt N K w (w6.setCell ⟨N,0,none⟩ v6) v6 (fs ++ [f]) (cs ++ [.int .u64 (f.num:Nat),bvv]) r' ao' cap':=by
 have hN:=lt_of_block h.rd.blk
 have hs1:=hg.size
 have hs6:=hg6.size
 simp only [World.size_alloc] at hs6
 have hsS:(w6.setCell ⟨N,0,none⟩ v6).heap.size = w6.heap.size:=by simp [World.setCell]
 have hov:∀ b,v.ownBlock = some b→N + 3 ≤ b∧b < wr.heap.size:=fun b hb=>h.own.lt b hb
 have keep:∀ b,b < w1.heap.size→v.ownBlock ≠ some b→b ≠ N→(w6.setCell ⟨N,0,none⟩ v6).heap[b]? = w1.heap[b]?:=fun b h1 h2 h3=>by
  rw [Below.heap_setCell _ _ _ _ h3,hg6.block b (by simp;omega) (Ne.symm h2),Below.heap_alloc w1 obj b h1]
 have hnv:∀ b,b < N + 3→v.ownBlock ≠ some b:=fun b hb e=>by have:=(hov b e).1;omega
 have hne:∀ b,b < w1.heap.size→v.ownBlock ≠ some b→v6.ownBlock ≠ some b:=by
  intro b hb1 hb2 he
  rcases hat with h1 | h1
  ·exact hb2 (h1.symm.trans he)
  ·rw [h1] at he;simp at he;omega
 have hbN:w6.heap[N]? = some (.cells #[v] 71 (0,0)):=by
  rw [hg6.block N (by simp;omega) (Ne.symm (hnv N (by omega))),Below.heap_alloc w1 obj N (by omega),hg.block N (by omega) (by simp)];exact h.b0
 refine ⟨one_setCell hbN,?_,?_,ownsRow_setCell_below ho (by show N < _;omega) _,?_,?_⟩
 ·rw [keep (N + 1) (by omega) (hnv _ (by omega)) (by omega),hg.block (N + 1) (by omega) (by simp)];exact h.b1
 ·refine ⟨(keep (N + 2) (by omega) (hnv _ (by omega)) (by omega)).trans hr.blk,hr.sl.keep ⟨?_,?_,?_,by rw [hsS];omega,fun b hb=>keep b (by omega) (hnv b (by omega)) (by omega)⟩,hr.le,hr.lec,hr.max⟩
  ·exact hg6.os
  ·exact hg6.tape
  ·exact hg6.output
 ·refine FldX.push ?_ f bvv ?_ hn (by omega)
  ·refine h.fld.keep fun b hx=>?_
   have hb1:b < w1.heap.size:=by omega
   refine ⟨⟨hx.1,by rw [hsS];omega,hne b hb1 hx.2.2⟩,?_⟩
   rw [keep b hb1 hx.2.2 (by omega),hg.block b hx.2.1 (by simp;omega)]
  ·refine Slp.keep hf fun b hx=>?_
   have hb2:v.ownBlock ≠ some b:=fun e=>by have:=(hov b e).2;omega
   exact ⟨⟨by omega,by rw [hsS];omega,hne b hx.2 hb2⟩,keep b hx.2 hb2 (by omega)⟩
 ·have h1:Below N w w1:=h.bel.trans (below_of_grown hg (by omega) (by omega))
  exact ((h1.alloc (by omega) obj).grown hg6 (by simp;omega) (fun b hb=>by have:=(hov b hb).1;omega)).setCell (Nat.le_refl _) _

theorem unpAt_end {N K:Nat} {w wr:World} {v:Value} {fs:List Fld} {cs:List Value} {r:List UInt8} {ao:Option Addr} {cap:Nat} (h:UnpAt N K w wr v fs cs r ao cap) :
  ((wr.setCell ⟨N,0,none⟩ v).setCell ⟨N + 1,0,none⟩ (.int .i64 0)).cell? ⟨N,0,none⟩ = some v∧((wr.setCell ⟨N,0,none⟩ v).setCell ⟨N + 1,0,none⟩ (.int .i64 0)).cell? ⟨N + 1,0,none⟩ = some (.int .i64 0) ∧
  Below N w ((wr.setCell ⟨N,0,none⟩ v).setCell ⟨N + 1,0,none⟩ (.int .i64 0)) ∧
  FieldsAt ((wr.setCell ⟨N,0,none⟩ v).setCell ⟨N + 1,0,none⟩ (.int .i64 0)).heap.size ((wr.setCell ⟨N,0,none⟩ v).setCell ⟨N + 1,0,none⟩ (.int .i64 0)) v fs:=by
 have hs:((wr.setCell ⟨N,0,none⟩ v).setCell ⟨N + 1,0,none⟩ (.int .i64 0)).heap.size = wr.heap.size:=by simp [World.setCell]
 refine ⟨?_,?_,(h.bel.setCell (Nat.le_refl _) _).setCell (by simp) _,?_⟩
 ·rw [World.cell?_setCell_other _ _ _ _ (by simp)]
  exact World.cell?_setCell_same _ _ _ (cell_of_one h.b0)
 ·exact World.cell?_setCell_same _ _ _ (by rw [World.cell?_setCell_other _ _ _ _ (by simp)];exact cell_of_one h.b1)
 ·refine fieldsAt_of_own (X:=fun b=>b < wr.heap.size) (ownsRow_setCell_below (ownsRow_setCell_below h.own (by show N < _;omega) _) (by show N + 1 < _;omega) _) ?_ (fun b hb=>by rw [hs];exact hb)
  refine h.fld.keep fun b hx=>⟨hx.2.1,?_⟩
  rw [Below.heap_setCell _ _ _ _ (by show b ≠ N + 1;omega),Below.heap_setCell _ _ _ _ (by show b ≠ N;omega)]

/-- What both ways of unpacking come to. -/
def Unpacked (s xs:List UInt8) (w:World) (e:Ending) (w':World):Prop :=
 Below w.heap.size w w'∧((∃ fs v,unpack s xs = some fs∧e = .returned (.tuple #[v,.int .i64 0])∧FieldsAt w'.heap.size w' v fs) ∨
  (unpack s xs = none∧e = .returned (.tuple #[.slice none 0 0,.int .i64 21])))

set_option maxHeartbeats 1600000 in
theorem c_unpack_refused (sh:ByteArray) (v:Value) (w:World) (hs:sh.size ≤ maxLen) (h:¬ sh.size ≤ 200) :
  Calls Try.prog 75 #[.string sh,v] w fun e w'=>e = .returned (.tuple #[.slice none 0 0,.int .i64 21])∧Below w.heap.size w w':=by
 have hmf:∀ (fn:Fn) (first cap:Array Value) (w:World),(Instr.makeFunc fn first cap).run Try.prog w = .ok (.func fn first cap) w:=fun _ _ _ _=>rfl
 unfold maxLen at hs
 have hd1:decide ((sh.size:Int) ≤ 200) = false:=decide_eq_false (by omega)
 go_enter_defers Try.func75,Try.ntmps75
 go_wp2_with (go_at_call 65;refine (c_must_no _).mono ?_;rintro e w' ⟨rfl,rfl⟩)
 refine door_panicU _ _ w.heap.size _ (.slice none 0 0) (.int .i64 0) (by simp [go_sem]) (by simp [go_sem]) (by simp [go_sem]) (by simp [go_sem]) rfl rfl ⟨rfl,?_⟩
 exact ((((Below.refl _ _).alloc (Nat.le_refl _) _).alloc (by simp) _).setCell (Nat.le_refl _) _).setCell (by simp) _
end Go.Proofs.Ytghlilncdfiojaa

namespace Go.Proofs.Ytghlilncdfiojaa
set_option linter.unusedVariables false
set_option linter.unusedSimpArgs false
set_option maxRecDepth 20000
open Go.RowKit

theorem unpL_round {sh:ByteArray} {xs r r':List UInt8} {k:Nat} {fs:List Fld} {f:Fld} (h:k < sh.size) (ha:unpL (sh.data.toList.take k) xs = some (fs,r)) (hp:unpF sh[k] r = some (f,r')) :
  unpL (sh.data.toList.take (k + 1)) xs = some (fs ++ [f],r'):=by
 have h3:sh.data.toList[k]? = some sh[k]:=by
  rw [List.getElem?_eq_getElem (by simpa using h)];rfl
 rw [List.take_add_one,h3]
 simp only [Option.toList_some]
 rw [unpL_snoc,ha]
 simp [hp]

theorem unpL_stop {sh:ByteArray} {xs r:List UInt8} {k:Nat} {fs:List Fld} (h:k < sh.size) (ha:unpL (sh.data.toList.take k) xs = some (fs,r)) (hp:unpF sh[k] r = none) :
  unpL sh.data.toList xs = none:=by
 have h3:sh.data.toList[k]? = some sh[k]:=by
  rw [List.getElem?_eq_getElem (by simpa using h)];rfl
 have e:sh.data.toList = (sh.data.toList.take k ++ [sh[k]]) ++ sh.data.toList.drop (k + 1):=by
  have:=List.take_append_drop (k + 1) sh.data.toList
  rw [List.take_add_one,h3] at this
  simpa using this.symm
 rw [e,unpL_append,unpL_snoc,ha]
 simp [hp]

theorem owns_ne3 {w:World} {base e size n R:Nat} {v:Value} {xs:List Value} (h:w.ownsRow base e size v n xs) (hR:R < base):v.ownBlock = none∨v.ownBlock ≠ some R:=by
 refine .inr fun he=>?_
 have:=(h.lt R he).1
 omega

theorem owns_ne4 {w:World} {base e size n R:Nat} {v:Value} {xs:List Value} (h:w.ownsRow base e size v n xs) (hR:R < base):some R ≠ v.ownBlock:=by
 intro he
 have:=(h.lt R he.symm).1
 omega

set_option maxHeartbeats 3200000 in
theorem c_unpack_run (sh:ByteArray) (K:Nat) (ao:Option Addr) (cap:Nat) (xs:List UInt8) (w:World) (hs:sh.size ≤ 200) (hx:Sl K w (.slice ao xs.length cap) xs.length (xs.map bv)) (hK:K ≤ w.heap.size) (hc:xs.length ≤ cap) (hm:cap ≤ maxLen) :
  Calls Try.prog 75 #[.string sh,.slice ao xs.length cap] w fun e w'=>Unpacked sh.data.toList xs w e w':=by
 obtain ⟨i4,hj,hj0,hj1,hj2⟩:=info_parts Try.info74
 have hmf:∀ (fn:Fn) (first cap:Array Value) (w:World),(Instr.makeFunc fn first cap).run Try.prog w = .ok (.func fn first cap) w:=fun _ _ _ _=>rfl
 have hd1:decide ((sh.size:Int) ≤ 200) = true:=decide_eq_true (by omega)
 have hst:=unpAt_start K w ao cap xs hx hK hc hm
 have hst:Hid (UnpAt w.heap.size K w (((w.alloc (.cells #[.slice none 0 0] 71)).alloc (.cells #[.int .i64 0] 38)).alloc (.cells #[.slice ao xs.length cap] 121)) (.slice none 0 0) [] [] xs ao cap):=hst
 go_enter_defers Try.func75,Try.ntmps75
 go_wp2_with (go_at_call 65;refine (c_must_yes _).mono ?_;rintro e w' ⟨rfl,rfl⟩)
 go_loopw [17] (fun i wr=>∃ (k:Nat) (v:Value) (fs:List Fld) (cs:List Value) (r:List UInt8) (ao:Option Addr) (cap:Nat),k ≤ sh.size∧i = .int .i64 k∧Hid (unpL (sh.data.toList.take k) xs = some (fs,r))∧UnpAt w.heap.size K w wr v fs cs r ao cap) (fun i _=>sh.size - (intOf i).toNat)
 case atStart=>exact ⟨0,_,[],[],xs,ao,cap,Nat.zero_le _,rfl,rfl,hst.out⟩
 case round =>
  obtain ⟨k,v,fs,cs,r,ra,rc,hk,rfl,hacc,hat⟩:=hrel
  have hc0:=cell_of_one hat.b0
  have hz0:=free_of_one hat.b0
  have hc1:=cell_of_one hat.b1
  have hz1:=free_of_one hat.b1
  have hc2:=cell_of_one hat.rd.blk
  have hN:=lt_of_block hat.rd.blk
  have hfl:fs.length = k:=by
   have:=unpL_length hacc.out
   rw [this,List.length_take,ba_len];omega
  have hfl':fs.length ≤ 200:=by omega
  have hflH:Hid (fs.length = k):=hfl
  clear hfl
  obtain ⟨va,vc,rfl⟩:∃ va vc,v = .slice va fs.length vc:=owns_form hat.own
  by_cases hlt:k < sh.size
  ·have hks':(k:Int) < (sh.size:Int):=by omega
   have hk0:(0:Int) ≤ (k:Int):=by omega
   go_wp2
   have hS:(fun w':World=>w'.cell? ⟨w.heap.size,0,none⟩ = some (.slice va fs.length vc)) wr.drew:=hc0
   refine wp_region_ord [4,5] 6 [(0,true),(1,true),(2,true),(3,true),(4,false),(5,false)] (fun w':World=>w'.cell? ⟨w.heap.size,0,none⟩ = some (.slice va fs.length vc)) (by kernel_rfl) (by kernel_rfl) ?_
   refine ord_quiet _ ?_ rfl hS rfl ?_ ?_
   rotate_left
   ·intro w' hS';go_simp;rfl
   refine ord_quiet _ ?_ rfl hS rfl ?_ ?_
   rotate_left
   ·intro w' hS';go_simp;rfl
   refine ord_quiet _ ?_ rfl hS rfl ?_ ?_
   rotate_left
   ·intro w' hS';go_simp;rfl
   refine ord_quiet _ ?_ rfl hS rfl ?_ ?_
   rotate_left
   ·intro w' hS';go_simp;rfl
   refine ord_act _ rfl fun K1 hK1=>?_
   simp only [List.getElem_toArray,List.getElem_cons_succ,List.getElem_cons_zero]
   have hrd:RdAt K (w.heap.size + 2) wr.drew r ra rc:=rdAt_keep hat.rd ((Below.refl _ _).drew)
   go_wp2_with fail
   refine (c_field sh[k] hrd).mono ?_
   rintro e w1 ⟨hg1,⟨f,r',bvv,ao',cap',hp,rfl,hf1,hr1,hn1,hl1⟩ | ⟨hp,rfl⟩⟩
   ·have hg1':wr.grownBy w1 (some (w.heap.size + 2)):=⟨hg1.os,hg1.tape,hg1.output,hg1.size,hg1.block⟩
    have hf1':Fresh wr w1 bvv f.bytes:=hf1
    have hs1:=hg1'.size
    have hS1:(fun w':World=>w'.cell? ⟨w.heap.size,0,none⟩ = some (.slice va fs.length vc)) w1:=by
     show w1.cell? _ = _
     rw [World.cell?_of_block (w:=wr) (hg1'.block w.heap.size (by omega) (by simp))]
     exact hc0
    obtain ⟨fa,fl,fc,rfl⟩:∃ a1 l1 c1,bvv = .slice a1 l1 c1:=by
     obtain ⟨a1,c1,hv,_⟩:=hf1
     exact ⟨a1,_,c1,hv⟩
    go_wp2
    refine hK1 _ _ hS1 ?_
    clear hK1 K1 hg1 hf1
    refine ord_act _ rfl fun K1 hK1=>?_
    go_wp2
    have hS2:(fun w':World=>w'.cell? ⟨w.heap.size,0,none⟩ = some (.slice va fs.length vc)) (w1.alloc (.cells #[.int .u64 (f.num:Nat),.slice fa fl fc] 74)):=by
     show (w1.alloc _).cell? _ = _
     rw [World.cell?_alloc_past _ _ _ (by show w.heap.size < _;omega)]
     exact hS1
    refine hK1 _ _ hS2 ?_
    clear hK1 K1
    refine ord_tail ?_
    simp only [List.drop_succ_cons,List.drop_zero]
    have hown1:w1.ownsRow (w.heap.size + 3) 74 2 (.slice va fs.length vc) fs.length cs:=hat.own.kept hg1' (owns_ne3 hat.own (by omega))
    have hown2:=hown1.alloc (.cells #[.int .u64 (f.num:Nat),.slice fa fl fc] 74)
    go_wp2_with (at_builtin;refine wpList_append_sl _ rfl _ _ 71 rfl (w.heap.size + 3) 74 i4 _ 2 32 Try.underlying71 hj hj0 hj1 hj2 rfl (by decide) _ _ _ rfl hown2 _ _ 1 _ rfl (sl_lit w1 _ 74 1 (by omega)) rfl ?d1 ?d2 ?d3 ?d4 ?_)
    case d1=>first | (intro u hu;simp at hu;rcases hu with rfl | rfl <;> rfl) | simp [Value.oneCell']
    case d2=>unfold maxLen;omega
    case d3=>omega
    case d4=>first | omega | (simp;omega)
    intro v6 w6 hown6 hgrow6 hat6
    have hown6:w6.ownsRow (w.heap.size + 3) 74 2 v6 (fs ++ [f]).length (cs ++ [.int .u64 (f.num:Nat),.slice fa fl fc]):=by simpa using hown6
    obtain ⟨a6,c6,rfl⟩:∃ a6 c6,v6 = .slice a6 (fs ++ [f]).length c6:=owns_form hown6
    have hnew:=unpAt_step f hat hK hg1' hf1' hr1 hn1 hl1 _ hown6 hgrow6 hat6
    have hacc1:Hid (unpL (sh.data.toList.take (k + 1)) xs = some (fs ++ [f],r')):=unpL_round hlt hacc.out hp
    have hg6:w6.cell? ⟨w.heap.size,0,none⟩ = some (.slice va fs.length vc):=hgrow6.cell hS2 (owns_ne4 hat.own (by show w.heap.size < _;omega))
    have hz6:w6.frozen? ⟨w.heap.size,0,none⟩ = false:=by
     rw [World.frozen?_of_block (w:=w1.alloc (.cells #[.int .u64 (f.num:Nat),.slice fa fl fc] 74)) (hgrow6.block w.heap.size (by simp;omega) (owns_ne4 hat.own (by omega)))]
     rw [World.frozen?_of_block (w:=w1) (Below.heap_alloc _ _ _ (by show w.heap.size < _;omega))]
     rw [World.frozen?_of_block (w:=wr) (hg1'.block w.heap.size (by omega) (by simp))]
     exact hz0
    clear hat hown6 hgrow6 hat6 hown1 hown2 hS hS1 hS2 hg1' hf1' hr1 hp hacc hrd hc0 hz0 hc1 hz1 hc2
    generalize fs ++ [f] = fs1 at *
    go_wp2
    go_roundw
    case rel=>exact ⟨k + 1,_,_,_,_,_,_,by omega,by go_num,hacc1,hnew⟩
    case measure=>simp [intOf];omega
   ·have hg1':wr.grownBy w1 (some (w.heap.size + 2)):=⟨hg1.os,hg1.tape,hg1.output,hg1.size,hg1.block⟩
    have hnone:unpack sh.data.toList xs = none:=by
     unfold unpack
     rw [unpL_stop hlt hacc.out hp]
     simp
    have hd:=unpAt_door hat hg1'
    rintro ⟨tmps,dfs⟩ hdf hkeep
    simp only at hdf
    subst hdf
    exact door_panicU _ tmps w.heap.size _ _ _ hd.1 hd.2.1 hd.2.2.1 hd.2.2.2.1 (hkeep 4 (by simp)) (hkeep 5 (by simp)) ⟨hd.2.2.2.2,.inr ⟨hnone,rfl⟩⟩
  ·have htk:unpL sh.data.toList xs = some (fs,r):=by
    have e:=hacc.out
    rw [List.take_of_length_le (by rw [ba_len];omega)] at e
    exact e
   by_cases hr0:r.length = 0
   ·have hr:r = []:=List.eq_nil_of_length_eq_zero hr0
    have hun:unpack sh.data.toList xs = some fs:=by
     unfold unpack
     rw [ba_len,if_pos hs,htk,hr]
    have hend:=unpAt_end hat
    have hd2:((r.length:Int) == 0) = true:=beq_iff_eq.2 (by omega)
    go_wp2_with (go_at_call 65;refine (c_must_yes _).mono ?_;rintro e w' ⟨rfl,rfl⟩)
    exact door_returnU _ _ w.heap.size _ (.slice va fs.length vc) (.int .i64 0) hend.1 hend.2.1 rfl rfl ⟨hend.2.2.1,.inl ⟨fs,_,hun,rfl,hend.2.2.2⟩⟩
   ·have hun:unpack sh.data.toList xs = none:=by
     unfold unpack
     rw [ba_len,if_pos hs,htk]
     cases r with
     | nil=>simp at hr0
     | cons a r=>rfl
    have hd2:((r.length:Int) == 0) = false:=beq_eq_false_iff_ne.2 (by omega)
    have hd:=unpAt_door hat (World.grownBy.refl _ _)
    go_wp2_with (go_at_call 65;refine (c_must_no _).mono ?_;rintro e w' ⟨rfl,rfl⟩)
    exact door_panicU _ _ w.heap.size _ _ _ hd.1 hd.2.1 hd.2.2.1 hd.2.2.2.1 rfl rfl ⟨hd.2.2.2.2,.inr ⟨hun,rfl⟩⟩

theorem c_unpack (sh:ByteArray) (K:Nat) (v:Value) (xs:List UInt8) (w:World) (hsh:sh.size ≤ maxLen) (hx:Sl K w v xs.length (xs.map bv)) (hK:K ≤ w.heap.size) :
  Calls Try.prog 75 #[.string sh,v] w fun e w'=>Unpacked sh.data.toList xs w e w':=by
 by_cases h:sh.size ≤ 200
 ·obtain ⟨ao,cap,rfl,hc,h1⟩:=hx
  exact c_unpack_run sh K ao cap xs w h ⟨ao,cap,rfl,hc,h1⟩ hK hc.1 hc.2
 ·refine (c_unpack_refused sh v w hsh h).mono ?_
  rintro e w' ⟨he,hb⟩
  exact ⟨hb,.inr ⟨by unfold unpack;rw [ba_len,if_neg h],he⟩⟩
end Go.Proofs.Ytghlilncdfiojaa

namespace Go.Proofs.Ytghlilncdfiojaa
set_option linter.unusedVariables false
set_option linter.unusedSimpArgs false
set_option maxRecDepth 20000
open Go.RowKit

theorem refunpack_refused (sh:ByteArray) (v:Value) (w:World) (hs:sh.size ≤ maxLen) (h:¬ sh.size ≤ 200) :
  Calls Try.prog 50 #[.string sh,v] w fun e w'=>e = .returned (.tuple #[.slice none 0 0,.int .i64 21])∧w = w':=by
 unfold maxLen at hs
 have hd1:decide ((200:Int) < (sh.size:Int)) = true:=decide_eq_true (by omega)
 go_enter Try.func50,Try.ntmps50
 go_wp2
 go_ret2
 exact ⟨rfl,rfl⟩

theorem c_refnumberN (K n cap:Nat) (ao:Option Addr) (ys:List UInt8) (w:World) (hs:Sl K w (.slice ao n cap) n (ys.map bv)) (hy:ys.length = n) (h8:n ≤ 8) :
  Calls Try.prog 78 #[.slice ao n cap] w fun e w'=>e = .returned (.int .u64 (val ys:Nat))∧w = w':=by
 subst hy
 exact c_refnumber K cap ao ys w hs h8

theorem sl_mid {K:Nat} {w:World} {ao:Option Addr} {cap:Nat} {xs:List UInt8} (h:Sl K w (.slice ao xs.length cap) xs.length (xs.map bv)) (p n:Nat) (hpn:p + n ≤ xs.length) :
  Sl K w (.slice (if cap = p then ao else ao.map (fun x=>x.add p)) n (cap - p)) n (((xs.drop p).take n).map bv):=by
 have:=h.cut1 p (p + n) (by omega) hpn
 rw [show p + n - p = n by omega] at this
 simpa [cut1,sliced] using this

theorem sl_mid' {K:Nat} {w:World} {ao:Option Addr} {cap:Nat} {xs:List UInt8} (h:Sl K w (.slice ao xs.length cap) xs.length (xs.map bv)) (p n:Nat) (hpn:p + n ≤ xs.length) (hne:¬ cap = p) :
  Sl K w (.slice (ao.map (fun x=>x.add p)) n (cap - p)) n (((xs.drop p).take n).map bv):=by
 have:=sl_mid h p n hpn
 rw [if_neg hne] at this
 exact this

/-- A cut under a name of its own. -/
theorem cut_named {K:Nat} {w:World} {ao:Option Addr} {cap:Nat} {xs:List UInt8} (h:Sl K w (.slice ao xs.length cap) xs.length (xs.map bv)) (p n:Nat) (hpn:p + n ≤ xs.length) :
  ∃ sv,sv = cut1 ao p (p + n) cap∧Sl K w sv n (((xs.drop p).take n).map bv):=by
 have:=h.cut1 p (p + n) (by omega) hpn
 rw [show p + n - p = n by omega] at this
 exact ⟨_,rfl,this⟩

/-- The operation that makes it. -/
theorem run_cut {P:Program} (t e:TypeId) (ht:P.underlying t = some (.slice e)) {z:Value} {by_:Nat} (hi:(P.info? e).map (fun i=>(i.zero,i.size,i.bytes)) = some (some z,1,by_)) {ao:Option Addr} {len cap p n:Nat} (sv:Value) (hsv:sv = cut1 ao p (p + n) cap) (hpn:p + n ≤ len) (hlc:len ≤ cap) :
  ∀ (kl kh:IntKind) (l r:Int) (w:World),l = (p:Int)→r = ((p + n:Nat):Int)→(Instr.sliceAt t (.slice ao len cap) (some (.int kl l)) (some (.int kh r)) none).run P w = .ok sv w:=by
 intro kl kh l r w hl hr
 subst hl hr
 obtain ⟨i0,hi,_,hi1,_⟩:=info_parts hi
 have he:P.elem t = e:=by simp [Program.elem,ht]
 rw [run_sliceAt_slice w t _ _ _ _ (by rw [he];exact ht),run_slice_lh w t ao len cap (by rw [he];exact ht) kl kh _ _ (by omega) (by omega) (by omega),he]
 have e2:((p:Int) + (n:Int)).toNat = p + n:=by omega
 simp [sizeOf,typeInfo,hi,hi1,Result.andThen,hsv,cut1,e2]

theorem unpF_b (xs:List UInt8) (h:2 ≤ xs.length) (h1:val (xs.take 2) ≤ 1024) (h3:val (xs.take 2) ≤ (xs.drop 2).length):unpF 98 xs = some (⟨0,cntB xs⟩,cntR xs):=by
 simp only [unpF,if_true];rw [if_pos ⟨h,h1,h3⟩];rfl

theorem unpF_b_none (xs:List UInt8) (h:¬ (2 ≤ xs.length∧val (xs.take 2) ≤ 1024∧val (xs.take 2) ≤ (xs.drop 2).length)):unpF 98 xs = none:=by
 simp only [unpF,if_true];rw [if_neg h]

theorem unpack_of_stop {sh:ByteArray} {xs:List UInt8} (h:unpL sh.data.toList xs = none):unpack sh.data.toList xs = none:=by
 unfold unpack
 rw [h]
 simp

set_option maxRecDepth 100000 in
set_option maxHeartbeats 3200000 in
theorem refunpack_run (sh:ByteArray) (K:Nat) (ao:Option Addr) (cap:Nat) (xs:List UInt8) (w:World) (hs:sh.size ≤ 200) (hx:Sl K w (.slice ao xs.length cap) xs.length (xs.map bv)) (hK:K ≤ w.heap.size) (hc:xs.length ≤ cap) (hm:cap ≤ maxLen) :
  Calls Try.prog 50 #[.string sh,.slice ao xs.length cap] w fun e w'=>Unpacked sh.data.toList xs w e w':=by
 obtain ⟨i0,hi,hi0,hi1,hi2⟩:=info_parts Try.info5
 obtain ⟨i4,hj,hj0,hj1,hj2⟩:=info_parts Try.info74
 have hd1:decide ((200:Int) < (sh.size:Int)) = false:=decide_eq_false (by omega)
 unfold maxLen at hm
 go_enter Try.func50,Try.ntmps50
 go_wp2
 go_loopw [6,7,8] (fun o p i wr=>∃ (k at_:Nat) (fs:List Fld) (cs:List Value),k ≤ sh.size∧at_ ≤ xs.length∧p = .int .i64 at_∧i = .int .i64 k∧Hid (unpL (sh.data.toList.take k) xs = some (fs,xs.drop at_))∧CopyAt w wr o fs cs) (fun _ _ i _=>sh.size - (intOf i).toNat)
 case atStart=>exact ⟨0,0,[],[],Nat.zero_le _,Nat.zero_le _,rfl,rfl,rfl,copyAt_start w⟩
 case round =>
  obtain ⟨k,p,fs,cs,hk,hp,rfl,rfl,hacc,hat⟩:=hrel
  have hsz:=hat.bel.size
  have hfl:fs.length ≤ 200:=by
   have:=unpL_length hacc.out
   rw [this,List.length_take,ba_len];omega
  by_cases hlt:k < sh.size
  ·have hks':(k:Int) < (sh.size:Int):=by omega
   have hk0:(0:Int) ≤ (k:Int):=by omega
   by_cases h98:sh[k] = 98
   ·have hc98:(((sh[k].toNat:Nat):Int) = 98∧(0:Int) = 0):=⟨by rw [h98];rfl,rfl⟩
    by_cases h2:2 ≤ (xs.drop p).length
    ·have hl2:p + 2 ≤ xs.length:=by rw [List.length_drop] at h2;omega
     go_wp2_with (first | (go_at_call 74;refine (c_width_yes _ 0 (by omega) _).mono ?_;rintro e w' ⟨rfl,rfl⟩))
     have hxr:=hx.keep (hat.bel.mono hK)
     refine (c_refnumberN K 2 _ _ ((xs.drop p).take 2) _ (sl_mid' hxr p 2 hl2 (by omega)) (by rw [List.length_take];omega) (by omega)).mono ?_
     rintro e w' ⟨rfl,rfl⟩
     generalize hq:val ((xs.drop p).take 2) = q
     have Hq:Hid (val ((xs.drop p).take 2) = q):=hq
     clear hq
     by_cases hq1:q ≤ 1024
     ·by_cases hq2:p + 2 + q ≤ xs.length
      ·have hb3:Below wr.heap.size wr (wr.alloc (.cells #[] 5)):=(Below.refl _ _).alloc (Nat.le_refl _) _
       have hlit:(wr.alloc (.cells #[] 5)).ownsRow wr.heap.size 5 1 (.slice (some ⟨wr.heap.size,0,none⟩) 0 0) 0 []:=World.ownsRow_lit wr #[] 0 (Nat.le_refl _) (by decide) rfl
       obtain ⟨sv,hsv,hsb3⟩:=cut_named (hxr.keep (hb3.mono (by omega))) (p + 2) q hq2
       have hsl:=run_cut 28 5 Try.underlying28 Try.info5 sv hsv (by omega) (by omega)
       clear hsv
       have hf:unpF sh[k] (xs.drop p) = some (⟨0,(xs.drop (p + 2)).take q⟩,xs.drop (p + 2 + q)):=by
        rw [h98,unpF_b _ h2 (by rw [Hq.out];exact hq1) (by rw [Hq.out];simp only [List.length_drop];omega)]
        unfold cntB cntR
        rw [Hq.out,List.drop_drop,List.drop_drop]
       have hbl:((xs.drop (p + 2)).take q).length = q:=by rw [List.length_take,List.length_drop];omega
       have hacc1:Hid (unpL (sh.data.toList.take (k + 1)) xs = some (fs ++ [⟨0,(xs.drop (p + 2)).take q⟩],xs.drop (p + 2 + q))):=unpL_round hlt hacc.out hf
       clear hf
       go_wp2_with (at_builtin;refine wpList_append_sl _ rfl _ _ 28 rfl wr.heap.size 5 i0 (.int .u8 0) 1 1 Try.underlying28 hi hi0 hi1 hi2 rfl (by decide) _ _ _ rfl hlit K _ q _ rfl hsb3 (by rw [List.length_map,hbl,Nat.mul_one]) (bv_oneCell _) ?c1 ?c2 ?c3 ?_)
       case c1=>unfold maxLen;omega
       case c2=>omega
       case c3=>simp
       intro v6 w6 hown6 hgrow6 hat6
       have hg3:=hgrow6.size
       have hb6:Below wr.heap.size wr w6:=hb3.grown hgrow6 (by simp) (owns_ge hlit)
       have hown6:w6.ownsRow wr.heap.size 5 1 v6 ((xs.drop (p + 2)).take q).length (((xs.drop (p + 2)).take q).map bv):=by rw [hbl];simpa using hown6
       obtain ⟨a6,c6,rfl⟩:∃ a6 c6,v6 = .slice a6 ((xs.drop (p + 2)).take q).length c6:=owns_form hown6
       have hs6:=slp_of_owns hown6
       have h6:=hown6.lt
       have hown8:=(owns_keep hat.own hb6).alloc (.cells #[.int .u64 0,.slice a6 ((xs.drop (p + 2)).take q).length c6] 74)
       have hsz6:=hb6.size
       have hlq:((xs.drop (p + 2)).take q).length ≤ 140737488355328:=by omega
       clear hgrow6 hat6 hlit hsb3 hb3 hsl hown6 hxr
       rw [hbl] at hs6 h6 hown8 ⊢
       go_wp2_with (at_builtin;refine wpList_append_sl _ rfl _ _ 71 rfl w.heap.size 74 i4 _ 2 32 Try.underlying71 hj hj0 hj1 hj2 rfl (by decide) _ _ _ rfl hown8 _ _ 1 _ rfl (sl_lit w6 _ 74 1 (by omega)) rfl ?d1 ?d2 ?d3 ?d4 ?_)
       case d1=>first | (intro u hu;simp at hu;rcases hu with rfl | rfl <;> rfl) | simp [Value.oneCell']
       case d2=>unfold maxLen;omega
       case d3=>first | omega | (simp;omega)
       case d4=>first | omega | (simp;omega)
       intro v9 w9 hown9 hgrow9 hat9
       have hown9:w9.ownsRow w.heap.size 74 2 v9 (fs ++ [(⟨0,(xs.drop (p + 2)).take q⟩:Fld)]).length (cs ++ [.int .u64 ((0:Nat):Int),.slice a6 q c6]):=by simpa using hown9
       have hnew:=copyAt_step (⟨0,(xs.drop (p + 2)).take q⟩:Fld) hat hb6 (by show Slp _ w6 _ ((xs.drop (p + 2)).take q).length _;rw [hbl];exact hs6) h6 (by show (0:Nat) < _;omega) hlq _ hown9 hgrow9 hat9
       clear hat hb6 hs6 h6 hown9 hgrow9 hat9 hown8 hbl hlq
       generalize fs ++ [(⟨0,(xs.drop (p + 2)).take q⟩:Fld)] = fs1 at *
       generalize cs ++ [.int .u64 ((0:Nat):Int),.slice a6 q c6] = cs1 at *
       go_wp2
       go_roundw
       case rel=>exact ⟨k + 1,p + 2 + q,_,_,by omega,by omega,by go_num,by go_num,hacc1,hnew⟩
       case measure=>simp [intOf];omega
      ·have hnone:=unpack_of_stop (unpL_stop hlt hacc.out (by rw [h98];exact unpF_b_none _ (by rw [Hq.out];simp only [List.length_drop];omega)))
       go_wp2
       go_ret2
       exact ⟨hat.bel,.inr ⟨hnone,rfl⟩⟩
     ·have hnone:=unpack_of_stop (unpL_stop hlt hacc.out (by rw [h98];exact unpF_b_none _ (by rw [Hq.out];omega)))
      go_wp2
      go_ret2
      exact ⟨hat.bel,.inr ⟨hnone,rfl⟩⟩
    ·have hl2:xs.length < p + 2:=by rw [List.length_drop] at h2;omega
     have hnone:=unpack_of_stop (unpL_stop hlt hacc.out (by rw [h98];exact unpF_b_none _ (fun h=>h2 h.1)))
     go_wp2_with (first | (go_at_call 74;refine (c_width_yes _ 0 (by omega) _).mono ?_;rintro e w' ⟨rfl,rfl⟩))
     go_ret2
     exact ⟨hat.bel,.inr ⟨hnone,rfl⟩⟩
   ·cases hw:wdt sh[k] with
    | none =>
     obtain ⟨h1,h2,h3,h4⟩:=wdt_none hw
     have h5:=byte_ne h98 98 rfl
     have hnone:=unpack_of_stop (unpL_stop hlt hacc.out (by simp [unpF,h98,hw]))
     clear hw
     go_wp2_with (first | (go_at_call 74;refine (c_width_no _ h1 h2 h3 h4 h5 _).mono ?_;rintro e w' ⟨rfl,rfl⟩))
     go_ret2
     exact ⟨hat.bel,.inr ⟨hnone,rfl⟩⟩
    | some q =>
     have hq:=wdt_int hw
     have hq0:decide ((q:Int) < 0) = false:=decide_eq_false (by omega)
     have hq1:((q:Int) == 0) = false:=beq_eq_false_iff_ne.2 (by omega)
     have hq2:decide ((0:Int) < (q:Int)) = true:=decide_eq_true (by omega)
     have hq8:q ≤ 8:=by omega
     have hq9:1 ≤ q:=by omega
     have hq':Hid ((((sh[k].toNat:Nat):Int) = 49∧(q:Int) = 1)∨(((sh[k].toNat:Nat):Int) = 50∧(q:Int) = 2)∨(((sh[k].toNat:Nat):Int) = 52∧(q:Int) = 4)∨(((sh[k].toNat:Nat):Int) = 56∧(q:Int) = 8)):=hq
     clear hq
     have hw':Hid (wdt sh[k] = some q):=hw
     clear hw
     by_cases hl:p + q ≤ xs.length
     ·have hf:unpF sh[k] (xs.drop p) = some (⟨val ((xs.drop p).take q),[]⟩,xs.drop (p + q)):=by
       simp only [unpF,if_neg h98,hw'.out]
       rw [if_pos (by rw [List.length_drop];omega),List.drop_drop]
      have hacc1:Hid (unpL (sh.data.toList.take (k + 1)) xs = some (fs ++ [⟨val ((xs.drop p).take q),[]⟩],xs.drop (p + q))):=unpL_round hlt hacc.out hf
      clear hf
      have hxr:=hx.keep (hat.bel.mono hK)
      obtain ⟨sv,hsv,hsb3⟩:=cut_named hxr p q hl
      have hsl:=run_cut 28 5 Try.underlying28 Try.info5 sv hsv hl (by omega)
      clear hsv
      have hvl:val ((xs.drop p).take q) < 18446744073709551616:=by
       have h1:=val_lt ((xs.drop p).take q)
       have h2:((xs.drop p).take q).length ≤ 8:=by rw [List.length_take];omega
       have h3:256 ^ ((xs.drop p).take q).length ≤ 256 ^ 8:=Nat.pow_le_pow_right (by decide) h2
       omega
      have hyl:((xs.drop p).take q).length = q:=by rw [List.length_take,List.length_drop];omega
      obtain ⟨sa,sc,rfl⟩:∃ sa sc,sv = .slice sa q sc:=sl_form hsb3
      go_wp2_with (first
       | (go_at_call 74;refine (c_width_yes _ q (by have:=hq'.out;omega) _).mono ?_;rintro e w' ⟨rfl,rfl⟩)
       | (go_at_call 78;refine (c_refnumberN K q _ _ ((xs.drop p).take q) _ hsb3 hyl hq8).mono ?_;rintro e w' ⟨rfl,rfl⟩)
       | (at_builtin;refine wpList_append_sl _ rfl _ _ 71 rfl w.heap.size 74 i4 _ 2 32 Try.underlying71 hj hj0 hj1 hj2 rfl (by decide) _ _ _ rfl (hat.own.alloc _) _ _ 1 _ rfl (sl_lit wr _ 74 1 (by omega)) rfl ?f1 ?f2 ?f3 ?f4 ?_))
      case f1=>first | (intro u hu;simp at hu;rcases hu with rfl | rfl <;> rfl) | simp [Value.oneCell']
      case f2=>unfold maxLen;omega
      case f3=>first | omega | (simp;omega)
      case f4=>first | omega | (simp;omega)
      intro v9 w9 hown9 hgrow9 hat9
      have hown9:w9.ownsRow w.heap.size 74 2 v9 (fs ++ [(⟨val ((xs.drop p).take q),[]⟩:Fld)]).length (cs ++ [.int .u64 ((val ((xs.drop p).take q):Nat):Int),.slice none 0 0]):=by simpa using hown9
      have hnew:=copyAt_step (⟨val ((xs.drop p).take q),[]⟩:Fld) hat (Below.refl _ _) (X6:=fun _=>False) ⟨none,0,rfl,⟨Nat.le_refl _,Nat.zero_le _⟩,fun _=>rfl,fun i c h=>by simp at h⟩ (fun b h=>h.elim) hvl (by simp) _ hown9 hgrow9 hat9
      clear hat hown9 hgrow9 hat9 hsb3 hsl hxr hvl hyl
      generalize fs ++ [(⟨val ((xs.drop p).take q),[]⟩:Fld)] = fs1 at *
      generalize cs ++ [.int .u64 ((val ((xs.drop p).take q):Nat):Int),.slice none 0 0] = cs1 at *
      go_wp2
      go_roundw
      case rel=>exact ⟨k + 1,p + q,_,_,by omega,by omega,by go_num,by go_num,hacc1,hnew⟩
      case measure=>simp [intOf];omega
     ·have hl':¬ q ≤ (xs.drop p).length:=by rw [List.length_drop];omega
      have hnone:=unpack_of_stop (unpL_stop hlt hacc.out (by simp only [unpF,if_neg h98,hw'.out];rw [if_neg hl']))
      clear hl'
      go_wp2_with (first | (go_at_call 74;refine (c_width_yes _ q (by have:=hq'.out;omega) _).mono ?_;rintro e w' ⟨rfl,rfl⟩))
      go_ret2
      exact ⟨hat.bel,.inr ⟨hnone,rfl⟩⟩
  ·have htk:unpL sh.data.toList xs = some (fs,xs.drop p):=by
    have e:=hacc.out
    rw [List.take_of_length_le (by rw [ba_len];omega)] at e
    exact e
   by_cases hpe:p = xs.length
   ·have hun:unpack sh.data.toList xs = some fs:=by
     unfold unpack
     rw [ba_len,if_pos hs,htk,List.drop_of_length_le (by omega)]
    have hd2:((p:Int) != (xs.length:Int)) = false:=by simp;omega
    have hpe':Hid (p = xs.length):=hpe
    clear hpe
    go_wp2
    go_ret2
    exact ⟨hat.bel,.inl ⟨fs,_,hun,rfl,fieldsAt_of_own hat.own hat.fld (fun b hb=>hb.1)⟩⟩
   ·have hun:unpack sh.data.toList xs = none:=by
     unfold unpack
     rw [ba_len,if_pos hs,htk]
     cases hd:xs.drop p with
     | nil=>rw [List.drop_eq_nil_iff] at hd;omega
     | cons a r=>rfl
    have hd2:((p:Int) != (xs.length:Int)) = true:=by simp;omega
    go_wp2
    go_ret2
    exact ⟨hat.bel,.inr ⟨hun,rfl⟩⟩

theorem c_refunpack (sh:ByteArray) (K:Nat) (v:Value) (xs:List UInt8) (w:World) (hsh:sh.size ≤ maxLen) (hx:Sl K w v xs.length (xs.map bv)) (hK:K ≤ w.heap.size) :
  Calls Try.prog 50 #[.string sh,v] w fun e w'=>Unpacked sh.data.toList xs w e w':=by
 by_cases h:sh.size ≤ 200
 ·obtain ⟨ao,cap,rfl,hc,h1⟩:=hx
  exact refunpack_run sh K ao cap xs w h ⟨ao,cap,rfl,hc,h1⟩ hK hc.1 hc.2
 ·refine (refunpack_refused sh v w hsh h).mono ?_
  rintro e w' ⟨he,rfl⟩
  exact ⟨Below.refl _ _,.inr ⟨by unfold unpack;rw [ba_len,if_neg h],he⟩⟩
end Go.Proofs.Ytghlilncdfiojaa
