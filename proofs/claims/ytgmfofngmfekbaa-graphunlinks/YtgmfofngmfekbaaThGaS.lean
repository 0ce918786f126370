/-
  ThA0, NumCan, ThPlain: in one text.
-/
import Derived.Test.YtgmfofngmfekbaaLabS
import Derived.Test.YtgmfofngmfekbaaChecked
import Ieee.Arith
import Derived.Laws.FloatArith
import Derived.WalkKit
import Derived.WalkSpells
import Derived.WalkLawsBesides
import Derived.Test.YtgmfofngmfekbaaRows
import Derived.Test.YtgmfofngmfekbaaCodecS
namespace Go.Proofs.Ytgmfofngmfekbaa
set_option linter.unusedVariables false
set_option linter.unusedSimpArgs false
set_option maxRecDepth 20000
open Go.RowKit

def fpV:Value:=.func (.func 97) #[] #[]

/-- Is no level in it Star? -/
def Pu (d:Int) (xs:List Cat):Prop:=d ≠ 0∧∀ i (h:i < xs.length),xs[i].2 ≠ 0

/-- A call answers whether P holds, and leaves what was there. -/
def AnsP (P:Prop) (w:World) (e:Ending) (w':World):Prop:=∃ r:Bool,e = .returned (.bool r)∧(r = true↔P)∧Nw w w'

theorem ans_yes {P:Prop} {w w':World} (h:P) (n:Nw w w'):AnsP P w (.returned (.bool true)) w':=⟨true,rfl,⟨fun _=>h,fun _=>rfl⟩,n⟩
theorem ans_no {P:Prop} {w w':World} (h:¬ P) (n:Nw w w'):AnsP P w (.returned (.bool false)) w':=⟨false,rfl,⟨fun h=>Bool.noConfusion h,fun h'=>absurd h' h⟩,n⟩
theorem not_of_false {P:Prop} (h:false = true↔P):¬ P:=fun hp=>Bool.noConfusion (h.2 hp)

theorem c_fpure (c:Cat) (w:World):Calls Try.prog 97 #[.agg #[.int .u64 c.1,.int .i64 c.2]] w fun e w'=>e = .returned (.bool (c.2 == 0))∧Nw w w':=by
 have nW:=nw_alloc (nw_refl w) (.cells #[.int .u64 c.1,.int .i64 c.2] 91)
 go_enter Try.func97,Try.ntmps97
 go_wp2
 go_ret
 exact ⟨rfl,nW⟩

def FoundP (xs:List Cat) (n:Nat) (r:Int):Prop:=(r = -1∧∀ i (h:i < xs.length),xs[i].2 ≠ 0)∨(0 ≤ r∧∃ i,∃ h:i < xs.length,xs[i].2 = 0)

set_option maxHeartbeats 1600000 in
theorem c_indexP {X:Nat→Prop} {v:Value} {xs:List Cat} (w:World) (h:CSl X w v xs) :
  Calls Try.prog 110 #[v,fpV] w fun e w'=>∃ r,e = .returned (.int .i64 r)∧FoundP xs xs.length r∧Nw w w':=by
 obtain ⟨ao,cap,rfl,hc,hm⟩:=h.form
 unfold fpV
 generalize hn:xs.length = n at *
 replace hn:Hid (xs.length = n):=hn
 go_enter Try.func110,Try.ntmps110
 go_wp2
 go_loopw [8] (fun kv wr=>∃ k:Nat,k ≤ n∧kv = .int .i64 k∧Hid (∀ i (h:i < xs.length),i < k→xs[i].2 ≠ 0)∧Nw w wr) (fun kv _=>n - (intOf kv).toNat)
 case atStart=>exact ⟨0,Nat.zero_le _,rfl,fun i _ h=>by omega,nw_refl _⟩
 case round =>
  obtain ⟨k,hkn,rfl,hne,hnw⟩:=hrel
  by_cases hlt:k < n
  ·have hkx:k < xs.length:=by rw [hn.out];exact hlt
   obtain ⟨q,off,rfl,_,c1,c2⟩:=(h.nw hnw).get k hkx
   obtain ⟨x,hx⟩:∃ x,Hid (x = xs[k]):=⟨xs[k],rfl⟩
   rw [← hx.out] at c1 c2
   go_wp2_with (go_at_call 97;refine (c_fpure x _).mono ?_;rintro e w3 ⟨rfl,hnw3⟩;refine stop_here ?_)
   unfold Hid
   have hnw':=nw_trans hnw hnw3
   clear hnw hnw3 c1 c2
   by_cases hxd:x.2 = 0
   ·have hb:(x.2 == 0) = true:=by simp [hxd]
    have hf:Hid (FoundP xs n (k:Int)):=.inr ⟨by omega,k,hkx,by rw [← hx.out];exact hxd⟩
    rw [hb]
    clear hb hxd hx hne
    go_wp2
    go_ret
    exact ⟨_,rfl,hf.out,hnw'⟩
   ·have hb:(x.2 == 0) = false:=by simp [hxd]
    have hne':Hid (∀ i (h:i < xs.length),i < k + 1→xs[i].2 ≠ 0):=fun i h hi=>by
     by_cases hik:i = k
     ·subst hik;rw [← hx.out];exact hxd
     ·exact hne.out i h (by omega)
    rw [hb]
    clear hb hxd hx hne
    go_wp2
    go_roundw
    case rel=>exact ⟨k + 1,by omega,by go_num,hne',hnw'⟩
    case measure=>simp [intOf];omega
  ·have hf:Hid (FoundP xs n (-1)):=.inl ⟨rfl,fun i h=>hne.out i h (by have:=hn.out;omega)⟩
   go_wp2
   go_ret
   exact ⟨_,rfl,hf.out,hnw⟩

set_option maxHeartbeats 1600000 in
theorem c_contains {X:Nat→Prop} {v:Value} {xs:List Cat} (w:World) (h:CSl X w v xs) :
  Calls Try.prog 96 #[v,fpV] w (AnsP (¬ ∀ i (h:i < xs.length),xs[i].2 ≠ 0) w):=by
 have hcon:Hid _:=c_indexP w h
 obtain ⟨ao,cap,rfl,hc,hm⟩:=h.form
 unfold fpV at *
 clear h
 go_enter Try.func96,Try.ntmps96
 go_wp2_with (go_at_call 110;refine Calls.mono hcon.out ?_;rintro e w3 ⟨r,rfl,q1,qn⟩;refine stop_here ?_)
 unfold Hid
 rcases q1 with ⟨q1,q2⟩ | ⟨q1,i,hi,q2⟩
 ·have hb:decide (0 ≤ r) = false:=by rw [q1];rfl
  have hP:Hid (¬ ¬ ∀ i (h:i < xs.length),xs[i].2 ≠ 0):=fun h=>h q2
  clear hcon q1 q2
  go_wp2
  go_ret
  exact ans_no hP.out qn
 ·have hb:decide (0 ≤ r) = true:=decide_eq_true q1
  have hP:Hid (¬ ∀ i (h:i < xs.length),xs[i].2 ≠ 0):=fun h=>h i hi q2
  clear hcon q1 q2 hi
  go_wp2
  go_ret
  exact ans_yes hP.out qn

/-- No level of a category is Star. -/
def Pc (xs:List Cat):Prop:=∀ i (h:i < xs.length),xs[i].2 ≠ 0

theorem pu_of_rgt {d:Int} {xs:List Cat} (h:Rgt d xs):Pu d xs↔Pc xs:=⟨fun p=>p.2,fun p=>⟨by have:=h.lo;omega,p⟩⟩

set_option maxHeartbeats 1600000 in
theorem c_isPure {X:Nat→Prop} {v:Value} {xs:List Cat} (d:Int) (w:World) (h:CSl X w v xs) :
  Calls Try.prog 85 #[labV d v] w (AnsP (Pc xs) w):=by
 obtain ⟨ao,cap,rfl,ha1,ha2⟩:=h.form
 have hA:(w.alloc (.cells #[.int .i64 d,.slice ao xs.length cap] 26)).heap[w.heap.size]? = some (.cells #[.int .i64 d,.slice ao xs.length cap] 26 (0,0)):=heap_alloc_new w _
 have nW:Nw w (w.alloc (.cells #[.int .i64 d,.slice ao xs.length cap] 26)):=nw_alloc (nw_refl w) _
 have hcon:Hid _:=c_contains _ (h.nw nW)
 unfold labV
 unfold fpV at *
 go_enter Try.func85,Try.ntmps85
 go_upto_region 1 with fail
 generalize w.alloc (.cells #[.int .i64 d,.slice ao xs.length cap] 26) = W at *
 have a1:W.cell? ⟨w.heap.size,1,none⟩ = some (.slice ao xs.length cap):=cell_blk hA rfl
 clear h
 go_wp2_with (go_at_call 96;refine Calls.mono hcon.out ?_;rintro e w3 ⟨r,rfl,q1,qn⟩;refine stop_here ?_)
 unfold Hid
 clear hcon a1
 replace nW:=nw_trans nW qn
 cases r with
 | true =>
  have hP:Hid (¬ Pc xs):=q1.1 rfl
  clear q1
  go_wp2
  go_ret
  exact ans_no hP.out nW
 | false =>
  have hP:Hid (Pc xs):=Classical.not_not.1 (not_of_false q1)
  clear q1
  go_wp2
  go_ret
  exact ans_yes hP.out nW

set_option maxHeartbeats 3200000 in
theorem c_rpure {X:Nat→Prop} {v:Value} {xs:List Cat} (d:Int) (w:World) (h:CSl X w v xs) :
  Calls Try.prog 63 #[labV d v] w (AnsP (Pu d xs) w):=by
 obtain ⟨ao,cap,rfl,ha1,ha2⟩:=h.form
 have hA:(w.alloc (.cells #[.int .i64 d,.slice ao xs.length cap] 26)).heap[w.heap.size]? = some (.cells #[.int .i64 d,.slice ao xs.length cap] 26 (0,0)):=heap_alloc_new w _
 have nW:Nw w (w.alloc (.cells #[.int .i64 d,.slice ao xs.length cap] 26)):=nw_alloc (nw_refl w) _
 replace h:=h.nw nW
 unfold labV
 go_enter Try.func63,Try.ntmps63
 go_upto_region 1 with fail
 generalize w.alloc (.cells #[.int .i64 d,.slice ao xs.length cap] 26) = W at *
 have a0:W.cell? ⟨w.heap.size,0,none⟩ = some (.int .i64 d):=cell_blk hA rfl
 have a1:W.cell? ⟨w.heap.size,1,none⟩ = some (.slice ao xs.length cap):=cell_blk hA rfl
 by_cases hd:d = 0
 ·have hb:(d == 0) = true:=by simp [hd]
  have hP:Hid (¬ Pu d xs):=fun h=>h.1 hd
  clear hd
  go_wp2
  go_ret
  exact ans_no hP.out nW
 ·have hb:(d == 0) = false:=by simp [hd]
  have hd:Hid (d ≠ 0):=hd
  go_wp2
  clear a0 a1 hb
  go_loopw [11] (fun kv wr=>∃ k:Nat,k ≤ xs.length∧kv = .int .i64 k∧Hid (∀ i (h:i < xs.length),i < k→xs[i].2 ≠ 0)∧Nw W wr) (fun kv _=>xs.length - (intOf kv).toNat)
  case atStart=>exact ⟨0,Nat.zero_le _,rfl,fun i _ h=>by omega,nw_refl _⟩
  case round =>
   obtain ⟨k,hk,rfl,hall,hw⟩:=hrel
   by_cases hlt:k < xs.length
   ·obtain ⟨q,off,rfl,_,d1,d2⟩:=(h.nw hw).get k hlt
    have hbad:Hid (xs[k].2 = 0→¬ Pu d xs):=fun h1 h2=>h2.2 k hlt h1
    have hgood:Hid (xs[k].2 ≠ 0→∀ i (h:i < xs.length),i < k + 1→xs[i].2 ≠ 0):=fun h1 i hi hik=>by
     by_cases e:i = k
     ·subst e;exact h1
     ·exact hall.out i hi (by omega)
    generalize xs[k] = c at *
    have hnA:Hid (∀ o,Nw w (wr.alloc o)∧Nw W (wr.alloc o)):=fun o=>⟨nw_alloc (nw_trans nW hw) o,nw_alloc hw o⟩
    clear hall
    by_cases c1:c.2 = 0
    ·have hno:Hid _:=hbad.out c1
     have hb:(c.2 == 0) = true:=by simp [c1]
     clear hbad hgood c1
     go_wp2
     go_ret
     exact ans_no hno.out (hnA.out _).1
    ·have hyes:Hid _:=hgood.out c1
     have hb:(c.2 == 0) = false:=by simp [c1]
     clear hbad hgood c1
     go_wp2
     go_roundw
     case rel=>exact ⟨k + 1,by omega,by go_num,hyes,(hnA.out _).2⟩
     case measure=>simp [intOf];omega
   ·have hfin:Hid (Pu d xs):=⟨hd.out,fun i hi=>hall.out i hi (by omega)⟩
    clear hall
    go_wp2
    go_ret
    exact ans_yes hfin.out (nw_trans nW hw)

end Go.Proofs.Ytgmfofngmfekbaa

namespace Go.Proofs.Ytgmfofngmfekbaa.Num
set_option linter.unusedVariables false
set_option linter.unusedSimpArgs false
set_option maxRecDepth 20000
open Go.RowKit

/-- Are these the bits of no number? -/
def nanB (n:Nat):Bool:=FloatKind.f64.format.order n n != some .eq
/-- The one form. -/
def canonV (a:Int):Int:=if nanB a.toNat = true then 9221120237041090561 else a
/-! ### The rungs -/
/-- The number of a rung, in units of the least. -/
def val (r:Nat):Nat:=if r < 4503599627370496 then r else (4503599627370496 + r % 4503599627370496) * 2 ^ (r / 4503599627370496 - 1)

theorem val_succ (r:Nat):val r < val (r + 1):=by
 unfold val
 by_cases h1:r + 1 < 4503599627370496
 ·rw [if_pos h1,if_pos (by omega)];omega
 ·rw [if_neg h1]
  by_cases h2:r < 4503599627370496
  ·rw [if_pos h2]
   obtain rfl:r = 4503599627370495:=by omega
   decide
  ·rw [if_neg h2]
   by_cases h3:r % 4503599627370496 = 4503599627370495
   ·have e1:(r + 1) % 4503599627370496 = 0:=by omega
    have e2:(r + 1) / 4503599627370496 - 1 = (r / 4503599627370496 - 1) + 1:=by omega
    rw [e1,e2,h3,Nat.pow_succ]
    have:0 < 2 ^ (r / 4503599627370496 - 1):=Nat.two_pow_pos _
    omega
   ·have e1:(r + 1) % 4503599627370496 = r % 4503599627370496 + 1:=by omega
    have e2:(r + 1) / 4503599627370496 = r / 4503599627370496:=by omega
    rw [e1,e2]
    exact Nat.mul_lt_mul_of_pos_right (by omega) (Nat.two_pow_pos _)

theorem val_add (r d:Nat):val r < val (r + d + 1):=by
 induction d with
 | zero=>exact val_succ r
 | succ d ih=>exact Nat.lt_trans ih (val_succ (r + d + 1))

theorem val_lt {r s:Nat} (h:r < s):val r < val s:=by
 have:=val_add r (s - r - 1)
 rwa [show r + (s - r - 1) + 1 = s by omega] at this

theorem val_lt_iff (r s:Nat):val r < val s↔r < s:=by
 refine ⟨fun h=>?_,val_lt⟩
 rcases Nat.lt_trichotomy r s with g | g | g
 ·exact g
 ·subst g;omega
 ·have:=val_lt g;omega

theorem val_inj (r s:Nat):val r = val s↔r = s:=by
 refine ⟨fun h=>?_,fun h=>by rw [h]⟩
 rcases Nat.lt_trichotomy r s with g | g | g
 ·have:=val_lt g;omega
 ·exact g
 ·have:=val_lt g;omega

theorem val_zero:val 0 = 0:=by decide

/-- A number's bits as a whole number that stands as the numbers do. -/
def rank (n:Nat):Int:=if n / 9223372036854775808 % 2 = 1 then -((n % 9223372036854775808:Nat):Int) else ((n % 9223372036854775808:Nat):Int)

theorem cmp_congr {a b c d:Int} (h1:a < b↔c < d) (h2:a = b↔c = d):compare a b = compare c d:=by
 show (if a < b then Ordering.lt else if a = b then .eq else .gt) = (if c < d then Ordering.lt else if c = d then .eq else .gt)
 simp only [h1,h2]

/-- What the bits are read as: their parts. -/
theorem read_num {n:Nat} (h:n % 9223372036854775808 < 9218868437227405312) :
  ∃ m k,FloatKind.f64.format.read n = .number (n / 9223372036854775808 % 2 == 1) m (-1074 + (k:Nat))∧m * 2 ^ k = val (n % 9223372036854775808):=by
 have e:FloatKind.f64.format.read n = (if n % 9223372036854775808 < 4503599627370496 then .number (n / 9223372036854775808 % 2 == 1) (n % 9223372036854775808) (-1074)
  else if n % 9223372036854775808 < 9218868437227405312 then
   .number (n / 9223372036854775808 % 2 == 1) (4503599627370496 + n % 9223372036854775808 % 4503599627370496) (-1074 + (n % 9223372036854775808 / 4503599627370496 - 1:Nat))
  else if n % 9223372036854775808 = 9218868437227405312 then .infinity (n / 9223372036854775808 % 2 == 1)
  else .nan (n / 9223372036854775808 % 2 == 1) (n % 9223372036854775808 - 9218868437227405312)):=rfl
 rw [e]
 by_cases h1:n % 9223372036854775808 < 4503599627370496
 ·exact ⟨n % 9223372036854775808,0,by rw [if_pos h1];rfl,by unfold val;rw [if_pos h1];simp⟩
 ·exact ⟨_,_,by rw [if_neg h1,if_pos h],by unfold val;rw [if_neg h1]⟩

theorem read_inf {n:Nat} (h:n % 9223372036854775808 = 9218868437227405312):FloatKind.f64.format.read n = .infinity (n / 9223372036854775808 % 2 == 1):=by
 have e:FloatKind.f64.format.read n = (if n % 9223372036854775808 < 4503599627370496 then .number (n / 9223372036854775808 % 2 == 1) (n % 9223372036854775808) (-1074)
  else if n % 9223372036854775808 < 9218868437227405312 then
   .number (n / 9223372036854775808 % 2 == 1) (4503599627370496 + n % 9223372036854775808 % 4503599627370496) (-1074 + (n % 9223372036854775808 / 4503599627370496 - 1:Nat))
  else if n % 9223372036854775808 = 9218868437227405312 then .infinity (n / 9223372036854775808 % 2 == 1)
  else .nan (n / 9223372036854775808 % 2 == 1) (n % 9223372036854775808 - 9218868437227405312)):=rfl
 rw [e,if_neg (by omega),if_neg (by omega),if_pos h]

theorem read_nan {n:Nat} (h:9218868437227405312 < n % 9223372036854775808):FloatKind.f64.format.read n = .nan (n / 9223372036854775808 % 2 == 1) (n % 9223372036854775808 - 9218868437227405312):=by
 have e:FloatKind.f64.format.read n = (if n % 9223372036854775808 < 4503599627370496 then .number (n / 9223372036854775808 % 2 == 1) (n % 9223372036854775808) (-1074)
  else if n % 9223372036854775808 < 9218868437227405312 then
   .number (n / 9223372036854775808 % 2 == 1) (4503599627370496 + n % 9223372036854775808 % 4503599627370496) (-1074 + (n % 9223372036854775808 / 4503599627370496 - 1:Nat))
  else if n % 9223372036854775808 = 9218868437227405312 then .infinity (n / 9223372036854775808 % 2 == 1)
  else .nan (n / 9223372036854775808 % 2 == 1) (n % 9223372036854775808 - 9218868437227405312)):=rfl
 rw [e,if_neg (by omega),if_neg (by omega),if_neg (by omega)]

theorem signed_eq (s:Bool) (m k:Nat):Ieee.signed s m k = if s then -((m * 2 ^ k:Nat):Int) else ((m * 2 ^ k:Nat):Int):=by
 unfold Ieee.signed
 rw [Nat.shiftLeft_eq]

theorem signed_scale (s:Bool) (m k c:Nat):Ieee.signed s m (k + c) = Ieee.signed s m k * ((2 ^ c:Nat):Int):=by
 rw [signed_eq,signed_eq,Nat.pow_add,← Nat.mul_assoc]
 cases s <;> simp [Int.natCast_mul,Int.neg_mul]

theorem cmp_scale (s t:Bool) (m n k j c:Nat):compare (Ieee.signed s m (k + c)) (Ieee.signed t n (j + c)) = compare (Ieee.signed s m k) (Ieee.signed t n j):=by
 rw [signed_scale,signed_scale]
 have hp:(0:Int) < ((2 ^ c:Nat):Int):=Int.natCast_pos.2 (Nat.two_pow_pos _)
 refine cmp_congr ⟨fun h=>Int.lt_of_mul_lt_mul_right h (Int.le_of_lt hp),fun h=>Int.mul_lt_mul_of_pos_right h hp⟩ ⟨fun h=>Int.eq_of_mul_eq_mul_right (by omega) h,fun h=>by rw [h]⟩

/-- Two finite ones. -/
theorem order_num {x y:Nat} (hx:x % 9223372036854775808 < 9218868437227405312) (hy:y % 9223372036854775808 < 9218868437227405312) :
  FloatKind.f64.format.order x y = some (compare (rank x) (rank y)):=by
 obtain ⟨m,k,e1,v1⟩:=read_num hx
 obtain ⟨n,j,e2,v2⟩:=read_num hy
 unfold Ieee.Format.order
 rw [e1,e2]
 simp only [Ieee.Datum.order,Option.some.injEq]
 have b1:((-1074 + (k:Int)) - min (-1074 + (k:Int)) (-1074 + (j:Int))).toNat = k - min k j:=by omega
 have b2:((-1074 + (j:Int)) - min (-1074 + (k:Int)) (-1074 + (j:Int))).toNat = j - min k j:=by omega
 rw [b1,b2,← cmp_scale _ _ _ _ _ _ (min k j),show k - min k j + min k j = k by omega,show j - min k j + min k j = j by omega,signed_eq,signed_eq,v1,v2]
 have l:=val_lt_iff (x % 9223372036854775808) (y % 9223372036854775808)
 have l':=val_lt_iff (y % 9223372036854775808) (x % 9223372036854775808)
 have z1:=val_lt_iff 0 (x % 9223372036854775808)
 have z2:=val_lt_iff 0 (y % 9223372036854775808)
 have i:=val_inj (x % 9223372036854775808) (y % 9223372036854775808)
 rw [val_zero] at z1 z2
 unfold rank
 generalize val (x % 9223372036854775808) = vx at *
 generalize val (y % 9223372036854775808) = vy at *
 by_cases s1:x / 9223372036854775808 % 2 = 1 <;> by_cases s2:y / 9223372036854775808 % 2 = 1 <;> simp only [s1,s2,beq_self_eq_true,if_true,if_false,beq_iff_eq] <;>
  exact cmp_congr (by omega) (by omega)

/-- Any two numbers. -/
theorem order_rank {x y:Nat} (hx:x % 9223372036854775808 ≤ 9218868437227405312) (hy:y % 9223372036854775808 ≤ 9218868437227405312) :
  FloatKind.f64.format.order x y = some (compare (rank x) (rank y)):=by
 by_cases h1:x % 9223372036854775808 < 9218868437227405312 <;> by_cases h2:y % 9223372036854775808 < 9218868437227405312
 ·exact order_num h1 h2
 ·obtain ⟨m,k,e1,_⟩:=read_num h1
  have e2:=read_inf (n:=y) (by omega)
  unfold Ieee.Format.order
  rw [e1,e2]
  simp only [Ieee.Datum.order,Option.some.injEq]
  unfold rank
  show _ = (if _ < _ then Ordering.lt else if _ = _ then .eq else .gt)
  by_cases s1:x / 9223372036854775808 % 2 = 1 <;> by_cases s2:y / 9223372036854775808 % 2 = 1 <;> simp only [s1,s2,beq_self_eq_true,if_true,if_false,beq_iff_eq]
  ·rw [if_neg (by omega),if_neg (by omega)]
  ·rw [if_pos (by omega)]
  ·rw [if_neg (by omega),if_neg (by omega)]
  ·rw [if_pos (by omega)]
 ·obtain ⟨m,k,e1,_⟩:=read_num h2
  have e2:=read_inf (n:=x) (by omega)
  unfold Ieee.Format.order
  rw [e1,e2]
  simp only [Ieee.Datum.order,Option.some.injEq]
  unfold rank
  show _ = (if _ < _ then Ordering.lt else if _ = _ then .eq else .gt)
  by_cases s1:x / 9223372036854775808 % 2 = 1 <;> by_cases s2:y / 9223372036854775808 % 2 = 1 <;> simp only [s1,s2,beq_self_eq_true,if_true,if_false,beq_iff_eq]
  ·rw [if_pos (by omega)]
  ·rw [if_pos (by omega)]
  ·rw [if_neg (by omega),if_neg (by omega)]
  ·rw [if_neg (by omega),if_neg (by omega)]
 ·have e1:=read_inf (n:=x) (by omega)
  have e2:=read_inf (n:=y) (by omega)
  unfold Ieee.Format.order
  rw [e1,e2]
  simp only [Ieee.Datum.order,Option.some.injEq]
  unfold rank
  have x1:x % 9223372036854775808 = 9218868437227405312:=by omega
  have y1:y % 9223372036854775808 = 9218868437227405312:=by omega
  rw [x1,y1]
  by_cases s1:x / 9223372036854775808 % 2 = 1 <;> by_cases s2:y / 9223372036854775808 % 2 = 1
  ·rw [if_pos s1,if_pos s2,s1,s2];decide
  ·rw [if_pos s1,if_neg s2,s1,beq_eq_false_iff_ne.2 s2];decide
  ·rw [if_neg s1,if_pos s2,s2,beq_eq_false_iff_ne.2 s1];decide
  ·rw [if_neg s1,if_neg s2,beq_eq_false_iff_ne.2 s1,beq_eq_false_iff_ne.2 s2];decide

theorem order_none {x y:Nat} (h:9218868437227405312 < x % 9223372036854775808∨9218868437227405312 < y % 9223372036854775808):FloatKind.f64.format.order x y = none:=by
 unfold Ieee.Format.order
 rcases h with h | h
 ·rw [read_nan h];rfl
 ·rw [read_nan h]
  cases FloatKind.f64.format.read x <;> rfl

theorem nanB_iff (n:Nat):nanB n = decide (9218868437227405312 < n % 9223372036854775808):=by
 unfold nanB
 by_cases h:9218868437227405312 < n % 9223372036854775808
 ·rw [order_none (.inl h)];simp [h]
 ·rw [order_rank (by omega) (by omega)]
  have:compare (rank n) (rank n) = .eq:=by
   show (if rank n < rank n then Ordering.lt else if rank n = rank n then .eq else .gt) = .eq
   rw [if_neg (by omega),if_pos rfl]
  rw [this];simp [h]

theorem x_from (a:Int) (w:World):(callFunc 112 #[.int .u64 a]).run Try.prog w = .ok (.value (.float .f64 a.toNat)) w:=by
 rw [run_callFunc_extern (e:=Extern.MathFloatBits.float64frombits) Try.func112 (by kernel_rfl) (by kernel_rfl) (by kernel_rfl) (by kernel_rfl)]
 rfl

theorem c_isNo (n:Nat) (w:World) :
  Calls Try.prog 111 #[.float .f64 n] w fun e w'=>e = .returned (.bool (nanB n))∧w = w':=by
 go_enter Try.func111,Try.ntmps111
 go_wp2
 go_ret
 exact ⟨rfl,rfl⟩

theorem c_canon (a:Int) (w:World) :
  Calls Try.prog 102 #[.int .u64 a] w fun e w'=>e = .returned (.int .u64 (canonV a))∧w = w':=by
 have k1:=x_from
 unfold canonV
 by_cases h:nanB a.toNat = true
 ·go_enter Try.func102,Try.ntmps102
  go_wp2_with (go_at_call 111;refine (c_isNo _ _).mono ?_;rintro e w' ⟨rfl,rfl⟩)
  go_ret
  exact ⟨by simp,rfl⟩
 ·go_enter Try.func102,Try.ntmps102
  go_wp2_with (go_at_call 111;refine (c_isNo _ _).mono ?_;rintro e w' ⟨rfl,rfl⟩)
  go_ret
  exact ⟨by simp,rfl⟩

theorem and_low {a:Int} (h0:0 ≤ a) (h1:a < 18446744073709551616):bits .and .u64 a 4503599627370495 = a % 4503599627370496 :=
 bits_mask .u64 64 (by decide) (fun n g0 g1=>by rw [IntKind.wrap_u64];omega) 52 (by decide) a h0 (by omega)

theorem and_exp {a:Int} (h0:0 ≤ a) (h1:a < 18446744073709551616):bits .and .u64 a 2047 = a % 2048 :=
 bits_mask .u64 64 (by decide) (fun n g0 g1=>by rw [IntKind.wrap_u64];omega) 11 (by decide) a h0 (by omega)

theorem c_parts (a:Int) (h0:0 ≤ a) (h1:a < 18446744073709551616) (w:World) :
  Calls Try.prog 90 #[.int .u64 a] w fun e w'=>e = .returned (.tuple #[.int .u64 (a / 9223372036854775808),.int .u64 (a / 4503599627370496 % 2048),.int .u64 (a % 4503599627370496)])∧w = w':=by
 have k1:=and_low h0 h1
 have k2:=and_exp (a:=a / 4503599627370496) (by omega) (by omega)
 clear h0 h1
 go_enter Try.func90,Try.ntmps90
 go_wp2
 go_ret3
 exact ⟨rfl,rfl⟩

theorem nan_parts {a:Int} (h0:0 ≤ a):nanB a.toNat = decide (a / 4503599627370496 % 2048 = 2047∧a % 4503599627370496 ≠ 0):=by
 rw [nanB_iff]
 exact decide_eq_decide.2 (by omega)

theorem c_rcanon (a:Int) (h0:0 ≤ a) (h1:a < 18446744073709551616) (w:World) :
  Calls Try.prog 64 #[.int .u64 a] w fun e w'=>e = .returned (.int .u64 (canonV a))∧w = w':=by
 have hp:=c_parts a h0 h1
 have hn:=nan_parts h0
 unfold canonV
 generalize a / 4503599627370496 % 2048 = e at hp hn
 generalize a % 4503599627370496 = f at hp hn
 generalize a / 9223372036854775808 = s at hp
 clear h0 h1
 by_cases he:e = 2047
 ·by_cases hf:f = 0
  ·have e1:(e == 2047) = true:=by simpa using he
   have f1:(f != 0) = false:=by simpa using hf
   rw [decide_eq_false (by omega)] at hn
   rw [hn]
   clear hn he hf
   go_enter Try.func64,Try.ntmps64
   go_wp2_with (go_at_call 90;refine (hp _).mono ?_;rintro _ _ ⟨rfl,rfl⟩)
   go_ret
   exact ⟨rfl,rfl⟩
  ·have e1:(e == 2047) = true:=by simpa using he
   have f1:(f != 0) = true:=by simpa using hf
   rw [decide_eq_true (by omega)] at hn
   rw [hn]
   clear hn he hf
   go_enter Try.func64,Try.ntmps64
   go_wp2_with (go_at_call 90;refine (hp _).mono ?_;rintro _ _ ⟨rfl,rfl⟩)
   go_ret
   exact ⟨rfl,rfl⟩
 ·have e1:(e == 2047) = false:=by simpa using he
  rw [decide_eq_false (by omega)] at hn
  rw [hn]
  clear hn he
  go_enter Try.func64,Try.ntmps64
  go_wp2_with (go_at_call 90;refine (hp _).mono ?_;rintro _ _ ⟨rfl,rfl⟩)
  go_ret
  exact ⟨rfl,rfl⟩

end Go.Proofs.Ytgmfofngmfekbaa.Num

namespace Go.Proofs.Ytgmfofngmfekbaa
set_option linter.unusedVariables false
set_option linter.unusedSimpArgs false
set_option maxRecDepth 20000
open Go.RowKit

/-- A thing. -/
structure Th where
 id:Int
 kind:Int
 df:Int
 cats:List Cat
 cdf:Int
 ccats:List Cat
 quota:Int
 next:Int
 links:List Cat
 data:List UInt8
 r0:Int
 r1:Int
 r2:Int
 r3:Int
 minted:Int
 boot:Int
 halted:Bool
 value:Int
 s0:Int
 s1:Int
 s2:Int
 s3:Int
 s4:Int
 s5:Int
 s6:Int
 s7:Int

def zeroT:Th:=⟨0,0,0,[],0,[],0,0,[],[],0,0,0,0,0,0,false,0,0,0,0,0,0,0,0,0⟩

/-- What every kind has. -/
def baseT (t:Th):Th:={ zeroT with id:=t.id,kind:=t.kind,df:=t.df,cats:=t.cats,quota:=t.quota }

/-- No more than what its kind has. -/
def ofK (t:Th):Th :=
 if t.kind = 1 then { baseT t with next:=t.next,links:=t.links }
 else if t.kind = 2 then { baseT t with cdf:=t.cdf,ccats:=t.ccats,r0:=t.r0,r1:=t.r1,r2:=t.r2,r3:=t.r3,minted:=t.minted,boot:=t.boot,halted:=t.halted }
 else if t.kind = 3 then { baseT t with cdf:=t.cdf,ccats:=t.ccats,value:=t.value }
 else if t.kind = 4 then { baseT t with data:=t.data }
 else if t.kind = 5 then { baseT t with s0:=t.s0,s1:=t.s1,s2:=t.s2,s3:=t.s3,s4:=t.s4,s5:=t.s5,s6:=t.s6,s7:=t.s7 }
 else baseT t

/-- All but what its kind has. -/
def bareK (t:Th):Th :=
 if t.kind = 1 then { t with next:=0,links:=[] }
 else if t.kind = 2 then { t with cdf:=0,ccats:=[],r0:=0,r1:=0,r2:=0,r3:=0,minted:=0,boot:=0,halted:=false }
 else if t.kind = 3 then { t with cdf:=0,ccats:=[],value:=0 }
 else if t.kind = 4 then { t with data:=[] }
 else if t.kind = 5 then { t with s0:=0,s1:=0,s2:=0,s3:=0,s4:=0,s5:=0,s6:=0,s7:=0 }
 else t

theorem bare_iff (t:Th):bareK t = baseT t↔t = ofK t:=by
 cases t
 simp only [bareK,ofK,baseT,zeroT]
 split
 ·simp
 ·split
  ·simp
  ·split
   ·simp
   ·split
    ·simp
    ·split <;> simp

def idOk (x:Int):Prop:=1 ≤ x∧x ≤ 281474976710655
def btw (a x b:Int):Prop:=a ≤ x∧x ≤ b
def sumL (ls:List Cat):Int:=(ls.map (·.2)).sum

/-- Links as they must be. -/
structure LkOk (ls:List Cat):Prop where
 each:∀ i (h:i < ls.length),idOk ls[i].1∧btw 1 ls[i].2 48
 rise:∀ i (h:i + 1 < ls.length),ls[i].1 < ls[i + 1].1

structure DirOk (t:Th):Prop where
 next:btw 0 t.next 63
 quota:btw 1 t.quota 48
 len:t.links.length ≤ 16
 lk:LkOk t.links
 sum:1 + sumL t.links ≤ t.quota

def can (x:Int):Prop:=Num.canonV x = x

structure ThrOk (t:Th):Prop where
 quota:t.quota = 1
 rgt:Rgt t.cdf t.ccats
 pu:Pu t.cdf t.ccats
 regs:can t.r0∧can t.r1∧can t.r2∧can t.r3
 minted:btw 0 t.minted 31
 boot:btw 0 t.boot 255

structure GatOk (t:Th):Prop where
 quota:t.quota = 1
 rgt:Rgt t.cdf t.ccats
 pu:Pu t.cdf t.ccats
 value:can t.value

structure SegOk (t:Th):Prop where
 lo:32 ≤ t.data.length
 hi:t.data.length ≤ 128
 whole:t.data.length % 32 = 0
 quota:t.quota = 1 + (t.data.length / 32:Nat)

def slOk (d s:Int):Prop:=(d = 0∧s = 0)∨(idOk d∧idOk s)

structure SpcOk (t:Th):Prop where
 quota:t.quota = 1
 slots:slOk t.s0 t.s1∧slOk t.s2 t.s3∧slOk t.s4 t.s5∧slOk t.s6 t.s7

def KindOk (t:Th):Prop:=(t.kind = 1∧DirOk t)∨(t.kind = 2∧ThrOk t)∨(t.kind = 3∧GatOk t)∨(t.kind = 4∧SegOk t)∨(t.kind = 5∧SpcOk t)∨(t.kind = 6∧t.quota = 1)

/-- Can it be? -/
structure RightT (t:Th):Prop where
 id:idOk t.id
 rgt:Rgt t.df t.cats
 pu:t.kind = 2∨t.kind = 3∨Pu t.df t.cats
 same:t = ofK t
 parts:KindOk t

/-- Numbers that fit their types. -/
structure WfT (t:Th):Prop where
 r0:0 ≤ t.r0∧t.r0 < 18446744073709551616
 r1:0 ≤ t.r1∧t.r1 < 18446744073709551616
 r2:0 ≤ t.r2∧t.r2 < 18446744073709551616
 r3:0 ≤ t.r3∧t.r3 < 18446744073709551616
 value:0 ≤ t.value∧t.value < 18446744073709551616

def nF (x:Int):Fld:=⟨x.toNat,[]⟩
def sizeT (t:Th):Nat:=14 + 9 * t.cats.length +
 (if t.kind = 1 then 4 + 10 * t.links.length else if t.kind = 2 then 38 + 9 * t.ccats.length else if t.kind = 3 then 11 + 9 * t.ccats.length else if t.kind = 4 then 2 + t.data.length else if t.kind = 5 then 64 else 0)

theorem packF_n {c:UInt8} {k:Nat} {x:Int} (h98:c ≠ 98) (hw:wdt c = some k) (h:x.toNat < 256 ^ k):packF c (nF x) = some (be k x.toNat):=by
 unfold packF nF
 rw [if_neg h98,hw]
 simp only
 rw [if_pos h]

theorem p2 {x:Int} (h:x < 65536):packF 50 (nF x) = some (be 2 x.toNat):=packF_n (by decide) (by decide) (by show _ < 65536;omega)
theorem p1 {x:Int} (h:x < 256):packF 49 (nF x) = some (be 1 x.toNat):=packF_n (by decide) (by decide) (by show _ < 256;omega)

theorem kind_of {t:Th} (h:KindOk t):t.kind = 1∨t.kind = 2∨t.kind = 3∨t.kind = 4∨t.kind = 5∨t.kind = 6:=by
 rcases h with ⟨h,_⟩ | ⟨h,_⟩ | ⟨h,_⟩ | ⟨h,_⟩ | ⟨h,_⟩ | ⟨h,_⟩ <;> simp [h]

end Go.Proofs.Ytgmfofngmfekbaa
