/-
  What is pure: the program's isPure, the document's Pure.
-/
import Derived.Test.YtghlilncdfiojaaLabS
namespace Go.Proofs.Ytghlilncdfiojaa
set_option linter.unusedVariables false
set_option linter.unusedSimpArgs false
set_option maxRecDepth 20000
open Go.RowKit

def fpV:Value:=.func (.func 54) #[] #[]

/-- Is no level in it Star? -/
def Pu (d:Int) (xs:List Cat):Prop:=d ≠ 0∧∀ i (h:i < xs.length),xs[i].2 ≠ 0

/-- A call answers whether P holds, and leaves what was there. -/
def AnsP (P:Prop) (w:World) (e:Ending) (w':World):Prop:=∃ r:Bool,e = .returned (.bool r)∧(r = true↔P)∧Nw w w'

theorem ans_yes {P:Prop} {w w':World} (h:P) (n:Nw w w'):AnsP P w (.returned (.bool true)) w':=⟨true,rfl,⟨fun _=>h,fun _=>rfl⟩,n⟩
theorem ans_no {P:Prop} {w w':World} (h:¬ P) (n:Nw w w'):AnsP P w (.returned (.bool false)) w':=⟨false,rfl,⟨fun h=>Bool.noConfusion h,fun h'=>absurd h' h⟩,n⟩
theorem not_of_false {P:Prop} (h:false = true↔P):¬ P:=fun hp=>Bool.noConfusion (h.2 hp)

theorem c_fpure (c:Cat) (w:World):Calls Try.prog 54 #[.agg #[.int .u64 c.1,.int .i64 c.2]] w fun e w'=>e = .returned (.bool (c.2 == 0))∧Nw w w':=by
 have nW:=nw_alloc (nw_refl w) (.cells #[.int .u64 c.1,.int .i64 c.2] 52)
 go_enter Try.func54,Try.ntmps54
 go_wp2
 go_ret
 exact ⟨rfl,nW⟩

def FoundP (xs:List Cat) (n:Nat) (r:Int):Prop:=(r = -1∧∀ i (h:i < xs.length),xs[i].2 ≠ 0)∨(0 ≤ r∧∃ i,∃ h:i < xs.length,xs[i].2 = 0)

set_option maxHeartbeats 1600000 in
theorem c_indexP {X:Nat→Prop} {v:Value} {xs:List Cat} (w:World) (h:CSl X w v xs) :
  Calls Try.prog 79 #[v,fpV] w fun e w'=>∃ r,e = .returned (.int .i64 r)∧FoundP xs xs.length r∧Nw w w':=by
 obtain ⟨ao,cap,rfl,hc,hm⟩:=h.form
 unfold fpV
 generalize hn:xs.length = n at *
 replace hn:Hid (xs.length = n):=hn
 go_enter Try.func79,Try.ntmps79
 go_wp2
 go_loopw [8] (fun kv wr=>∃ k:Nat,k ≤ n∧kv = .int .i64 k∧Hid (∀ i (h:i < xs.length),i < k→xs[i].2 ≠ 0)∧Nw w wr) (fun kv _=>n - (intOf kv).toNat)
 case atStart=>exact ⟨0,Nat.zero_le _,rfl,fun i _ h=>by omega,nw_refl _⟩
 case round =>
  obtain ⟨k,hkn,rfl,hne,hnw⟩:=hrel
  by_cases hlt:k < n
  ·have hkx:k < xs.length:=by rw [hn.out];exact hlt
   obtain ⟨q,off,rfl,_,c1,c2⟩:=(h.nw hnw).get k hkx
   obtain ⟨x,hx⟩:∃ x,Hid (x = xs[k]):=⟨xs[k],rfl⟩
   rw [← hx.out] at c1 c2
   go_wp2_with (go_at_call 54;refine (c_fpure x _).mono ?_;rintro e w3 ⟨rfl,hnw3⟩;refine stop_here ?_)
   unfold Hid
   have hnw':=nw_trans hnw hnw3
   clear hnw hnw3 c1 c2
   by_cases hxd:x.2 = 0
   ·have hb:(x.2 == 0) = true:=by simp [hxd]
    have hf:Hid (FoundP xs n (k:Int)):=.inr ⟨by omega,k,hkx,by rw [← hx.out];exact hxd⟩
    rw [hb]
    clear hb hxd hx hne
    go_wp2
    go_ret
    exact ⟨_,rfl,hf.out,hnw'⟩
   ·have hb:(x.2 == 0) = false:=by simp [hxd]
    have hne':Hid (∀ i (h:i < xs.length),i < k + 1→xs[i].2 ≠ 0):=fun i h hi=>by
     by_cases hik:i = k
     ·subst hik;rw [← hx.out];exact hxd
     ·exact hne.out i h (by omega)
    rw [hb]
    clear hb hxd hx hne
    go_wp2
    go_roundw
    case rel=>exact ⟨k + 1,by omega,by go_num,hne',hnw'⟩
    case measure=>simp [intOf];omega
  ·have hf:Hid (FoundP xs n (-1)):=.inl ⟨rfl,fun i h=>hne.out i h (by have:=hn.out;omega)⟩
   go_wp2
   go_ret
   exact ⟨_,rfl,hf.out,hnw⟩

set_option maxHeartbeats 1600000 in
theorem c_contains {X:Nat→Prop} {v:Value} {xs:List Cat} (w:World) (h:CSl X w v xs) :
  Calls Try.prog 53 #[v,fpV] w (AnsP (¬ ∀ i (h:i < xs.length),xs[i].2 ≠ 0) w):=by
 have hcon:Hid _:=c_indexP w h
 obtain ⟨ao,cap,rfl,hc,hm⟩:=h.form
 unfold fpV at *
 clear h
 go_enter Try.func53,Try.ntmps53
 go_wp2_with (go_at_call 79;refine Calls.mono hcon.out ?_;rintro e w3 ⟨r,rfl,q1,qn⟩;refine stop_here ?_)
 unfold Hid
 rcases q1 with ⟨q1,q2⟩ | ⟨q1,i,hi,q2⟩
 ·have hb:decide (0 ≤ r) = false:=by rw [q1];rfl
  have hP:Hid (¬ ¬ ∀ i (h:i < xs.length),xs[i].2 ≠ 0):=fun h=>h q2
  clear hcon q1 q2
  go_wp2
  go_ret
  exact ans_no hP.out qn
 ·have hb:decide (0 ≤ r) = true:=decide_eq_true q1
  have hP:Hid (¬ ∀ i (h:i < xs.length),xs[i].2 ≠ 0):=fun h=>h i hi q2
  clear hcon q1 q2 hi
  go_wp2
  go_ret
  exact ans_yes hP.out qn

/-- No level of a category is Star. -/
def Pc (xs:List Cat):Prop:=∀ i (h:i < xs.length),xs[i].2 ≠ 0

theorem pu_of_rgt {d:Int} {xs:List Cat} (h:Rgt d xs):Pu d xs↔Pc xs:=⟨fun p=>p.2,fun p=>⟨by have:=h.lo;omega,p⟩⟩

set_option maxHeartbeats 1600000 in
theorem c_isPure {X:Nat→Prop} {v:Value} {xs:List Cat} (d:Int) (w:World) (h:CSl X w v xs) :
  Calls Try.prog 27 #[labV d v] w (AnsP (Pc xs) w):=by
 obtain ⟨ao,cap,rfl,ha1,ha2⟩:=h.form
 have hA:(w.alloc (.cells #[.int .i64 d,.slice ao xs.length cap] 26)).heap[w.heap.size]? = some (.cells #[.int .i64 d,.slice ao xs.length cap] 26 (0,0)):=heap_alloc_new w _
 have nW:Nw w (w.alloc (.cells #[.int .i64 d,.slice ao xs.length cap] 26)):=nw_alloc (nw_refl w) _
 have hcon:Hid _:=c_contains _ (h.nw nW)
 unfold labV
 unfold fpV at *
 go_enter Try.func27,Try.ntmps27
 go_upto_region 1 with fail
 generalize w.alloc (.cells #[.int .i64 d,.slice ao xs.length cap] 26) = W at *
 have a1:W.cell? ⟨w.heap.size,1,none⟩ = some (.slice ao xs.length cap):=cell_blk hA rfl
 clear h
 go_wp2_with (go_at_call 53;refine Calls.mono hcon.out ?_;rintro e w3 ⟨r,rfl,q1,qn⟩;refine stop_here ?_)
 unfold Hid
 clear hcon a1
 replace nW:=nw_trans nW qn
 cases r with
 | true =>
  have hP:Hid (¬ Pc xs):=q1.1 rfl
  clear q1
  go_wp2
  go_ret
  exact ans_no hP.out nW
 | false =>
  have hP:Hid (Pc xs):=Classical.not_not.1 (not_of_false q1)
  clear q1
  go_wp2
  go_ret
  exact ans_yes hP.out nW

set_option maxHeartbeats 3200000 in
theorem c_rpure {X:Nat→Prop} {v:Value} {xs:List Cat} (d:Int) (w:World) (h:CSl X w v xs) :
  Calls Try.prog 32 #[labV d v] w (AnsP (Pu d xs) w):=by
 obtain ⟨ao,cap,rfl,ha1,ha2⟩:=h.form
 have hA:(w.alloc (.cells #[.int .i64 d,.slice ao xs.length cap] 26)).heap[w.heap.size]? = some (.cells #[.int .i64 d,.slice ao xs.length cap] 26 (0,0)):=heap_alloc_new w _
 have nW:Nw w (w.alloc (.cells #[.int .i64 d,.slice ao xs.length cap] 26)):=nw_alloc (nw_refl w) _
 replace h:=h.nw nW
 unfold labV
 go_enter Try.func32,Try.ntmps32
 go_upto_region 1 with fail
 generalize w.alloc (.cells #[.int .i64 d,.slice ao xs.length cap] 26) = W at *
 have a0:W.cell? ⟨w.heap.size,0,none⟩ = some (.int .i64 d):=cell_blk hA rfl
 have a1:W.cell? ⟨w.heap.size,1,none⟩ = some (.slice ao xs.length cap):=cell_blk hA rfl
 by_cases hd:d = 0
 ·have hb:(d == 0) = true:=by simp [hd]
  have hP:Hid (¬ Pu d xs):=fun h=>h.1 hd
  clear hd
  go_wp2
  go_ret
  exact ans_no hP.out nW
 ·have hb:(d == 0) = false:=by simp [hd]
  have hd:Hid (d ≠ 0):=hd
  go_wp2
  clear a0 a1 hb
  go_loopw [11] (fun kv wr=>∃ k:Nat,k ≤ xs.length∧kv = .int .i64 k∧Hid (∀ i (h:i < xs.length),i < k→xs[i].2 ≠ 0)∧Nw W wr) (fun kv _=>xs.length - (intOf kv).toNat)
  case atStart=>exact ⟨0,Nat.zero_le _,rfl,fun i _ h=>by omega,nw_refl _⟩
  case round =>
   obtain ⟨k,hk,rfl,hall,hw⟩:=hrel
   by_cases hlt:k < xs.length
   ·obtain ⟨q,off,rfl,_,d1,d2⟩:=(h.nw hw).get k hlt
    have hbad:Hid (xs[k].2 = 0→¬ Pu d xs):=fun h1 h2=>h2.2 k hlt h1
    have hgood:Hid (xs[k].2 ≠ 0→∀ i (h:i < xs.length),i < k + 1→xs[i].2 ≠ 0):=fun h1 i hi hik=>by
     by_cases e:i = k
     ·subst e;exact h1
     ·exact hall.out i hi (by omega)
    generalize xs[k] = c at *
    have hnA:Hid (∀ o,Nw w (wr.alloc o)∧Nw W (wr.alloc o)):=fun o=>⟨nw_alloc (nw_trans nW hw) o,nw_alloc hw o⟩
    clear hall
    by_cases c1:c.2 = 0
    ·have hno:Hid _:=hbad.out c1
     have hb:(c.2 == 0) = true:=by simp [c1]
     clear hbad hgood c1
     go_wp2
     go_ret
     exact ans_no hno.out (hnA.out _).1
    ·have hyes:Hid _:=hgood.out c1
     have hb:(c.2 == 0) = false:=by simp [c1]
     clear hbad hgood c1
     go_wp2
     go_roundw
     case rel=>exact ⟨k + 1,by omega,by go_num,hyes,(hnA.out _).2⟩
     case measure=>simp [intOf];omega
   ·have hfin:Hid (Pu d xs):=⟨hd.out,fun i hi=>hall.out i hi (by omega)⟩
    clear hall
    go_wp2
    go_ret
    exact ans_yes hfin.out (nw_trans nW hw)

end Go.Proofs.Ytghlilncdfiojaa
