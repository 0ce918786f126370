/-
  Right: the small words of it.
-/
import Derived.Test.YtghlilncdfiojaaThMS
import Derived.Test.YtghlilncdfiojaaNumCanS
namespace Go.Proofs.Ytghlilncdfiojaa
set_option linter.unusedVariables false
set_option linter.unusedSimpArgs false
set_option maxRecDepth 20000
open Go.RowKit

theorem c_isID (x:Int) (w:World):Calls Try.prog 24 #[.int .u64 x] w (AnsP (idOk x) w):=by
 by_cases h1:1 ≤ x
 ·have b1:decide (1 ≤ x) = true:=decide_eq_true h1
  by_cases h2:x ≤ 281474976710655
  ·have b2:decide (x ≤ 281474976710655) = true:=decide_eq_true h2
   have hP:Hid (idOk x):=⟨h1,h2⟩
   clear h1 h2
   go_enter Try.func24,Try.ntmps24
   go_wp2
   go_ret
   exact ans_yes hP.out (nw_refl w)
  ·have b2:decide (x ≤ 281474976710655) = false:=decide_eq_false h2
   have hP:Hid (¬ idOk x):=fun h=>h2 h.2
   clear h1 h2
   go_enter Try.func24,Try.ntmps24
   go_wp2
   go_ret
   exact ans_no hP.out (nw_refl w)
 ·have b1:decide (1 ≤ x) = false:=decide_eq_false h1
  have hP:Hid (¬ idOk x):=fun h=>h1 h.1
  clear h1
  go_enter Try.func24,Try.ntmps24
  go_wp2
  go_ret
  exact ans_no hP.out (nw_refl w)

theorem c_btw (a x b:Int) (w:World):Calls Try.prog 58 #[.int .i64 a,.int .i64 x,.int .i64 b] w (AnsP (btw a x b) w):=by
 by_cases h1:a ≤ x
 ·have b1:decide (a ≤ x) = true:=decide_eq_true h1
  by_cases h2:x ≤ b
  ·have b2:decide (x ≤ b) = true:=decide_eq_true h2
   have hP:Hid (btw a x b):=⟨h1,h2⟩
   clear h1 h2
   go_enter Try.func58,Try.ntmps58
   go_wp2
   go_ret
   exact ans_yes hP.out (nw_refl w)
  ·have b2:decide (x ≤ b) = false:=decide_eq_false h2
   have hP:Hid (¬ btw a x b):=fun h=>h2 h.2
   clear h1 h2
   go_enter Try.func58,Try.ntmps58
   go_wp2
   go_ret
   exact ans_no hP.out (nw_refl w)
 ·have b1:decide (a ≤ x) = false:=decide_eq_false h1
  have hP:Hid (¬ btw a x b):=fun h=>h1 h.1
  clear h1
  go_enter Try.func58,Try.ntmps58
  go_wp2
  go_ret
  exact ans_no hP.out (nw_refl w)

theorem c_mayOwn (k:Int) (w:World):Calls Try.prog 26 #[.int .i64 k] w (AnsP (k = 2∨k = 3) w):=by
 by_cases h1:k = 2
 ·have b1:(k == 2) = true:=by simp [h1]
  have hP:Hid (k = 2∨k = 3):=.inl h1
  clear h1
  go_enter Try.func26,Try.ntmps26
  go_wp2
  go_ret
  exact ans_yes hP.out (nw_refl w)
 ·have b1:(k == 2) = false:=by simp [h1]
  by_cases h2:k = 3
  ·have b2:(k == 3) = true:=by simp [h2]
   have hP:Hid (k = 2∨k = 3):=.inr h2
   clear h1 h2
   go_enter Try.func26,Try.ntmps26
   go_wp2
   go_ret
   exact ans_yes hP.out (nw_refl w)
  ·have b2:(k == 3) = false:=by simp [h2]
   have hP:Hid (¬ (k = 2∨k = 3)):=fun h=>h.elim h1 h2
   clear h1 h2
   go_enter Try.func26,Try.ntmps26
   go_wp2
   go_ret
   exact ans_no hP.out (nw_refl w)

set_option maxHeartbeats 1600000 in
theorem c_clear {X:Nat→Prop} {v:Value} {xs:List Cat} (d:Int) (w:World) (h:CSl X w v xs) (hl:xs.length ≤ 8796093022208) :
  Calls Try.prog 56 #[labV d v] w (AnsP (Rgt d xs∧Pu d xs) w):=by
 obtain ⟨ao,cap,rfl,ha1,ha2⟩:=h.form
 have hA:(w.alloc (.cells #[.int .i64 d,.slice ao xs.length cap] 26)).heap[w.heap.size]? = some (.cells #[.int .i64 d,.slice ao xs.length cap] 26 (0,0)):=heap_alloc_new w _
 have nW:Nw w (w.alloc (.cells #[.int .i64 d,.slice ao xs.length cap] 26)):=nw_alloc (nw_refl w) _
 replace h:=h.nw nW
 have hcon:Hid _:=c_right d _ h hl
 unfold RgtP labV at hcon
 unfold labV
 go_enter Try.func56,Try.ntmps56
 go_upto_region 1 with fail
 generalize w.alloc (.cells #[.int .i64 d,.slice ao xs.length cap] 26) = W at *
 have a0:W.cell? ⟨w.heap.size,0,none⟩ = some (.int .i64 d):=cell_blk hA rfl
 have a1:W.cell? ⟨w.heap.size,1,none⟩ = some (.slice ao xs.length cap):=cell_blk hA rfl
 go_wp2_with (go_at_call 25;refine Calls.mono hcon.out ?_;rintro e w3 ⟨r,rfl,q1,qn⟩;refine stop_here ?_)
 unfold Hid
 clear hcon a0 a1
 have hA3:=(qn.block _ (heap_lt hA) (fun h=>h)).trans hA
 have a0:w3.cell? ⟨w.heap.size,0,none⟩ = some (.int .i64 d):=cell_blk hA3 rfl
 have a1:w3.cell? ⟨w.heap.size,1,none⟩ = some (.slice ao xs.length cap):=cell_blk hA3 rfl
 cases r with
 | false =>
  have hP:Hid (¬ (Rgt d xs∧Pu d xs)):=fun h'=>not_of_false q1 h'.1
  clear q1
  go_wp2
  go_ret
  exact ans_no hP.out (nw_trans nW qn)
 | true =>
  have hR:Hid (Rgt d xs):=q1.1 rfl
  have hcon:Hid _:=c_isPure d w3 (h.nw qn)
  unfold AnsP labV at hcon
  clear q1 h
  go_wp2_with (go_at_call 27;refine Calls.mono hcon.out ?_;rintro e w4 ⟨r,rfl,q1,qn2⟩;refine stop_here ?_)
  unfold Hid
  clear hcon
  cases r with
  | false =>
   have hP:Hid (¬ (Rgt d xs∧Pu d xs)):=fun h'=>not_of_false q1 h'.2.2
   clear q1
   go_wp2
   go_ret
   exact ans_no hP.out (nw_trans nW (nw_trans qn qn2))
  | true =>
   have hP:Hid (Rgt d xs∧Pu d xs):=⟨hR.out,(pu_of_rgt hR.out).2 (q1.1 rfl)⟩
   clear q1
   go_wp2
   go_ret
   exact ans_yes hP.out (nw_trans nW (nw_trans qn qn2))
end Go.Proofs.Ytghlilncdfiojaa
