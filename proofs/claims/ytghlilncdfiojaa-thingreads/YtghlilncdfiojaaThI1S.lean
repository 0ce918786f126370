/-
  Image: its fields and shapes.
-/
import Derived.Test.YtghlilncdfiojaaThR6S
import Derived.Test.YtghlilncdfiojaaCodecS
import Derived.Test.YtghlilncdfiojaaLibS
namespace Go.Proofs.Ytghlilncdfiojaa
set_option linter.unusedVariables false
set_option linter.unusedSimpArgs false
set_option maxRecDepth 20000
open Go.RowKit

theorem Try.rowFd:(Try.prog.underlying 74).map TypeDesc.isRow = some true:=by kernel_rfl
theorem Try.sizeFd:(Try.prog.info? 74).map (·.size) = some 2:=by kernel_rfl
theorem Try.infoFd:(Try.prog.info? 74).map (fun i=>(i.zero,i.size,i.bytes)) = some (some (.agg #[.int .u64 0,.slice none 0 0]),2,32):=by kernel_rfl

/-- A field of a number. -/
def nV (x:Int):Value:=.agg #[.int .u64 x,.slice none 0 0]

theorem c_num (x:Int) (w:World):Calls Try.prog 68 #[.int .u64 x] w fun e w'=>e = .returned (.agg #[.int .u64 x,.slice none 0 0])∧Nw w w':=by
 have nW:=nw_alloc (nw_refl w) (.cells #[.int .u64 x,.slice none 0 0] 74)
 have hA:(w.alloc (.cells #[.int .u64 x,.slice none 0 0] 74)).heap[w.heap.size]? = some (.cells #[.int .u64 x,.slice none 0 0] 74 (0,0)):=heap_alloc_new w _
 go_enter Try.func68,Try.ntmps68
 go_wp2
 refine bodyPost_ret (results_cell1 rfl _ w.heap.size _ _ rfl rfl (range_all (C:=[.int .u64 x,.slice none 0 0]) hA) Try.rowFd Try.sizeFd) rfl ?_
 exact ⟨rfl,nW⟩

theorem c_cnt (x:Int) (h0:0 ≤ x) (h1:x < 9223372036854775808) (w:World):Calls Try.prog 69 #[.int .i64 x] w fun e w'=>e = .returned (.agg #[.int .u64 x,.slice none 0 0])∧Nw w w':=by
 have hcv:∀ w,(convert 3 23 (.int .i64 x)).run Try.prog w = .ok (.int .u64 x) w:=fun w=>by
  simp [go_sem]
  try rw [IntKind.wrap_u64]
  omega
 have hcon:Hid (∀ w,Calls Try.prog 68 #[.int .u64 x] w fun e w'=>e = .returned (.agg #[.int .u64 x,.slice none 0 0])∧Nw w w'):=fun w=>c_num x w
 have n0:=nw_alloc (nw_refl w) (.cells #[.int .u64 0,.slice none 0 0] 74)
 have hA:(w.alloc (.cells #[.int .u64 0,.slice none 0 0] 74)).heap[w.heap.size]? = some (.cells #[.int .u64 0,.slice none 0 0] 74 (0,0)):=heap_alloc_new w _
 go_enter Try.func69,Try.ntmps69
 go_upto_region 1 with fail
 generalize w.alloc (.cells #[.int .u64 0,.slice none 0 0] 74) = W at *
 go_wp2_with (go_at_call 68;refine Calls.mono (hcon.out _) ?_;rintro e w3 ⟨rfl,qn⟩;refine stop_here ?_)
 unfold Hid
 have hA3:=(qn.block _ (heap_lt hA) (fun h=>h)).trans hA
 have c0:w3.cell? ⟨w.heap.size,0,none⟩ = some (.int .u64 0):=cell_blk hA3 rfl
 have c1:w3.cell? ⟨w.heap.size,1,none⟩ = some (.slice none 0 0):=cell_blk hA3 rfl
 have cf:∀ k,w3.frozen? ⟨w.heap.size,k,none⟩ = false:=fun k=>free_blk hA3
 have fin:Hid (((w3.setCell ⟨w.heap.size,0,none⟩ (.int .u64 x)).setCell ⟨w.heap.size,1,none⟩ (.slice none 0 0)).rangeAt w.heap.size 0 [.int .u64 x,.slice none 0 0]∧Nw w ((w3.setCell ⟨w.heap.size,0,none⟩ (.int .u64 x)).setCell ⟨w.heap.size,1,none⟩ (.slice none 0 0))):=⟨range_all (C:=[.int .u64 x,.slice none 0 0]) (by rw [blk_setCell (blk_setCell hA3)];rfl),((nw_trans n0 qn).setCell (p:=⟨w.heap.size,0,none⟩) (.inr (Nat.le_refl _)) _).setCell (p:=⟨w.heap.size,1,none⟩) (.inr (Nat.le_refl _)) _⟩
 clear hcv hcon
 go_wp2
 refine bodyPost_ret (results_cell1 rfl _ w.heap.size _ _ rfl rfl fin.out.1 Try.rowFd Try.sizeFd) rfl ?_
 exact ⟨rfl,fin.out.2⟩

theorem c_txt (a:Option Addr) (n c:Nat) (w:World):Calls Try.prog 70 #[.slice a n c] w fun e w'=>e = .returned (.agg #[.int .u64 0,.slice a n c])∧Nw w w':=by
 have nW:=nw_alloc (nw_refl w) (.cells #[.int .u64 0,.slice a n c] 74)
 have hA:(w.alloc (.cells #[.int .u64 0,.slice a n c] 74)).heap[w.heap.size]? = some (.cells #[.int .u64 0,.slice a n c] 74 (0,0)):=heap_alloc_new w _
 go_enter Try.func70,Try.ntmps70
 go_wp2
 refine bodyPost_ret (results_cell1 rfl _ w.heap.size _ _ rfl rfl (range_all (C:=[.int .u64 0,.slice a n c]) hA) Try.rowFd Try.sizeFd) rfl ?_
 exact ⟨rfl,nW⟩

theorem c_truth (b:Bool) (w:World):Calls Try.prog 73 #[.bool b] w fun e w'=>e = .returned (.agg #[.int .u64 (if b then 1 else 0),.slice none 0 0])∧Nw w w':=by
 have n0:=nw_alloc (nw_refl w) (.cells #[.int .u64 0,.slice none 0 0] 74)
 have hA:(w.alloc (.cells #[.int .u64 0,.slice none 0 0] 74)).heap[w.heap.size]? = some (.cells #[.int .u64 0,.slice none 0 0] 74 (0,0)):=heap_alloc_new w _
 have hfin:Hid (∀ (x:Int) w3,Nw (w.alloc (.cells #[.int .u64 0,.slice none 0 0] 74)) w3→w3.heap[w.heap.size]? = some (.cells #[.int .u64 0,.slice none 0 0] 74 (0,0))∧((w3.setCell ⟨w.heap.size,0,none⟩ (.int .u64 x)).setCell ⟨w.heap.size,1,none⟩ (.slice none 0 0)).rangeAt w.heap.size 0 [.int .u64 x,.slice none 0 0]∧Nw w ((w3.setCell ⟨w.heap.size,0,none⟩ (.int .u64 x)).setCell ⟨w.heap.size,1,none⟩ (.slice none 0 0))):=fun x w3 qn=>by
  have hA3:=(qn.block _ (heap_lt hA) (fun h=>h)).trans hA
  exact ⟨hA3,range_all (C:=[.int .u64 x,.slice none 0 0]) (by rw [blk_setCell (blk_setCell hA3)];rfl),((nw_trans n0 qn).setCell (p:=⟨w.heap.size,0,none⟩) (.inr (Nat.le_refl _)) _).setCell (p:=⟨w.heap.size,1,none⟩) (.inr (Nat.le_refl _)) _⟩
 cases b with
 | true =>
  go_enter Try.func73,Try.ntmps73
  go_upto_region 1 with fail
  generalize w.alloc (.cells #[.int .u64 0,.slice none 0 0] 74) = W at *
  go_wp2_with (go_at_call 68;refine Calls.mono (c_num 1 _) ?_;rintro e w3 ⟨rfl,qn⟩;refine stop_here ?_)
  unfold Hid
  obtain ⟨hA3,hr,hn⟩:=hfin.out 1 w3 qn
  have c0:w3.cell? ⟨w.heap.size,0,none⟩ = some (.int .u64 0):=cell_blk hA3 rfl
  have c1:w3.cell? ⟨w.heap.size,1,none⟩ = some (.slice none 0 0):=cell_blk hA3 rfl
  have cf:∀ k,w3.frozen? ⟨w.heap.size,k,none⟩ = false:=fun k=>free_blk hA3
  replace hr:Hid _:=hr
  go_wp2
  refine bodyPost_ret (results_cell1 rfl _ w.heap.size _ _ rfl rfl hr.out Try.rowFd Try.sizeFd) rfl ?_
  exact ⟨rfl,hn⟩
 | false =>
  go_enter Try.func73,Try.ntmps73
  go_upto_region 1 with fail
  generalize w.alloc (.cells #[.int .u64 0,.slice none 0 0] 74) = W at *
  go_wp2_with (go_at_call 68;refine Calls.mono (c_num 0 _) ?_;rintro e w3 ⟨rfl,qn⟩;refine stop_here ?_)
  unfold Hid
  obtain ⟨hA3,hr,hn⟩:=hfin.out 0 w3 qn
  have c0:w3.cell? ⟨w.heap.size,0,none⟩ = some (.int .u64 0):=cell_blk hA3 rfl
  have c1:w3.cell? ⟨w.heap.size,1,none⟩ = some (.slice none 0 0):=cell_blk hA3 rfl
  have cf:∀ k,w3.frozen? ⟨w.heap.size,k,none⟩ = false:=fun k=>free_blk hA3
  replace hr:Hid _:=hr
  go_wp2
  refine bodyPost_ret (results_cell1 rfl _ w.heap.size _ _ rfl rfl hr.out Try.rowFd Try.sizeFd) rfl ?_
  exact ⟨rfl,hn⟩

def shB (k:Int):ByteArray :=
 if k = 1 then ⟨#[56,49,98,50,50,98]⟩ else if k = 2 then ⟨#[56,49,98,50,98,56,56,56,56,49,49,49]⟩ else if k = 3 then ⟨#[56,49,98,50,98,56]⟩ else if k = 4 then ⟨#[56,49,98,50,98]⟩ else if k = 5 then ⟨#[56,49,98,50,56,56,56,56,56,56,56,56]⟩ else ⟨#[56,49,98,50]⟩
theorem shB_list (k:Int):(shB k).data.toList = shL k:=by
 unfold shB shL tailL
 split
 ·rfl
 ·split
  ·rfl
  ·split
   ·rfl
   ·split
    ·rfl
    ·split <;> rfl
theorem shB_size (k:Int):(shB k).size ≤ 200:=by
 have:(shB k).size = (shL k).length:=by rw [← shB_list];rfl
 rw [this];exact shL_length k

theorem c_shape (k:Int) (w:World):Calls Try.prog 42 #[.int .i64 k] w fun e w'=>e = .returned (.string (shB k))∧Nw w w':=by
 unfold shB
 by_cases h1:k = 1
 ·rw [if_pos h1]
  have b1:(k == 1) = true:=by simp [h1]
  clear h1
  go_enter Try.func42,Try.ntmps42
  go_wp2
  go_ret
  exact ⟨rfl,nw_refl w⟩
 ·have b1:(k == 1) = false:=by simp [h1]
  rw [if_neg h1]
  by_cases h2:k = 2
  ·rw [if_pos h2]
   have b2:(k == 2) = true:=by simp [h2]
   clear h1 h2
   go_enter Try.func42,Try.ntmps42
   go_wp2
   go_ret
   exact ⟨rfl,nw_refl w⟩
  ·have b2:(k == 2) = false:=by simp [h2]
   rw [if_neg h2]
   by_cases h3:k = 3
   ·rw [if_pos h3]
    have b3:(k == 3) = true:=by simp [h3]
    clear h1 h2 h3
    go_enter Try.func42,Try.ntmps42
    go_wp2
    go_ret
    exact ⟨rfl,nw_refl w⟩
   ·have b3:(k == 3) = false:=by simp [h3]
    rw [if_neg h3]
    by_cases h4:k = 4
    ·rw [if_pos h4]
     have b4:(k == 4) = true:=by simp [h4]
     clear h1 h2 h3 h4
     go_enter Try.func42,Try.ntmps42
     go_wp2
     go_ret
     exact ⟨rfl,nw_refl w⟩
    ·have b4:(k == 4) = false:=by simp [h4]
     rw [if_neg h4]
     by_cases h5:k = 5
     ·rw [if_pos h5]
      have b5:(k == 5) = true:=by simp [h5]
      clear h1 h2 h3 h4 h5
      go_enter Try.func42,Try.ntmps42
      go_wp2
      go_ret
      exact ⟨rfl,nw_refl w⟩
     ·have b5:(k == 5) = false:=by simp [h5]
      rw [if_neg h5]
      clear h1 h2 h3 h4 h5
      go_enter Try.func42,Try.ntmps42
      go_wp2
      go_ret
      exact ⟨rfl,nw_refl w⟩
end Go.Proofs.Ytghlilncdfiojaa
