/-
  Same: the document's.
-/
import Derived.Test.YtgmfofngmfekbaaThGcS
import Derived.Test.YtgmfofngmfekbaaLabS
import Derived.Test.YtgmfofngmfekbaaLibS
namespace Go.Proofs.Ytgmfofngmfekbaa
set_option linter.unusedVariables false
set_option linter.unusedSimpArgs false
set_option maxRecDepth 20000
open Go.RowKit

theorem run_neq4 (t s:Th) (w:World):(binOp .neq 29 (rgV t) (rgV s)).run Try.prog w = .ok (.bool (!(e4 t s))) w:=by
 unfold rgV rgC
 rw [run_neq_struct,eq4 9998]
 rfl
theorem run_neq8 (t s:Th) (w:World):(binOp .neq 32 (slV t) (slV s)).run Try.prog w = .ok (.bool (!(e8 t s))) w:=by
 unfold slV slC
 rw [run_neq_struct,eq8 9997]
 rfl
theorem run_neq_bool (a b:Bool) (w:World):(binOp .neq 4 (.bool a) (.bool b)).run Try.prog w = .ok (.bool (!(a == b))) w:=by
 cases a <;> cases b <;> simp [go_sem]
theorem run_neq_str (a b:ByteArray) (w:World):(binOp .neq 9 (.string a) (.string b)).run Try.prog w = .ok (.bool (!(a.toList == b.toList))) w:=by
 simp [go_sem]

theorem neq_bytes {a b:List UInt8} (h:¬ a = b):(!((⟨a.toArray⟩:ByteArray).toList == (⟨b.toArray⟩:ByteArray).toList)) = true:=by
 simp [ByteArray.toList_eq,h]

theorem rsame_of {t s:Th} (h0:t.id = s.id) (h1:t.kind = s.kind) (h2:t.quota = s.quota) (h3:t.next = s.next) (h4:e4 t s = true) (h5:t.minted = s.minted) (h6:t.boot = s.boot) (h7:t.halted = s.halted) (h8:t.value = s.value) (h9:e8 t s = true)
  (h10:t.df = s.df) (h11:t.cats = s.cats) (h12:t.cdf = s.cdf) (h13:t.ccats = s.ccats) (h14:t.data = s.data) (h15:t.links = s.links):t = s :=
 same_of (by simp [eFl,h0,h1,h2,h3,h4,h5,h6,h7,h8,h9,h10,h12]) h11 h13 h15 h14

set_option maxHeartbeats 6400000 in
theorem c_rtsame {X Y:Nat→Prop} {t s:Th} {uL uC uK uD vL vC vK vD:Value} (w:World) (ht:ThAt X w t uL uC uK uD) (hs:ThAt Y w s vL vC vK vD) :
  Calls Try.prog 15 #[thV t uL uC uK uD,thV s vL vC vK vD] w (AnsP (t = s) w):=by
 obtain ⟨W,hW⟩:∃ W,Hid (W = (w.alloc (.cells (thC t uL uC uK uD).toArray 34)).alloc (.cells (thC s vL vC vK vD).toArray 34)):=⟨_,rfl⟩
 have nW:Nw w W:=by rw [hW.out];exact nw_alloc (nw_alloc (nw_refl w) _) _
 have hA:W.heap[w.heap.size]? = some (.cells (thC t uL uC uK uD).toArray 34 (0,0)):=by rw [hW.out];exact heap_alloc2_old w _ _
 have hB:W.heap[w.heap.size + 1]? = some (.cells (thC s vL vC vK vD).toArray 34 (0,0)):=by rw [hW.out];exact heap_alloc2_new w _ _
 replace ht:=ht.nw nW
 replace hs:=hs.nw nW
 have hg4:∀ w x y,(eqGuard .neq 29 x y (rgV t) (rgV s)).run Try.prog w = .ok () w:=fun w x y=>run_eqGuard_agg w .neq 29 x y _ _ (by kernel_rfl)
 have hg8:∀ w x y,(eqGuard .neq 32 x y (slV t) (slV s)).run Try.prog w = .ok () w:=fun w x y=>run_eqGuard_agg w .neq 32 x y _ _ (by kernel_rfl)
 go_enter Try.func15,Try.ntmps15
 go_upto_region 1 with (first | refine wpList_box_agg rfl 34 _ rfl (thV t uL uC uK uD) _ rfl rfl ?_ | (refine wpList_box_agg rfl 34 _ rfl (thV s vL vC vK vD) _ rfl rfl ?_;rw [← hW.out]))
 clear hW
 by_cases h0:t.id = s.id
 ·have n0:(t.id != s.id) = false:=by simp [h0]
  replace h0:Hid (t.id = s.id):=h0
  by_cases h1:t.kind = s.kind
  ·have n1:(t.kind != s.kind) = false:=by simp [h1]
   replace h1:Hid (t.kind = s.kind):=h1
   by_cases h2:t.quota = s.quota
   ·have n2:(t.quota != s.quota) = false:=by simp [h2]
    replace h2:Hid (t.quota = s.quota):=h2
    by_cases h3:t.next = s.next
    ·have n3:(t.next != s.next) = false:=by simp [h3]
     replace h3:Hid (t.next = s.next):=h3
     by_cases h4:e4 t s = true
     ·have n4:∀ w,(binOp .neq 29 (rgV t) (rgV s)).run Try.prog w = .ok (.bool false) w:=fun w=>by rw [run_neq4];simp [h4]
      replace h4:Hid (e4 t s = true):=h4
      by_cases h5:t.minted = s.minted
      ·have n5:(t.minted != s.minted) = false:=by simp [h5]
       replace h5:Hid (t.minted = s.minted):=h5
       by_cases h6:t.boot = s.boot
       ·have n6:(t.boot != s.boot) = false:=by simp [h6]
        replace h6:Hid (t.boot = s.boot):=h6
        by_cases h7:t.halted = s.halted
        ·have n7:∀ w,(binOp .neq 4 (.bool t.halted) (.bool s.halted)).run Try.prog w = .ok (.bool false) w:=fun w=>by rw [run_neq_bool];simp [h7]
         replace h7:Hid (t.halted = s.halted):=h7
         by_cases h8:t.value = s.value
         ·have n8:(t.value != s.value) = false:=by simp [h8]
          replace h8:Hid (t.value = s.value):=h8
          by_cases h9:e8 t s = true
          ·have n9:∀ w,(binOp .neq 32 (slV t) (slV s)).run Try.prog w = .ok (.bool false) w:=fun w=>by rw [run_neq8];simp [h9]
           replace h9:Hid (e8 t s = true):=h9
           refine wp_region_list ?_
           simp only [List.toList_toArray,List.append_eq,List.cons_append,List.nil_append]
           refine nd_quiet ?_ rfl ?_ ?_
           rotate_left
           ·go_simp;rfl
           simp only [pL,List.set]
           refine nd_quiet ?_ rfl ?_ ?_
           rotate_left
           ·have g0:W.cell? ⟨w.heap.size,0,none⟩ = some (.int .u64 t.id):=cell_blk hA rfl;go_simp;rfl
           simp only [pL,List.set]
           refine nd_quiet ?_ rfl ?_ ?_
           rotate_left
           ·go_simp;rfl
           simp only [pL,List.set]
           refine nd_quiet ?_ rfl ?_ ?_
           rotate_left
           ·have g0:W.cell? ⟨w.heap.size + 1,0,none⟩ = some (.int .u64 s.id):=cell_blk hB rfl;go_simp;rfl
           simp only [pL,List.set]
           refine nd_quiet ?_ rfl ?_ ?_
           rotate_left
           ·go_simp;rfl
           simp only [pL,List.set]
           refine nd_quiet ?_ rfl ?_ ?_
           rotate_left
           ·go_simp;rfl
           simp only [pL,List.set]
           refine nd_quiet ?_ rfl ?_ ?_
           rotate_left
           ·go_simp;rfl
           simp only [pL,List.set]
           refine nd_quiet ?_ rfl ?_ ?_
           rotate_left
           ·have g0:W.cell? ⟨w.heap.size,1,none⟩ = some (.int .i64 t.kind):=cell_blk hA rfl;go_simp;rfl
           simp only [pL,List.set]
           refine nd_quiet ?_ rfl ?_ ?_
           rotate_left
           ·go_simp;rfl
           simp only [pL,List.set]
           refine nd_quiet ?_ rfl ?_ ?_
           rotate_left
           ·have g0:W.cell? ⟨w.heap.size + 1,1,none⟩ = some (.int .i64 s.kind):=cell_blk hB rfl;go_simp;rfl
           simp only [pL,List.set]
           refine nd_quiet ?_ rfl ?_ ?_
           rotate_left
           ·go_simp;rfl
           simp only [pL,List.set]
           refine nd_quiet ?_ rfl ?_ ?_
           rotate_left
           ·go_simp;rfl
           simp only [pL,List.set]
           refine nd_quiet ?_ rfl ?_ ?_
           rotate_left
           ·go_simp;rfl
           simp only [pL,List.set]
           refine nd_quiet ?_ rfl ?_ ?_
           rotate_left
           ·go_simp;rfl
           simp only [pL,List.set]
           refine nd_quiet ?_ rfl ?_ ?_
           rotate_left
           ·have g0:W.cell? ⟨w.heap.size,6,none⟩ = some (.int .i64 t.quota):=cell_blk hA rfl;go_simp;rfl
           simp only [pL,List.set]
           refine nd_quiet ?_ rfl ?_ ?_
           rotate_left
           ·go_simp;rfl
           simp only [pL,List.set]
           refine nd_quiet ?_ rfl ?_ ?_
           rotate_left
           ·have g0:W.cell? ⟨w.heap.size + 1,6,none⟩ = some (.int .i64 s.quota):=cell_blk hB rfl;go_simp;rfl
           simp only [pL,List.set]
           refine nd_quiet ?_ rfl ?_ ?_
           rotate_left
           ·go_simp;rfl
           simp only [pL,List.set]
           refine nd_quiet ?_ rfl ?_ ?_
           rotate_left
           ·go_simp;rfl
           simp only [pL,List.set]
           refine nd_quiet ?_ rfl ?_ ?_
           rotate_left
           ·go_simp;rfl
           simp only [pL,List.set]
           refine nd_quiet ?_ rfl ?_ ?_
           rotate_left
           ·go_simp;rfl
           simp only [pL,List.set]
           refine nd_quiet ?_ rfl ?_ ?_
           rotate_left
           ·have g0:W.cell? ⟨w.heap.size,7,none⟩ = some (.int .i64 t.next):=cell_blk hA rfl;go_simp;rfl
           simp only [pL,List.set]
           refine nd_quiet ?_ rfl ?_ ?_
           rotate_left
           ·go_simp;rfl
           simp only [pL,List.set]
           refine nd_quiet ?_ rfl ?_ ?_
           rotate_left
           ·have g0:W.cell? ⟨w.heap.size + 1,7,none⟩ = some (.int .i64 s.next):=cell_blk hB rfl;go_simp;rfl
           simp only [pL,List.set]
           refine nd_quiet ?_ rfl ?_ ?_
           rotate_left
           ·go_simp;rfl
           simp only [pL,List.set]
           refine nd_quiet ?_ rfl ?_ ?_
           rotate_left
           ·go_simp;rfl
           simp only [pL,List.set]
           refine nd_quiet ?_ rfl ?_ ?_
           rotate_left
           ·go_simp;rfl
           simp only [pL,List.set]
           refine nd_quiet ?_ rfl ?_ ?_
           rotate_left
           ·go_simp;rfl
           simp only [pL,List.set]
           refine nd_quiet ?_ rfl ?_ ?_
           rotate_left
           ·refine (run_load_rg _ W rfl (w.heap.size) rfl hA).trans ?_;rfl
           simp only [pL,List.set]
           refine nd_quiet ?_ rfl ?_ ?_
           rotate_left
           ·go_simp;rfl
           simp only [pL,List.set]
           refine nd_quiet ?_ rfl ?_ ?_
           rotate_left
           ·refine (run_load_rg _ W rfl (w.heap.size + 1) rfl hB).trans ?_;rfl
           simp only [pL,List.set]
           refine nd_quiet ?_ rfl ?_ ?_
           rotate_left
           ·go_simp;rfl
           simp only [pL,List.set]
           refine nd_quiet ?_ rfl ?_ ?_
           rotate_left
           ·go_simp;rfl
           simp only [pL,List.set]
           refine nd_quiet ?_ rfl ?_ ?_
           rotate_left
           ·go_simp;rfl
           simp only [pL,List.set]
           refine nd_quiet ?_ rfl ?_ ?_
           rotate_left
           ·go_simp;rfl
           simp only [pL,List.set]
           refine nd_quiet ?_ rfl ?_ ?_
           rotate_left
           ·have g0:W.cell? ⟨w.heap.size,14,none⟩ = some (.int .i64 t.minted):=cell_blk hA rfl;go_simp;rfl
           simp only [pL,List.set]
           refine nd_quiet ?_ rfl ?_ ?_
           rotate_left
           ·go_simp;rfl
           simp only [pL,List.set]
           refine nd_quiet ?_ rfl ?_ ?_
           rotate_left
           ·have g0:W.cell? ⟨w.heap.size + 1,14,none⟩ = some (.int .i64 s.minted):=cell_blk hB rfl;go_simp;rfl
           simp only [pL,List.set]
           refine nd_quiet ?_ rfl ?_ ?_
           rotate_left
           ·go_simp;rfl
           simp only [pL,List.set]
           refine nd_quiet ?_ rfl ?_ ?_
           rotate_left
           ·go_simp;rfl
           simp only [pL,List.set]
           refine nd_quiet ?_ rfl ?_ ?_
           rotate_left
           ·go_simp;rfl
           simp only [pL,List.set]
           refine nd_quiet ?_ rfl ?_ ?_
           rotate_left
           ·go_simp;rfl
           simp only [pL,List.set]
           refine nd_quiet ?_ rfl ?_ ?_
           rotate_left
           ·have g0:W.cell? ⟨w.heap.size,15,none⟩ = some (.int .i64 t.boot):=cell_blk hA rfl;go_simp;rfl
           simp only [pL,List.set]
           refine nd_quiet ?_ rfl ?_ ?_
           rotate_left
           ·go_simp;rfl
           simp only [pL,List.set]
           refine nd_quiet ?_ rfl ?_ ?_
           rotate_left
           ·have g0:W.cell? ⟨w.heap.size + 1,15,none⟩ = some (.int .i64 s.boot):=cell_blk hB rfl;go_simp;rfl
           simp only [pL,List.set]
           refine nd_quiet ?_ rfl ?_ ?_
           rotate_left
           ·go_simp;rfl
           simp only [pL,List.set]
           refine nd_quiet ?_ rfl ?_ ?_
           rotate_left
           ·go_simp;rfl
           simp only [pL,List.set]
           refine nd_quiet ?_ rfl ?_ ?_
           rotate_left
           ·go_simp;rfl
           simp only [pL,List.set]
           refine nd_quiet ?_ rfl ?_ ?_
           rotate_left
           ·go_simp;rfl
           simp only [pL,List.set]
           refine nd_quiet ?_ rfl ?_ ?_
           rotate_left
           ·have g0:W.cell? ⟨w.heap.size,16,none⟩ = some (.bool t.halted):=cell_blk hA rfl;go_simp;rfl
           simp only [pL,List.set]
           refine nd_quiet ?_ rfl ?_ ?_
           rotate_left
           ·go_simp;rfl
           simp only [pL,List.set]
           refine nd_quiet ?_ rfl ?_ ?_
           rotate_left
           ·have g0:W.cell? ⟨w.heap.size + 1,16,none⟩ = some (.bool s.halted):=cell_blk hB rfl;go_simp;rfl
           simp only [pL,List.set]
           refine nd_quiet ?_ rfl ?_ ?_
           rotate_left
           ·go_simp;rfl
           simp only [pL,List.set]
           refine nd_quiet ?_ rfl ?_ ?_
           rotate_left
           ·go_simp;rfl
           simp only [pL,List.set]
           refine nd_quiet ?_ rfl ?_ ?_
           rotate_left
           ·go_simp;rfl
           simp only [pL,List.set]
           refine nd_quiet ?_ rfl ?_ ?_
           rotate_left
           ·go_simp;rfl
           simp only [pL,List.set]
           refine nd_quiet ?_ rfl ?_ ?_
           rotate_left
           ·have g0:W.cell? ⟨w.heap.size,17,none⟩ = some (.int .u64 t.value):=cell_blk hA rfl;go_simp;rfl
           simp only [pL,List.set]
           refine nd_quiet ?_ rfl ?_ ?_
           rotate_left
           ·go_simp;rfl
           simp only [pL,List.set]
           refine nd_quiet ?_ rfl ?_ ?_
           rotate_left
           ·have g0:W.cell? ⟨w.heap.size + 1,17,none⟩ = some (.int .u64 s.value):=cell_blk hB rfl;go_simp;rfl
           simp only [pL,List.set]
           refine nd_quiet ?_ rfl ?_ ?_
           rotate_left
           ·go_simp;rfl
           simp only [pL,List.set]
           refine nd_quiet ?_ rfl ?_ ?_
           rotate_left
           ·go_simp;rfl
           simp only [pL,List.set]
           refine nd_quiet ?_ rfl ?_ ?_
           rotate_left
           ·go_simp;rfl
           simp only [pL,List.set]
           refine nd_quiet ?_ rfl ?_ ?_
           rotate_left
           ·go_simp;rfl
           simp only [pL,List.set]
           refine nd_quiet ?_ rfl ?_ ?_
           rotate_left
           ·refine (run_load_sl _ W rfl (w.heap.size) rfl hA).trans ?_;rfl
           simp only [pL,List.set]
           refine nd_quiet ?_ rfl ?_ ?_
           rotate_left
           ·go_simp;rfl
           simp only [pL,List.set]
           refine nd_quiet ?_ rfl ?_ ?_
           rotate_left
           ·refine (run_load_sl _ W rfl (w.heap.size + 1) rfl hB).trans ?_;rfl
           simp only [pL,List.set]
           refine nd_quiet ?_ rfl ?_ ?_
           rotate_left
           ·go_simp;rfl
           simp only [pL,List.set]
           refine nd_quiet ?_ rfl ?_ ?_
           rotate_left
           ·go_simp;rfl
           simp only [pL,List.set]
           go_upto_region 3 with fail
           clear n0 n1 n2 n3 n4 n5 n6 n7 n8 n9
           obtain ⟨la,lc,e1,lk1,lk2⟩:=ht.k.form
           obtain ⟨ma,mc,e2,mk1,mk2⟩:=hs.k.form
           obtain ⟨da,dc,e3,-⟩:=ht.d.form
           obtain ⟨fa,fc,e4,-⟩:=hs.d.form
           subst e1 e2 e3 e4
           have a2:W.cell? ⟨w.heap.size,2,none⟩ = some (.int .i64 t.df):=cell_blk hA rfl
           have a3:W.cell? ⟨w.heap.size,3,none⟩ = some (uL):=cell_blk hA rfl
           have a4:W.cell? ⟨w.heap.size,4,none⟩ = some (.int .i64 t.cdf):=cell_blk hA rfl
           have a5:W.cell? ⟨w.heap.size,5,none⟩ = some (uC):=cell_blk hA rfl
           have a8:W.cell? ⟨w.heap.size,8,none⟩ = some (.slice la t.links.length lc):=cell_blk hA rfl
           have a9:W.cell? ⟨w.heap.size,9,none⟩ = some (.slice da t.data.length dc):=cell_blk hA rfl
           have b2:W.cell? ⟨w.heap.size + 1,2,none⟩ = some (.int .i64 s.df):=cell_blk hB rfl
           have b3:W.cell? ⟨w.heap.size + 1,3,none⟩ = some (vL):=cell_blk hB rfl
           have b4:W.cell? ⟨w.heap.size + 1,4,none⟩ = some (.int .i64 s.cdf):=cell_blk hB rfl
           have b5:W.cell? ⟨w.heap.size + 1,5,none⟩ = some (vC):=cell_blk hB rfl
           have b8:W.cell? ⟨w.heap.size + 1,8,none⟩ = some (.slice ma s.links.length mc):=cell_blk hB rfl
           have b9:W.cell? ⟨w.heap.size + 1,9,none⟩ = some (.slice fa s.data.length fc):=cell_blk hB rfl
           have hcon:Hid _:=c_exact t.df s.df W ht.l hs.l
           unfold labV at hcon
           go_wp2_with (go_at_call 40;refine Calls.mono hcon.out ?_;rintro e W1 ⟨r,rfl,q1,qn⟩;refine stop_here ?_)
           unfold Hid
           clear hcon a2 b2 a3 b3 a4 b4 a5 b5 a8 b8 a9 b9
           have hA1:=(qn.block _ (heap_lt hA) (fun h=>h)).trans hA
           have hB1:=(qn.block _ (heap_lt hB) (fun h=>h)).trans hB
           replace ht:=ht.nw qn
           replace hs:=hs.nw qn
           replace nW:=nw_trans nW qn
           clear qn
           cases r with
           | false =>
            have a2:W1.cell? ⟨w.heap.size,2,none⟩ = some (.int .i64 t.df):=cell_blk hA1 rfl
            have a3:W1.cell? ⟨w.heap.size,3,none⟩ = some (uL):=cell_blk hA1 rfl
            have a4:W1.cell? ⟨w.heap.size,4,none⟩ = some (.int .i64 t.cdf):=cell_blk hA1 rfl
            have a5:W1.cell? ⟨w.heap.size,5,none⟩ = some (uC):=cell_blk hA1 rfl
            have a8:W1.cell? ⟨w.heap.size,8,none⟩ = some (.slice la t.links.length lc):=cell_blk hA1 rfl
            have a9:W1.cell? ⟨w.heap.size,9,none⟩ = some (.slice da t.data.length dc):=cell_blk hA1 rfl
            have b2:W1.cell? ⟨w.heap.size + 1,2,none⟩ = some (.int .i64 s.df):=cell_blk hB1 rfl
            have b3:W1.cell? ⟨w.heap.size + 1,3,none⟩ = some (vL):=cell_blk hB1 rfl
            have b4:W1.cell? ⟨w.heap.size + 1,4,none⟩ = some (.int .i64 s.cdf):=cell_blk hB1 rfl
            have b5:W1.cell? ⟨w.heap.size + 1,5,none⟩ = some (vC):=cell_blk hB1 rfl
            have b8:W1.cell? ⟨w.heap.size + 1,8,none⟩ = some (.slice ma s.links.length mc):=cell_blk hB1 rfl
            have b9:W1.cell? ⟨w.heap.size + 1,9,none⟩ = some (.slice fa s.data.length fc):=cell_blk hB1 rfl
            have hno:Hid (¬ t = s):=fun h=>not_of_false q1 (by rw [h];exact ⟨rfl,rfl⟩)
            clear q1
            go_wp2
            go_ret
            exact ans_no hno.out nW
           | true =>
            have y1:Hid _:=q1.1 rfl
            clear q1 hA hB
            have a2:W1.cell? ⟨w.heap.size,2,none⟩ = some (.int .i64 t.df):=cell_blk hA1 rfl
            have a3:W1.cell? ⟨w.heap.size,3,none⟩ = some (uL):=cell_blk hA1 rfl
            have a4:W1.cell? ⟨w.heap.size,4,none⟩ = some (.int .i64 t.cdf):=cell_blk hA1 rfl
            have a5:W1.cell? ⟨w.heap.size,5,none⟩ = some (uC):=cell_blk hA1 rfl
            have a8:W1.cell? ⟨w.heap.size,8,none⟩ = some (.slice la t.links.length lc):=cell_blk hA1 rfl
            have a9:W1.cell? ⟨w.heap.size,9,none⟩ = some (.slice da t.data.length dc):=cell_blk hA1 rfl
            have b2:W1.cell? ⟨w.heap.size + 1,2,none⟩ = some (.int .i64 s.df):=cell_blk hB1 rfl
            have b3:W1.cell? ⟨w.heap.size + 1,3,none⟩ = some (vL):=cell_blk hB1 rfl
            have b4:W1.cell? ⟨w.heap.size + 1,4,none⟩ = some (.int .i64 s.cdf):=cell_blk hB1 rfl
            have b5:W1.cell? ⟨w.heap.size + 1,5,none⟩ = some (vC):=cell_blk hB1 rfl
            have b8:W1.cell? ⟨w.heap.size + 1,8,none⟩ = some (.slice ma s.links.length mc):=cell_blk hB1 rfl
            have b9:W1.cell? ⟨w.heap.size + 1,9,none⟩ = some (.slice fa s.data.length fc):=cell_blk hB1 rfl
            have hcon:Hid _:=c_exact t.cdf s.cdf W1 ht.c hs.c
            unfold labV at hcon
            go_wp2_with (go_at_call 40;refine Calls.mono hcon.out ?_;rintro e W2 ⟨r,rfl,q1,qn⟩;refine stop_here ?_)
            unfold Hid
            clear hcon a2 b2 a3 b3 a4 b4 a5 b5 a8 b8 a9 b9
            have hA:=(qn.block _ (heap_lt hA1) (fun h=>h)).trans hA1
            have hB:=(qn.block _ (heap_lt hB1) (fun h=>h)).trans hB1
            replace ht:=ht.nw qn
            replace hs:=hs.nw qn
            replace nW:=nw_trans nW qn
            clear qn hA1 hB1
            cases r with
            | false =>
             have a2:W2.cell? ⟨w.heap.size,2,none⟩ = some (.int .i64 t.df):=cell_blk hA rfl
             have a3:W2.cell? ⟨w.heap.size,3,none⟩ = some (uL):=cell_blk hA rfl
             have a4:W2.cell? ⟨w.heap.size,4,none⟩ = some (.int .i64 t.cdf):=cell_blk hA rfl
             have a5:W2.cell? ⟨w.heap.size,5,none⟩ = some (uC):=cell_blk hA rfl
             have a8:W2.cell? ⟨w.heap.size,8,none⟩ = some (.slice la t.links.length lc):=cell_blk hA rfl
             have a9:W2.cell? ⟨w.heap.size,9,none⟩ = some (.slice da t.data.length dc):=cell_blk hA rfl
             have b2:W2.cell? ⟨w.heap.size + 1,2,none⟩ = some (.int .i64 s.df):=cell_blk hB rfl
             have b3:W2.cell? ⟨w.heap.size + 1,3,none⟩ = some (vL):=cell_blk hB rfl
             have b4:W2.cell? ⟨w.heap.size + 1,4,none⟩ = some (.int .i64 s.cdf):=cell_blk hB rfl
             have b5:W2.cell? ⟨w.heap.size + 1,5,none⟩ = some (vC):=cell_blk hB rfl
             have b8:W2.cell? ⟨w.heap.size + 1,8,none⟩ = some (.slice ma s.links.length mc):=cell_blk hB rfl
             have b9:W2.cell? ⟨w.heap.size + 1,9,none⟩ = some (.slice fa s.data.length fc):=cell_blk hB rfl
             have hno:Hid (¬ t = s):=fun h=>not_of_false q1 (by rw [h];exact ⟨rfl,rfl⟩)
             clear q1
             go_wp2
             go_ret
             exact ans_no hno.out nW
            | true =>
             have y2:Hid _:=q1.1 rfl
             clear q1
             have a2:W2.cell? ⟨w.heap.size,2,none⟩ = some (.int .i64 t.df):=cell_blk hA rfl
             have a3:W2.cell? ⟨w.heap.size,3,none⟩ = some (uL):=cell_blk hA rfl
             have a4:W2.cell? ⟨w.heap.size,4,none⟩ = some (.int .i64 t.cdf):=cell_blk hA rfl
             have a5:W2.cell? ⟨w.heap.size,5,none⟩ = some (uC):=cell_blk hA rfl
             have a8:W2.cell? ⟨w.heap.size,8,none⟩ = some (.slice la t.links.length lc):=cell_blk hA rfl
             have a9:W2.cell? ⟨w.heap.size,9,none⟩ = some (.slice da t.data.length dc):=cell_blk hA rfl
             have b2:W2.cell? ⟨w.heap.size + 1,2,none⟩ = some (.int .i64 s.df):=cell_blk hB rfl
             have b3:W2.cell? ⟨w.heap.size + 1,3,none⟩ = some (vL):=cell_blk hB rfl
             have b4:W2.cell? ⟨w.heap.size + 1,4,none⟩ = some (.int .i64 s.cdf):=cell_blk hB rfl
             have b5:W2.cell? ⟨w.heap.size + 1,5,none⟩ = some (vC):=cell_blk hB rfl
             have b8:W2.cell? ⟨w.heap.size + 1,8,none⟩ = some (.slice ma s.links.length mc):=cell_blk hB rfl
             have b9:W2.cell? ⟨w.heap.size + 1,9,none⟩ = some (.slice fa s.data.length fc):=cell_blk hB rfl
             have r1:=run_string_sl (P:=Try.prog) 28 5 9 Try.underlying28 Try.underlying5 Try.underlying9 ht.d.sl
             have r2:=run_string_sl (P:=Try.prog) 28 5 9 Try.underlying28 Try.underlying5 Try.underlying9 hs.d.sl
             by_cases h10:t.data = s.data
             ·have n10:∀ w,(binOp .neq 9 (.string ⟨t.data.toArray⟩) (.string ⟨s.data.toArray⟩)).run Try.prog w = .ok (.bool false) w:=fun w=>by rw [run_neq_str,h10];simp
              have n10b:(t.data == s.data) = true:=by simp [h10]
              have n10c:(t.data != s.data) = false:=by simp [h10]
              replace h10:Hid (t.data = s.data):=h10
              by_cases h11:t.links.length = s.links.length
              ·have n11:(((t.links.length:Nat):Int) != ((s.links.length:Nat):Int)) = false:=by simp [h11]
               have hl':s.links.length ≤ t.links.length:=by omega
               have hl'':t.links.length ≤ s.links.length:=by omega
               replace h11:Hid (t.links.length = s.links.length):=h11
               go_upto_region 5 with fail
               clear n10 n10b n10c n11 r1 r2 a2 b2 a3 b3 a4 b4 a5 b5 a9 b9
               go_wp2
               clear a8 b8
               go_loopw [109] (fun kv wr=>∃ k:Nat,k ≤ t.links.length∧kv = .int .i64 k∧Hid (t.links.take k = s.links.take k)∧Nw W2 wr) (fun kv _=>t.links.length - (intOf kv).toNat)
               case atStart=>exact ⟨0,Nat.zero_le _,rfl,rfl,nw_refl _⟩
               case round =>
                obtain ⟨k,hk,rfl,htk,hw⟩:=hrel
                by_cases hlt:k < t.links.length
                ·obtain ⟨q,off,e1,_,d1,d2⟩:=(ht.k.nw hw).get k hlt
                 obtain ⟨q',off',e2,_,d3,d4⟩:=(hs.k.nw hw).get k (by omega)
                 subst e1 e2
                 have hltb:k < s.links.length:=by omega
                 have hstep:Hid (t.links[k] = s.links[k]→t.links.take (k + 1) = s.links.take (k + 1)):=fun he=>take_eq_succ htk.out hlt hltb he
                 have hbad:Hid (t.links[k] ≠ s.links[k]→¬ t = s):=fun he hx=>he (by subst hx;rfl)
                 generalize t.links[k] = x at *
                 generalize s.links[k] = y at *
                 have hne:=run_neq_ls x y
                 have D1:∀ z,(wr.drewN z).cell? ⟨q,off + k * 2,none⟩ = some (.int .u64 x.1):=fun z=>d1
                 have D2:∀ z,(wr.drewN z).cell? ⟨q,off + k * 2 + 1,none⟩ = some (.int .i64 x.2):=fun z=>d2
                 have D3:∀ z,(wr.drewN z).cell? ⟨q',off' + k * 2,none⟩ = some (.int .u64 y.1):=fun z=>d3
                 have D4:∀ z,(wr.drewN z).cell? ⟨q',off' + k * 2 + 1,none⟩ = some (.int .i64 y.2):=fun z=>d4
                 have hAr:=(hw.block _ (heap_lt hA) (fun h=>h)).trans hA
                 have hBr:=(hw.block _ (heap_lt hB) (fun h=>h)).trans hB
                 have A1:∀ z,(wr.drewN z).cell? ⟨w.heap.size,8,none⟩ = some (.slice (some ⟨q,off,none⟩) t.links.length lc):=fun z=>cell_blk (w:=wr.drewN z) hAr rfl
                 have B1:∀ z,(wr.drewN z).cell? ⟨w.heap.size + 1,8,none⟩ = some (.slice (some ⟨q',off',none⟩) s.links.length mc):=fun z=>cell_blk (w:=wr.drewN z) hBr rfl
                 clear d1 d2 d3 d4 hAr hBr
                 by_cases hxy:x = y
                 ·have hb2:(!(x.1 == y.1 && x.2 == y.2)) = false:=by simp [hxy]
                  rw [hb2] at hne
                  have ht':Hid (t.links.take (k + 1) = s.links.take (k + 1)):=hstep.out hxy
                  clear hxy hstep hbad hb2
                  go_wp2
                  go_quiet (fail)
                  go_wp2
                  go_roundw
                  case rel=>exact ⟨k + 1,by omega,by go_num,ht',nw_trans hw (nw_drewN wr _)⟩
                  case measure=>simp [intOf];omega
                 ·have hb2:(!(x.1 == y.1 && x.2 == y.2)) = true:=by
                   by_cases h1:x.1 = y.1
                   ·have h2:¬ x.2 = y.2:=fun h2=>hxy (Prod.ext h1 h2)
                    simp [h1,h2]
                   ·simp [h1]
                  rw [hb2] at hne
                  have hbad':Hid (¬ t = s):=hbad.out hxy
                  clear hxy hstep hbad hb2
                  go_wp2
                  go_quiet (fail)
                  go_wp2
                  go_ret
                  exact ans_no hbad'.out (nw_trans nW (nw_trans hw (nw_drewN wr _)))
                ·have hfin:Hid (t.links = s.links):=by
                  have h1:=htk.out
                  have h2:=h11.out
                  rw [List.take_of_length_le (by omega),List.take_of_length_le (by omega)] at h1
                  exact h1
                 have hyes:Hid (t = s):=rsame_of h0.out h1.out h2.out h3.out h4.out h5.out h6.out h7.out h8.out h9.out y1.out.1 y1.out.2 y2.out.1 y2.out.2 h10.out hfin.out
                 clear htk
                 go_wp2
                 go_ret
                 exact ans_yes hyes.out (nw_trans nW hw)
              ·have n11:(((t.links.length:Nat):Int) != ((s.links.length:Nat):Int)) = true:=by simp;omega
               have hno:Hid (¬ t = s):=fun h=>h11 (by rw [h])
               clear h11
               go_wp2
               go_ret
               exact ans_no hno.out nW
             ·have n10:∀ w,(binOp .neq 9 (.string ⟨t.data.toArray⟩) (.string ⟨s.data.toArray⟩)).run Try.prog w = .ok (.bool true) w:=fun w=>by rw [run_neq_str,neq_bytes h10]
              have n10b:(t.data == s.data) = false:=by simp [h10]
              have n10c:(t.data != s.data) = true:=by simp [h10]
              have hno:Hid (¬ t = s):=fun h=>h10 (by rw [h])
              clear h10
              go_wp2
              go_ret
              exact ans_no hno.out nW
          ·have n9:∀ w,(binOp .neq 32 (slV t) (slV s)).run Try.prog w = .ok (.bool true) w:=fun w=>by rw [run_neq8];simp [h9]
           have hno:Hid (¬ t = s):=fun h=>h9 (by subst h;simp [e8])
           clear h9 ht hs
           refine wp_region_list ?_
           simp only [List.toList_toArray,List.append_eq,List.cons_append,List.nil_append]
           refine nd_quiet ?_ rfl ?_ ?_
           rotate_left
           ·go_simp;rfl
           simp only [pL,List.set]
           refine nd_quiet ?_ rfl ?_ ?_
           rotate_left
           ·have g0:W.cell? ⟨w.heap.size,0,none⟩ = some (.int .u64 t.id):=cell_blk hA rfl;go_simp;rfl
           simp only [pL,List.set]
           refine nd_quiet ?_ rfl ?_ ?_
           rotate_left
           ·go_simp;rfl
           simp only [pL,List.set]
           refine nd_quiet ?_ rfl ?_ ?_
           rotate_left
           ·have g0:W.cell? ⟨w.heap.size + 1,0,none⟩ = some (.int .u64 s.id):=cell_blk hB rfl;go_simp;rfl
           simp only [pL,List.set]
           refine nd_quiet ?_ rfl ?_ ?_
           rotate_left
           ·go_simp;rfl
           simp only [pL,List.set]
           refine nd_quiet ?_ rfl ?_ ?_
           rotate_left
           ·go_simp;rfl
           simp only [pL,List.set]
           refine nd_quiet ?_ rfl ?_ ?_
           rotate_left
           ·go_simp;rfl
           simp only [pL,List.set]
           refine nd_quiet ?_ rfl ?_ ?_
           rotate_left
           ·have g0:W.cell? ⟨w.heap.size,1,none⟩ = some (.int .i64 t.kind):=cell_blk hA rfl;go_simp;rfl
           simp only [pL,List.set]
           refine nd_quiet ?_ rfl ?_ ?_
           rotate_left
           ·go_simp;rfl
           simp only [pL,List.set]
           refine nd_quiet ?_ rfl ?_ ?_
           rotate_left
           ·have g0:W.cell? ⟨w.heap.size + 1,1,none⟩ = some (.int .i64 s.kind):=cell_blk hB rfl;go_simp;rfl
           simp only [pL,List.set]
           refine nd_quiet ?_ rfl ?_ ?_
           rotate_left
           ·go_simp;rfl
           simp only [pL,List.set]
           refine nd_quiet ?_ rfl ?_ ?_
           rotate_left
           ·go_simp;rfl
           simp only [pL,List.set]
           refine nd_quiet ?_ rfl ?_ ?_
           rotate_left
           ·go_simp;rfl
           simp only [pL,List.set]
           refine nd_quiet ?_ rfl ?_ ?_
           rotate_left
           ·go_simp;rfl
           simp only [pL,List.set]
           refine nd_quiet ?_ rfl ?_ ?_
           rotate_left
           ·have g0:W.cell? ⟨w.heap.size,6,none⟩ = some (.int .i64 t.quota):=cell_blk hA rfl;go_simp;rfl
           simp only [pL,List.set]
           refine nd_quiet ?_ rfl ?_ ?_
           rotate_left
           ·go_simp;rfl
           simp only [pL,List.set]
           refine nd_quiet ?_ rfl ?_ ?_
           rotate_left
           ·have g0:W.cell? ⟨w.heap.size + 1,6,none⟩ = some (.int .i64 s.quota):=cell_blk hB rfl;go_simp;rfl
           simp only [pL,List.set]
           refine nd_quiet ?_ rfl ?_ ?_
           rotate_left
           ·go_simp;rfl
           simp only [pL,List.set]
           refine nd_quiet ?_ rfl ?_ ?_
           rotate_left
           ·go_simp;rfl
           simp only [pL,List.set]
           refine nd_quiet ?_ rfl ?_ ?_
           rotate_left
           ·go_simp;rfl
           simp only [pL,List.set]
           refine nd_quiet ?_ rfl ?_ ?_
           rotate_left
           ·go_simp;rfl
           simp only [pL,List.set]
           refine nd_quiet ?_ rfl ?_ ?_
           rotate_left
           ·have g0:W.cell? ⟨w.heap.size,7,none⟩ = some (.int .i64 t.next):=cell_blk hA rfl;go_simp;rfl
           simp only [pL,List.set]
           refine nd_quiet ?_ rfl ?_ ?_
           rotate_left
           ·go_simp;rfl
           simp only [pL,List.set]
           refine nd_quiet ?_ rfl ?_ ?_
           rotate_left
           ·have g0:W.cell? ⟨w.heap.size + 1,7,none⟩ = some (.int .i64 s.next):=cell_blk hB rfl;go_simp;rfl
           simp only [pL,List.set]
           refine nd_quiet ?_ rfl ?_ ?_
           rotate_left
           ·go_simp;rfl
           simp only [pL,List.set]
           refine nd_quiet ?_ rfl ?_ ?_
           rotate_left
           ·go_simp;rfl
           simp only [pL,List.set]
           refine nd_quiet ?_ rfl ?_ ?_
           rotate_left
           ·go_simp;rfl
           simp only [pL,List.set]
           refine nd_quiet ?_ rfl ?_ ?_
           rotate_left
           ·go_simp;rfl
           simp only [pL,List.set]
           refine nd_quiet ?_ rfl ?_ ?_
           rotate_left
           ·refine (run_load_rg _ W rfl (w.heap.size) rfl hA).trans ?_;rfl
           simp only [pL,List.set]
           refine nd_quiet ?_ rfl ?_ ?_
           rotate_left
           ·go_simp;rfl
           simp only [pL,List.set]
           refine nd_quiet ?_ rfl ?_ ?_
           rotate_left
           ·refine (run_load_rg _ W rfl (w.heap.size + 1) rfl hB).trans ?_;rfl
           simp only [pL,List.set]
           refine nd_quiet ?_ rfl ?_ ?_
           rotate_left
           ·go_simp;rfl
           simp only [pL,List.set]
           refine nd_quiet ?_ rfl ?_ ?_
           rotate_left
           ·go_simp;rfl
           simp only [pL,List.set]
           refine nd_quiet ?_ rfl ?_ ?_
           rotate_left
           ·go_simp;rfl
           simp only [pL,List.set]
           refine nd_quiet ?_ rfl ?_ ?_
           rotate_left
           ·go_simp;rfl
           simp only [pL,List.set]
           refine nd_quiet ?_ rfl ?_ ?_
           rotate_left
           ·have g0:W.cell? ⟨w.heap.size,14,none⟩ = some (.int .i64 t.minted):=cell_blk hA rfl;go_simp;rfl
           simp only [pL,List.set]
           refine nd_quiet ?_ rfl ?_ ?_
           rotate_left
           ·go_simp;rfl
           simp only [pL,List.set]
           refine nd_quiet ?_ rfl ?_ ?_
           rotate_left
           ·have g0:W.cell? ⟨w.heap.size + 1,14,none⟩ = some (.int .i64 s.minted):=cell_blk hB rfl;go_simp;rfl
           simp only [pL,List.set]
           refine nd_quiet ?_ rfl ?_ ?_
           rotate_left
           ·go_simp;rfl
           simp only [pL,List.set]
           refine nd_quiet ?_ rfl ?_ ?_
           rotate_left
           ·go_simp;rfl
           simp only [pL,List.set]
           refine nd_quiet ?_ rfl ?_ ?_
           rotate_left
           ·go_simp;rfl
           simp only [pL,List.set]
           refine nd_quiet ?_ rfl ?_ ?_
           rotate_left
           ·go_simp;rfl
           simp only [pL,List.set]
           refine nd_quiet ?_ rfl ?_ ?_
           rotate_left
           ·have g0:W.cell? ⟨w.heap.size,15,none⟩ = some (.int .i64 t.boot):=cell_blk hA rfl;go_simp;rfl
           simp only [pL,List.set]
           refine nd_quiet ?_ rfl ?_ ?_
           rotate_left
           ·go_simp;rfl
           simp only [pL,List.set]
           refine nd_quiet ?_ rfl ?_ ?_
           rotate_left
           ·have g0:W.cell? ⟨w.heap.size + 1,15,none⟩ = some (.int .i64 s.boot):=cell_blk hB rfl;go_simp;rfl
           simp only [pL,List.set]
           refine nd_quiet ?_ rfl ?_ ?_
           rotate_left
           ·go_simp;rfl
           simp only [pL,List.set]
           refine nd_quiet ?_ rfl ?_ ?_
           rotate_left
           ·go_simp;rfl
           simp only [pL,List.set]
           refine nd_quiet ?_ rfl ?_ ?_
           rotate_left
           ·go_simp;rfl
           simp only [pL,List.set]
           refine nd_quiet ?_ rfl ?_ ?_
           rotate_left
           ·go_simp;rfl
           simp only [pL,List.set]
           refine nd_quiet ?_ rfl ?_ ?_
           rotate_left
           ·have g0:W.cell? ⟨w.heap.size,16,none⟩ = some (.bool t.halted):=cell_blk hA rfl;go_simp;rfl
           simp only [pL,List.set]
           refine nd_quiet ?_ rfl ?_ ?_
           rotate_left
           ·go_simp;rfl
           simp only [pL,List.set]
           refine nd_quiet ?_ rfl ?_ ?_
           rotate_left
           ·have g0:W.cell? ⟨w.heap.size + 1,16,none⟩ = some (.bool s.halted):=cell_blk hB rfl;go_simp;rfl
           simp only [pL,List.set]
           refine nd_quiet ?_ rfl ?_ ?_
           rotate_left
           ·go_simp;rfl
           simp only [pL,List.set]
           refine nd_quiet ?_ rfl ?_ ?_
           rotate_left
           ·go_simp;rfl
           simp only [pL,List.set]
           refine nd_quiet ?_ rfl ?_ ?_
           rotate_left
           ·go_simp;rfl
           simp only [pL,List.set]
           refine nd_quiet ?_ rfl ?_ ?_
           rotate_left
           ·go_simp;rfl
           simp only [pL,List.set]
           refine nd_quiet ?_ rfl ?_ ?_
           rotate_left
           ·have g0:W.cell? ⟨w.heap.size,17,none⟩ = some (.int .u64 t.value):=cell_blk hA rfl;go_simp;rfl
           simp only [pL,List.set]
           refine nd_quiet ?_ rfl ?_ ?_
           rotate_left
           ·go_simp;rfl
           simp only [pL,List.set]
           refine nd_quiet ?_ rfl ?_ ?_
           rotate_left
           ·have g0:W.cell? ⟨w.heap.size + 1,17,none⟩ = some (.int .u64 s.value):=cell_blk hB rfl;go_simp;rfl
           simp only [pL,List.set]
           refine nd_quiet ?_ rfl ?_ ?_
           rotate_left
           ·go_simp;rfl
           simp only [pL,List.set]
           refine nd_quiet ?_ rfl ?_ ?_
           rotate_left
           ·go_simp;rfl
           simp only [pL,List.set]
           refine nd_quiet ?_ rfl ?_ ?_
           rotate_left
           ·go_simp;rfl
           simp only [pL,List.set]
           refine nd_quiet ?_ rfl ?_ ?_
           rotate_left
           ·go_simp;rfl
           simp only [pL,List.set]
           refine nd_quiet ?_ rfl ?_ ?_
           rotate_left
           ·refine (run_load_sl _ W rfl (w.heap.size) rfl hA).trans ?_;rfl
           simp only [pL,List.set]
           refine nd_quiet ?_ rfl ?_ ?_
           rotate_left
           ·go_simp;rfl
           simp only [pL,List.set]
           refine nd_quiet ?_ rfl ?_ ?_
           rotate_left
           ·refine (run_load_sl _ W rfl (w.heap.size + 1) rfl hB).trans ?_;rfl
           simp only [pL,List.set]
           refine nd_quiet ?_ rfl ?_ ?_
           rotate_left
           ·go_simp;rfl
           simp only [pL,List.set]
           refine nd_quiet ?_ rfl ?_ ?_
           rotate_left
           ·go_simp;rfl
           simp only [pL,List.set]
           go_wp2
           go_ret
           exact ans_no hno.out nW
         ·have n8:(t.value != s.value) = true:=by simp [h8]
          have hno:Hid (¬ t = s):=fun h=>h8 (by rw [h])
          clear h8 ht hs
          refine wp_region_list ?_
          simp only [List.toList_toArray,List.append_eq,List.cons_append,List.nil_append]
          refine nd_quiet ?_ rfl ?_ ?_
          rotate_left
          ·go_simp;rfl
          simp only [pL,List.set]
          refine nd_quiet ?_ rfl ?_ ?_
          rotate_left
          ·have g0:W.cell? ⟨w.heap.size,0,none⟩ = some (.int .u64 t.id):=cell_blk hA rfl;go_simp;rfl
          simp only [pL,List.set]
          refine nd_quiet ?_ rfl ?_ ?_
          rotate_left
          ·go_simp;rfl
          simp only [pL,List.set]
          refine nd_quiet ?_ rfl ?_ ?_
          rotate_left
          ·have g0:W.cell? ⟨w.heap.size + 1,0,none⟩ = some (.int .u64 s.id):=cell_blk hB rfl;go_simp;rfl
          simp only [pL,List.set]
          refine nd_quiet ?_ rfl ?_ ?_
          rotate_left
          ·go_simp;rfl
          simp only [pL,List.set]
          refine nd_quiet ?_ rfl ?_ ?_
          rotate_left
          ·go_simp;rfl
          simp only [pL,List.set]
          refine nd_quiet ?_ rfl ?_ ?_
          rotate_left
          ·go_simp;rfl
          simp only [pL,List.set]
          refine nd_quiet ?_ rfl ?_ ?_
          rotate_left
          ·have g0:W.cell? ⟨w.heap.size,1,none⟩ = some (.int .i64 t.kind):=cell_blk hA rfl;go_simp;rfl
          simp only [pL,List.set]
          refine nd_quiet ?_ rfl ?_ ?_
          rotate_left
          ·go_simp;rfl
          simp only [pL,List.set]
          refine nd_quiet ?_ rfl ?_ ?_
          rotate_left
          ·have g0:W.cell? ⟨w.heap.size + 1,1,none⟩ = some (.int .i64 s.kind):=cell_blk hB rfl;go_simp;rfl
          simp only [pL,List.set]
          refine nd_quiet ?_ rfl ?_ ?_
          rotate_left
          ·go_simp;rfl
          simp only [pL,List.set]
          refine nd_quiet ?_ rfl ?_ ?_
          rotate_left
          ·go_simp;rfl
          simp only [pL,List.set]
          refine nd_quiet ?_ rfl ?_ ?_
          rotate_left
          ·go_simp;rfl
          simp only [pL,List.set]
          refine nd_quiet ?_ rfl ?_ ?_
          rotate_left
          ·go_simp;rfl
          simp only [pL,List.set]
          refine nd_quiet ?_ rfl ?_ ?_
          rotate_left
          ·have g0:W.cell? ⟨w.heap.size,6,none⟩ = some (.int .i64 t.quota):=cell_blk hA rfl;go_simp;rfl
          simp only [pL,List.set]
          refine nd_quiet ?_ rfl ?_ ?_
          rotate_left
          ·go_simp;rfl
          simp only [pL,List.set]
          refine nd_quiet ?_ rfl ?_ ?_
          rotate_left
          ·have g0:W.cell? ⟨w.heap.size + 1,6,none⟩ = some (.int .i64 s.quota):=cell_blk hB rfl;go_simp;rfl
          simp only [pL,List.set]
          refine nd_quiet ?_ rfl ?_ ?_
          rotate_left
          ·go_simp;rfl
          simp only [pL,List.set]
          refine nd_quiet ?_ rfl ?_ ?_
          rotate_left
          ·go_simp;rfl
          simp only [pL,List.set]
          refine nd_quiet ?_ rfl ?_ ?_
          rotate_left
          ·go_simp;rfl
          simp only [pL,List.set]
          refine nd_quiet ?_ rfl ?_ ?_
          rotate_left
          ·go_simp;rfl
          simp only [pL,List.set]
          refine nd_quiet ?_ rfl ?_ ?_
          rotate_left
          ·have g0:W.cell? ⟨w.heap.size,7,none⟩ = some (.int .i64 t.next):=cell_blk hA rfl;go_simp;rfl
          simp only [pL,List.set]
          refine nd_quiet ?_ rfl ?_ ?_
          rotate_left
          ·go_simp;rfl
          simp only [pL,List.set]
          refine nd_quiet ?_ rfl ?_ ?_
          rotate_left
          ·have g0:W.cell? ⟨w.heap.size + 1,7,none⟩ = some (.int .i64 s.next):=cell_blk hB rfl;go_simp;rfl
          simp only [pL,List.set]
          refine nd_quiet ?_ rfl ?_ ?_
          rotate_left
          ·go_simp;rfl
          simp only [pL,List.set]
          refine nd_quiet ?_ rfl ?_ ?_
          rotate_left
          ·go_simp;rfl
          simp only [pL,List.set]
          refine nd_quiet ?_ rfl ?_ ?_
          rotate_left
          ·go_simp;rfl
          simp only [pL,List.set]
          refine nd_quiet ?_ rfl ?_ ?_
          rotate_left
          ·go_simp;rfl
          simp only [pL,List.set]
          refine nd_quiet ?_ rfl ?_ ?_
          rotate_left
          ·refine (run_load_rg _ W rfl (w.heap.size) rfl hA).trans ?_;rfl
          simp only [pL,List.set]
          refine nd_quiet ?_ rfl ?_ ?_
          rotate_left
          ·go_simp;rfl
          simp only [pL,List.set]
          refine nd_quiet ?_ rfl ?_ ?_
          rotate_left
          ·refine (run_load_rg _ W rfl (w.heap.size + 1) rfl hB).trans ?_;rfl
          simp only [pL,List.set]
          refine nd_quiet ?_ rfl ?_ ?_
          rotate_left
          ·go_simp;rfl
          simp only [pL,List.set]
          refine nd_quiet ?_ rfl ?_ ?_
          rotate_left
          ·go_simp;rfl
          simp only [pL,List.set]
          refine nd_quiet ?_ rfl ?_ ?_
          rotate_left
          ·go_simp;rfl
          simp only [pL,List.set]
          refine nd_quiet ?_ rfl ?_ ?_
          rotate_left
          ·go_simp;rfl
          simp only [pL,List.set]
          refine nd_quiet ?_ rfl ?_ ?_
          rotate_left
          ·have g0:W.cell? ⟨w.heap.size,14,none⟩ = some (.int .i64 t.minted):=cell_blk hA rfl;go_simp;rfl
          simp only [pL,List.set]
          refine nd_quiet ?_ rfl ?_ ?_
          rotate_left
          ·go_simp;rfl
          simp only [pL,List.set]
          refine nd_quiet ?_ rfl ?_ ?_
          rotate_left
          ·have g0:W.cell? ⟨w.heap.size + 1,14,none⟩ = some (.int .i64 s.minted):=cell_blk hB rfl;go_simp;rfl
          simp only [pL,List.set]
          refine nd_quiet ?_ rfl ?_ ?_
          rotate_left
          ·go_simp;rfl
          simp only [pL,List.set]
          refine nd_quiet ?_ rfl ?_ ?_
          rotate_left
          ·go_simp;rfl
          simp only [pL,List.set]
          refine nd_quiet ?_ rfl ?_ ?_
          rotate_left
          ·go_simp;rfl
          simp only [pL,List.set]
          refine nd_quiet ?_ rfl ?_ ?_
          rotate_left
          ·go_simp;rfl
          simp only [pL,List.set]
          refine nd_quiet ?_ rfl ?_ ?_
          rotate_left
          ·have g0:W.cell? ⟨w.heap.size,15,none⟩ = some (.int .i64 t.boot):=cell_blk hA rfl;go_simp;rfl
          simp only [pL,List.set]
          refine nd_quiet ?_ rfl ?_ ?_
          rotate_left
          ·go_simp;rfl
          simp only [pL,List.set]
          refine nd_quiet ?_ rfl ?_ ?_
          rotate_left
          ·have g0:W.cell? ⟨w.heap.size + 1,15,none⟩ = some (.int .i64 s.boot):=cell_blk hB rfl;go_simp;rfl
          simp only [pL,List.set]
          refine nd_quiet ?_ rfl ?_ ?_
          rotate_left
          ·go_simp;rfl
          simp only [pL,List.set]
          refine nd_quiet ?_ rfl ?_ ?_
          rotate_left
          ·go_simp;rfl
          simp only [pL,List.set]
          refine nd_quiet ?_ rfl ?_ ?_
          rotate_left
          ·go_simp;rfl
          simp only [pL,List.set]
          refine nd_quiet ?_ rfl ?_ ?_
          rotate_left
          ·go_simp;rfl
          simp only [pL,List.set]
          refine nd_quiet ?_ rfl ?_ ?_
          rotate_left
          ·have g0:W.cell? ⟨w.heap.size,16,none⟩ = some (.bool t.halted):=cell_blk hA rfl;go_simp;rfl
          simp only [pL,List.set]
          refine nd_quiet ?_ rfl ?_ ?_
          rotate_left
          ·go_simp;rfl
          simp only [pL,List.set]
          refine nd_quiet ?_ rfl ?_ ?_
          rotate_left
          ·have g0:W.cell? ⟨w.heap.size + 1,16,none⟩ = some (.bool s.halted):=cell_blk hB rfl;go_simp;rfl
          simp only [pL,List.set]
          refine nd_quiet ?_ rfl ?_ ?_
          rotate_left
          ·go_simp;rfl
          simp only [pL,List.set]
          refine nd_quiet ?_ rfl ?_ ?_
          rotate_left
          ·go_simp;rfl
          simp only [pL,List.set]
          refine nd_quiet ?_ rfl ?_ ?_
          rotate_left
          ·go_simp;rfl
          simp only [pL,List.set]
          refine nd_quiet ?_ rfl ?_ ?_
          rotate_left
          ·go_simp;rfl
          simp only [pL,List.set]
          refine nd_quiet ?_ rfl ?_ ?_
          rotate_left
          ·have g0:W.cell? ⟨w.heap.size,17,none⟩ = some (.int .u64 t.value):=cell_blk hA rfl;go_simp;rfl
          simp only [pL,List.set]
          refine nd_quiet ?_ rfl ?_ ?_
          rotate_left
          ·go_simp;rfl
          simp only [pL,List.set]
          refine nd_quiet ?_ rfl ?_ ?_
          rotate_left
          ·have g0:W.cell? ⟨w.heap.size + 1,17,none⟩ = some (.int .u64 s.value):=cell_blk hB rfl;go_simp;rfl
          simp only [pL,List.set]
          refine nd_quiet ?_ rfl ?_ ?_
          rotate_left
          ·go_simp;rfl
          simp only [pL,List.set]
          refine nd_quiet ?_ rfl ?_ ?_
          rotate_left
          ·go_simp;rfl
          simp only [pL,List.set]
          refine nd_quiet ?_ rfl ?_ ?_
          rotate_left
          ·go_simp;rfl
          simp only [pL,List.set]
          refine nd_skip rfl ?_
          simp only [pL,List.set]
          refine nd_skip rfl ?_
          simp only [pL,List.set]
          refine nd_skip rfl ?_
          simp only [pL,List.set]
          refine nd_skip rfl ?_
          simp only [pL,List.set]
          refine nd_skip rfl ?_
          simp only [pL,List.set]
          refine nd_quiet ?_ rfl ?_ ?_
          rotate_left
          ·go_simp;rfl
          simp only [pL,List.set]
          go_wp2
          go_ret
          exact ans_no hno.out nW
        ·have n7:∀ w,(binOp .neq 4 (.bool t.halted) (.bool s.halted)).run Try.prog w = .ok (.bool true) w:=fun w=>by rw [run_neq_bool];simp [h7]
         have hno:Hid (¬ t = s):=fun h=>h7 (by rw [h])
         clear h7 ht hs
         refine wp_region_list ?_
         simp only [List.toList_toArray,List.append_eq,List.cons_append,List.nil_append]
         refine nd_quiet ?_ rfl ?_ ?_
         rotate_left
         ·go_simp;rfl
         simp only [pL,List.set]
         refine nd_quiet ?_ rfl ?_ ?_
         rotate_left
         ·have g0:W.cell? ⟨w.heap.size,0,none⟩ = some (.int .u64 t.id):=cell_blk hA rfl;go_simp;rfl
         simp only [pL,List.set]
         refine nd_quiet ?_ rfl ?_ ?_
         rotate_left
         ·go_simp;rfl
         simp only [pL,List.set]
         refine nd_quiet ?_ rfl ?_ ?_
         rotate_left
         ·have g0:W.cell? ⟨w.heap.size + 1,0,none⟩ = some (.int .u64 s.id):=cell_blk hB rfl;go_simp;rfl
         simp only [pL,List.set]
         refine nd_quiet ?_ rfl ?_ ?_
         rotate_left
         ·go_simp;rfl
         simp only [pL,List.set]
         refine nd_quiet ?_ rfl ?_ ?_
         rotate_left
         ·go_simp;rfl
         simp only [pL,List.set]
         refine nd_quiet ?_ rfl ?_ ?_
         rotate_left
         ·go_simp;rfl
         simp only [pL,List.set]
         refine nd_quiet ?_ rfl ?_ ?_
         rotate_left
         ·have g0:W.cell? ⟨w.heap.size,1,none⟩ = some (.int .i64 t.kind):=cell_blk hA rfl;go_simp;rfl
         simp only [pL,List.set]
         refine nd_quiet ?_ rfl ?_ ?_
         rotate_left
         ·go_simp;rfl
         simp only [pL,List.set]
         refine nd_quiet ?_ rfl ?_ ?_
         rotate_left
         ·have g0:W.cell? ⟨w.heap.size + 1,1,none⟩ = some (.int .i64 s.kind):=cell_blk hB rfl;go_simp;rfl
         simp only [pL,List.set]
         refine nd_quiet ?_ rfl ?_ ?_
         rotate_left
         ·go_simp;rfl
         simp only [pL,List.set]
         refine nd_quiet ?_ rfl ?_ ?_
         rotate_left
         ·go_simp;rfl
         simp only [pL,List.set]
         refine nd_quiet ?_ rfl ?_ ?_
         rotate_left
         ·go_simp;rfl
         simp only [pL,List.set]
         refine nd_quiet ?_ rfl ?_ ?_
         rotate_left
         ·go_simp;rfl
         simp only [pL,List.set]
         refine nd_quiet ?_ rfl ?_ ?_
         rotate_left
         ·have g0:W.cell? ⟨w.heap.size,6,none⟩ = some (.int .i64 t.quota):=cell_blk hA rfl;go_simp;rfl
         simp only [pL,List.set]
         refine nd_quiet ?_ rfl ?_ ?_
         rotate_left
         ·go_simp;rfl
         simp only [pL,List.set]
         refine nd_quiet ?_ rfl ?_ ?_
         rotate_left
         ·have g0:W.cell? ⟨w.heap.size + 1,6,none⟩ = some (.int .i64 s.quota):=cell_blk hB rfl;go_simp;rfl
         simp only [pL,List.set]
         refine nd_quiet ?_ rfl ?_ ?_
         rotate_left
         ·go_simp;rfl
         simp only [pL,List.set]
         refine nd_quiet ?_ rfl ?_ ?_
         rotate_left
         ·go_simp;rfl
         simp only [pL,List.set]
         refine nd_quiet ?_ rfl ?_ ?_
         rotate_left
         ·go_simp;rfl
         simp only [pL,List.set]
         refine nd_quiet ?_ rfl ?_ ?_
         rotate_left
         ·go_simp;rfl
         simp only [pL,List.set]
         refine nd_quiet ?_ rfl ?_ ?_
         rotate_left
         ·have g0:W.cell? ⟨w.heap.size,7,none⟩ = some (.int .i64 t.next):=cell_blk hA rfl;go_simp;rfl
         simp only [pL,List.set]
         refine nd_quiet ?_ rfl ?_ ?_
         rotate_left
         ·go_simp;rfl
         simp only [pL,List.set]
         refine nd_quiet ?_ rfl ?_ ?_
         rotate_left
         ·have g0:W.cell? ⟨w.heap.size + 1,7,none⟩ = some (.int .i64 s.next):=cell_blk hB rfl;go_simp;rfl
         simp only [pL,List.set]
         refine nd_quiet ?_ rfl ?_ ?_
         rotate_left
         ·go_simp;rfl
         simp only [pL,List.set]
         refine nd_quiet ?_ rfl ?_ ?_
         rotate_left
         ·go_simp;rfl
         simp only [pL,List.set]
         refine nd_quiet ?_ rfl ?_ ?_
         rotate_left
         ·go_simp;rfl
         simp only [pL,List.set]
         refine nd_quiet ?_ rfl ?_ ?_
         rotate_left
         ·go_simp;rfl
         simp only [pL,List.set]
         refine nd_quiet ?_ rfl ?_ ?_
         rotate_left
         ·refine (run_load_rg _ W rfl (w.heap.size) rfl hA).trans ?_;rfl
         simp only [pL,List.set]
         refine nd_quiet ?_ rfl ?_ ?_
         rotate_left
         ·go_simp;rfl
         simp only [pL,List.set]
         refine nd_quiet ?_ rfl ?_ ?_
         rotate_left
         ·refine (run_load_rg _ W rfl (w.heap.size + 1) rfl hB).trans ?_;rfl
         simp only [pL,List.set]
         refine nd_quiet ?_ rfl ?_ ?_
         rotate_left
         ·go_simp;rfl
         simp only [pL,List.set]
         refine nd_quiet ?_ rfl ?_ ?_
         rotate_left
         ·go_simp;rfl
         simp only [pL,List.set]
         refine nd_quiet ?_ rfl ?_ ?_
         rotate_left
         ·go_simp;rfl
         simp only [pL,List.set]
         refine nd_quiet ?_ rfl ?_ ?_
         rotate_left
         ·go_simp;rfl
         simp only [pL,List.set]
         refine nd_quiet ?_ rfl ?_ ?_
         rotate_left
         ·have g0:W.cell? ⟨w.heap.size,14,none⟩ = some (.int .i64 t.minted):=cell_blk hA rfl;go_simp;rfl
         simp only [pL,List.set]
         refine nd_quiet ?_ rfl ?_ ?_
         rotate_left
         ·go_simp;rfl
         simp only [pL,List.set]
         refine nd_quiet ?_ rfl ?_ ?_
         rotate_left
         ·have g0:W.cell? ⟨w.heap.size + 1,14,none⟩ = some (.int .i64 s.minted):=cell_blk hB rfl;go_simp;rfl
         simp only [pL,List.set]
         refine nd_quiet ?_ rfl ?_ ?_
         rotate_left
         ·go_simp;rfl
         simp only [pL,List.set]
         refine nd_quiet ?_ rfl ?_ ?_
         rotate_left
         ·go_simp;rfl
         simp only [pL,List.set]
         refine nd_quiet ?_ rfl ?_ ?_
         rotate_left
         ·go_simp;rfl
         simp only [pL,List.set]
         refine nd_quiet ?_ rfl ?_ ?_
         rotate_left
         ·go_simp;rfl
         simp only [pL,List.set]
         refine nd_quiet ?_ rfl ?_ ?_
         rotate_left
         ·have g0:W.cell? ⟨w.heap.size,15,none⟩ = some (.int .i64 t.boot):=cell_blk hA rfl;go_simp;rfl
         simp only [pL,List.set]
         refine nd_quiet ?_ rfl ?_ ?_
         rotate_left
         ·go_simp;rfl
         simp only [pL,List.set]
         refine nd_quiet ?_ rfl ?_ ?_
         rotate_left
         ·have g0:W.cell? ⟨w.heap.size + 1,15,none⟩ = some (.int .i64 s.boot):=cell_blk hB rfl;go_simp;rfl
         simp only [pL,List.set]
         refine nd_quiet ?_ rfl ?_ ?_
         rotate_left
         ·go_simp;rfl
         simp only [pL,List.set]
         refine nd_quiet ?_ rfl ?_ ?_
         rotate_left
         ·go_simp;rfl
         simp only [pL,List.set]
         refine nd_quiet ?_ rfl ?_ ?_
         rotate_left
         ·go_simp;rfl
         simp only [pL,List.set]
         refine nd_quiet ?_ rfl ?_ ?_
         rotate_left
         ·go_simp;rfl
         simp only [pL,List.set]
         refine nd_quiet ?_ rfl ?_ ?_
         rotate_left
         ·have g0:W.cell? ⟨w.heap.size,16,none⟩ = some (.bool t.halted):=cell_blk hA rfl;go_simp;rfl
         simp only [pL,List.set]
         refine nd_quiet ?_ rfl ?_ ?_
         rotate_left
         ·go_simp;rfl
         simp only [pL,List.set]
         refine nd_quiet ?_ rfl ?_ ?_
         rotate_left
         ·have g0:W.cell? ⟨w.heap.size + 1,16,none⟩ = some (.bool s.halted):=cell_blk hB rfl;go_simp;rfl
         simp only [pL,List.set]
         refine nd_quiet ?_ rfl ?_ ?_
         rotate_left
         ·go_simp;rfl
         simp only [pL,List.set]
         refine nd_quiet ?_ rfl ?_ ?_
         rotate_left
         ·go_simp;rfl
         simp only [pL,List.set]
         refine nd_quiet ?_ rfl ?_ ?_
         rotate_left
         ·go_simp;rfl
         simp only [pL,List.set]
         refine nd_skip rfl ?_
         simp only [pL,List.set]
         refine nd_skip rfl ?_
         simp only [pL,List.set]
         refine nd_skip rfl ?_
         simp only [pL,List.set]
         refine nd_skip rfl ?_
         simp only [pL,List.set]
         refine nd_skip rfl ?_
         simp only [pL,List.set]
         refine nd_quiet ?_ rfl ?_ ?_
         rotate_left
         ·go_simp;rfl
         simp only [pL,List.set]
         refine nd_quiet ?_ rfl ?_ ?_
         rotate_left
         ·go_simp;rfl
         simp only [pL,List.set]
         refine nd_skip rfl ?_
         simp only [pL,List.set]
         refine nd_skip rfl ?_
         simp only [pL,List.set]
         refine nd_skip rfl ?_
         simp only [pL,List.set]
         refine nd_skip rfl ?_
         simp only [pL,List.set]
         refine nd_skip rfl ?_
         simp only [pL,List.set]
         refine nd_quiet ?_ rfl ?_ ?_
         rotate_left
         ·go_simp;rfl
         simp only [pL,List.set]
         go_wp2
         go_ret
         exact ans_no hno.out nW
       ·have n6:(t.boot != s.boot) = true:=by simp [h6]
        have hno:Hid (¬ t = s):=fun h=>h6 (by rw [h])
        clear h6 ht hs
        refine wp_region_list ?_
        simp only [List.toList_toArray,List.append_eq,List.cons_append,List.nil_append]
        refine nd_quiet ?_ rfl ?_ ?_
        rotate_left
        ·go_simp;rfl
        simp only [pL,List.set]
        refine nd_quiet ?_ rfl ?_ ?_
        rotate_left
        ·have g0:W.cell? ⟨w.heap.size,0,none⟩ = some (.int .u64 t.id):=cell_blk hA rfl;go_simp;rfl
        simp only [pL,List.set]
        refine nd_quiet ?_ rfl ?_ ?_
        rotate_left
        ·go_simp;rfl
        simp only [pL,List.set]
        refine nd_quiet ?_ rfl ?_ ?_
        rotate_left
        ·have g0:W.cell? ⟨w.heap.size + 1,0,none⟩ = some (.int .u64 s.id):=cell_blk hB rfl;go_simp;rfl
        simp only [pL,List.set]
        refine nd_quiet ?_ rfl ?_ ?_
        rotate_left
        ·go_simp;rfl
        simp only [pL,List.set]
        refine nd_quiet ?_ rfl ?_ ?_
        rotate_left
        ·go_simp;rfl
        simp only [pL,List.set]
        refine nd_quiet ?_ rfl ?_ ?_
        rotate_left
        ·go_simp;rfl
        simp only [pL,List.set]
        refine nd_quiet ?_ rfl ?_ ?_
        rotate_left
        ·have g0:W.cell? ⟨w.heap.size,1,none⟩ = some (.int .i64 t.kind):=cell_blk hA rfl;go_simp;rfl
        simp only [pL,List.set]
        refine nd_quiet ?_ rfl ?_ ?_
        rotate_left
        ·go_simp;rfl
        simp only [pL,List.set]
        refine nd_quiet ?_ rfl ?_ ?_
        rotate_left
        ·have g0:W.cell? ⟨w.heap.size + 1,1,none⟩ = some (.int .i64 s.kind):=cell_blk hB rfl;go_simp;rfl
        simp only [pL,List.set]
        refine nd_quiet ?_ rfl ?_ ?_
        rotate_left
        ·go_simp;rfl
        simp only [pL,List.set]
        refine nd_quiet ?_ rfl ?_ ?_
        rotate_left
        ·go_simp;rfl
        simp only [pL,List.set]
        refine nd_quiet ?_ rfl ?_ ?_
        rotate_left
        ·go_simp;rfl
        simp only [pL,List.set]
        refine nd_quiet ?_ rfl ?_ ?_
        rotate_left
        ·go_simp;rfl
        simp only [pL,List.set]
        refine nd_quiet ?_ rfl ?_ ?_
        rotate_left
        ·have g0:W.cell? ⟨w.heap.size,6,none⟩ = some (.int .i64 t.quota):=cell_blk hA rfl;go_simp;rfl
        simp only [pL,List.set]
        refine nd_quiet ?_ rfl ?_ ?_
        rotate_left
        ·go_simp;rfl
        simp only [pL,List.set]
        refine nd_quiet ?_ rfl ?_ ?_
        rotate_left
        ·have g0:W.cell? ⟨w.heap.size + 1,6,none⟩ = some (.int .i64 s.quota):=cell_blk hB rfl;go_simp;rfl
        simp only [pL,List.set]
        refine nd_quiet ?_ rfl ?_ ?_
        rotate_left
        ·go_simp;rfl
        simp only [pL,List.set]
        refine nd_quiet ?_ rfl ?_ ?_
        rotate_left
        ·go_simp;rfl
        simp only [pL,List.set]
        refine nd_quiet ?_ rfl ?_ ?_
        rotate_left
        ·go_simp;rfl
        simp only [pL,List.set]
        refine nd_quiet ?_ rfl ?_ ?_
        rotate_left
        ·go_simp;rfl
        simp only [pL,List.set]
        refine nd_quiet ?_ rfl ?_ ?_
        rotate_left
        ·have g0:W.cell? ⟨w.heap.size,7,none⟩ = some (.int .i64 t.next):=cell_blk hA rfl;go_simp;rfl
        simp only [pL,List.set]
        refine nd_quiet ?_ rfl ?_ ?_
        rotate_left
        ·go_simp;rfl
        simp only [pL,List.set]
        refine nd_quiet ?_ rfl ?_ ?_
        rotate_left
        ·have g0:W.cell? ⟨w.heap.size + 1,7,none⟩ = some (.int .i64 s.next):=cell_blk hB rfl;go_simp;rfl
        simp only [pL,List.set]
        refine nd_quiet ?_ rfl ?_ ?_
        rotate_left
        ·go_simp;rfl
        simp only [pL,List.set]
        refine nd_quiet ?_ rfl ?_ ?_
        rotate_left
        ·go_simp;rfl
        simp only [pL,List.set]
        refine nd_quiet ?_ rfl ?_ ?_
        rotate_left
        ·go_simp;rfl
        simp only [pL,List.set]
        refine nd_quiet ?_ rfl ?_ ?_
        rotate_left
        ·go_simp;rfl
        simp only [pL,List.set]
        refine nd_quiet ?_ rfl ?_ ?_
        rotate_left
        ·refine (run_load_rg _ W rfl (w.heap.size) rfl hA).trans ?_;rfl
        simp only [pL,List.set]
        refine nd_quiet ?_ rfl ?_ ?_
        rotate_left
        ·go_simp;rfl
        simp only [pL,List.set]
        refine nd_quiet ?_ rfl ?_ ?_
        rotate_left
        ·refine (run_load_rg _ W rfl (w.heap.size + 1) rfl hB).trans ?_;rfl
        simp only [pL,List.set]
        refine nd_quiet ?_ rfl ?_ ?_
        rotate_left
        ·go_simp;rfl
        simp only [pL,List.set]
        refine nd_quiet ?_ rfl ?_ ?_
        rotate_left
        ·go_simp;rfl
        simp only [pL,List.set]
        refine nd_quiet ?_ rfl ?_ ?_
        rotate_left
        ·go_simp;rfl
        simp only [pL,List.set]
        refine nd_quiet ?_ rfl ?_ ?_
        rotate_left
        ·go_simp;rfl
        simp only [pL,List.set]
        refine nd_quiet ?_ rfl ?_ ?_
        rotate_left
        ·have g0:W.cell? ⟨w.heap.size,14,none⟩ = some (.int .i64 t.minted):=cell_blk hA rfl;go_simp;rfl
        simp only [pL,List.set]
        refine nd_quiet ?_ rfl ?_ ?_
        rotate_left
        ·go_simp;rfl
        simp only [pL,List.set]
        refine nd_quiet ?_ rfl ?_ ?_
        rotate_left
        ·have g0:W.cell? ⟨w.heap.size + 1,14,none⟩ = some (.int .i64 s.minted):=cell_blk hB rfl;go_simp;rfl
        simp only [pL,List.set]
        refine nd_quiet ?_ rfl ?_ ?_
        rotate_left
        ·go_simp;rfl
        simp only [pL,List.set]
        refine nd_quiet ?_ rfl ?_ ?_
        rotate_left
        ·go_simp;rfl
        simp only [pL,List.set]
        refine nd_quiet ?_ rfl ?_ ?_
        rotate_left
        ·go_simp;rfl
        simp only [pL,List.set]
        refine nd_quiet ?_ rfl ?_ ?_
        rotate_left
        ·go_simp;rfl
        simp only [pL,List.set]
        refine nd_quiet ?_ rfl ?_ ?_
        rotate_left
        ·have g0:W.cell? ⟨w.heap.size,15,none⟩ = some (.int .i64 t.boot):=cell_blk hA rfl;go_simp;rfl
        simp only [pL,List.set]
        refine nd_quiet ?_ rfl ?_ ?_
        rotate_left
        ·go_simp;rfl
        simp only [pL,List.set]
        refine nd_quiet ?_ rfl ?_ ?_
        rotate_left
        ·have g0:W.cell? ⟨w.heap.size + 1,15,none⟩ = some (.int .i64 s.boot):=cell_blk hB rfl;go_simp;rfl
        simp only [pL,List.set]
        refine nd_quiet ?_ rfl ?_ ?_
        rotate_left
        ·go_simp;rfl
        simp only [pL,List.set]
        refine nd_quiet ?_ rfl ?_ ?_
        rotate_left
        ·go_simp;rfl
        simp only [pL,List.set]
        refine nd_quiet ?_ rfl ?_ ?_
        rotate_left
        ·go_simp;rfl
        simp only [pL,List.set]
        refine nd_skip rfl ?_
        simp only [pL,List.set]
        refine nd_skip rfl ?_
        simp only [pL,List.set]
        refine nd_skip rfl ?_
        simp only [pL,List.set]
        refine nd_skip rfl ?_
        simp only [pL,List.set]
        refine nd_skip rfl ?_
        simp only [pL,List.set]
        refine nd_quiet ?_ rfl ?_ ?_
        rotate_left
        ·go_simp;rfl
        simp only [pL,List.set]
        refine nd_quiet ?_ rfl ?_ ?_
        rotate_left
        ·go_simp;rfl
        simp only [pL,List.set]
        refine nd_skip rfl ?_
        simp only [pL,List.set]
        refine nd_skip rfl ?_
        simp only [pL,List.set]
        refine nd_skip rfl ?_
        simp only [pL,List.set]
        refine nd_skip rfl ?_
        simp only [pL,List.set]
        refine nd_skip rfl ?_
        simp only [pL,List.set]
        refine nd_quiet ?_ rfl ?_ ?_
        rotate_left
        ·go_simp;rfl
        simp only [pL,List.set]
        refine nd_quiet ?_ rfl ?_ ?_
        rotate_left
        ·go_simp;rfl
        simp only [pL,List.set]
        refine nd_skip rfl ?_
        simp only [pL,List.set]
        refine nd_skip rfl ?_
        simp only [pL,List.set]
        refine nd_skip rfl ?_
        simp only [pL,List.set]
        refine nd_skip rfl ?_
        simp only [pL,List.set]
        refine nd_skip rfl ?_
        simp only [pL,List.set]
        refine nd_quiet ?_ rfl ?_ ?_
        rotate_left
        ·go_simp;rfl
        simp only [pL,List.set]
        go_wp2
        go_ret
        exact ans_no hno.out nW
      ·have n5:(t.minted != s.minted) = true:=by simp [h5]
       have hno:Hid (¬ t = s):=fun h=>h5 (by rw [h])
       clear h5 ht hs
       refine wp_region_list ?_
       simp only [List.toList_toArray,List.append_eq,List.cons_append,List.nil_append]
       refine nd_quiet ?_ rfl ?_ ?_
       rotate_left
       ·go_simp;rfl
       simp only [pL,List.set]
       refine nd_quiet ?_ rfl ?_ ?_
       rotate_left
       ·have g0:W.cell? ⟨w.heap.size,0,none⟩ = some (.int .u64 t.id):=cell_blk hA rfl;go_simp;rfl
       simp only [pL,List.set]
       refine nd_quiet ?_ rfl ?_ ?_
       rotate_left
       ·go_simp;rfl
       simp only [pL,List.set]
       refine nd_quiet ?_ rfl ?_ ?_
       rotate_left
       ·have g0:W.cell? ⟨w.heap.size + 1,0,none⟩ = some (.int .u64 s.id):=cell_blk hB rfl;go_simp;rfl
       simp only [pL,List.set]
       refine nd_quiet ?_ rfl ?_ ?_
       rotate_left
       ·go_simp;rfl
       simp only [pL,List.set]
       refine nd_quiet ?_ rfl ?_ ?_
       rotate_left
       ·go_simp;rfl
       simp only [pL,List.set]
       refine nd_quiet ?_ rfl ?_ ?_
       rotate_left
       ·go_simp;rfl
       simp only [pL,List.set]
       refine nd_quiet ?_ rfl ?_ ?_
       rotate_left
       ·have g0:W.cell? ⟨w.heap.size,1,none⟩ = some (.int .i64 t.kind):=cell_blk hA rfl;go_simp;rfl
       simp only [pL,List.set]
       refine nd_quiet ?_ rfl ?_ ?_
       rotate_left
       ·go_simp;rfl
       simp only [pL,List.set]
       refine nd_quiet ?_ rfl ?_ ?_
       rotate_left
       ·have g0:W.cell? ⟨w.heap.size + 1,1,none⟩ = some (.int .i64 s.kind):=cell_blk hB rfl;go_simp;rfl
       simp only [pL,List.set]
       refine nd_quiet ?_ rfl ?_ ?_
       rotate_left
       ·go_simp;rfl
       simp only [pL,List.set]
       refine nd_quiet ?_ rfl ?_ ?_
       rotate_left
       ·go_simp;rfl
       simp only [pL,List.set]
       refine nd_quiet ?_ rfl ?_ ?_
       rotate_left
       ·go_simp;rfl
       simp only [pL,List.set]
       refine nd_quiet ?_ rfl ?_ ?_
       rotate_left
       ·go_simp;rfl
       simp only [pL,List.set]
       refine nd_quiet ?_ rfl ?_ ?_
       rotate_left
       ·have g0:W.cell? ⟨w.heap.size,6,none⟩ = some (.int .i64 t.quota):=cell_blk hA rfl;go_simp;rfl
       simp only [pL,List.set]
       refine nd_quiet ?_ rfl ?_ ?_
       rotate_left
       ·go_simp;rfl
       simp only [pL,List.set]
       refine nd_quiet ?_ rfl ?_ ?_
       rotate_left
       ·have g0:W.cell? ⟨w.heap.size + 1,6,none⟩ = some (.int .i64 s.quota):=cell_blk hB rfl;go_simp;rfl
       simp only [pL,List.set]
       refine nd_quiet ?_ rfl ?_ ?_
       rotate_left
       ·go_simp;rfl
       simp only [pL,List.set]
       refine nd_quiet ?_ rfl ?_ ?_
       rotate_left
       ·go_simp;rfl
       simp only [pL,List.set]
       refine nd_quiet ?_ rfl ?_ ?_
       rotate_left
       ·go_simp;rfl
       simp only [pL,List.set]
       refine nd_quiet ?_ rfl ?_ ?_
       rotate_left
       ·go_simp;rfl
       simp only [pL,List.set]
       refine nd_quiet ?_ rfl ?_ ?_
       rotate_left
       ·have g0:W.cell? ⟨w.heap.size,7,none⟩ = some (.int .i64 t.next):=cell_blk hA rfl;go_simp;rfl
       simp only [pL,List.set]
       refine nd_quiet ?_ rfl ?_ ?_
       rotate_left
       ·go_simp;rfl
       simp only [pL,List.set]
       refine nd_quiet ?_ rfl ?_ ?_
       rotate_left
       ·have g0:W.cell? ⟨w.heap.size + 1,7,none⟩ = some (.int .i64 s.next):=cell_blk hB rfl;go_simp;rfl
       simp only [pL,List.set]
       refine nd_quiet ?_ rfl ?_ ?_
       rotate_left
       ·go_simp;rfl
       simp only [pL,List.set]
       refine nd_quiet ?_ rfl ?_ ?_
       rotate_left
       ·go_simp;rfl
       simp only [pL,List.set]
       refine nd_quiet ?_ rfl ?_ ?_
       rotate_left
       ·go_simp;rfl
       simp only [pL,List.set]
       refine nd_quiet ?_ rfl ?_ ?_
       rotate_left
       ·go_simp;rfl
       simp only [pL,List.set]
       refine nd_quiet ?_ rfl ?_ ?_
       rotate_left
       ·refine (run_load_rg _ W rfl (w.heap.size) rfl hA).trans ?_;rfl
       simp only [pL,List.set]
       refine nd_quiet ?_ rfl ?_ ?_
       rotate_left
       ·go_simp;rfl
       simp only [pL,List.set]
       refine nd_quiet ?_ rfl ?_ ?_
       rotate_left
       ·refine (run_load_rg _ W rfl (w.heap.size + 1) rfl hB).trans ?_;rfl
       simp only [pL,List.set]
       refine nd_quiet ?_ rfl ?_ ?_
       rotate_left
       ·go_simp;rfl
       simp only [pL,List.set]
       refine nd_quiet ?_ rfl ?_ ?_
       rotate_left
       ·go_simp;rfl
       simp only [pL,List.set]
       refine nd_quiet ?_ rfl ?_ ?_
       rotate_left
       ·go_simp;rfl
       simp only [pL,List.set]
       refine nd_quiet ?_ rfl ?_ ?_
       rotate_left
       ·go_simp;rfl
       simp only [pL,List.set]
       refine nd_quiet ?_ rfl ?_ ?_
       rotate_left
       ·have g0:W.cell? ⟨w.heap.size,14,none⟩ = some (.int .i64 t.minted):=cell_blk hA rfl;go_simp;rfl
       simp only [pL,List.set]
       refine nd_quiet ?_ rfl ?_ ?_
       rotate_left
       ·go_simp;rfl
       simp only [pL,List.set]
       refine nd_quiet ?_ rfl ?_ ?_
       rotate_left
       ·have g0:W.cell? ⟨w.heap.size + 1,14,none⟩ = some (.int .i64 s.minted):=cell_blk hB rfl;go_simp;rfl
       simp only [pL,List.set]
       refine nd_quiet ?_ rfl ?_ ?_
       rotate_left
       ·go_simp;rfl
       simp only [pL,List.set]
       refine nd_quiet ?_ rfl ?_ ?_
       rotate_left
       ·go_simp;rfl
       simp only [pL,List.set]
       refine nd_quiet ?_ rfl ?_ ?_
       rotate_left
       ·go_simp;rfl
       simp only [pL,List.set]
       refine nd_skip rfl ?_
       simp only [pL,List.set]
       refine nd_skip rfl ?_
       simp only [pL,List.set]
       refine nd_skip rfl ?_
       simp only [pL,List.set]
       refine nd_skip rfl ?_
       simp only [pL,List.set]
       refine nd_skip rfl ?_
       simp only [pL,List.set]
       refine nd_quiet ?_ rfl ?_ ?_
       rotate_left
       ·go_simp;rfl
       simp only [pL,List.set]
       refine nd_quiet ?_ rfl ?_ ?_
       rotate_left
       ·go_simp;rfl
       simp only [pL,List.set]
       refine nd_skip rfl ?_
       simp only [pL,List.set]
       refine nd_skip rfl ?_
       simp only [pL,List.set]
       refine nd_skip rfl ?_
       simp only [pL,List.set]
       refine nd_skip rfl ?_
       simp only [pL,List.set]
       refine nd_skip rfl ?_
       simp only [pL,List.set]
       refine nd_quiet ?_ rfl ?_ ?_
       rotate_left
       ·go_simp;rfl
       simp only [pL,List.set]
       refine nd_quiet ?_ rfl ?_ ?_
       rotate_left
       ·go_simp;rfl
       simp only [pL,List.set]
       refine nd_skip rfl ?_
       simp only [pL,List.set]
       refine nd_skip rfl ?_
       simp only [pL,List.set]
       refine nd_skip rfl ?_
       simp only [pL,List.set]
       refine nd_skip rfl ?_
       simp only [pL,List.set]
       refine nd_skip rfl ?_
       simp only [pL,List.set]
       refine nd_quiet ?_ rfl ?_ ?_
       rotate_left
       ·go_simp;rfl
       simp only [pL,List.set]
       refine nd_quiet ?_ rfl ?_ ?_
       rotate_left
       ·go_simp;rfl
       simp only [pL,List.set]
       refine nd_skip rfl ?_
       simp only [pL,List.set]
       refine nd_skip rfl ?_
       simp only [pL,List.set]
       refine nd_skip rfl ?_
       simp only [pL,List.set]
       refine nd_skip rfl ?_
       simp only [pL,List.set]
       refine nd_skip rfl ?_
       simp only [pL,List.set]
       refine nd_quiet ?_ rfl ?_ ?_
       rotate_left
       ·go_simp;rfl
       simp only [pL,List.set]
       go_wp2
       go_ret
       exact ans_no hno.out nW
     ·have n4:∀ w,(binOp .neq 29 (rgV t) (rgV s)).run Try.prog w = .ok (.bool true) w:=fun w=>by rw [run_neq4];simp [h4]
      have hno:Hid (¬ t = s):=fun h=>h4 (by subst h;simp [e4])
      clear h4 ht hs
      refine wp_region_list ?_
      simp only [List.toList_toArray,List.append_eq,List.cons_append,List.nil_append]
      refine nd_quiet ?_ rfl ?_ ?_
      rotate_left
      ·go_simp;rfl
      simp only [pL,List.set]
      refine nd_quiet ?_ rfl ?_ ?_
      rotate_left
      ·have g0:W.cell? ⟨w.heap.size,0,none⟩ = some (.int .u64 t.id):=cell_blk hA rfl;go_simp;rfl
      simp only [pL,List.set]
      refine nd_quiet ?_ rfl ?_ ?_
      rotate_left
      ·go_simp;rfl
      simp only [pL,List.set]
      refine nd_quiet ?_ rfl ?_ ?_
      rotate_left
      ·have g0:W.cell? ⟨w.heap.size + 1,0,none⟩ = some (.int .u64 s.id):=cell_blk hB rfl;go_simp;rfl
      simp only [pL,List.set]
      refine nd_quiet ?_ rfl ?_ ?_
      rotate_left
      ·go_simp;rfl
      simp only [pL,List.set]
      refine nd_quiet ?_ rfl ?_ ?_
      rotate_left
      ·go_simp;rfl
      simp only [pL,List.set]
      refine nd_quiet ?_ rfl ?_ ?_
      rotate_left
      ·go_simp;rfl
      simp only [pL,List.set]
      refine nd_quiet ?_ rfl ?_ ?_
      rotate_left
      ·have g0:W.cell? ⟨w.heap.size,1,none⟩ = some (.int .i64 t.kind):=cell_blk hA rfl;go_simp;rfl
      simp only [pL,List.set]
      refine nd_quiet ?_ rfl ?_ ?_
      rotate_left
      ·go_simp;rfl
      simp only [pL,List.set]
      refine nd_quiet ?_ rfl ?_ ?_
      rotate_left
      ·have g0:W.cell? ⟨w.heap.size + 1,1,none⟩ = some (.int .i64 s.kind):=cell_blk hB rfl;go_simp;rfl
      simp only [pL,List.set]
      refine nd_quiet ?_ rfl ?_ ?_
      rotate_left
      ·go_simp;rfl
      simp only [pL,List.set]
      refine nd_quiet ?_ rfl ?_ ?_
      rotate_left
      ·go_simp;rfl
      simp only [pL,List.set]
      refine nd_quiet ?_ rfl ?_ ?_
      rotate_left
      ·go_simp;rfl
      simp only [pL,List.set]
      refine nd_quiet ?_ rfl ?_ ?_
      rotate_left
      ·go_simp;rfl
      simp only [pL,List.set]
      refine nd_quiet ?_ rfl ?_ ?_
      rotate_left
      ·have g0:W.cell? ⟨w.heap.size,6,none⟩ = some (.int .i64 t.quota):=cell_blk hA rfl;go_simp;rfl
      simp only [pL,List.set]
      refine nd_quiet ?_ rfl ?_ ?_
      rotate_left
      ·go_simp;rfl
      simp only [pL,List.set]
      refine nd_quiet ?_ rfl ?_ ?_
      rotate_left
      ·have g0:W.cell? ⟨w.heap.size + 1,6,none⟩ = some (.int .i64 s.quota):=cell_blk hB rfl;go_simp;rfl
      simp only [pL,List.set]
      refine nd_quiet ?_ rfl ?_ ?_
      rotate_left
      ·go_simp;rfl
      simp only [pL,List.set]
      refine nd_quiet ?_ rfl ?_ ?_
      rotate_left
      ·go_simp;rfl
      simp only [pL,List.set]
      refine nd_quiet ?_ rfl ?_ ?_
      rotate_left
      ·go_simp;rfl
      simp only [pL,List.set]
      refine nd_quiet ?_ rfl ?_ ?_
      rotate_left
      ·go_simp;rfl
      simp only [pL,List.set]
      refine nd_quiet ?_ rfl ?_ ?_
      rotate_left
      ·have g0:W.cell? ⟨w.heap.size,7,none⟩ = some (.int .i64 t.next):=cell_blk hA rfl;go_simp;rfl
      simp only [pL,List.set]
      refine nd_quiet ?_ rfl ?_ ?_
      rotate_left
      ·go_simp;rfl
      simp only [pL,List.set]
      refine nd_quiet ?_ rfl ?_ ?_
      rotate_left
      ·have g0:W.cell? ⟨w.heap.size + 1,7,none⟩ = some (.int .i64 s.next):=cell_blk hB rfl;go_simp;rfl
      simp only [pL,List.set]
      refine nd_quiet ?_ rfl ?_ ?_
      rotate_left
      ·go_simp;rfl
      simp only [pL,List.set]
      refine nd_quiet ?_ rfl ?_ ?_
      rotate_left
      ·go_simp;rfl
      simp only [pL,List.set]
      refine nd_quiet ?_ rfl ?_ ?_
      rotate_left
      ·go_simp;rfl
      simp only [pL,List.set]
      refine nd_quiet ?_ rfl ?_ ?_
      rotate_left
      ·go_simp;rfl
      simp only [pL,List.set]
      refine nd_quiet ?_ rfl ?_ ?_
      rotate_left
      ·refine (run_load_rg _ W rfl (w.heap.size) rfl hA).trans ?_;rfl
      simp only [pL,List.set]
      refine nd_quiet ?_ rfl ?_ ?_
      rotate_left
      ·go_simp;rfl
      simp only [pL,List.set]
      refine nd_quiet ?_ rfl ?_ ?_
      rotate_left
      ·refine (run_load_rg _ W rfl (w.heap.size + 1) rfl hB).trans ?_;rfl
      simp only [pL,List.set]
      refine nd_quiet ?_ rfl ?_ ?_
      rotate_left
      ·go_simp;rfl
      simp only [pL,List.set]
      refine nd_quiet ?_ rfl ?_ ?_
      rotate_left
      ·go_simp;rfl
      simp only [pL,List.set]
      refine nd_quiet ?_ rfl ?_ ?_
      rotate_left
      ·go_simp;rfl
      simp only [pL,List.set]
      refine nd_skip rfl ?_
      simp only [pL,List.set]
      refine nd_skip rfl ?_
      simp only [pL,List.set]
      refine nd_skip rfl ?_
      simp only [pL,List.set]
      refine nd_skip rfl ?_
      simp only [pL,List.set]
      refine nd_skip rfl ?_
      simp only [pL,List.set]
      refine nd_quiet ?_ rfl ?_ ?_
      rotate_left
      ·go_simp;rfl
      simp only [pL,List.set]
      refine nd_quiet ?_ rfl ?_ ?_
      rotate_left
      ·go_simp;rfl
      simp only [pL,List.set]
      refine nd_skip rfl ?_
      simp only [pL,List.set]
      refine nd_skip rfl ?_
      simp only [pL,List.set]
      refine nd_skip rfl ?_
      simp only [pL,List.set]
      refine nd_skip rfl ?_
      simp only [pL,List.set]
      refine nd_skip rfl ?_
      simp only [pL,List.set]
      refine nd_quiet ?_ rfl ?_ ?_
      rotate_left
      ·go_simp;rfl
      simp only [pL,List.set]
      refine nd_quiet ?_ rfl ?_ ?_
      rotate_left
      ·go_simp;rfl
      simp only [pL,List.set]
      refine nd_skip rfl ?_
      simp only [pL,List.set]
      refine nd_skip rfl ?_
      simp only [pL,List.set]
      refine nd_skip rfl ?_
      simp only [pL,List.set]
      refine nd_skip rfl ?_
      simp only [pL,List.set]
      refine nd_skip rfl ?_
      simp only [pL,List.set]
      refine nd_quiet ?_ rfl ?_ ?_
      rotate_left
      ·go_simp;rfl
      simp only [pL,List.set]
      refine nd_quiet ?_ rfl ?_ ?_
      rotate_left
      ·go_simp;rfl
      simp only [pL,List.set]
      refine nd_skip rfl ?_
      simp only [pL,List.set]
      refine nd_skip rfl ?_
      simp only [pL,List.set]
      refine nd_skip rfl ?_
      simp only [pL,List.set]
      refine nd_skip rfl ?_
      simp only [pL,List.set]
      refine nd_skip rfl ?_
      simp only [pL,List.set]
      refine nd_quiet ?_ rfl ?_ ?_
      rotate_left
      ·go_simp;rfl
      simp only [pL,List.set]
      refine nd_quiet ?_ rfl ?_ ?_
      rotate_left
      ·go_simp;rfl
      simp only [pL,List.set]
      refine nd_skip rfl ?_
      simp only [pL,List.set]
      refine nd_skip rfl ?_
      simp only [pL,List.set]
      refine nd_skip rfl ?_
      simp only [pL,List.set]
      refine nd_skip rfl ?_
      simp only [pL,List.set]
      refine nd_skip rfl ?_
      simp only [pL,List.set]
      refine nd_quiet ?_ rfl ?_ ?_
      rotate_left
      ·go_simp;rfl
      simp only [pL,List.set]
      go_wp2
      go_ret
      exact ans_no hno.out nW
    ·have n3:(t.next != s.next) = true:=by simp [h3]
     have hno:Hid (¬ t = s):=fun h=>h3 (by rw [h])
     clear h3 ht hs
     refine wp_region_list ?_
     simp only [List.toList_toArray,List.append_eq,List.cons_append,List.nil_append]
     refine nd_quiet ?_ rfl ?_ ?_
     rotate_left
     ·go_simp;rfl
     simp only [pL,List.set]
     refine nd_quiet ?_ rfl ?_ ?_
     rotate_left
     ·have g0:W.cell? ⟨w.heap.size,0,none⟩ = some (.int .u64 t.id):=cell_blk hA rfl;go_simp;rfl
     simp only [pL,List.set]
     refine nd_quiet ?_ rfl ?_ ?_
     rotate_left
     ·go_simp;rfl
     simp only [pL,List.set]
     refine nd_quiet ?_ rfl ?_ ?_
     rotate_left
     ·have g0:W.cell? ⟨w.heap.size + 1,0,none⟩ = some (.int .u64 s.id):=cell_blk hB rfl;go_simp;rfl
     simp only [pL,List.set]
     refine nd_quiet ?_ rfl ?_ ?_
     rotate_left
     ·go_simp;rfl
     simp only [pL,List.set]
     refine nd_quiet ?_ rfl ?_ ?_
     rotate_left
     ·go_simp;rfl
     simp only [pL,List.set]
     refine nd_quiet ?_ rfl ?_ ?_
     rotate_left
     ·go_simp;rfl
     simp only [pL,List.set]
     refine nd_quiet ?_ rfl ?_ ?_
     rotate_left
     ·have g0:W.cell? ⟨w.heap.size,1,none⟩ = some (.int .i64 t.kind):=cell_blk hA rfl;go_simp;rfl
     simp only [pL,List.set]
     refine nd_quiet ?_ rfl ?_ ?_
     rotate_left
     ·go_simp;rfl
     simp only [pL,List.set]
     refine nd_quiet ?_ rfl ?_ ?_
     rotate_left
     ·have g0:W.cell? ⟨w.heap.size + 1,1,none⟩ = some (.int .i64 s.kind):=cell_blk hB rfl;go_simp;rfl
     simp only [pL,List.set]
     refine nd_quiet ?_ rfl ?_ ?_
     rotate_left
     ·go_simp;rfl
     simp only [pL,List.set]
     refine nd_quiet ?_ rfl ?_ ?_
     rotate_left
     ·go_simp;rfl
     simp only [pL,List.set]
     refine nd_quiet ?_ rfl ?_ ?_
     rotate_left
     ·go_simp;rfl
     simp only [pL,List.set]
     refine nd_quiet ?_ rfl ?_ ?_
     rotate_left
     ·go_simp;rfl
     simp only [pL,List.set]
     refine nd_quiet ?_ rfl ?_ ?_
     rotate_left
     ·have g0:W.cell? ⟨w.heap.size,6,none⟩ = some (.int .i64 t.quota):=cell_blk hA rfl;go_simp;rfl
     simp only [pL,List.set]
     refine nd_quiet ?_ rfl ?_ ?_
     rotate_left
     ·go_simp;rfl
     simp only [pL,List.set]
     refine nd_quiet ?_ rfl ?_ ?_
     rotate_left
     ·have g0:W.cell? ⟨w.heap.size + 1,6,none⟩ = some (.int .i64 s.quota):=cell_blk hB rfl;go_simp;rfl
     simp only [pL,List.set]
     refine nd_quiet ?_ rfl ?_ ?_
     rotate_left
     ·go_simp;rfl
     simp only [pL,List.set]
     refine nd_quiet ?_ rfl ?_ ?_
     rotate_left
     ·go_simp;rfl
     simp only [pL,List.set]
     refine nd_quiet ?_ rfl ?_ ?_
     rotate_left
     ·go_simp;rfl
     simp only [pL,List.set]
     refine nd_quiet ?_ rfl ?_ ?_
     rotate_left
     ·go_simp;rfl
     simp only [pL,List.set]
     refine nd_quiet ?_ rfl ?_ ?_
     rotate_left
     ·have g0:W.cell? ⟨w.heap.size,7,none⟩ = some (.int .i64 t.next):=cell_blk hA rfl;go_simp;rfl
     simp only [pL,List.set]
     refine nd_quiet ?_ rfl ?_ ?_
     rotate_left
     ·go_simp;rfl
     simp only [pL,List.set]
     refine nd_quiet ?_ rfl ?_ ?_
     rotate_left
     ·have g0:W.cell? ⟨w.heap.size + 1,7,none⟩ = some (.int .i64 s.next):=cell_blk hB rfl;go_simp;rfl
     simp only [pL,List.set]
     refine nd_quiet ?_ rfl ?_ ?_
     rotate_left
     ·go_simp;rfl
     simp only [pL,List.set]
     refine nd_quiet ?_ rfl ?_ ?_
     rotate_left
     ·go_simp;rfl
     simp only [pL,List.set]
     refine nd_quiet ?_ rfl ?_ ?_
     rotate_left
     ·go_simp;rfl
     simp only [pL,List.set]
     refine nd_skip rfl ?_
     simp only [pL,List.set]
     refine nd_skip rfl ?_
     simp only [pL,List.set]
     refine nd_skip rfl ?_
     simp only [pL,List.set]
     refine nd_skip rfl ?_
     simp only [pL,List.set]
     refine nd_skip rfl ?_
     simp only [pL,List.set]
     refine nd_quiet ?_ rfl ?_ ?_
     rotate_left
     ·go_simp;rfl
     simp only [pL,List.set]
     refine nd_quiet ?_ rfl ?_ ?_
     rotate_left
     ·go_simp;rfl
     simp only [pL,List.set]
     refine nd_skip rfl ?_
     simp only [pL,List.set]
     refine nd_skip rfl ?_
     simp only [pL,List.set]
     refine nd_skip rfl ?_
     simp only [pL,List.set]
     refine nd_skip rfl ?_
     simp only [pL,List.set]
     refine nd_skip rfl ?_
     simp only [pL,List.set]
     refine nd_quiet ?_ rfl ?_ ?_
     rotate_left
     ·go_simp;rfl
     simp only [pL,List.set]
     refine nd_quiet ?_ rfl ?_ ?_
     rotate_left
     ·go_simp;rfl
     simp only [pL,List.set]
     refine nd_skip rfl ?_
     simp only [pL,List.set]
     refine nd_skip rfl ?_
     simp only [pL,List.set]
     refine nd_skip rfl ?_
     simp only [pL,List.set]
     refine nd_skip rfl ?_
     simp only [pL,List.set]
     refine nd_skip rfl ?_
     simp only [pL,List.set]
     refine nd_quiet ?_ rfl ?_ ?_
     rotate_left
     ·go_simp;rfl
     simp only [pL,List.set]
     refine nd_quiet ?_ rfl ?_ ?_
     rotate_left
     ·go_simp;rfl
     simp only [pL,List.set]
     refine nd_skip rfl ?_
     simp only [pL,List.set]
     refine nd_skip rfl ?_
     simp only [pL,List.set]
     refine nd_skip rfl ?_
     simp only [pL,List.set]
     refine nd_skip rfl ?_
     simp only [pL,List.set]
     refine nd_skip rfl ?_
     simp only [pL,List.set]
     refine nd_quiet ?_ rfl ?_ ?_
     rotate_left
     ·go_simp;rfl
     simp only [pL,List.set]
     refine nd_quiet ?_ rfl ?_ ?_
     rotate_left
     ·go_simp;rfl
     simp only [pL,List.set]
     refine nd_skip rfl ?_
     simp only [pL,List.set]
     refine nd_skip rfl ?_
     simp only [pL,List.set]
     refine nd_skip rfl ?_
     simp only [pL,List.set]
     refine nd_skip rfl ?_
     simp only [pL,List.set]
     refine nd_skip rfl ?_
     simp only [pL,List.set]
     refine nd_quiet ?_ rfl ?_ ?_
     rotate_left
     ·go_simp;rfl
     simp only [pL,List.set]
     refine nd_quiet ?_ rfl ?_ ?_
     rotate_left
     ·go_simp;rfl
     simp only [pL,List.set]
     refine nd_skip rfl ?_
     simp only [pL,List.set]
     refine nd_skip rfl ?_
     simp only [pL,List.set]
     refine nd_skip rfl ?_
     simp only [pL,List.set]
     refine nd_skip rfl ?_
     simp only [pL,List.set]
     refine nd_skip rfl ?_
     simp only [pL,List.set]
     refine nd_quiet ?_ rfl ?_ ?_
     rotate_left
     ·go_simp;rfl
     simp only [pL,List.set]
     go_wp2
     go_ret
     exact ans_no hno.out nW
   ·have n2:(t.quota != s.quota) = true:=by simp [h2]
    have hno:Hid (¬ t = s):=fun h=>h2 (by rw [h])
    clear h2 ht hs
    refine wp_region_list ?_
    simp only [List.toList_toArray,List.append_eq,List.cons_append,List.nil_append]
    refine nd_quiet ?_ rfl ?_ ?_
    rotate_left
    ·go_simp;rfl
    simp only [pL,List.set]
    refine nd_quiet ?_ rfl ?_ ?_
    rotate_left
    ·have g0:W.cell? ⟨w.heap.size,0,none⟩ = some (.int .u64 t.id):=cell_blk hA rfl;go_simp;rfl
    simp only [pL,List.set]
    refine nd_quiet ?_ rfl ?_ ?_
    rotate_left
    ·go_simp;rfl
    simp only [pL,List.set]
    refine nd_quiet ?_ rfl ?_ ?_
    rotate_left
    ·have g0:W.cell? ⟨w.heap.size + 1,0,none⟩ = some (.int .u64 s.id):=cell_blk hB rfl;go_simp;rfl
    simp only [pL,List.set]
    refine nd_quiet ?_ rfl ?_ ?_
    rotate_left
    ·go_simp;rfl
    simp only [pL,List.set]
    refine nd_quiet ?_ rfl ?_ ?_
    rotate_left
    ·go_simp;rfl
    simp only [pL,List.set]
    refine nd_quiet ?_ rfl ?_ ?_
    rotate_left
    ·go_simp;rfl
    simp only [pL,List.set]
    refine nd_quiet ?_ rfl ?_ ?_
    rotate_left
    ·have g0:W.cell? ⟨w.heap.size,1,none⟩ = some (.int .i64 t.kind):=cell_blk hA rfl;go_simp;rfl
    simp only [pL,List.set]
    refine nd_quiet ?_ rfl ?_ ?_
    rotate_left
    ·go_simp;rfl
    simp only [pL,List.set]
    refine nd_quiet ?_ rfl ?_ ?_
    rotate_left
    ·have g0:W.cell? ⟨w.heap.size + 1,1,none⟩ = some (.int .i64 s.kind):=cell_blk hB rfl;go_simp;rfl
    simp only [pL,List.set]
    refine nd_quiet ?_ rfl ?_ ?_
    rotate_left
    ·go_simp;rfl
    simp only [pL,List.set]
    refine nd_quiet ?_ rfl ?_ ?_
    rotate_left
    ·go_simp;rfl
    simp only [pL,List.set]
    refine nd_quiet ?_ rfl ?_ ?_
    rotate_left
    ·go_simp;rfl
    simp only [pL,List.set]
    refine nd_quiet ?_ rfl ?_ ?_
    rotate_left
    ·go_simp;rfl
    simp only [pL,List.set]
    refine nd_quiet ?_ rfl ?_ ?_
    rotate_left
    ·have g0:W.cell? ⟨w.heap.size,6,none⟩ = some (.int .i64 t.quota):=cell_blk hA rfl;go_simp;rfl
    simp only [pL,List.set]
    refine nd_quiet ?_ rfl ?_ ?_
    rotate_left
    ·go_simp;rfl
    simp only [pL,List.set]
    refine nd_quiet ?_ rfl ?_ ?_
    rotate_left
    ·have g0:W.cell? ⟨w.heap.size + 1,6,none⟩ = some (.int .i64 s.quota):=cell_blk hB rfl;go_simp;rfl
    simp only [pL,List.set]
    refine nd_quiet ?_ rfl ?_ ?_
    rotate_left
    ·go_simp;rfl
    simp only [pL,List.set]
    refine nd_quiet ?_ rfl ?_ ?_
    rotate_left
    ·go_simp;rfl
    simp only [pL,List.set]
    refine nd_quiet ?_ rfl ?_ ?_
    rotate_left
    ·go_simp;rfl
    simp only [pL,List.set]
    refine nd_skip rfl ?_
    simp only [pL,List.set]
    refine nd_skip rfl ?_
    simp only [pL,List.set]
    refine nd_skip rfl ?_
    simp only [pL,List.set]
    refine nd_skip rfl ?_
    simp only [pL,List.set]
    refine nd_skip rfl ?_
    simp only [pL,List.set]
    refine nd_quiet ?_ rfl ?_ ?_
    rotate_left
    ·go_simp;rfl
    simp only [pL,List.set]
    refine nd_quiet ?_ rfl ?_ ?_
    rotate_left
    ·go_simp;rfl
    simp only [pL,List.set]
    refine nd_skip rfl ?_
    simp only [pL,List.set]
    refine nd_skip rfl ?_
    simp only [pL,List.set]
    refine nd_skip rfl ?_
    simp only [pL,List.set]
    refine nd_skip rfl ?_
    simp only [pL,List.set]
    refine nd_skip rfl ?_
    simp only [pL,List.set]
    refine nd_quiet ?_ rfl ?_ ?_
    rotate_left
    ·go_simp;rfl
    simp only [pL,List.set]
    refine nd_quiet ?_ rfl ?_ ?_
    rotate_left
    ·go_simp;rfl
    simp only [pL,List.set]
    refine nd_skip rfl ?_
    simp only [pL,List.set]
    refine nd_skip rfl ?_
    simp only [pL,List.set]
    refine nd_skip rfl ?_
    simp only [pL,List.set]
    refine nd_skip rfl ?_
    simp only [pL,List.set]
    refine nd_skip rfl ?_
    simp only [pL,List.set]
    refine nd_quiet ?_ rfl ?_ ?_
    rotate_left
    ·go_simp;rfl
    simp only [pL,List.set]
    refine nd_quiet ?_ rfl ?_ ?_
    rotate_left
    ·go_simp;rfl
    simp only [pL,List.set]
    refine nd_skip rfl ?_
    simp only [pL,List.set]
    refine nd_skip rfl ?_
    simp only [pL,List.set]
    refine nd_skip rfl ?_
    simp only [pL,List.set]
    refine nd_skip rfl ?_
    simp only [pL,List.set]
    refine nd_skip rfl ?_
    simp only [pL,List.set]
    refine nd_quiet ?_ rfl ?_ ?_
    rotate_left
    ·go_simp;rfl
    simp only [pL,List.set]
    refine nd_quiet ?_ rfl ?_ ?_
    rotate_left
    ·go_simp;rfl
    simp only [pL,List.set]
    refine nd_skip rfl ?_
    simp only [pL,List.set]
    refine nd_skip rfl ?_
    simp only [pL,List.set]
    refine nd_skip rfl ?_
    simp only [pL,List.set]
    refine nd_skip rfl ?_
    simp only [pL,List.set]
    refine nd_skip rfl ?_
    simp only [pL,List.set]
    refine nd_quiet ?_ rfl ?_ ?_
    rotate_left
    ·go_simp;rfl
    simp only [pL,List.set]
    refine nd_quiet ?_ rfl ?_ ?_
    rotate_left
    ·go_simp;rfl
    simp only [pL,List.set]
    refine nd_skip rfl ?_
    simp only [pL,List.set]
    refine nd_skip rfl ?_
    simp only [pL,List.set]
    refine nd_skip rfl ?_
    simp only [pL,List.set]
    refine nd_skip rfl ?_
    simp only [pL,List.set]
    refine nd_skip rfl ?_
    simp only [pL,List.set]
    refine nd_quiet ?_ rfl ?_ ?_
    rotate_left
    ·go_simp;rfl
    simp only [pL,List.set]
    refine nd_quiet ?_ rfl ?_ ?_
    rotate_left
    ·go_simp;rfl
    simp only [pL,List.set]
    refine nd_skip rfl ?_
    simp only [pL,List.set]
    refine nd_skip rfl ?_
    simp only [pL,List.set]
    refine nd_skip rfl ?_
    simp only [pL,List.set]
    refine nd_skip rfl ?_
    simp only [pL,List.set]
    refine nd_skip rfl ?_
    simp only [pL,List.set]
    refine nd_quiet ?_ rfl ?_ ?_
    rotate_left
    ·go_simp;rfl
    simp only [pL,List.set]
    go_wp2
    go_ret
    exact ans_no hno.out nW
  ·have n1:(t.kind != s.kind) = true:=by simp [h1]
   have hno:Hid (¬ t = s):=fun h=>h1 (by rw [h])
   clear h1 ht hs
   refine wp_region_list ?_
   simp only [List.toList_toArray,List.append_eq,List.cons_append,List.nil_append]
   refine nd_quiet ?_ rfl ?_ ?_
   rotate_left
   ·go_simp;rfl
   simp only [pL,List.set]
   refine nd_quiet ?_ rfl ?_ ?_
   rotate_left
   ·have g0:W.cell? ⟨w.heap.size,0,none⟩ = some (.int .u64 t.id):=cell_blk hA rfl;go_simp;rfl
   simp only [pL,List.set]
   refine nd_quiet ?_ rfl ?_ ?_
   rotate_left
   ·go_simp;rfl
   simp only [pL,List.set]
   refine nd_quiet ?_ rfl ?_ ?_
   rotate_left
   ·have g0:W.cell? ⟨w.heap.size + 1,0,none⟩ = some (.int .u64 s.id):=cell_blk hB rfl;go_simp;rfl
   simp only [pL,List.set]
   refine nd_quiet ?_ rfl ?_ ?_
   rotate_left
   ·go_simp;rfl
   simp only [pL,List.set]
   refine nd_quiet ?_ rfl ?_ ?_
   rotate_left
   ·go_simp;rfl
   simp only [pL,List.set]
   refine nd_quiet ?_ rfl ?_ ?_
   rotate_left
   ·go_simp;rfl
   simp only [pL,List.set]
   refine nd_quiet ?_ rfl ?_ ?_
   rotate_left
   ·have g0:W.cell? ⟨w.heap.size,1,none⟩ = some (.int .i64 t.kind):=cell_blk hA rfl;go_simp;rfl
   simp only [pL,List.set]
   refine nd_quiet ?_ rfl ?_ ?_
   rotate_left
   ·go_simp;rfl
   simp only [pL,List.set]
   refine nd_quiet ?_ rfl ?_ ?_
   rotate_left
   ·have g0:W.cell? ⟨w.heap.size + 1,1,none⟩ = some (.int .i64 s.kind):=cell_blk hB rfl;go_simp;rfl
   simp only [pL,List.set]
   refine nd_quiet ?_ rfl ?_ ?_
   rotate_left
   ·go_simp;rfl
   simp only [pL,List.set]
   refine nd_quiet ?_ rfl ?_ ?_
   rotate_left
   ·go_simp;rfl
   simp only [pL,List.set]
   refine nd_quiet ?_ rfl ?_ ?_
   rotate_left
   ·go_simp;rfl
   simp only [pL,List.set]
   refine nd_skip rfl ?_
   simp only [pL,List.set]
   refine nd_skip rfl ?_
   simp only [pL,List.set]
   refine nd_skip rfl ?_
   simp only [pL,List.set]
   refine nd_skip rfl ?_
   simp only [pL,List.set]
   refine nd_skip rfl ?_
   simp only [pL,List.set]
   refine nd_quiet ?_ rfl ?_ ?_
   rotate_left
   ·go_simp;rfl
   simp only [pL,List.set]
   refine nd_quiet ?_ rfl ?_ ?_
   rotate_left
   ·go_simp;rfl
   simp only [pL,List.set]
   refine nd_skip rfl ?_
   simp only [pL,List.set]
   refine nd_skip rfl ?_
   simp only [pL,List.set]
   refine nd_skip rfl ?_
   simp only [pL,List.set]
   refine nd_skip rfl ?_
   simp only [pL,List.set]
   refine nd_skip rfl ?_
   simp only [pL,List.set]
   refine nd_quiet ?_ rfl ?_ ?_
   rotate_left
   ·go_simp;rfl
   simp only [pL,List.set]
   refine nd_quiet ?_ rfl ?_ ?_
   rotate_left
   ·go_simp;rfl
   simp only [pL,List.set]
   refine nd_skip rfl ?_
   simp only [pL,List.set]
   refine nd_skip rfl ?_
   simp only [pL,List.set]
   refine nd_skip rfl ?_
   simp only [pL,List.set]
   refine nd_skip rfl ?_
   simp only [pL,List.set]
   refine nd_skip rfl ?_
   simp only [pL,List.set]
   refine nd_quiet ?_ rfl ?_ ?_
   rotate_left
   ·go_simp;rfl
   simp only [pL,List.set]
   refine nd_quiet ?_ rfl ?_ ?_
   rotate_left
   ·go_simp;rfl
   simp only [pL,List.set]
   refine nd_skip rfl ?_
   simp only [pL,List.set]
   refine nd_skip rfl ?_
   simp only [pL,List.set]
   refine nd_skip rfl ?_
   simp only [pL,List.set]
   refine nd_skip rfl ?_
   simp only [pL,List.set]
   refine nd_skip rfl ?_
   simp only [pL,List.set]
   refine nd_quiet ?_ rfl ?_ ?_
   rotate_left
   ·go_simp;rfl
   simp only [pL,List.set]
   refine nd_quiet ?_ rfl ?_ ?_
   rotate_left
   ·go_simp;rfl
   simp only [pL,List.set]
   refine nd_skip rfl ?_
   simp only [pL,List.set]
   refine nd_skip rfl ?_
   simp only [pL,List.set]
   refine nd_skip rfl ?_
   simp only [pL,List.set]
   refine nd_skip rfl ?_
   simp only [pL,List.set]
   refine nd_skip rfl ?_
   simp only [pL,List.set]
   refine nd_quiet ?_ rfl ?_ ?_
   rotate_left
   ·go_simp;rfl
   simp only [pL,List.set]
   refine nd_quiet ?_ rfl ?_ ?_
   rotate_left
   ·go_simp;rfl
   simp only [pL,List.set]
   refine nd_skip rfl ?_
   simp only [pL,List.set]
   refine nd_skip rfl ?_
   simp only [pL,List.set]
   refine nd_skip rfl ?_
   simp only [pL,List.set]
   refine nd_skip rfl ?_
   simp only [pL,List.set]
   refine nd_skip rfl ?_
   simp only [pL,List.set]
   refine nd_quiet ?_ rfl ?_ ?_
   rotate_left
   ·go_simp;rfl
   simp only [pL,List.set]
   refine nd_quiet ?_ rfl ?_ ?_
   rotate_left
   ·go_simp;rfl
   simp only [pL,List.set]
   refine nd_skip rfl ?_
   simp only [pL,List.set]
   refine nd_skip rfl ?_
   simp only [pL,List.set]
   refine nd_skip rfl ?_
   simp only [pL,List.set]
   refine nd_skip rfl ?_
   simp only [pL,List.set]
   refine nd_skip rfl ?_
   simp only [pL,List.set]
   refine nd_quiet ?_ rfl ?_ ?_
   rotate_left
   ·go_simp;rfl
   simp only [pL,List.set]
   refine nd_quiet ?_ rfl ?_ ?_
   rotate_left
   ·go_simp;rfl
   simp only [pL,List.set]
   refine nd_skip rfl ?_
   simp only [pL,List.set]
   refine nd_skip rfl ?_
   simp only [pL,List.set]
   refine nd_skip rfl ?_
   simp only [pL,List.set]
   refine nd_skip rfl ?_
   simp only [pL,List.set]
   refine nd_skip rfl ?_
   simp only [pL,List.set]
   refine nd_quiet ?_ rfl ?_ ?_
   rotate_left
   ·go_simp;rfl
   simp only [pL,List.set]
   go_wp2
   go_ret
   exact ans_no hno.out nW
 ·have n0:(t.id != s.id) = true:=by simp [h0]
  have hno:Hid (¬ t = s):=fun h=>h0 (by rw [h])
  clear h0 ht hs
  refine wp_region_list ?_
  simp only [List.toList_toArray,List.append_eq,List.cons_append,List.nil_append]
  refine nd_quiet ?_ rfl ?_ ?_
  rotate_left
  ·go_simp;rfl
  simp only [pL,List.set]
  refine nd_quiet ?_ rfl ?_ ?_
  rotate_left
  ·have g0:W.cell? ⟨w.heap.size,0,none⟩ = some (.int .u64 t.id):=cell_blk hA rfl;go_simp;rfl
  simp only [pL,List.set]
  refine nd_quiet ?_ rfl ?_ ?_
  rotate_left
  ·go_simp;rfl
  simp only [pL,List.set]
  refine nd_quiet ?_ rfl ?_ ?_
  rotate_left
  ·have g0:W.cell? ⟨w.heap.size + 1,0,none⟩ = some (.int .u64 s.id):=cell_blk hB rfl;go_simp;rfl
  simp only [pL,List.set]
  refine nd_quiet ?_ rfl ?_ ?_
  rotate_left
  ·go_simp;rfl
  simp only [pL,List.set]
  refine nd_quiet ?_ rfl ?_ ?_
  rotate_left
  ·go_simp;rfl
  simp only [pL,List.set]
  refine nd_skip rfl ?_
  simp only [pL,List.set]
  refine nd_skip rfl ?_
  simp only [pL,List.set]
  refine nd_skip rfl ?_
  simp only [pL,List.set]
  refine nd_skip rfl ?_
  simp only [pL,List.set]
  refine nd_skip rfl ?_
  simp only [pL,List.set]
  refine nd_quiet ?_ rfl ?_ ?_
  rotate_left
  ·go_simp;rfl
  simp only [pL,List.set]
  refine nd_quiet ?_ rfl ?_ ?_
  rotate_left
  ·go_simp;rfl
  simp only [pL,List.set]
  refine nd_skip rfl ?_
  simp only [pL,List.set]
  refine nd_skip rfl ?_
  simp only [pL,List.set]
  refine nd_skip rfl ?_
  simp only [pL,List.set]
  refine nd_skip rfl ?_
  simp only [pL,List.set]
  refine nd_skip rfl ?_
  simp only [pL,List.set]
  refine nd_quiet ?_ rfl ?_ ?_
  rotate_left
  ·go_simp;rfl
  simp only [pL,List.set]
  refine nd_quiet ?_ rfl ?_ ?_
  rotate_left
  ·go_simp;rfl
  simp only [pL,List.set]
  refine nd_skip rfl ?_
  simp only [pL,List.set]
  refine nd_skip rfl ?_
  simp only [pL,List.set]
  refine nd_skip rfl ?_
  simp only [pL,List.set]
  refine nd_skip rfl ?_
  simp only [pL,List.set]
  refine nd_skip rfl ?_
  simp only [pL,List.set]
  refine nd_quiet ?_ rfl ?_ ?_
  rotate_left
  ·go_simp;rfl
  simp only [pL,List.set]
  refine nd_quiet ?_ rfl ?_ ?_
  rotate_left
  ·go_simp;rfl
  simp only [pL,List.set]
  refine nd_skip rfl ?_
  simp only [pL,List.set]
  refine nd_skip rfl ?_
  simp only [pL,List.set]
  refine nd_skip rfl ?_
  simp only [pL,List.set]
  refine nd_skip rfl ?_
  simp only [pL,List.set]
  refine nd_skip rfl ?_
  simp only [pL,List.set]
  refine nd_quiet ?_ rfl ?_ ?_
  rotate_left
  ·go_simp;rfl
  simp only [pL,List.set]
  refine nd_quiet ?_ rfl ?_ ?_
  rotate_left
  ·go_simp;rfl
  simp only [pL,List.set]
  refine nd_skip rfl ?_
  simp only [pL,List.set]
  refine nd_skip rfl ?_
  simp only [pL,List.set]
  refine nd_skip rfl ?_
  simp only [pL,List.set]
  refine nd_skip rfl ?_
  simp only [pL,List.set]
  refine nd_skip rfl ?_
  simp only [pL,List.set]
  refine nd_quiet ?_ rfl ?_ ?_
  rotate_left
  ·go_simp;rfl
  simp only [pL,List.set]
  refine nd_quiet ?_ rfl ?_ ?_
  rotate_left
  ·go_simp;rfl
  simp only [pL,List.set]
  refine nd_skip rfl ?_
  simp only [pL,List.set]
  refine nd_skip rfl ?_
  simp only [pL,List.set]
  refine nd_skip rfl ?_
  simp only [pL,List.set]
  refine nd_skip rfl ?_
  simp only [pL,List.set]
  refine nd_skip rfl ?_
  simp only [pL,List.set]
  refine nd_quiet ?_ rfl ?_ ?_
  rotate_left
  ·go_simp;rfl
  simp only [pL,List.set]
  refine nd_quiet ?_ rfl ?_ ?_
  rotate_left
  ·go_simp;rfl
  simp only [pL,List.set]
  refine nd_skip rfl ?_
  simp only [pL,List.set]
  refine nd_skip rfl ?_
  simp only [pL,List.set]
  refine nd_skip rfl ?_
  simp only [pL,List.set]
  refine nd_skip rfl ?_
  simp only [pL,List.set]
  refine nd_skip rfl ?_
  simp only [pL,List.set]
  refine nd_quiet ?_ rfl ?_ ?_
  rotate_left
  ·go_simp;rfl
  simp only [pL,List.set]
  refine nd_quiet ?_ rfl ?_ ?_
  rotate_left
  ·go_simp;rfl
  simp only [pL,List.set]
  refine nd_skip rfl ?_
  simp only [pL,List.set]
  refine nd_skip rfl ?_
  simp only [pL,List.set]
  refine nd_skip rfl ?_
  simp only [pL,List.set]
  refine nd_skip rfl ?_
  simp only [pL,List.set]
  refine nd_skip rfl ?_
  simp only [pL,List.set]
  refine nd_quiet ?_ rfl ?_ ?_
  rotate_left
  ·go_simp;rfl
  simp only [pL,List.set]
  refine nd_quiet ?_ rfl ?_ ?_
  rotate_left
  ·go_simp;rfl
  simp only [pL,List.set]
  refine nd_skip rfl ?_
  simp only [pL,List.set]
  refine nd_skip rfl ?_
  simp only [pL,List.set]
  refine nd_skip rfl ?_
  simp only [pL,List.set]
  refine nd_skip rfl ?_
  simp only [pL,List.set]
  refine nd_skip rfl ?_
  simp only [pL,List.set]
  refine nd_quiet ?_ rfl ?_ ?_
  rotate_left
  ·go_simp;rfl
  simp only [pL,List.set]
  go_wp2
  go_ret
  exact ans_no hno.out nW
end Go.Proofs.Ytgmfofngmfekbaa
