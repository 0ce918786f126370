/-
  ThX1, ThX2: in one text.
-/
import Derived.Test.YtgmfofngmfekbaaThGdS
import Derived.Test.YtgmfofngmfekbaaThC4S
import Derived.Test.YtgmfofngmfekbaaLabS
namespace Go.Proofs.Ytgmfofngmfekbaa
set_option linter.unusedVariables false
set_option linter.unusedSimpArgs false
set_option maxRecDepth 20000
open Go.RowKit

theorem c_rid (x:Int) (w:World):Calls Try.prog 61 #[.int .u64 x] w (AnsP (idOk x) w):=by
 by_cases h1:1 ≤ x
 ·have b1:decide (1 ≤ x) = true:=decide_eq_true h1
  by_cases h2:x ≤ 281474976710655
  ·have b2:decide (x < 281474976710656) = true:=decide_eq_true (by omega)
   have hP:Hid (idOk x):=⟨h1,h2⟩
   clear h1 h2
   go_enter Try.func61,Try.ntmps61
   go_wp2
   go_ret
   exact ans_yes hP.out (nw_refl w)
  ·have b2:decide (x < 281474976710656) = false:=decide_eq_false (by omega)
   have hP:Hid (¬ idOk x):=fun h=>h2 h.2
   clear h1 h2
   go_enter Try.func61,Try.ntmps61
   go_wp2
   go_ret
   exact ans_no hP.out (nw_refl w)
 ·have b1:decide (1 ≤ x) = false:=decide_eq_false h1
  have hP:Hid (¬ idOk x):=fun h=>h1 h.1
  clear h1
  go_enter Try.func61,Try.ntmps61
  go_wp2
  go_ret
  exact ans_no hP.out (nw_refl w)

theorem c_rclean {X:Nat→Prop} {v:Value} {xs:List Cat} (d:Int) (w:World) (h:CSl X w v xs) (hl:xs.length ≤ 8796093022208) :
  Calls Try.prog 65 #[labV d v] w (AnsP (Rgt d xs∧Pu d xs) w):=by
 obtain ⟨ao,cap,rfl,ha1,ha2⟩:=h.form
 have hA:(w.alloc (.cells #[.int .i64 d,.slice ao xs.length cap] 26)).heap[w.heap.size]? = some (.cells #[.int .i64 d,.slice ao xs.length cap] 26 (0,0)):=heap_alloc_new w _
 have nW:Nw w (w.alloc (.cells #[.int .i64 d,.slice ao xs.length cap] 26)):=nw_alloc (nw_refl w) _
 have hW:=h.nw nW
 unfold labV
 have hq1:Hid _:=c_rright d _ hW hl
 unfold RgtP labV at hq1
 generalize hgw:w.alloc (.cells #[.int .i64 d,.slice ao xs.length cap] 26) = W at *
 have a0:W.cell? ⟨w.heap.size,0,none⟩ = some (.int .i64 d):=cell_blk hA rfl
 have a1:W.cell? ⟨w.heap.size,1,none⟩ = some (.slice ao xs.length cap):=cell_blk hA rfl
 generalize hn:xs.length = n at *
 replace hn:Hid _:=hn
 go_enter Try.func65,Try.ntmps65
 go_wp2_with (go_at_call 62;refine Calls.mono hq1.out ?_;rintro e W1 ⟨r,rfl,q,n1⟩;refine stop_here ?_)
 unfold Hid
 clear hq1 a0 a1 hgw
 replace hA:=(n1.block _ (heap_lt hA) (fun h=>h)).trans hA
 have a0:W1.cell? ⟨w.heap.size,0,none⟩ = some (.int .i64 d):=cell_blk hA rfl
 have a1:W1.cell? ⟨w.heap.size,1,none⟩ = some (.slice ao n cap):=cell_blk hA rfl
 replace hW:=hW.nw n1
 replace nW:=nw_trans nW n1
 cases r with
 | false =>
  have hno:Hid (¬ (Rgt d xs∧Pu d xs)):=fun h=>Bool.noConfusion (q.2 h.1)
  clear q hW
  go_wp2
  go_ret
  exact ans_no hno.out nW
 | true =>
  have hr:Hid (Rgt d xs):=q.1 rfl
  have hq1:Hid _:=c_rpure d W1 hW
  unfold AnsP labV at hq1

  clear q
  go_wp2_with (go_at_call 63;refine Calls.mono hq1.out ?_;rintro e W2 ⟨r,rfl,q,n2⟩;refine stop_here ?_)
  unfold Hid
  have fin:Hid (AnsP (Rgt d xs∧Pu d xs) w (.returned (.bool r)) W2):=⟨r,rfl,⟨fun h=>⟨hr.out,q.1 h⟩,fun h=>q.2 h.2⟩,nw_trans nW n2⟩
  clear q hW hq1 a0 a1 hA
  go_wp2
  go_ret
  exact fin.out

theorem builtThV {xa:Option Addr} {n xc:Nat} (t:Th) (v:Value) (h:Hid (v = .slice xa n xc)):Try.prog.built 34 [(0,.int .u64 t.id),(1,.int .i64 t.kind),(2,.agg #[.int .i64 t.df,v]),(4,.int .i64 t.quota)] = some (thC (baseT t) v (.slice none 0 0) (.slice none 0 0) (.slice none 0 0)).toArray:=builtTh t v xa n xc h.out
theorem tb_base {X:Nat→Prop} {w:World} {t:Th} {uL uC uK uD:Value} (h:ThAt X w t uL uC uK uD):ThAt X w (baseT t) uL (.slice none 0 0) (.slice none 0 0) (.slice none 0 0):=⟨h.l,csl_nil _ _,csl_nil _ _,bsl_nil _ _⟩

set_option maxHeartbeats 6400000 in
theorem c_rno1 {X:Nat→Prop} {t:Th} {uL uC uK uD:Value} (w:World) (h:ThAt X w t uL uC uK uD) (l1:t.cats.length ≤ 8796093022208) (h1:¬ idOk t.id) :
  Calls Try.prog 35 #[(thV t uL uC uK uD)] w (AnsP (RightT t) w):=by
 have hno:Hid (¬ RightT t):=fun h=>h1 h.id
 replace h1:Hid _:=h1
 obtain ⟨W,hW⟩:∃ W,Hid (W = w.alloc (.cells (thC t uL uC uK uD).toArray 34)):=⟨_,rfl⟩
 have nW:Nw w W:=by rw [hW.out];exact nw_alloc (nw_refl w) _
 have hA:W.heap[w.heap.size]? = some (.cells (thC t uL uC uK uD).toArray 34 (0,0)):=by rw [hW.out];exact heap_alloc_new w _
 have ht:=(h.mono (X':=fun b=>b < w.heap.size) (fun b _ hb=>hb)).nw nW
 clear h
 go_enter Try.func35,Try.ntmps35
 go_upto_region 1 with (refine wpList_box_agg rfl 34 _ rfl (thV t uL uC uK uD) _ rfl rfl ?_)
 rw [← hW.out]
 clear hW
 have hq1:Hid _:=c_rid t.id W
 unfold AnsP at hq1
 have a0:W.cell? ⟨w.heap.size,0,none⟩ = some (.int .u64 t.id):=cell_blk hA rfl
 have a1:W.cell? ⟨w.heap.size,1,none⟩ = some (.int .i64 t.kind):=cell_blk hA rfl
 have a2:W.cell? ⟨w.heap.size,2,none⟩ = some (.int .i64 t.df):=cell_blk hA rfl
 have a3:W.cell? ⟨w.heap.size,3,none⟩ = some (uL):=cell_blk hA rfl
 go_wp2_with (first | (go_at_call 61;refine Calls.mono hq1.out ?_;rintro e W1 ⟨r,rfl,q,n1⟩;obtain rfl:r = false:=(by cases r;rfl;exact absurd (q.1 rfl) h1.out);refine stop_here ?_))
 unfold Hid
 clear hq1 q a0 a1 a2 a3 hA ht
 replace nW:=nw_trans nW n1
 go_wp2
 go_ret
 exact ans_no hno.out nW

set_option maxHeartbeats 6400000 in
theorem c_rno2 {X:Nat→Prop} {t:Th} {uL uC uK uD:Value} (w:World) (h:ThAt X w t uL uC uK uD) (l1:t.cats.length ≤ 8796093022208) (h1:idOk t.id) (h2:¬ Rgt t.df t.cats) :
  Calls Try.prog 35 #[(thV t uL uC uK uD)] w (AnsP (RightT t) w):=by
 have hno:Hid (¬ RightT t):=fun h=>h2 h.rgt
 replace h1:Hid _:=h1
 replace h2:Hid _:=h2
 obtain ⟨W,hW⟩:∃ W,Hid (W = w.alloc (.cells (thC t uL uC uK uD).toArray 34)):=⟨_,rfl⟩
 have nW:Nw w W:=by rw [hW.out];exact nw_alloc (nw_refl w) _
 have hA:W.heap[w.heap.size]? = some (.cells (thC t uL uC uK uD).toArray 34 (0,0)):=by rw [hW.out];exact heap_alloc_new w _
 have ht:=(h.mono (X':=fun b=>b < w.heap.size) (fun b _ hb=>hb)).nw nW
 clear h
 go_enter Try.func35,Try.ntmps35
 go_upto_region 1 with (refine wpList_box_agg rfl 34 _ rfl (thV t uL uC uK uD) _ rfl rfl ?_)
 rw [← hW.out]
 clear hW
 have hq1:Hid _:=c_rid t.id W
 unfold AnsP at hq1
 have a0:W.cell? ⟨w.heap.size,0,none⟩ = some (.int .u64 t.id):=cell_blk hA rfl
 have a1:W.cell? ⟨w.heap.size,1,none⟩ = some (.int .i64 t.kind):=cell_blk hA rfl
 have a2:W.cell? ⟨w.heap.size,2,none⟩ = some (.int .i64 t.df):=cell_blk hA rfl
 have a3:W.cell? ⟨w.heap.size,3,none⟩ = some (uL):=cell_blk hA rfl
 go_wp2_with (first | (go_at_call 61;refine Calls.mono hq1.out ?_;rintro e W1 ⟨r,rfl,q,n1⟩;obtain rfl:=q.2 h1.out;refine stop_here ?_))
 unfold Hid
 clear hq1 q a0 a1 a2 a3
 replace hA:=(n1.block _ (heap_lt hA) (fun h=>h)).trans hA
 replace ht:=ht.nw n1
 replace nW:=nw_trans nW n1
 have hq1:Hid _:=c_rright t.df W1 ht.l (by omega)
 unfold RgtP labV at hq1
 have a0:W1.cell? ⟨w.heap.size,0,none⟩ = some (.int .u64 t.id):=cell_blk hA rfl
 have a1:W1.cell? ⟨w.heap.size,1,none⟩ = some (.int .i64 t.kind):=cell_blk hA rfl
 have a2:W1.cell? ⟨w.heap.size,2,none⟩ = some (.int .i64 t.df):=cell_blk hA rfl
 have a3:W1.cell? ⟨w.heap.size,3,none⟩ = some (uL):=cell_blk hA rfl
 go_wp2_with (first | (go_at_call 62;refine Calls.mono hq1.out ?_;rintro e W2 ⟨r,rfl,q,n2⟩;obtain rfl:r = false:=(by cases r;rfl;exact absurd (q.1 rfl) h2.out);refine stop_here ?_))
 unfold Hid
 clear hq1 q a0 a1 a2 a3 hA ht
 replace nW:=nw_trans nW n2
 go_wp2
 go_ret
 exact ans_no hno.out nW

set_option maxHeartbeats 6400000 in
theorem c_rno3 {X:Nat→Prop} {t:Th} {uL uC uK uD:Value} (w:World) (h:ThAt X w t uL uC uK uD) (l1:t.cats.length ≤ 8796093022208) (h1:idOk t.id) (h2:Rgt t.df t.cats) (k2:¬ t.kind = 2) (k3:¬ t.kind = 3) (h3:¬ Pu t.df t.cats) :
  Calls Try.prog 35 #[(thV t uL uC uK uD)] w (AnsP (RightT t) w):=by
 have hno:Hid (¬ RightT t):=fun h=>by rcases h.pu with e | e | e;exact k2 e;exact k3 e;exact h3 e
 have bn2:(t.kind != 2) = true:=by simp [k2]
 have bn3:(t.kind != 3) = true:=by simp [k3]
 clear k2 k3
 replace h1:Hid _:=h1
 replace h2:Hid _:=h2
 replace h3:Hid _:=h3
 obtain ⟨W,hW⟩:∃ W,Hid (W = w.alloc (.cells (thC t uL uC uK uD).toArray 34)):=⟨_,rfl⟩
 have nW:Nw w W:=by rw [hW.out];exact nw_alloc (nw_refl w) _
 have hA:W.heap[w.heap.size]? = some (.cells (thC t uL uC uK uD).toArray 34 (0,0)):=by rw [hW.out];exact heap_alloc_new w _
 have ht:=(h.mono (X':=fun b=>b < w.heap.size) (fun b _ hb=>hb)).nw nW
 clear h
 go_enter Try.func35,Try.ntmps35
 go_upto_region 1 with (refine wpList_box_agg rfl 34 _ rfl (thV t uL uC uK uD) _ rfl rfl ?_)
 rw [← hW.out]
 clear hW
 have hq1:Hid _:=c_rid t.id W
 unfold AnsP at hq1
 have a0:W.cell? ⟨w.heap.size,0,none⟩ = some (.int .u64 t.id):=cell_blk hA rfl
 have a1:W.cell? ⟨w.heap.size,1,none⟩ = some (.int .i64 t.kind):=cell_blk hA rfl
 have a2:W.cell? ⟨w.heap.size,2,none⟩ = some (.int .i64 t.df):=cell_blk hA rfl
 have a3:W.cell? ⟨w.heap.size,3,none⟩ = some (uL):=cell_blk hA rfl
 go_wp2_with (first | (go_at_call 61;refine Calls.mono hq1.out ?_;rintro e W1 ⟨r,rfl,q,n1⟩;obtain rfl:=q.2 h1.out;refine stop_here ?_))
 unfold Hid
 clear hq1 q a0 a1 a2 a3
 replace hA:=(n1.block _ (heap_lt hA) (fun h=>h)).trans hA
 replace ht:=ht.nw n1
 replace nW:=nw_trans nW n1
 have hq1:Hid _:=c_rright t.df W1 ht.l (by omega)
 unfold RgtP labV at hq1
 have a0:W1.cell? ⟨w.heap.size,0,none⟩ = some (.int .u64 t.id):=cell_blk hA rfl
 have a1:W1.cell? ⟨w.heap.size,1,none⟩ = some (.int .i64 t.kind):=cell_blk hA rfl
 have a2:W1.cell? ⟨w.heap.size,2,none⟩ = some (.int .i64 t.df):=cell_blk hA rfl
 have a3:W1.cell? ⟨w.heap.size,3,none⟩ = some (uL):=cell_blk hA rfl
 go_wp2_with (first | (go_at_call 62;refine Calls.mono hq1.out ?_;rintro e W2 ⟨r,rfl,q,n2⟩;obtain rfl:=q.2 h2.out;refine stop_here ?_))
 unfold Hid
 clear hq1 q a0 a1 a2 a3
 replace hA:=(n2.block _ (heap_lt hA) (fun h=>h)).trans hA
 replace ht:=ht.nw n2
 replace nW:=nw_trans nW n2
 have hq1:Hid _:=c_rpure t.df W2 ht.l
 unfold AnsP labV at hq1
 have a1:W2.cell? ⟨w.heap.size,1,none⟩ = some (.int .i64 t.kind):=cell_blk hA rfl
 have a2:W2.cell? ⟨w.heap.size,2,none⟩ = some (.int .i64 t.df):=cell_blk hA rfl
 have a3:W2.cell? ⟨w.heap.size,3,none⟩ = some (uL):=cell_blk hA rfl
 go_wp2_with (first | (go_at_call 63;refine Calls.mono hq1.out ?_;rintro e W3 ⟨r,rfl,q,n3⟩;obtain rfl:r = false:=(by cases r;rfl;exact absurd (q.1 rfl) h3.out);refine stop_here ?_))
 unfold Hid
 clear hq1 q a1 a2 a3 hA ht
 replace nW:=nw_trans nW n3
 go_wp2
 go_ret
 exact ans_no hno.out nW

end Go.Proofs.Ytgmfofngmfekbaa

namespace Go.Proofs.Ytgmfofngmfekbaa
set_option linter.unusedVariables false
set_option linter.unusedSimpArgs false
set_option maxRecDepth 20000
open Go.RowKit

theorem c_rcanN (a:Int) (h0:0 ≤ a) (h1:a < 18446744073709551616) (w:World):Calls Try.prog 64 #[.int .u64 a] w fun e w'=>e = .returned (.int .u64 (Num.canonV a))∧Nw w w' :=
 (Num.c_rcanon a h0 h1 w).mono (fun e w' h=>⟨h.1,h.2 ▸ nw_refl w⟩)

set_option maxRecDepth 100000 in
set_option maxHeartbeats 6400000 in
theorem c_rk6 {X:Nat→Prop} {t:Th} {uL uC uK uD:Value} (w:World) (h:ThAt X w t uL uC uK uD) (hwf:WfT t) (l1:t.cats.length ≤ 8796093022208) (l2:t.ccats.length ≤ 8796093022208) (h1:idOk t.id) (h2:Rgt t.df t.cats) (h3:Pu t.df t.cats) (hk:t.kind = 6) :
  Calls Try.prog 35 #[(thV t uL uC uK uD)] w (AnsP (t = ofK t∧KindOk t) w):=by
 have bk1:(t.kind == 1) = false:=by simp [hk]
 have bk2:(t.kind == 2) = false:=by simp [hk]
 have bk3:(t.kind == 3) = false:=by simp [hk]
 have bk4:(t.kind == 4) = false:=by simp [hk]
 have bk5:(t.kind == 5) = false:=by simp [hk]
 have bk6:(t.kind == 6) = true:=by simp [hk]
 have bn2:(t.kind != 2) = true:=by simp [hk]
 have bn3:(t.kind != 3) = true:=by simp [hk]
 replace h1:Hid _:=h1
 replace h2:Hid _:=h2
 replace h3:Hid _:=h3
 obtain ⟨xa,xc,hfL⟩:∃ a c,uL = .slice a t.cats.length c:=by obtain ⟨a,c,e,_⟩:=h.l.form;exact ⟨a,c,e⟩
 replace hfL:Hid _:=hfL
 obtain ⟨W,hW⟩:∃ W,Hid (W = w.alloc (.cells (thC t uL uC uK uD).toArray 34)):=⟨_,rfl⟩
 have nW:Nw w W:=by rw [hW.out];exact nw_alloc (nw_refl w) _
 have hA:W.heap[w.heap.size]? = some (.cells (thC t uL uC uK uD).toArray 34 (0,0)):=by rw [hW.out];exact heap_alloc_new w _
 have ht:=(h.mono (X':=fun b=>b < w.heap.size) (fun b _ hb=>hb)).nw nW
 clear h
 go_enter Try.func35,Try.ntmps35
 go_upto_region 1 with (refine wpList_box_agg rfl 34 _ rfl (thV t uL uC uK uD) _ rfl rfl ?_)
 rw [← hW.out]
 clear hW
 have hPl:Hid (w.heap.size < W.heap.size):=heap_lt hA
 have hq1:Hid _:=c_rid t.id W
 unfold AnsP at hq1
 have a0:W.cell? ⟨w.heap.size,0,none⟩ = some (.int .u64 t.id):=cell_blk hA rfl
 have a1:W.cell? ⟨w.heap.size,1,none⟩ = some (.int .i64 t.kind):=cell_blk hA rfl
 have a2:W.cell? ⟨w.heap.size,2,none⟩ = some (.int .i64 t.df):=cell_blk hA rfl
 have a3:W.cell? ⟨w.heap.size,3,none⟩ = some (uL):=cell_blk hA rfl
 go_wp2_with (first | (go_at_call 61;refine Calls.mono hq1.out ?_;rintro e W1 ⟨r,rfl,q,n1⟩;obtain rfl:=q.2 h1.out;refine stop_here ?_))
 unfold Hid
 clear hq1 q a0 a1 a2 a3
 replace hA:=(n1.block _ (heap_lt hA) (fun h=>h)).trans hA
 replace ht:=ht.nw n1
 replace nW:=nw_trans nW n1
 have hq1:Hid _:=c_rright t.df W1 ht.l (by omega)
 unfold RgtP labV at hq1
 have a0:W1.cell? ⟨w.heap.size,0,none⟩ = some (.int .u64 t.id):=cell_blk hA rfl
 have a1:W1.cell? ⟨w.heap.size,1,none⟩ = some (.int .i64 t.kind):=cell_blk hA rfl
 have a2:W1.cell? ⟨w.heap.size,2,none⟩ = some (.int .i64 t.df):=cell_blk hA rfl
 have a3:W1.cell? ⟨w.heap.size,3,none⟩ = some (uL):=cell_blk hA rfl
 go_wp2_with (first | (go_at_call 62;refine Calls.mono hq1.out ?_;rintro e W2 ⟨r,rfl,q,n2⟩;obtain rfl:=q.2 h2.out;refine stop_here ?_))
 unfold Hid
 clear hq1 q a0 a1 a2 a3
 replace hA:=(n2.block _ (heap_lt hA) (fun h=>h)).trans hA
 replace ht:=ht.nw n2
 replace nW:=nw_trans nW n2
 have hq1:Hid _:=c_rpure t.df W2 ht.l
 unfold AnsP labV at hq1
 have a1:W2.cell? ⟨w.heap.size,1,none⟩ = some (.int .i64 t.kind):=cell_blk hA rfl
 have a2:W2.cell? ⟨w.heap.size,2,none⟩ = some (.int .i64 t.df):=cell_blk hA rfl
 have a3:W2.cell? ⟨w.heap.size,3,none⟩ = some (uL):=cell_blk hA rfl
 go_wp2_with (first | (go_at_call 63;refine Calls.mono hq1.out ?_;rintro e W3 ⟨r,rfl,q,n3⟩;obtain rfl:=q.2 h3.out;refine stop_here ?_))
 unfold Hid
 clear hq1 q a1 a2 a3
 replace hA:=(n3.block _ (heap_lt hA) (fun h=>h)).trans hA
 replace ht:=ht.nw n3
 replace nW:=nw_trans nW n3
 have a1:W3.cell? ⟨w.heap.size,1,none⟩ = some (.int .i64 t.kind):=cell_blk hA rfl
 go_upto_region 3 with fail
 clear a1
 replace hPl:Hid (w.heap.size < W3.heap.size):=heap_lt hA
 have hrA:=range_all hA
 obtain ⟨Y,hY⟩:∃ Y,Hid (Y = W3.alloc (.cells (thC zeroT (.slice none 0 0) (.slice none 0 0) (.slice none 0 0) (.slice none 0 0)).toArray 34)):=⟨_,rfl⟩
 have hP:Y.heap[W3.heap.size]? = some (.cells (thC zeroT (.slice none 0 0) (.slice none 0 0) (.slice none 0 0) (.slice none 0 0)).toArray 34 (0,0)):=by rw [hY.out];exact heap_alloc_new W3 _
 have nY:Nw W3 Y:=by rw [hY.out];exact nw_alloc (nw_refl _) _
 obtain ⟨V,hV⟩:∃ V,Hid (V = Y.setRow W3.heap.size (thC t uL uC uK uD).toArray):=⟨_,rfl⟩
 have hB:V.heap[W3.heap.size]? = some (.cells (thC t uL uC uK uD).toArray 34 (0,0)):=by rw [hV.out];exact setRow_heap _ _ _ _ _ _ hP
 have nV:Nw W3 V:=by rw [hV.out];exact Fr.setRow nY (.inr (Nat.le_refl _)) _
 have hone:=ht.one
 replace hA:=(nV.block _ (heap_lt hA) (fun h=>h)).trans hA
 replace ht:=ht.nw nV
 replace nW:=nw_trans nW nV
 go_wp2_with (first | (refine wpList_load_as rfl 34 _ rfl (w.heap.size) 0 rfl (thV t uL uC uK uD) _ rfl hrA Try.rowT Try.sizeT ?_) | (refine wpList_alloc_agg rfl 34 rfl _ Try.zeroTh ?_;rw [← hY.out];refine stop_here ?_))
 unfold Hid
 refine wpList_store_all rfl 34 _ _ rfl W3.heap.size rfl (thV t uL uC uK uD) rfl (thC t uL uC uK uD) rfl (thC zeroT (.slice none 0 0) (.slice none 0 0) (.slice none 0 0) (.slice none 0 0)) 34 hP rfl hone Try.sizeT ?_
 rw [← hV.out]
 have hPA:Hid (w.heap.size < W3.heap.size):=by have:=nV.size;have:=heap_lt hA;have:=heap_lt hB;have h9:=hPl.out;unfold Hid;omega
 have hPw:Hid (w.heap.size ≤ W3.heap.size):=Nat.le_of_lt hPA.out
 generalize W3.heap.size = P at *
 clear hY hV hP nY nV hone hrA
 have a1:V.cell? ⟨w.heap.size,1,none⟩ = some (.int .i64 t.kind):=cell_blk hA rfl
 go_upto_region 54 with fail
 clear a1
 have hbk:Hid (bareK t = t):=by unfold Hid bareK;simp [hk]
 have hbare:=ht
 replace hk:Hid _:=hk
 by_cases hq:t.quota = 1
 ·have bq:(t.quota == 1) = true:=by simp [hq]
  have hyes:Hid (KindOk t):=.inr (.inr (.inr (.inr (.inr ⟨hk.out,hq⟩))))
  clear hq
  refine wp_region_list ?_
  simp only [List.toList_toArray,List.append_eq,List.cons_append,List.nil_append]
  refine nd_quiet ?_ rfl ?_ ?_
  rotate_left
  ·go_simp;rfl
  simp only [pL,List.set]
  refine nd_quiet ?_ rfl ?_ ?_
  rotate_left
  ·have g0:V.cell? ⟨w.heap.size,6,none⟩ = some (.int .i64 t.quota):=cell_blk hA rfl;go_simp;rfl
  simp only [pL,List.set]
  refine nd_quiet ?_ rfl ?_ ?_
  rotate_left
  ·go_simp;rfl
  simp only [pL,List.set]
  refine nd_quiet ?_ rfl ?_ ?_
  rotate_left
  ·go_simp;first | exact congrArg Value.bool bq | rfl
  simp only [pL,List.set]
  refine nd_quiet ?_ rfl ?_ ?_
  rotate_left
  ·go_simp;rfl
  simp only [pL,List.set]
  refine nd_quiet ?_ rfl ?_ ?_
  rotate_left
  ·refine (run_load_quiet 34 _ V rfl P 0 rfl (thC t uL uC uK uD) (range_all hB) Try.rowT Try.sizeT).trans ?_;rfl
  simp only [pL,List.set]
  refine nd_quiet ?_ rfl ?_ ?_
  rotate_left
  ·go_simp;rfl
  simp only [pL,List.set]
  refine nd_quiet ?_ rfl ?_ ?_
  rotate_left
  ·have g0:V.cell? ⟨w.heap.size,0,none⟩ = some (.int .u64 t.id):=cell_blk hA rfl;go_simp;rfl
  simp only [pL,List.set]
  refine nd_quiet ?_ rfl ?_ ?_
  rotate_left
  ·go_simp;rfl
  simp only [pL,List.set]
  refine nd_quiet ?_ rfl ?_ ?_
  rotate_left
  ·have g0:V.cell? ⟨w.heap.size,1,none⟩ = some (.int .i64 t.kind):=cell_blk hA rfl;go_simp;rfl
  simp only [pL,List.set]
  refine nd_quiet ?_ rfl ?_ ?_
  rotate_left
  ·go_simp;rfl
  simp only [pL,List.set]
  refine nd_quiet ?_ rfl ?_ ?_
  rotate_left
  ·have g0:V.cell? ⟨w.heap.size,2,none⟩ = some (.int .i64 t.df):=cell_blk hA rfl;have g1:V.cell? ⟨w.heap.size,3,none⟩ = some (uL):=cell_blk hA rfl;go_simp;rfl
  simp only [pL,List.set]
  refine nd_quiet ?_ rfl ?_ ?_
  rotate_left
  ·go_simp;rfl
  simp only [pL,List.set]
  refine nd_quiet ?_ rfl ?_ ?_
  rotate_left
  ·have g0:V.cell? ⟨w.heap.size,6,none⟩ = some (.int .i64 t.quota):=cell_blk hA rfl;go_simp;rfl
  simp only [pL,List.set]
  refine wpList_build_as rfl 34 _ rfl (thV (baseT t) uL (.slice none 0 0) (.slice none 0 0) (.slice none 0 0)) (thC (baseT t) uL (.slice none 0 0) (.slice none 0 0) (.slice none 0 0)).toArray rfl ?z ?_
  case z =>
   simp only [List.map_cons,List.map_nil,Act.eval]
   exact builtThV t uL hfL
  simp only [pL,List.set]
  have hcs:Hid _:=c_rtsame V hbare (tb_base ht)
  unfold AnsP at hcs
  clear hfL
  go_wp2_with (first | (go_at_call 15;refine Calls.mono hcs.out ?_;rintro e Vz ⟨r1,rfl,q1,n9⟩;refine stop_here ?_))
  unfold Hid
  have fin:Hid (AnsP (t = ofK t∧KindOk t) w (.returned (.bool r1)) Vz):=⟨r1,rfl,⟨fun hr=>⟨(bare_iff t).1 (hbk.out.trans (q1.1 hr)),hyes.out⟩,fun hr=>q1.2 (hbk.out.symm.trans ((bare_iff t).2 hr.1))⟩,nw_trans nW n9⟩
  clear hcs q1 n9 hbare ht hA hB
  go_wp2
  go_ret
  exact fin.out
 ·have bq:(t.quota == 1) = false:=by simp [hq]
  have hno:Hid (¬ (t = ofK t∧KindOk t)):=fun h=>hq ((kd6 hk.out).1 h.2)
  clear hq
  have a6:V.cell? ⟨w.heap.size,6,none⟩ = some (.int .i64 t.quota):=cell_blk hA rfl
  go_wp2
  go_ret
  exact ans_no hno.out nW

set_option maxRecDepth 100000 in
set_option maxHeartbeats 6400000 in
theorem c_rk3 {X:Nat→Prop} {t:Th} {uL uC uK uD:Value} (w:World) (h:ThAt X w t uL uC uK uD) (hwf:WfT t) (l1:t.cats.length ≤ 8796093022208) (l2:t.ccats.length ≤ 8796093022208) (h1:idOk t.id) (h2:Rgt t.df t.cats) (hk:t.kind = 3) :
  Calls Try.prog 35 #[(thV t uL uC uK uD)] w (AnsP (t = ofK t∧KindOk t) w):=by
 have bk1:(t.kind == 1) = false:=by simp [hk]
 have bk2:(t.kind == 2) = false:=by simp [hk]
 have bk3:(t.kind == 3) = true:=by simp [hk]
 have bk4:(t.kind == 4) = false:=by simp [hk]
 have bk5:(t.kind == 5) = false:=by simp [hk]
 have bk6:(t.kind == 6) = false:=by simp [hk]
 have bn2:(t.kind != 2) = true:=by simp [hk]
 have bn3:(t.kind != 3) = false:=by simp [hk]
 replace h1:Hid _:=h1
 replace h2:Hid _:=h2
 obtain ⟨xa,xc,hfL⟩:∃ a c,uL = .slice a t.cats.length c:=by obtain ⟨a,c,e,_⟩:=h.l.form;exact ⟨a,c,e⟩
 replace hfL:Hid _:=hfL
 obtain ⟨W,hW⟩:∃ W,Hid (W = w.alloc (.cells (thC t uL uC uK uD).toArray 34)):=⟨_,rfl⟩
 have nW:Nw w W:=by rw [hW.out];exact nw_alloc (nw_refl w) _
 have hA:W.heap[w.heap.size]? = some (.cells (thC t uL uC uK uD).toArray 34 (0,0)):=by rw [hW.out];exact heap_alloc_new w _
 have ht:=(h.mono (X':=fun b=>b < w.heap.size) (fun b _ hb=>hb)).nw nW
 clear h
 go_enter Try.func35,Try.ntmps35
 go_upto_region 1 with (refine wpList_box_agg rfl 34 _ rfl (thV t uL uC uK uD) _ rfl rfl ?_)
 rw [← hW.out]
 clear hW
 have hPl:Hid (w.heap.size < W.heap.size):=heap_lt hA
 have hq1:Hid _:=c_rid t.id W
 unfold AnsP at hq1
 have a0:W.cell? ⟨w.heap.size,0,none⟩ = some (.int .u64 t.id):=cell_blk hA rfl
 have a1:W.cell? ⟨w.heap.size,1,none⟩ = some (.int .i64 t.kind):=cell_blk hA rfl
 have a2:W.cell? ⟨w.heap.size,2,none⟩ = some (.int .i64 t.df):=cell_blk hA rfl
 have a3:W.cell? ⟨w.heap.size,3,none⟩ = some (uL):=cell_blk hA rfl
 go_wp2_with (first | (go_at_call 61;refine Calls.mono hq1.out ?_;rintro e W1 ⟨r,rfl,q,n1⟩;obtain rfl:=q.2 h1.out;refine stop_here ?_))
 unfold Hid
 clear hq1 q a0 a1 a2 a3
 replace hA:=(n1.block _ (heap_lt hA) (fun h=>h)).trans hA
 replace ht:=ht.nw n1
 replace nW:=nw_trans nW n1
 have hq1:Hid _:=c_rright t.df W1 ht.l (by omega)
 unfold RgtP labV at hq1
 have a0:W1.cell? ⟨w.heap.size,0,none⟩ = some (.int .u64 t.id):=cell_blk hA rfl
 have a1:W1.cell? ⟨w.heap.size,1,none⟩ = some (.int .i64 t.kind):=cell_blk hA rfl
 have a2:W1.cell? ⟨w.heap.size,2,none⟩ = some (.int .i64 t.df):=cell_blk hA rfl
 have a3:W1.cell? ⟨w.heap.size,3,none⟩ = some (uL):=cell_blk hA rfl
 go_wp2_with (first | (go_at_call 62;refine Calls.mono hq1.out ?_;rintro e W2 ⟨r,rfl,q,n2⟩;obtain rfl:=q.2 h2.out;refine stop_here ?_))
 unfold Hid
 clear hq1 q a0 a1 a2 a3
 replace hA:=(n2.block _ (heap_lt hA) (fun h=>h)).trans hA
 replace ht:=ht.nw n2
 replace nW:=nw_trans nW n2
 have a1:W2.cell? ⟨w.heap.size,1,none⟩ = some (.int .i64 t.kind):=cell_blk hA rfl
 go_upto_region 3 with fail
 clear a1
 replace hPl:Hid (w.heap.size < W2.heap.size):=heap_lt hA
 have hrA:=range_all hA
 obtain ⟨Y,hY⟩:∃ Y,Hid (Y = W2.alloc (.cells (thC zeroT (.slice none 0 0) (.slice none 0 0) (.slice none 0 0) (.slice none 0 0)).toArray 34)):=⟨_,rfl⟩
 have hP:Y.heap[W2.heap.size]? = some (.cells (thC zeroT (.slice none 0 0) (.slice none 0 0) (.slice none 0 0) (.slice none 0 0)).toArray 34 (0,0)):=by rw [hY.out];exact heap_alloc_new W2 _
 have nY:Nw W2 Y:=by rw [hY.out];exact nw_alloc (nw_refl _) _
 obtain ⟨V,hV⟩:∃ V,Hid (V = Y.setRow W2.heap.size (thC t uL uC uK uD).toArray):=⟨_,rfl⟩
 have hB:V.heap[W2.heap.size]? = some (.cells (thC t uL uC uK uD).toArray 34 (0,0)):=by rw [hV.out];exact setRow_heap _ _ _ _ _ _ hP
 have nV:Nw W2 V:=by rw [hV.out];exact Fr.setRow nY (.inr (Nat.le_refl _)) _
 have hone:=ht.one
 replace hA:=(nV.block _ (heap_lt hA) (fun h=>h)).trans hA
 replace ht:=ht.nw nV
 replace nW:=nw_trans nW nV
 go_wp2_with (first | (refine wpList_load_as rfl 34 _ rfl (w.heap.size) 0 rfl (thV t uL uC uK uD) _ rfl hrA Try.rowT Try.sizeT ?_) | (refine wpList_alloc_agg rfl 34 rfl _ Try.zeroTh ?_;rw [← hY.out];refine stop_here ?_))
 unfold Hid
 refine wpList_store_all rfl 34 _ _ rfl W2.heap.size rfl (thV t uL uC uK uD) rfl (thC t uL uC uK uD) rfl (thC zeroT (.slice none 0 0) (.slice none 0 0) (.slice none 0 0) (.slice none 0 0)) 34 hP rfl hone Try.sizeT ?_
 rw [← hV.out]
 have hPA:Hid (w.heap.size < W2.heap.size):=by have:=nV.size;have:=heap_lt hA;have:=heap_lt hB;have h9:=hPl.out;unfold Hid;omega
 have hPw:Hid (w.heap.size ≤ W2.heap.size):=Nat.le_of_lt hPA.out
 generalize W2.heap.size = P at *
 clear hY hV hP nY nV hone hrA
 have a1:V.cell? ⟨w.heap.size,1,none⟩ = some (.int .i64 t.kind):=cell_blk hA rfl
 go_upto_region 36 with fail
 clear a1
 replace hk:Hid _:=hk
 by_cases hcan:can t.value
 ·have bc:(Num.canonV t.value != t.value) = false:=by simp [show Num.canonV t.value = t.value from hcan]
  replace hcan:Hid _:=hcan
  have hSof:∀ w',Nw V w'→(fun w':World=>Nw V w'∧w'.heap[w.heap.size]? = some (.cells (thC t uL uC uK uD).toArray 34 (0,0))) w':=fun w' hw=>⟨hw,(hw.block _ (heap_lt hA) (fun h=>h)).trans hA⟩
  have hW0:Nw V V.drew:=Fr.drew (Fr.refl _ V)
  have hS:=hSof _ hW0
  replace ht:=ht.nw hW0
  replace hSof:Hid _:=hSof
  refine wp_region_ord [] 11 [(0,true),(1,true),(2,false),(3,true),(4,true),(5,true),(8,true),(6,true),(9,true),(7,false),(10,true)] (fun w':World=>Nw V w'∧w'.heap[w.heap.size]? = some (.cells (thC t uL uC uK uD).toArray 34 (0,0))) (by kernel_rfl) (by kernel_rfl) ?_
  refine ord_quietL _ ?_ rfl hS rfl ?_ ?_
  rotate_left
  ·rintro w' ⟨hn,rhA⟩;go_simp;rfl
  simp only [pL,List.set]
  refine ord_quietL _ ?_ rfl hS rfl ?_ ?_
  rotate_left
  ·rintro w' ⟨hn,rhA⟩;have g0:w'.cell? ⟨w.heap.size,4,none⟩ = some (.int .i64 t.cdf):=cell_blk rhA rfl;have g1:w'.cell? ⟨w.heap.size,5,none⟩ = some (uC):=cell_blk rhA rfl;go_simp;rfl
  simp only [pL,List.set]
  refine ord_actL _ rfl (fun K1 hK1=>?_)
  have hcon:Hid _:=c_rclean t.cdf V.drew ht.c (by omega)
  unfold AnsP labV at hcon
  go_wp2_with (go_at_call 65;refine Calls.mono hcon.out ?_;rintro e wk0 ⟨r,rfl,q1,qn⟩)
  have m0:=nw_trans hW0 qn
  replace ht:=ht.nw qn
  cases r with
  | true =>
   have hcl:Hid (Rgt t.cdf t.ccats∧Pu t.cdf t.ccats):=q1.1 rfl
   clear q1
   refine hK1 _ _ (hSof.out _ m0) ?_
   clear hK1 K1 hcon qn hS hW0
   have hS:=hSof.out _ m0
   refine ord_quietL _ ?_ rfl hS rfl ?_ ?_
   rotate_left
   ·rintro w' ⟨hn,rhA⟩;go_simp;rfl
   simp only [pL,List.set]
   refine ord_quietL _ ?_ rfl hS rfl ?_ ?_
   rotate_left
   ·rintro w' ⟨hn,rhA⟩;go_simp;rfl
   simp only [pL,List.set]
   refine ord_quietL _ ?_ rfl hS rfl ?_ ?_
   rotate_left
   ·rintro w' ⟨hn,rhA⟩;go_simp;rfl
   simp only [pL,List.set]
   refine ord_quietL _ ?_ rfl hS rfl ?_ ?_
   rotate_left
   ·rintro w' ⟨hn,rhA⟩;go_simp;rfl
   simp only [pL,List.set]
   refine ord_quietL _ ?_ rfl hS rfl ?_ ?_
   rotate_left
   ·rintro w' ⟨hn,rhA⟩;have g0:w'.cell? ⟨w.heap.size,17,none⟩ = some (.int .u64 t.value):=cell_blk rhA rfl;go_simp;rfl
   simp only [pL,List.set]
   refine ord_quietL _ ?_ rfl hS rfl ?_ ?_
   rotate_left
   ·rintro w' ⟨hn,rhA⟩;have g0:w'.cell? ⟨w.heap.size,17,none⟩ = some (.int .u64 t.value):=cell_blk rhA rfl;go_simp;rfl
   simp only [pL,List.set]
   refine ord_actL _ rfl (fun K1 hK1=>?_)
   have hcon:Hid _:=c_rcanN t.value hwf.value.1 hwf.value.2 wk0
   go_wp2_with (go_at_call 64;refine Calls.mono hcon.out ?_;rintro e wk1 ⟨rfl,qn⟩)
   have m1:=nw_trans m0 qn
   replace ht:=ht.nw qn
   refine hK1 _ _ (hSof.out _ m1) ?_
   clear hK1 K1 hcon qn hS m0
   have hS:=hSof.out _ m1
   refine ord_quietL _ ?_ rfl hS rfl ?_ ?_
   rotate_left
   ·rintro w' ⟨hn,rhA⟩;go_simp;rfl
   simp only [pL,List.set]
   refine ord_tail ?_
   simp only [List.drop_succ_cons,List.drop_zero]
   replace nW:=nw_trans nW m1
   replace hA:=(m1.block _ (heap_lt hA) (fun h=>h)).trans hA
   replace hB:=(m1.block _ (heap_lt hB) (fun h=>h)).trans hB
   clear hS hSof m1
   have y4:wk1.frozen? ⟨P,4,none⟩ = false:=free_blk hB
   have y5:wk1.frozen? ⟨P,5,none⟩ = false:=free_blk hB
   have y17:wk1.frozen? ⟨P,17,none⟩ = false:=free_blk hB
   have z4:wk1.cell? ⟨P,4,none⟩ = some (.int .i64 t.cdf):=cell_blk hB rfl
   have z5:wk1.cell? ⟨P,5,none⟩ = some (uC):=cell_blk hB rfl
   have z17:wk1.cell? ⟨P,17,none⟩ = some (.int .u64 t.value):=cell_blk hB rfl
   obtain ⟨X9,hX⟩:∃ X9,Hid (X9 = (((wk1.setCell ⟨P,4,none⟩ (.int .i64 0)).setCell ⟨P,5,none⟩ (.slice none 0 0)).setCell ⟨P,17,none⟩ (.int .u64 0))):=⟨_,rfl⟩
   have hB9:Hid (X9.heap[P]? = some (.cells (thC ({ t with cdf:=0,ccats:=[],value:=0 }) uL (.slice none 0 0) uK uD).toArray 34 (0,0))):=by unfold Hid;rw [hX.out,blk_setCell (blk_setCell (blk_setCell (hB)))];rfl
   have f9:Hid (Fr (fun b=>b = P) wk1 X9):=by unfold Hid;rw [hX.out];exact ((((Fr.refl (fun b=>b = P) wk1).setCell (p:=⟨P,4,none⟩) (.inl rfl) (.int .i64 0)).setCell (p:=⟨P,5,none⟩) (.inl rfl) (.slice none 0 0)).setCell (p:=⟨P,17,none⟩) (.inl rfl) (.int .u64 0))
   go_upto_region 54 with fail
   rw [← hX.out]
   clear hX y4 z4 y5 z5 y17 z17
   replace hB:=hB9.out
   replace hA:=(f9.out.block _ (heap_lt hA) (fun e=>by have:=hPA.out;omega)).trans hA
   replace ht:=ht.keep f9.out (fun b hb _ e=>by have h9:b < w.heap.size:=hb;have:=hPA.out;omega) (fun b hb _=>hb)
   replace nW:Nw w X9:=Fr.trans nW f9.out (fun b hb=>.inr (by have:=hPw.out;omega))
   clear f9 hB9
   have hbk:Hid (bareK t = { t with cdf:=0,ccats:=[],value:=0 }):=by have hk:=hk.out;unfold Hid bareK;simp [hk]
   have hbare:ThAt (fun b=>b < w.heap.size) X9 ({ t with cdf:=0,ccats:=[],value:=0 }) uL (.slice none 0 0) uK uD:=⟨ht.l,csl_nil _ _,ht.k,ht.d⟩
   by_cases hq:t.quota = 1
   ·have bq:(t.quota == 1) = true:=by simp [hq]
    have hyes:Hid (KindOk t):=.inr (.inr (.inl ⟨hk.out,hq,hcl.out.1,hcl.out.2,hcan.out⟩))
    clear hq
    refine wp_region_list ?_
    simp only [List.toList_toArray,List.append_eq,List.cons_append,List.nil_append]
    refine nd_quiet ?_ rfl ?_ ?_
    rotate_left
    ·go_simp;rfl
    simp only [pL,List.set]
    refine nd_quiet ?_ rfl ?_ ?_
    rotate_left
    ·have g0:X9.cell? ⟨w.heap.size,6,none⟩ = some (.int .i64 t.quota):=cell_blk hA rfl;go_simp;rfl
    simp only [pL,List.set]
    refine nd_quiet ?_ rfl ?_ ?_
    rotate_left
    ·go_simp;rfl
    simp only [pL,List.set]
    refine nd_quiet ?_ rfl ?_ ?_
    rotate_left
    ·go_simp;first | exact congrArg Value.bool bq | rfl
    simp only [pL,List.set]
    refine nd_quiet ?_ rfl ?_ ?_
    rotate_left
    ·go_simp;rfl
    simp only [pL,List.set]
    refine nd_quiet ?_ rfl ?_ ?_
    rotate_left
    ·refine (run_load_quiet 34 _ X9 rfl P 0 rfl (thC ({ t with cdf:=0,ccats:=[],value:=0 }) uL (.slice none 0 0) uK uD) (range_all hB) Try.rowT Try.sizeT).trans ?_;rfl
    simp only [pL,List.set]
    refine nd_quiet ?_ rfl ?_ ?_
    rotate_left
    ·go_simp;rfl
    simp only [pL,List.set]
    refine nd_quiet ?_ rfl ?_ ?_
    rotate_left
    ·have g0:X9.cell? ⟨w.heap.size,0,none⟩ = some (.int .u64 t.id):=cell_blk hA rfl;go_simp;rfl
    simp only [pL,List.set]
    refine nd_quiet ?_ rfl ?_ ?_
    rotate_left
    ·go_simp;rfl
    simp only [pL,List.set]
    refine nd_quiet ?_ rfl ?_ ?_
    rotate_left
    ·have g0:X9.cell? ⟨w.heap.size,1,none⟩ = some (.int .i64 t.kind):=cell_blk hA rfl;go_simp;rfl
    simp only [pL,List.set]
    refine nd_quiet ?_ rfl ?_ ?_
    rotate_left
    ·go_simp;rfl
    simp only [pL,List.set]
    refine nd_quiet ?_ rfl ?_ ?_
    rotate_left
    ·have g0:X9.cell? ⟨w.heap.size,2,none⟩ = some (.int .i64 t.df):=cell_blk hA rfl;have g1:X9.cell? ⟨w.heap.size,3,none⟩ = some (uL):=cell_blk hA rfl;go_simp;rfl
    simp only [pL,List.set]
    refine nd_quiet ?_ rfl ?_ ?_
    rotate_left
    ·go_simp;rfl
    simp only [pL,List.set]
    refine nd_quiet ?_ rfl ?_ ?_
    rotate_left
    ·have g0:X9.cell? ⟨w.heap.size,6,none⟩ = some (.int .i64 t.quota):=cell_blk hA rfl;go_simp;rfl
    simp only [pL,List.set]
    refine wpList_build_as rfl 34 _ rfl (thV (baseT t) uL (.slice none 0 0) (.slice none 0 0) (.slice none 0 0)) (thC (baseT t) uL (.slice none 0 0) (.slice none 0 0) (.slice none 0 0)).toArray rfl ?z ?_
    case z =>
     simp only [List.map_cons,List.map_nil,Act.eval]
     exact builtThV t uL hfL
    simp only [pL,List.set]
    have hcs:Hid _:=c_rtsame X9 hbare (tb_base ht)
    unfold AnsP at hcs
    clear hfL
    go_wp2_with (first | (go_at_call 15;refine Calls.mono hcs.out ?_;rintro e Vz ⟨r1,rfl,q1,n9⟩;refine stop_here ?_))
    unfold Hid
    have fin:Hid (AnsP (t = ofK t∧KindOk t) w (.returned (.bool r1)) Vz):=⟨r1,rfl,⟨fun hr=>⟨(bare_iff t).1 (hbk.out.trans (q1.1 hr)),hyes.out⟩,fun hr=>q1.2 (hbk.out.symm.trans ((bare_iff t).2 hr.1))⟩,nw_trans nW n9⟩
    clear hcs q1 n9 hbare ht hA hB
    go_wp2
    go_ret
    exact fin.out
   ·have bq:(t.quota == 1) = false:=by simp [hq]
    have hno:Hid (¬ (t = ofK t∧KindOk t)):=fun h=>hq (((kd3 hk.out).1 h.2).quota)
    clear hq
    have a6:X9.cell? ⟨w.heap.size,6,none⟩ = some (.int .i64 t.quota):=cell_blk hA rfl
    go_wp2
    go_ret
    exact ans_no hno.out nW
  | false =>
   have hnc:Hid (¬ (Rgt t.cdf t.ccats∧Pu t.cdf t.ccats)):=not_of_false q1
   clear q1
   refine hK1 _ _ (hSof.out _ m0) ?_
   clear hK1 K1 hcon qn hS hW0
   have hS:=hSof.out _ m0
   refine ord_quietL _ ?_ rfl hS rfl ?_ ?_
   rotate_left
   ·rintro w' ⟨hn,rhA⟩;go_simp;rfl
   simp only [pL,List.set]
   refine ord_quietL _ ?_ rfl hS rfl ?_ ?_
   rotate_left
   ·rintro w' ⟨hn,rhA⟩;go_simp;rfl
   simp only [pL,List.set]
   refine ord_skipL _ rfl hS rfl ?_
   simp only [pL,List.set]
   refine ord_skipL _ rfl hS rfl ?_
   simp only [pL,List.set]
   refine ord_skipL _ rfl hS rfl ?_
   simp only [pL,List.set]
   refine ord_skipL _ rfl hS rfl ?_
   simp only [pL,List.set]
   refine ord_actL _ rfl (fun K1 hK1=>?_)
   go_wp2
   refine hK1 _ _ (hSof.out _ m0) ?_
   clear hK1 K1
   refine ord_skipL _ rfl hS rfl ?_
   simp only [pL,List.set]
   refine ord_tail ?_
   simp only [List.drop_succ_cons,List.drop_zero]
   have hno:Hid (¬ (t = ofK t∧KindOk t)):=fun h=>hnc.out ⟨((kd3 hk.out).1 h.2).rgt,((kd3 hk.out).1 h.2).pu⟩
   replace nW:=nw_trans nW m0
   clear hS hSof ht hA hB
   go_wp2
   go_ret
   exact ans_no hno.out nW
 ·have bc:(Num.canonV t.value != t.value) = true:=by simp [show ¬ Num.canonV t.value = t.value from hcan]
  replace hcan:Hid _:=hcan
  have hSof:∀ w',Nw V w'→(fun w':World=>Nw V w'∧w'.heap[w.heap.size]? = some (.cells (thC t uL uC uK uD).toArray 34 (0,0))) w':=fun w' hw=>⟨hw,(hw.block _ (heap_lt hA) (fun h=>h)).trans hA⟩
  have hW0:Nw V V.drew:=Fr.drew (Fr.refl _ V)
  have hS:=hSof _ hW0
  replace ht:=ht.nw hW0
  replace hSof:Hid _:=hSof
  refine wp_region_ord [] 11 [(0,true),(1,true),(2,false),(3,true),(4,true),(5,true),(8,true),(6,true),(9,true),(7,false),(10,true)] (fun w':World=>Nw V w'∧w'.heap[w.heap.size]? = some (.cells (thC t uL uC uK uD).toArray 34 (0,0))) (by kernel_rfl) (by kernel_rfl) ?_
  refine ord_quietL _ ?_ rfl hS rfl ?_ ?_
  rotate_left
  ·rintro w' ⟨hn,rhA⟩;go_simp;rfl
  simp only [pL,List.set]
  refine ord_quietL _ ?_ rfl hS rfl ?_ ?_
  rotate_left
  ·rintro w' ⟨hn,rhA⟩;have g0:w'.cell? ⟨w.heap.size,4,none⟩ = some (.int .i64 t.cdf):=cell_blk rhA rfl;have g1:w'.cell? ⟨w.heap.size,5,none⟩ = some (uC):=cell_blk rhA rfl;go_simp;rfl
  simp only [pL,List.set]
  refine ord_actL _ rfl (fun K1 hK1=>?_)
  have hcon:Hid _:=c_rclean t.cdf V.drew ht.c (by omega)
  unfold AnsP labV at hcon
  go_wp2_with (go_at_call 65;refine Calls.mono hcon.out ?_;rintro e wk0 ⟨r,rfl,q1,qn⟩)
  have m0:=nw_trans hW0 qn
  replace ht:=ht.nw qn
  cases r with
  | true =>
   have hcl:Hid (Rgt t.cdf t.ccats∧Pu t.cdf t.ccats):=q1.1 rfl
   clear q1
   refine hK1 _ _ (hSof.out _ m0) ?_
   clear hK1 K1 hcon qn hS hW0
   have hS:=hSof.out _ m0
   refine ord_quietL _ ?_ rfl hS rfl ?_ ?_
   rotate_left
   ·rintro w' ⟨hn,rhA⟩;go_simp;rfl
   simp only [pL,List.set]
   refine ord_quietL _ ?_ rfl hS rfl ?_ ?_
   rotate_left
   ·rintro w' ⟨hn,rhA⟩;go_simp;rfl
   simp only [pL,List.set]
   refine ord_quietL _ ?_ rfl hS rfl ?_ ?_
   rotate_left
   ·rintro w' ⟨hn,rhA⟩;go_simp;rfl
   simp only [pL,List.set]
   refine ord_quietL _ ?_ rfl hS rfl ?_ ?_
   rotate_left
   ·rintro w' ⟨hn,rhA⟩;go_simp;rfl
   simp only [pL,List.set]
   refine ord_quietL _ ?_ rfl hS rfl ?_ ?_
   rotate_left
   ·rintro w' ⟨hn,rhA⟩;have g0:w'.cell? ⟨w.heap.size,17,none⟩ = some (.int .u64 t.value):=cell_blk rhA rfl;go_simp;rfl
   simp only [pL,List.set]
   refine ord_quietL _ ?_ rfl hS rfl ?_ ?_
   rotate_left
   ·rintro w' ⟨hn,rhA⟩;have g0:w'.cell? ⟨w.heap.size,17,none⟩ = some (.int .u64 t.value):=cell_blk rhA rfl;go_simp;rfl
   simp only [pL,List.set]
   refine ord_actL _ rfl (fun K1 hK1=>?_)
   have hcon:Hid _:=c_rcanN t.value hwf.value.1 hwf.value.2 wk0
   go_wp2_with (go_at_call 64;refine Calls.mono hcon.out ?_;rintro e wk1 ⟨rfl,qn⟩)
   have m1:=nw_trans m0 qn
   replace ht:=ht.nw qn
   refine hK1 _ _ (hSof.out _ m1) ?_
   clear hK1 K1 hcon qn hS m0
   have hS:=hSof.out _ m1
   refine ord_quietL _ ?_ rfl hS rfl ?_ ?_
   rotate_left
   ·rintro w' ⟨hn,rhA⟩;go_simp;rfl
   simp only [pL,List.set]
   refine ord_tail ?_
   simp only [List.drop_succ_cons,List.drop_zero]
   have hno:Hid (¬ (t = ofK t∧KindOk t)):=fun h=>hcan.out ((kd3 hk.out).1 h.2).value
   replace nW:=nw_trans nW m1
   clear hS hSof ht hA hB
   go_wp2
   go_ret
   exact ans_no hno.out nW
  | false =>
   have hnc:Hid (¬ (Rgt t.cdf t.ccats∧Pu t.cdf t.ccats)):=not_of_false q1
   clear q1
   refine hK1 _ _ (hSof.out _ m0) ?_
   clear hK1 K1 hcon qn hS hW0
   have hS:=hSof.out _ m0
   refine ord_quietL _ ?_ rfl hS rfl ?_ ?_
   rotate_left
   ·rintro w' ⟨hn,rhA⟩;go_simp;rfl
   simp only [pL,List.set]
   refine ord_quietL _ ?_ rfl hS rfl ?_ ?_
   rotate_left
   ·rintro w' ⟨hn,rhA⟩;go_simp;rfl
   simp only [pL,List.set]
   refine ord_skipL _ rfl hS rfl ?_
   simp only [pL,List.set]
   refine ord_skipL _ rfl hS rfl ?_
   simp only [pL,List.set]
   refine ord_skipL _ rfl hS rfl ?_
   simp only [pL,List.set]
   refine ord_skipL _ rfl hS rfl ?_
   simp only [pL,List.set]
   refine ord_actL _ rfl (fun K1 hK1=>?_)
   go_wp2
   refine hK1 _ _ (hSof.out _ m0) ?_
   clear hK1 K1
   refine ord_skipL _ rfl hS rfl ?_
   simp only [pL,List.set]
   refine ord_tail ?_
   simp only [List.drop_succ_cons,List.drop_zero]
   have hno:Hid (¬ (t = ofK t∧KindOk t)):=fun h=>hnc.out ⟨((kd3 hk.out).1 h.2).rgt,((kd3 hk.out).1 h.2).pu⟩
   replace nW:=nw_trans nW m0
   clear hS hSof ht hA hB
   go_wp2
   go_ret
   exact ans_no hno.out nW

end Go.Proofs.Ytgmfofngmfekbaa
