/-
  ThR1, ThR2, ThR3: in one text.
-/
import Derived.Test.YtgmfofngmfekbaaThGbS
import Derived.Test.YtgmfofngmfekbaaThGaS
import Derived.Laws.StructEq
import Derived.Test.YtgmfofngmfekbaaThGdS
import Derived.Test.YtgmfofngmfekbaaThGcS
import Derived.Test.YtgmfofngmfekbaaLibS
namespace Go.Proofs.Ytgmfofngmfekbaa
set_option linter.unusedVariables false
set_option linter.unusedSimpArgs false
set_option maxRecDepth 20000
open Go.RowKit

theorem c_isID (x:Int) (w:World):Calls Try.prog 82 #[.int .u64 x] w (AnsP (idOk x) w):=by
 by_cases h1:1 ≤ x
 ·have b1:decide (1 ≤ x) = true:=decide_eq_true h1
  by_cases h2:x ≤ 281474976710655
  ·have b2:decide (x ≤ 281474976710655) = true:=decide_eq_true h2
   have hP:Hid (idOk x):=⟨h1,h2⟩
   clear h1 h2
   go_enter Try.func82,Try.ntmps82
   go_wp2
   go_ret
   exact ans_yes hP.out (nw_refl w)
  ·have b2:decide (x ≤ 281474976710655) = false:=decide_eq_false h2
   have hP:Hid (¬ idOk x):=fun h=>h2 h.2
   clear h1 h2
   go_enter Try.func82,Try.ntmps82
   go_wp2
   go_ret
   exact ans_no hP.out (nw_refl w)
 ·have b1:decide (1 ≤ x) = false:=decide_eq_false h1
  have hP:Hid (¬ idOk x):=fun h=>h1 h.1
  clear h1
  go_enter Try.func82,Try.ntmps82
  go_wp2
  go_ret
  exact ans_no hP.out (nw_refl w)

theorem c_btw (a x b:Int) (w:World):Calls Try.prog 101 #[.int .i64 a,.int .i64 x,.int .i64 b] w (AnsP (btw a x b) w):=by
 by_cases h1:a ≤ x
 ·have b1:decide (a ≤ x) = true:=decide_eq_true h1
  by_cases h2:x ≤ b
  ·have b2:decide (x ≤ b) = true:=decide_eq_true h2
   have hP:Hid (btw a x b):=⟨h1,h2⟩
   clear h1 h2
   go_enter Try.func101,Try.ntmps101
   go_wp2
   go_ret
   exact ans_yes hP.out (nw_refl w)
  ·have b2:decide (x ≤ b) = false:=decide_eq_false h2
   have hP:Hid (¬ btw a x b):=fun h=>h2 h.2
   clear h1 h2
   go_enter Try.func101,Try.ntmps101
   go_wp2
   go_ret
   exact ans_no hP.out (nw_refl w)
 ·have b1:decide (a ≤ x) = false:=decide_eq_false h1
  have hP:Hid (¬ btw a x b):=fun h=>h1 h.1
  clear h1
  go_enter Try.func101,Try.ntmps101
  go_wp2
  go_ret
  exact ans_no hP.out (nw_refl w)

theorem c_mayOwn (k:Int) (w:World):Calls Try.prog 84 #[.int .i64 k] w (AnsP (k = 2∨k = 3) w):=by
 by_cases h1:k = 2
 ·have b1:(k == 2) = true:=by simp [h1]
  have hP:Hid (k = 2∨k = 3):=.inl h1
  clear h1
  go_enter Try.func84,Try.ntmps84
  go_wp2
  go_ret
  exact ans_yes hP.out (nw_refl w)
 ·have b1:(k == 2) = false:=by simp [h1]
  by_cases h2:k = 3
  ·have b2:(k == 3) = true:=by simp [h2]
   have hP:Hid (k = 2∨k = 3):=.inr h2
   clear h1 h2
   go_enter Try.func84,Try.ntmps84
   go_wp2
   go_ret
   exact ans_yes hP.out (nw_refl w)
  ·have b2:(k == 3) = false:=by simp [h2]
   have hP:Hid (¬ (k = 2∨k = 3)):=fun h=>h.elim h1 h2
   clear h1 h2
   go_enter Try.func84,Try.ntmps84
   go_wp2
   go_ret
   exact ans_no hP.out (nw_refl w)

set_option maxHeartbeats 1600000 in
theorem c_clear {X:Nat→Prop} {v:Value} {xs:List Cat} (d:Int) (w:World) (h:CSl X w v xs) (hl:xs.length ≤ 8796093022208) :
  Calls Try.prog 99 #[labV d v] w (AnsP (Rgt d xs∧Pu d xs) w):=by
 obtain ⟨ao,cap,rfl,ha1,ha2⟩:=h.form
 have hA:(w.alloc (.cells #[.int .i64 d,.slice ao xs.length cap] 26)).heap[w.heap.size]? = some (.cells #[.int .i64 d,.slice ao xs.length cap] 26 (0,0)):=heap_alloc_new w _
 have nW:Nw w (w.alloc (.cells #[.int .i64 d,.slice ao xs.length cap] 26)):=nw_alloc (nw_refl w) _
 replace h:=h.nw nW
 have hcon:Hid _:=c_right d _ h hl
 unfold RgtP labV at hcon
 unfold labV
 go_enter Try.func99,Try.ntmps99
 go_upto_region 1 with fail
 generalize w.alloc (.cells #[.int .i64 d,.slice ao xs.length cap] 26) = W at *
 have a0:W.cell? ⟨w.heap.size,0,none⟩ = some (.int .i64 d):=cell_blk hA rfl
 have a1:W.cell? ⟨w.heap.size,1,none⟩ = some (.slice ao xs.length cap):=cell_blk hA rfl
 go_wp2_with (go_at_call 83;refine Calls.mono hcon.out ?_;rintro e w3 ⟨r,rfl,q1,qn⟩;refine stop_here ?_)
 unfold Hid
 clear hcon a0 a1
 have hA3:=(qn.block _ (heap_lt hA) (fun h=>h)).trans hA
 have a0:w3.cell? ⟨w.heap.size,0,none⟩ = some (.int .i64 d):=cell_blk hA3 rfl
 have a1:w3.cell? ⟨w.heap.size,1,none⟩ = some (.slice ao xs.length cap):=cell_blk hA3 rfl
 cases r with
 | false =>
  have hP:Hid (¬ (Rgt d xs∧Pu d xs)):=fun h'=>not_of_false q1 h'.1
  clear q1
  go_wp2
  go_ret
  exact ans_no hP.out (nw_trans nW qn)
 | true =>
  have hR:Hid (Rgt d xs):=q1.1 rfl
  have hcon:Hid _:=c_isPure d w3 (h.nw qn)
  unfold AnsP labV at hcon
  clear q1 h
  go_wp2_with (go_at_call 85;refine Calls.mono hcon.out ?_;rintro e w4 ⟨r,rfl,q1,qn2⟩;refine stop_here ?_)
  unfold Hid
  clear hcon
  cases r with
  | false =>
   have hP:Hid (¬ (Rgt d xs∧Pu d xs)):=fun h'=>not_of_false q1 h'.2.2
   clear q1
   go_wp2
   go_ret
   exact ans_no hP.out (nw_trans nW (nw_trans qn qn2))
  | true =>
   have hP:Hid (Rgt d xs∧Pu d xs):=⟨hR.out,(pu_of_rgt hR.out).2 (q1.1 rfl)⟩
   clear q1
   go_wp2
   go_ret
   exact ans_yes hP.out (nw_trans nW (nw_trans qn qn2))
end Go.Proofs.Ytgmfofngmfekbaa

namespace Go.Proofs.Ytgmfofngmfekbaa
set_option linter.unusedVariables false
set_option linter.unusedSimpArgs false
set_option maxRecDepth 20000
open Go.RowKit

def cnv (j k:Nat) (x:Int):Int:=if j < k then Num.canonV x else x
def cnC (k:Nat) (a b c d:Int):List Value:=[.int .u64 (cnv 0 k a),.int .u64 (cnv 1 k b),.int .u64 (cnv 2 k c),.int .u64 (cnv 3 k d)]

theorem idx4 (a b c d:Int) (k:Nat) (hk:k < 4):∃ x,(∀ w,(Instr.index 29 (.agg #[.int .u64 a,.int .u64 b,.int .u64 c,.int .u64 d]) (.int .i64 (k:Int))).run Try.prog w = .ok (.int .u64 x) w)∧(cnC k a b c d)[k]? = some (.int .u64 x)∧(cnC k a b c d).set k (.int .u64 (Num.canonV x)) = cnC (k + 1) a b c d:=by
 rcases k with _ | _ | _ | _ | k
 ·exact ⟨a,fun w=>by simp [Instr.index,go_sem],rfl,rfl⟩
 ·exact ⟨b,fun w=>by simp [Instr.index,go_sem],rfl,rfl⟩
 ·exact ⟨c,fun w=>by simp [Instr.index,go_sem],rfl,rfl⟩
 ·exact ⟨d,fun w=>by simp [Instr.index,go_sem],rfl,rfl⟩
 ·omega

set_option maxHeartbeats 1600000 in
theorem c_canons (a b c d:Int) (w:World) :
  Calls Try.prog 100 #[.agg #[.int .u64 a,.int .u64 b,.int .u64 c,.int .u64 d]] w fun e w'=>e = .returned (.agg #[.int .u64 (Num.canonV a),.int .u64 (Num.canonV b),.int .u64 (Num.canonV c),.int .u64 (Num.canonV d)])∧Nw w w':=by
 go_enter Try.func100,Try.ntmps100
 go_wp2
 go_loopw [6] (fun kv wr=>∃ k:Nat,k ≤ 4∧kv = .int .i64 k∧wr.heap[w.heap.size]? = some (.cells (cnC k a b c d).toArray 29 (0,0))∧wr.heap[w.heap.size + 1]? = some (.cells #[.int .u64 0,.int .u64 0,.int .u64 0,.int .u64 0] 29 (0,0))∧Nw w wr) (fun kv _=>4 - (intOf kv).toNat)
 case atStart=>exact ⟨0,Nat.zero_le _,rfl,heap_alloc2_old w _ _,heap_alloc2_new w _ _,nw_alloc (nw_alloc (nw_refl w) _) _⟩
 case round =>
  obtain ⟨k,hk,rfl,hA,hZ,hw⟩:=hrel
  have hlt:=heap_lt hZ
  have hfr:∀ j,wr.frozen? ⟨w.heap.size,j,none⟩ = false:=fun j=>free_blk hA
  by_cases hk4:k < 4
  ·obtain ⟨x,hix,hgx,hst⟩:=idx4 a b c d k hk4
   have g:wr.cell? ⟨w.heap.size,k,none⟩ = some (.int .u64 x):=cell_blk hA (by simpa using hgx)
   have hA':Hid ((wr.setCell ⟨w.heap.size,k,none⟩ (.int .u64 (Num.canonV x))).heap[w.heap.size]? = some (.cells (cnC (k + 1) a b c d).toArray 29 (0,0))):=by
    unfold Hid;rw [blk_setCell hA,← hst];simp
   have fV:Hid (Fr (fun k=>k = w.heap.size) wr (wr.setCell ⟨w.heap.size,k,none⟩ (.int .u64 (Num.canonV x)))):=(Fr.refl (fun k=>k = w.heap.size) wr).setCell (p:=⟨w.heap.size,k,none⟩) (.inl rfl) _
   replace hgx:Hid _:=hgx
   replace hst:Hid _:=hst
   have hcc:Hid (∀ w,Calls Try.prog 102 #[.int .u64 x] w fun e w'=>e = .returned (.int .u64 (Num.canonV x))∧w = w'):=fun w=>Num.c_canon x w
   replace hA:Hid _:=hA
   replace hZ:Hid _:=hZ
   go_wp2_with (go_at_call 102;refine Calls.mono (hcc.out _) ?_;rintro e w' ⟨rfl,rfl⟩)
   go_roundw
   case rel=>exact ⟨k + 1,by omega,by go_num,hA'.out,(fV.out.block _ (heap_lt hZ.out) (by omega)).trans hZ.out,Fr.trans hw fV.out (fun j hj=>.inr (by omega))⟩
   case measure=>simp [intOf];omega
  ·have hk4':k = 4:=by omega
   subst hk4'
   have h4:wr.rangeAt w.heap.size 0 (cnC 4 a b c d):=range_all hA
   have hfin:Hid ((wr.setRow (w.heap.size + 1) (cnC 4 a b c d).toArray).rangeAt (w.heap.size + 1) 0 (cnC 4 a b c d)∧Nw w (wr.setRow (w.heap.size + 1) (cnC 4 a b c d).toArray)):=⟨range_all (setRow_heap _ _ _ _ _ _ hZ),Fr.setRow hw (.inr (by omega)) _⟩
   go_wp2_with (refine wpList_load_as rfl 29 _ rfl w.heap.size 0 rfl (.agg (cnC 4 a b c d).toArray) _ rfl h4 Try.row4 Try.size4 ?_;refine stop_here ?_)
   unfold Hid
   refine wpList_store_all rfl 29 _ _ rfl (w.heap.size + 1) rfl (.agg (cnC 4 a b c d).toArray) rfl (cnC 4 a b c d) rfl [.int .u64 0,.int .u64 0,.int .u64 0,.int .u64 0] 29 hZ rfl (by simp [cnC,Value.oneCell']) Try.size4 ?_
   go_wp2
   refine bodyPost_ret (results_cell1 rfl _ (w.heap.size + 1) _ (.agg (cnC 4 a b c d).toArray) rfl rfl hfin.out.1 Try.row4 Try.size4) rfl ?_
   exact ⟨rfl,hfin.out.2⟩

set_option maxHeartbeats 1600000 in
theorem c_slots (s0 s1 s2 s3 s4 s5 s6 s7:Int) (w:World) :
  Calls Try.prog 104 #[.agg #[.int .u64 s0,.int .u64 s1,.int .u64 s2,.int .u64 s3,.int .u64 s4,.int .u64 s5,.int .u64 s6,.int .u64 s7]] w (AnsP (slOk s0 s1∧slOk s2 s3∧slOk s4 s5∧slOk s6 s7) w):=by
 rw [← okTo_all]
 have hsl:∀ k:Nat,k < 4→∃ x y,(∀ w,(Instr.index 32 (.agg #[.int .u64 s0,.int .u64 s1,.int .u64 s2,.int .u64 s3,.int .u64 s4,.int .u64 s5,.int .u64 s6,.int .u64 s7]) (.int .i64 (k:Int))).run Try.prog w = .ok (.agg #[.int .u64 x,.int .u64 y]) w)∧(slotsL s0 s1 s2 s3 s4 s5 s6 s7)[k]? = some (x,y):=fun k hk=>idx8 s0 s1 s2 s3 s4 s5 s6 s7 k hk
 generalize slotsL s0 s1 s2 s3 s4 s5 s6 s7 = L at *
 replace hsl:Hid _:=hsl
 go_enter Try.func104,Try.ntmps104
 go_wp2
 go_loopw [6] (fun kv wr=>∃ k:Nat,k ≤ 4∧kv = .int .i64 k∧Hid (okTo L k)∧Nw w wr) (fun kv _=>4 - (intOf kv).toNat)
 case atStart=>exact ⟨0,Nat.zero_le _,rfl,fun j p hj=>by omega,nw_alloc (nw_refl w) _⟩
 case round =>
  obtain ⟨k,hk,rfl,hok,hw⟩:=hrel
  by_cases hk4:k < 4
  ·obtain ⟨x,y,hix,hp⟩:=hsl.out k hk4
   have hne:=run_neq_slot x y
   have hyes:Hid (slOk x y→okTo L (k + 1)):=fun h=>okTo_succ hok.out hp h
   have hbad:Hid (¬ slOk x y→¬ okTo L 4):=fun h h2=>h (h2 k _ hk4 hp)
   replace hp:Hid _:=hp
   have hnA:Hid (∀ o,Nw w (wr.alloc o)):=fun o=>nw_alloc hw o
   by_cases hz:x = 0∧y = 0
   ·have hb:(!(x == 0 && y == 0)) = false:=by simp [hz.1,hz.2]
    rw [hb] at hne
    have hy:Hid (okTo L (k + 1)):=hyes.out (.inl hz)
    clear hz hb hyes hbad hok
    go_wp2
    go_roundw
    case rel=>exact ⟨k + 1,by omega,by go_num,hy,hnA.out _⟩
    case measure=>simp [intOf];omega
   ·have hb:(!(x == 0 && y == 0)) = true:=by
     by_cases h1:x = 0
     ·have h2:¬ y = 0:=fun h2=>hz ⟨h1,h2⟩
      simp [h2]
     ·simp [h1]
    rw [hb] at hne
    have hcx:Hid (∀ w,Calls Try.prog 82 #[.int .u64 x] w fun e w'=>∃ r:Bool,e = .returned (.bool r)∧(r = true↔idOk x)∧Nw w w'):=fun w=>c_isID x w
    have hcy:Hid (∀ w,Calls Try.prog 82 #[.int .u64 y] w fun e w'=>∃ r:Bool,e = .returned (.bool r)∧(r = true↔idOk y)∧Nw w w'):=fun w=>c_isID y w
    replace hz:Hid _:=hz
    have hsz:wr.heap.size = wr.heap.size:=rfl
    have g0:∀ w',Nw (wr.alloc (.cells #[.int .u64 x,.int .u64 y] 31)) w'→w'.cell? ⟨wr.heap.size,1,none⟩ = some (.int .u64 y):=fun w' hw'=>cell_blk ((hw'.block _ (by simp) (fun h=>h)).trans (heap_alloc_new wr _)) rfl
    replace g0:Hid _:=g0
    clear hb
    go_wp2_with (go_at_call 82;refine Calls.mono (hcx.out _) ?_;rintro e w3 ⟨r,rfl,q1,qn⟩;refine stop_here ?_)
    unfold Hid
    have gy:=g0.out _ qn
    have hw3:=nw_trans (hnA.out _) qn
    cases r with
    | false =>
     have hno:Hid (¬ okTo L 4):=hbad.out (fun h=>h.elim (fun h=>hz.out h) (fun h=>not_of_false q1 h.1))
     clear q1 hyes hbad hok
     go_wp2
     go_ret
     exact ans_no hno.out hw3
    | true =>
     have hx:Hid (idOk x):=q1.1 rfl
     clear q1 qn g0
     go_wp2_with (go_at_call 82;refine Calls.mono (hcy.out _) ?_;rintro e w4 ⟨r,rfl,q1,qn⟩;refine stop_here ?_)
     unfold Hid
     cases r with
     | false =>
      have hno:Hid (¬ okTo L 4):=hbad.out (fun h=>h.elim (fun h=>hz.out h) (fun h=>not_of_false q1 h.2))
      clear q1 hyes hbad hok
      go_wp2
      go_ret
      exact ans_no hno.out (nw_trans hw3 qn)
     | true =>
      have hy:Hid (okTo L (k + 1)):=hyes.out (.inr ⟨hx.out,q1.1 rfl⟩)
      clear q1 hyes hbad hok
      go_wp2
      go_roundw
      case rel=>exact ⟨k + 1,by omega,by go_num,hy,nw_trans hw3 qn⟩
      case measure=>simp [intOf];omega
  ·have hk4':k = 4:=by omega
   subst hk4'
   have hyes:Hid (okTo L 4):=hok.out
   go_wp2
   go_ret
   exact ans_yes hyes.out hw
end Go.Proofs.Ytgmfofngmfekbaa

namespace Go.Proofs.Ytgmfofngmfekbaa
set_option linter.unusedVariables false
set_option linter.unusedSimpArgs false
set_option maxRecDepth 20000
open Go.RowKit

set_option maxHeartbeats 3200000 in
theorem c_dir {X:Nat→Prop} {t:Th} {uL uC uK uD:Value} (w:World) (h:ThAt X w t uL uC uK uD) :
  Calls Try.prog 98 #[thV t uL uC uK uD] w (AnsP (DirOk t) w):=by
 obtain ⟨ka,kc,rfl,hk1,hk2⟩:=h.k.form
 obtain ⟨W,hW⟩:∃ W,Hid (W = w.alloc (.cells (thC t uL uC (.slice ka t.links.length kc) uD).toArray 34)):=⟨_,rfl⟩
 have nW:Nw w W:=by rw [hW.out];exact nw_alloc (nw_refl w) _
 have hA:W.heap[w.heap.size]? = some (.cells (thC t uL uC (.slice ka t.links.length kc) uD).toArray 34 (0,0)):=by rw [hW.out];exact heap_alloc_new w _
 have ht:=h.nw nW
 clear h
 go_enter Try.func98,Try.ntmps98
 go_upto_region 1 with (refine wpList_box_agg rfl 34 _ rfl (thV t uL uC (.slice ka t.links.length kc) uD) _ rfl rfl ?_)
 rw [← hW.out]
 clear hW
 by_cases hsm:t.links.length ≤ 16
 ·have bl:decide (16 < (t.links.length:Int)) = false:=decide_eq_false (by omega)
  have hsm0:=hsm
  replace hsm:Hid (t.links.length ≤ 16):=hsm
  refine wp_region_list ?_
  simp only [List.toList_toArray,List.append_eq,List.cons_append,List.nil_append]
  refine nd_quiet ?_ rfl ?_ ?_
  rotate_left
  ·go_simp;rfl
  simp only [pL,List.set]
  refine nd_quiet ?_ rfl ?_ ?_
  rotate_left
  ·have g0:W.cell? ⟨w.heap.size,7,none⟩ = some (.int .i64 t.next):=cell_blk hA rfl;go_simp;rfl
  simp only [pL,List.set]
  have hcon:Hid _:=c_btw 0 t.next 63 W
  unfold AnsP at hcon
  refine nd_call _ _ rfl hcon.out ?_ ?_
  ·first | (go_simp;done) | (go_simp;rfl)
  rintro e wk0 ⟨r,rfl,q1,qn⟩
  refine ⟨_,rfl,?_⟩
  simp only [pL,List.set]
  have m0:=qn
  replace ht:=ht.nw qn
  cases r with
  | true =>
   have y1:Hid (btw 0 t.next 63):=q1.1 rfl
   clear hcon qn q1
   refine nd_quiet ?_ rfl ?_ ?_
   rotate_left
   ·go_simp;rfl
   simp only [pL,List.set]
   refine nd_quiet ?_ rfl ?_ ?_
   rotate_left
   ·go_simp;rfl
   simp only [pL,List.set]
   refine nd_quiet ?_ rfl ?_ ?_
   rotate_left
   ·go_simp;rfl
   simp only [pL,List.set]
   refine nd_quiet ?_ rfl ?_ ?_
   rotate_left
   ·have g0:wk0.cell? ⟨w.heap.size,6,none⟩ = some (.int .i64 t.quota):=cell_blk ((m0.block _ (heap_lt hA) (fun h=>h)).trans hA) rfl;go_simp;rfl
   simp only [pL,List.set]
   have hcon:Hid _:=c_btw 1 t.quota 48 wk0
   unfold AnsP at hcon
   refine nd_call _ _ rfl hcon.out ?_ ?_
   ·first | (go_simp;done) | (go_simp;rfl)
   rintro e wk1 ⟨r,rfl,q1,qn⟩
   refine ⟨_,rfl,?_⟩
   simp only [pL,List.set]
   have m1:=nw_trans m0 qn
   replace ht:=ht.nw qn
   cases r with
   | true =>
    have y2:Hid (btw 1 t.quota 48):=q1.1 rfl
    clear hcon qn q1 m0
    refine nd_quiet ?_ rfl ?_ ?_
    rotate_left
    ·go_simp;rfl
    simp only [pL,List.set]
    refine nd_quiet ?_ rfl ?_ ?_
    rotate_left
    ·go_simp;rfl
    simp only [pL,List.set]
    refine nd_quiet ?_ rfl ?_ ?_
    rotate_left
    ·go_simp;rfl
    simp only [pL,List.set]
    refine nd_quiet ?_ rfl ?_ ?_
    rotate_left
    ·go_simp;rfl
    simp only [pL,List.set]
    refine nd_quiet ?_ rfl ?_ ?_
    rotate_left
    ·have g0:wk1.cell? ⟨w.heap.size,8,none⟩ = some (.slice ka t.links.length kc):=cell_blk ((m1.block _ (heap_lt hA) (fun h=>h)).trans hA) rfl;go_simp;rfl
    simp only [pL,List.set]
    refine nd_quiet ?_ rfl ?_ ?_
    rotate_left
    ·go_simp;rfl
    simp only [pL,List.set]
    refine nd_quiet ?_ rfl ?_ ?_
    rotate_left
    ·go_simp;rfl
    simp only [pL,List.set]
    refine nd_quiet ?_ rfl ?_ ?_
    rotate_left
    ·go_simp;rfl
    simp only [pL,List.set]
    replace ht:=ht.k
    have hA1:=(m1.block _ (heap_lt hA) (fun h=>h)).trans hA
    clear hA
    replace nW:=nw_trans nW m1
    clear m1
    go_upto_region 4 with fail
    have g8:wk1.cell? ⟨w.heap.size,8,none⟩ = some (.slice ka t.links.length kc):=cell_blk hA1 rfl
    go_wp2
    clear g8
    go_loopw [26,3,4] (fun kv lv uv wr=>∃ (k:Nat) (last used:Int),k ≤ t.links.length∧kv = .int .i64 k∧lv = .int .u64 last∧uv = .int .i64 used∧Hid (LkTo t.links k∧last = lastOf t.links k∧used = 1 + sumL (t.links.take k))∧1 ≤ used∧used ≤ 1 + 48 * (k:Int)∧Nw wk1 wr) (fun kv _ _ _=>t.links.length - (intOf kv).toNat)
    case atStart=>exact ⟨0,0,1,Nat.zero_le _,rfl,rfl,rfl,⟨lkTo_zero _,rfl,rfl⟩,by decide,by decide,nw_refl _⟩
    case round =>
     obtain ⟨k,last,used,hk,rfl,rfl,rfl,hinv,hu1,hu2,hw⟩:=hrel
     by_cases hlt:k < t.links.length
     ·obtain ⟨q,off,e1,_,d1,d2⟩:=(ht.nw hw).get k hlt
      subst e1
      have hstep:Hid (last < t.links[k].1→idOk t.links[k].1→btw 1 t.links[k].2 48→LkTo t.links (k + 1)∧t.links[k].1 = lastOf t.links (k + 1)∧used + t.links[k].2 = 1 + sumL (t.links.take (k + 1))):=fun h1 h2 h3=>lkTo_succ hlt hinv.out h1 h2 h3
      have hbad:Hid (¬ (last < t.links[k].1∧idOk t.links[k].1∧btw 1 t.links[k].2 48)→¬ DirOk t):=fun h1 h2=>h1 (lkTo_must hlt h2.lk hinv.out.2.1)
      generalize t.links[k] = x at *
      have hnA:Hid (∀ o,Nw wk1 (wr.alloc o)):=fun o=>nw_alloc hw o
      by_cases c1:x.1 ≤ last
      ·have b1:decide (x.1 ≤ last) = true:=decide_eq_true c1
       have hno:Hid (¬ DirOk t):=hbad.out (fun h=>by omega)
       clear c1 hstep hbad hinv hu1 hu2
       go_wp2
       go_ret
       exact ans_no hno.out (nw_trans nW (hnA.out _))
      ·have b1:decide (x.1 ≤ last) = false:=decide_eq_false c1
       replace c1:Hid (last < x.1):=by unfold Hid;omega
       have hcx:Hid (∀ w,Calls Try.prog 82 #[.int .u64 x.1] w fun e w'=>∃ r:Bool,e = .returned (.bool r)∧(r = true↔idOk x.1)∧Nw w w'):=fun w=>c_isID x.1 w
       have hcy:Hid (∀ w,Calls Try.prog 101 #[.int .i64 1,.int .i64 x.2,.int .i64 48] w fun e w'=>∃ r:Bool,e = .returned (.bool r)∧(r = true↔btw 1 x.2 48)∧Nw w w'):=fun w=>c_btw 1 x.2 48 w
       have g0:∀ w',Nw (wr.alloc (.cells #[.int .u64 x.1,.int .i64 x.2] 54)) w'→w'.cell? ⟨wr.heap.size,0,none⟩ = some (.int .u64 x.1)∧w'.cell? ⟨wr.heap.size,1,none⟩ = some (.int .i64 x.2):=fun w' hw'=>⟨cell_blk ((hw'.block _ (by simp) (fun h=>h)).trans (heap_alloc_new wr _)) rfl,cell_blk ((hw'.block _ (by simp) (fun h=>h)).trans (heap_alloc_new wr _)) rfl⟩
       replace g0:Hid _:=g0
       go_wp2_with (go_at_call 82;refine Calls.mono (hcx.out _) ?_;rintro e w3 ⟨r,rfl,q1,qn⟩;refine stop_here ?_)
       unfold Hid
       obtain ⟨gx,gy⟩:=g0.out _ qn
       have hw3:=nw_trans (hnA.out _) qn
       cases r with
       | false =>
        have hno:Hid (¬ DirOk t):=hbad.out (fun h=>not_of_false q1 h.2.1)
        clear q1 hstep hbad hinv hu1 hu2
        go_wp2
        go_ret
        exact ans_no hno.out (nw_trans nW hw3)
       | true =>
        have hx:Hid (idOk x.1):=q1.1 rfl
        clear q1
        go_wp2_with (go_at_call 101;refine Calls.mono (hcy.out _) ?_;rintro e w4 ⟨r,rfl,q1,qn2⟩;refine stop_here ?_)
        unfold Hid
        clear gx gy
        obtain ⟨gx,gy⟩:=g0.out _ (nw_trans qn qn2)
        clear qn
        cases r with
        | false =>
         have hno:Hid (¬ DirOk t):=hbad.out (fun h=>not_of_false q1 h.2.2)
         clear q1 hstep hbad hinv hu1 hu2
         go_wp2
         go_ret
         exact ans_no hno.out (nw_trans nW (nw_trans hw3 qn2))
        | true =>
         have hb:btw 1 x.2 48:=q1.1 rfl
         have hwr:wrap64 (used + x.2) = used + x.2:=by unfold btw at hb;unfold wrap64;omega
         have hn1:Hid (1 ≤ used + x.2∧used + x.2 ≤ 1 + 48 * ((k + 1:Nat):Int)):=by unfold btw at hb;unfold Hid;omega
         have hy:Hid _:=hstep.out c1.out hx.out hb
         clear q1 hstep hbad hinv hb
         go_wp2
         go_roundw
         case rel=>exact ⟨k + 1,x.1,used + x.2,by omega,by go_num,rfl,by rw [hwr],hy.out,hn1.out.1,hn1.out.2,nw_trans hw3 qn2⟩
         case measure=>simp [intOf];omega
     ·have hA2:=(hw.block _ (heap_lt hA1) (fun h=>h)).trans hA1
      have g6:wr.cell? ⟨w.heap.size,6,none⟩ = some (.int .i64 t.quota):=cell_blk hA2 rfl
      have hk':k = t.links.length:=by omega
      have hl:=hinv.out
      rw [hk',List.take_length] at hl
      have hiff:Hid (used ≤ t.quota↔DirOk t):=⟨fun h=>⟨y1.out,y2.out,hsm.out,⟨fun i h=>hl.1.1 i h h,fun i h=>hl.1.2 i h h⟩,by rw [← hl.2.2];exact h⟩,fun h=>by rw [hl.2.2];exact h.sum⟩
      by_cases hq:used ≤ t.quota
      ·have bq:decide (used ≤ t.quota) = true:=decide_eq_true hq
       have hyes:Hid (DirOk t):=hiff.out.1 hq
       clear hq hl hinv hiff hk' hu1 hu2
       go_wp2
       go_ret
       exact ans_yes hyes.out (nw_trans nW hw)
      ·have bq:decide (used ≤ t.quota) = false:=decide_eq_false hq
       have hno:Hid (¬ DirOk t):=fun h=>hq (hiff.out.2 h)
       clear hq hl hinv hiff hk' hu1 hu2
       go_wp2
       go_ret
       exact ans_no hno.out (nw_trans nW hw)
   | false =>
    have hno:Hid (¬ DirOk t):=fun h=>not_of_false q1 h.quota
    clear hcon qn q1 m0
    refine nd_quiet ?_ rfl ?_ ?_
    rotate_left
    ·go_simp;rfl
    simp only [pL,List.set]
    refine nd_quiet ?_ rfl ?_ ?_
    rotate_left
    ·go_simp;rfl
    simp only [pL,List.set]
    refine nd_quiet ?_ rfl ?_ ?_
    rotate_left
    ·go_simp;rfl
    simp only [pL,List.set]
    refine nd_skip rfl ?_
    simp only [pL,List.set]
    refine nd_skip rfl ?_
    simp only [pL,List.set]
    refine nd_skip rfl ?_
    simp only [pL,List.set]
    refine nd_skip rfl ?_
    simp only [pL,List.set]
    refine nd_quiet ?_ rfl ?_ ?_
    rotate_left
    ·go_simp;rfl
    simp only [pL,List.set]
    go_wp2
    go_ret
    exact ans_no hno.out (nw_trans nW m1)
  | false =>
   have hno:Hid (¬ DirOk t):=fun h=>not_of_false q1 h.next
   clear hcon qn q1
   refine nd_quiet ?_ rfl ?_ ?_
   rotate_left
   ·go_simp;rfl
   simp only [pL,List.set]
   refine nd_quiet ?_ rfl ?_ ?_
   rotate_left
   ·go_simp;rfl
   simp only [pL,List.set]
   refine nd_skip rfl ?_
   simp only [pL,List.set]
   refine nd_skip rfl ?_
   simp only [pL,List.set]
   refine nd_skip rfl ?_
   simp only [pL,List.set]
   refine nd_skip rfl ?_
   simp only [pL,List.set]
   refine nd_quiet ?_ rfl ?_ ?_
   rotate_left
   ·go_simp;rfl
   simp only [pL,List.set]
   refine nd_quiet ?_ rfl ?_ ?_
   rotate_left
   ·go_simp;rfl
   simp only [pL,List.set]
   refine nd_skip rfl ?_
   simp only [pL,List.set]
   refine nd_skip rfl ?_
   simp only [pL,List.set]
   refine nd_skip rfl ?_
   simp only [pL,List.set]
   refine nd_skip rfl ?_
   simp only [pL,List.set]
   refine nd_quiet ?_ rfl ?_ ?_
   rotate_left
   ·go_simp;rfl
   simp only [pL,List.set]
   go_wp2
   go_ret
   exact ans_no hno.out (nw_trans nW m0)
 ·have bl:decide (16 < (t.links.length:Int)) = true:=decide_eq_true (by omega)
  refine wp_region_list ?_
  simp only [List.toList_toArray,List.append_eq,List.cons_append,List.nil_append]
  refine nd_quiet ?_ rfl ?_ ?_
  rotate_left
  ·go_simp;rfl
  simp only [pL,List.set]
  refine nd_quiet ?_ rfl ?_ ?_
  rotate_left
  ·have g0:W.cell? ⟨w.heap.size,7,none⟩ = some (.int .i64 t.next):=cell_blk hA rfl;go_simp;rfl
  simp only [pL,List.set]
  have hcon:Hid _:=c_btw 0 t.next 63 W
  unfold AnsP at hcon
  refine nd_call _ _ rfl hcon.out ?_ ?_
  ·first | (go_simp;done) | (go_simp;rfl)
  rintro e wk0 ⟨r,rfl,q1,qn⟩
  refine ⟨_,rfl,?_⟩
  simp only [pL,List.set]
  have m0:=qn
  replace ht:=ht.nw qn
  cases r with
  | true =>
   have y1:Hid (btw 0 t.next 63):=q1.1 rfl
   clear hcon qn q1
   refine nd_quiet ?_ rfl ?_ ?_
   rotate_left
   ·go_simp;rfl
   simp only [pL,List.set]
   refine nd_quiet ?_ rfl ?_ ?_
   rotate_left
   ·go_simp;rfl
   simp only [pL,List.set]
   refine nd_quiet ?_ rfl ?_ ?_
   rotate_left
   ·go_simp;rfl
   simp only [pL,List.set]
   refine nd_quiet ?_ rfl ?_ ?_
   rotate_left
   ·have g0:wk0.cell? ⟨w.heap.size,6,none⟩ = some (.int .i64 t.quota):=cell_blk ((m0.block _ (heap_lt hA) (fun h=>h)).trans hA) rfl;go_simp;rfl
   simp only [pL,List.set]
   have hcon:Hid _:=c_btw 1 t.quota 48 wk0
   unfold AnsP at hcon
   refine nd_call _ _ rfl hcon.out ?_ ?_
   ·first | (go_simp;done) | (go_simp;rfl)
   rintro e wk1 ⟨r,rfl,q1,qn⟩
   refine ⟨_,rfl,?_⟩
   simp only [pL,List.set]
   have m1:=nw_trans m0 qn
   replace ht:=ht.nw qn
   cases r with
   | true =>
    have y2:Hid (btw 1 t.quota 48):=q1.1 rfl
    clear hcon qn q1 m0
    refine nd_quiet ?_ rfl ?_ ?_
    rotate_left
    ·go_simp;rfl
    simp only [pL,List.set]
    refine nd_quiet ?_ rfl ?_ ?_
    rotate_left
    ·go_simp;rfl
    simp only [pL,List.set]
    refine nd_quiet ?_ rfl ?_ ?_
    rotate_left
    ·go_simp;rfl
    simp only [pL,List.set]
    refine nd_quiet ?_ rfl ?_ ?_
    rotate_left
    ·go_simp;rfl
    simp only [pL,List.set]
    refine nd_quiet ?_ rfl ?_ ?_
    rotate_left
    ·have g0:wk1.cell? ⟨w.heap.size,8,none⟩ = some (.slice ka t.links.length kc):=cell_blk ((m1.block _ (heap_lt hA) (fun h=>h)).trans hA) rfl;go_simp;rfl
    simp only [pL,List.set]
    refine nd_quiet ?_ rfl ?_ ?_
    rotate_left
    ·go_simp;rfl
    simp only [pL,List.set]
    refine nd_quiet ?_ rfl ?_ ?_
    rotate_left
    ·go_simp;rfl
    simp only [pL,List.set]
    refine nd_quiet ?_ rfl ?_ ?_
    rotate_left
    ·go_simp;rfl
    simp only [pL,List.set]
    have hno:Hid (¬ DirOk t):=fun h=>by have:=h.len;omega
    go_wp2
    go_ret
    exact ans_no hno.out (nw_trans nW m1)
   | false =>
    have hno:Hid (¬ DirOk t):=fun h=>not_of_false q1 h.quota
    clear hcon qn q1 m0
    refine nd_quiet ?_ rfl ?_ ?_
    rotate_left
    ·go_simp;rfl
    simp only [pL,List.set]
    refine nd_quiet ?_ rfl ?_ ?_
    rotate_left
    ·go_simp;rfl
    simp only [pL,List.set]
    refine nd_quiet ?_ rfl ?_ ?_
    rotate_left
    ·go_simp;rfl
    simp only [pL,List.set]
    refine nd_skip rfl ?_
    simp only [pL,List.set]
    refine nd_skip rfl ?_
    simp only [pL,List.set]
    refine nd_skip rfl ?_
    simp only [pL,List.set]
    refine nd_skip rfl ?_
    simp only [pL,List.set]
    refine nd_quiet ?_ rfl ?_ ?_
    rotate_left
    ·go_simp;rfl
    simp only [pL,List.set]
    go_wp2
    go_ret
    exact ans_no hno.out (nw_trans nW m1)
  | false =>
   have hno:Hid (¬ DirOk t):=fun h=>not_of_false q1 h.next
   clear hcon qn q1
   refine nd_quiet ?_ rfl ?_ ?_
   rotate_left
   ·go_simp;rfl
   simp only [pL,List.set]
   refine nd_quiet ?_ rfl ?_ ?_
   rotate_left
   ·go_simp;rfl
   simp only [pL,List.set]
   refine nd_skip rfl ?_
   simp only [pL,List.set]
   refine nd_skip rfl ?_
   simp only [pL,List.set]
   refine nd_skip rfl ?_
   simp only [pL,List.set]
   refine nd_skip rfl ?_
   simp only [pL,List.set]
   refine nd_quiet ?_ rfl ?_ ?_
   rotate_left
   ·go_simp;rfl
   simp only [pL,List.set]
   refine nd_quiet ?_ rfl ?_ ?_
   rotate_left
   ·go_simp;rfl
   simp only [pL,List.set]
   refine nd_skip rfl ?_
   simp only [pL,List.set]
   refine nd_skip rfl ?_
   simp only [pL,List.set]
   refine nd_skip rfl ?_
   simp only [pL,List.set]
   refine nd_skip rfl ?_
   simp only [pL,List.set]
   refine nd_quiet ?_ rfl ?_ ?_
   rotate_left
   ·go_simp;rfl
   simp only [pL,List.set]
   go_wp2
   go_ret
   exact ans_no hno.out (nw_trans nW m0)
end Go.Proofs.Ytgmfofngmfekbaa
