/-
  Right: a directory's words.
-/
import Derived.Test.YtghlilncdfiojaaThR2S
import Derived.Test.YtghlilncdfiojaaThW3S
import Derived.Test.YtghlilncdfiojaaLibS
namespace Go.Proofs.Ytghlilncdfiojaa
set_option linter.unusedVariables false
set_option linter.unusedSimpArgs false
set_option maxRecDepth 20000
open Go.RowKit

/-- The first k links are as they must be. -/
def LkTo (ls:List Cat) (k:Nat):Prop:=(∀ i (h:i < ls.length),i < k→idOk ls[i].1∧btw 1 ls[i].2 48)∧∀ i (h:i + 1 < ls.length),i + 1 < k→ls[i].1 < ls[i + 1].1
def lastOf (ls:List Cat) (k:Nat):Int:=match k with
 | 0=>0
 | k + 1=>(ls[k]?.map (·.1)).getD 0

theorem lkTo_zero (ls:List Cat):LkTo ls 0:=⟨fun i h hi=>by omega,fun i h hi=>by omega⟩
theorem sumL_take {ls:List Cat} {k:Nat} (h:k < ls.length):sumL (ls.take (k + 1)) = sumL (ls.take k) + ls[k].2:=by
 unfold sumL
 rw [List.take_succ_eq_append_getElem h,List.map_append,List.sum_append]
 simp
theorem lkTo_succ {ls:List Cat} {k:Nat} {last used:Int} (hlt:k < ls.length) (h:LkTo ls k∧last = lastOf ls k∧used = 1 + sumL (ls.take k)) (h1:last < ls[k].1) (h2:idOk ls[k].1) (h3:btw 1 ls[k].2 48) :
  LkTo ls (k + 1)∧ls[k].1 = lastOf ls (k + 1)∧used + ls[k].2 = 1 + sumL (ls.take (k + 1)):=by
 obtain ⟨⟨a1,a2⟩,a3,a4⟩:=h
 refine ⟨⟨fun i hi hik=>?_,fun i hi hik=>?_⟩,by simp [lastOf,hlt],by rw [sumL_take hlt,a4];omega⟩
 ·by_cases e:i = k
  ·subst e;exact ⟨h2,h3⟩
  ·exact a1 i hi (by omega)
 ·by_cases e:i + 1 = k
  ·subst e
   have:lastOf ls (i + 1) = ls[i].1:=by simp [lastOf,show i < ls.length by omega]
   rw [a3,this] at h1
   exact h1
  ·exact a2 i hi (by omega)
theorem lkTo_must {ls:List Cat} {k:Nat} {last:Int} (hlt:k < ls.length) (h:LkOk ls) (hl:last = lastOf ls k):last < ls[k].1∧idOk ls[k].1∧btw 1 ls[k].2 48:=by
 obtain ⟨h1,h2⟩:=h.each k hlt
 refine ⟨?_,h1,h2⟩
 cases k with
 | zero=>rw [hl];unfold idOk at h1;simp only [lastOf];omega
 | succ k =>
  have:lastOf ls (k + 1) = ls[k].1:=by simp [lastOf,show k < ls.length by omega]
  rw [hl,this]
  exact h.rise k hlt

set_option maxHeartbeats 3200000 in
theorem c_dir {X:Nat→Prop} {t:Th} {uL uC uK uD:Value} (w:World) (h:ThAt X w t uL uC uK uD) :
  Calls Try.prog 55 #[thV t uL uC uK uD] w (AnsP (DirOk t) w):=by
 obtain ⟨ka,kc,rfl,hk1,hk2⟩:=h.k.form
 obtain ⟨W,hW⟩:∃ W,Hid (W = w.alloc (.cells (thC t uL uC (.slice ka t.links.length kc) uD).toArray 34)):=⟨_,rfl⟩
 have nW:Nw w W:=by rw [hW.out];exact nw_alloc (nw_refl w) _
 have hA:W.heap[w.heap.size]? = some (.cells (thC t uL uC (.slice ka t.links.length kc) uD).toArray 34 (0,0)):=by rw [hW.out];exact heap_alloc_new w _
 have ht:=h.nw nW
 clear h
 go_enter Try.func55,Try.ntmps55
 go_upto_region 1 with (refine wpList_box_agg rfl 34 _ rfl (thV t uL uC (.slice ka t.links.length kc) uD) _ rfl rfl ?_)
 rw [← hW.out]
 clear hW
 by_cases hsm:t.links.length ≤ 16
 ·have bl:decide (16 < (t.links.length:Int)) = false:=decide_eq_false (by omega)
  have hsm0:=hsm
  replace hsm:Hid (t.links.length ≤ 16):=hsm
  refine wp_region_list ?_
  simp only [List.toList_toArray,List.append_eq,List.cons_append,List.nil_append]
  refine nd_quiet ?_ rfl ?_ ?_
  rotate_left
  ·go_simp;rfl
  simp only [pL,List.set]
  refine nd_quiet ?_ rfl ?_ ?_
  rotate_left
  ·have g0:W.cell? ⟨w.heap.size,7,none⟩ = some (.int .i64 t.next):=cell_blk hA rfl;go_simp;rfl
  simp only [pL,List.set]
  have hcon:Hid _:=c_btw 0 t.next 63 W
  unfold AnsP at hcon
  refine nd_call _ _ rfl hcon.out ?_ ?_
  ·first | (go_simp;done) | (go_simp;rfl)
  rintro e wk0 ⟨r,rfl,q1,qn⟩
  refine ⟨_,rfl,?_⟩
  simp only [pL,List.set]
  have m0:=qn
  replace ht:=ht.nw qn
  cases r with
  | true =>
   have y1:Hid (btw 0 t.next 63):=q1.1 rfl
   clear hcon qn q1
   refine nd_quiet ?_ rfl ?_ ?_
   rotate_left
   ·go_simp;rfl
   simp only [pL,List.set]
   refine nd_quiet ?_ rfl ?_ ?_
   rotate_left
   ·go_simp;rfl
   simp only [pL,List.set]
   refine nd_quiet ?_ rfl ?_ ?_
   rotate_left
   ·go_simp;rfl
   simp only [pL,List.set]
   refine nd_quiet ?_ rfl ?_ ?_
   rotate_left
   ·have g0:wk0.cell? ⟨w.heap.size,6,none⟩ = some (.int .i64 t.quota):=cell_blk ((m0.block _ (heap_lt hA) (fun h=>h)).trans hA) rfl;go_simp;rfl
   simp only [pL,List.set]
   have hcon:Hid _:=c_btw 1 t.quota 48 wk0
   unfold AnsP at hcon
   refine nd_call _ _ rfl hcon.out ?_ ?_
   ·first | (go_simp;done) | (go_simp;rfl)
   rintro e wk1 ⟨r,rfl,q1,qn⟩
   refine ⟨_,rfl,?_⟩
   simp only [pL,List.set]
   have m1:=nw_trans m0 qn
   replace ht:=ht.nw qn
   cases r with
   | true =>
    have y2:Hid (btw 1 t.quota 48):=q1.1 rfl
    clear hcon qn q1 m0
    refine nd_quiet ?_ rfl ?_ ?_
    rotate_left
    ·go_simp;rfl
    simp only [pL,List.set]
    refine nd_quiet ?_ rfl ?_ ?_
    rotate_left
    ·go_simp;rfl
    simp only [pL,List.set]
    refine nd_quiet ?_ rfl ?_ ?_
    rotate_left
    ·go_simp;rfl
    simp only [pL,List.set]
    refine nd_quiet ?_ rfl ?_ ?_
    rotate_left
    ·go_simp;rfl
    simp only [pL,List.set]
    refine nd_quiet ?_ rfl ?_ ?_
    rotate_left
    ·have g0:wk1.cell? ⟨w.heap.size,8,none⟩ = some (.slice ka t.links.length kc):=cell_blk ((m1.block _ (heap_lt hA) (fun h=>h)).trans hA) rfl;go_simp;rfl
    simp only [pL,List.set]
    refine nd_quiet ?_ rfl ?_ ?_
    rotate_left
    ·go_simp;rfl
    simp only [pL,List.set]
    refine nd_quiet ?_ rfl ?_ ?_
    rotate_left
    ·go_simp;rfl
    simp only [pL,List.set]
    refine nd_quiet ?_ rfl ?_ ?_
    rotate_left
    ·go_simp;rfl
    simp only [pL,List.set]
    replace ht:=ht.k
    have hA1:=(m1.block _ (heap_lt hA) (fun h=>h)).trans hA
    clear hA
    replace nW:=nw_trans nW m1
    clear m1
    go_upto_region 4 with fail
    have g8:wk1.cell? ⟨w.heap.size,8,none⟩ = some (.slice ka t.links.length kc):=cell_blk hA1 rfl
    go_wp2
    clear g8
    go_loopw [26,3,4] (fun kv lv uv wr=>∃ (k:Nat) (last used:Int),k ≤ t.links.length∧kv = .int .i64 k∧lv = .int .u64 last∧uv = .int .i64 used∧Hid (LkTo t.links k∧last = lastOf t.links k∧used = 1 + sumL (t.links.take k))∧1 ≤ used∧used ≤ 1 + 48 * (k:Int)∧Nw wk1 wr) (fun kv _ _ _=>t.links.length - (intOf kv).toNat)
    case atStart=>exact ⟨0,0,1,Nat.zero_le _,rfl,rfl,rfl,⟨lkTo_zero _,rfl,rfl⟩,by decide,by decide,nw_refl _⟩
    case round =>
     obtain ⟨k,last,used,hk,rfl,rfl,rfl,hinv,hu1,hu2,hw⟩:=hrel
     by_cases hlt:k < t.links.length
     ·obtain ⟨q,off,e1,_,d1,d2⟩:=(ht.nw hw).get k hlt
      subst e1
      have hstep:Hid (last < t.links[k].1→idOk t.links[k].1→btw 1 t.links[k].2 48→LkTo t.links (k + 1)∧t.links[k].1 = lastOf t.links (k + 1)∧used + t.links[k].2 = 1 + sumL (t.links.take (k + 1))):=fun h1 h2 h3=>lkTo_succ hlt hinv.out h1 h2 h3
      have hbad:Hid (¬ (last < t.links[k].1∧idOk t.links[k].1∧btw 1 t.links[k].2 48)→¬ DirOk t):=fun h1 h2=>h1 (lkTo_must hlt h2.lk hinv.out.2.1)
      generalize t.links[k] = x at *
      have hnA:Hid (∀ o,Nw wk1 (wr.alloc o)):=fun o=>nw_alloc hw o
      by_cases c1:x.1 ≤ last
      ·have b1:decide (x.1 ≤ last) = true:=decide_eq_true c1
       have hno:Hid (¬ DirOk t):=hbad.out (fun h=>by omega)
       clear c1 hstep hbad hinv hu1 hu2
       go_wp2
       go_ret
       exact ans_no hno.out (nw_trans nW (hnA.out _))
      ·have b1:decide (x.1 ≤ last) = false:=decide_eq_false c1
       replace c1:Hid (last < x.1):=by unfold Hid;omega
       have hcx:Hid (∀ w,Calls Try.prog 24 #[.int .u64 x.1] w fun e w'=>∃ r:Bool,e = .returned (.bool r)∧(r = true↔idOk x.1)∧Nw w w'):=fun w=>c_isID x.1 w
       have hcy:Hid (∀ w,Calls Try.prog 58 #[.int .i64 1,.int .i64 x.2,.int .i64 48] w fun e w'=>∃ r:Bool,e = .returned (.bool r)∧(r = true↔btw 1 x.2 48)∧Nw w w'):=fun w=>c_btw 1 x.2 48 w
       have g0:∀ w',Nw (wr.alloc (.cells #[.int .u64 x.1,.int .i64 x.2] 50)) w'→w'.cell? ⟨wr.heap.size,0,none⟩ = some (.int .u64 x.1)∧w'.cell? ⟨wr.heap.size,1,none⟩ = some (.int .i64 x.2):=fun w' hw'=>⟨cell_blk ((hw'.block _ (by simp) (fun h=>h)).trans (heap_alloc_new wr _)) rfl,cell_blk ((hw'.block _ (by simp) (fun h=>h)).trans (heap_alloc_new wr _)) rfl⟩
       replace g0:Hid _:=g0
       go_wp2_with (go_at_call 24;refine Calls.mono (hcx.out _) ?_;rintro e w3 ⟨r,rfl,q1,qn⟩;refine stop_here ?_)
       unfold Hid
       obtain ⟨gx,gy⟩:=g0.out _ qn
       have hw3:=nw_trans (hnA.out _) qn
       cases r with
       | false =>
        have hno:Hid (¬ DirOk t):=hbad.out (fun h=>not_of_false q1 h.2.1)
        clear q1 hstep hbad hinv hu1 hu2
        go_wp2
        go_ret
        exact ans_no hno.out (nw_trans nW hw3)
       | true =>
        have hx:Hid (idOk x.1):=q1.1 rfl
        clear q1
        go_wp2_with (go_at_call 58;refine Calls.mono (hcy.out _) ?_;rintro e w4 ⟨r,rfl,q1,qn2⟩;refine stop_here ?_)
        unfold Hid
        clear gx gy
        obtain ⟨gx,gy⟩:=g0.out _ (nw_trans qn qn2)
        clear qn
        cases r with
        | false =>
         have hno:Hid (¬ DirOk t):=hbad.out (fun h=>not_of_false q1 h.2.2)
         clear q1 hstep hbad hinv hu1 hu2
         go_wp2
         go_ret
         exact ans_no hno.out (nw_trans nW (nw_trans hw3 qn2))
        | true =>
         have hb:btw 1 x.2 48:=q1.1 rfl
         have hwr:wrap64 (used + x.2) = used + x.2:=by unfold btw at hb;unfold wrap64;omega
         have hn1:Hid (1 ≤ used + x.2∧used + x.2 ≤ 1 + 48 * ((k + 1:Nat):Int)):=by unfold btw at hb;unfold Hid;omega
         have hy:Hid _:=hstep.out c1.out hx.out hb
         clear q1 hstep hbad hinv hb
         go_wp2
         go_roundw
         case rel=>exact ⟨k + 1,x.1,used + x.2,by omega,by go_num,rfl,by rw [hwr],hy.out,hn1.out.1,hn1.out.2,nw_trans hw3 qn2⟩
         case measure=>simp [intOf];omega
     ·have hA2:=(hw.block _ (heap_lt hA1) (fun h=>h)).trans hA1
      have g6:wr.cell? ⟨w.heap.size,6,none⟩ = some (.int .i64 t.quota):=cell_blk hA2 rfl
      have hk':k = t.links.length:=by omega
      have hl:=hinv.out
      rw [hk',List.take_length] at hl
      have hiff:Hid (used ≤ t.quota↔DirOk t):=⟨fun h=>⟨y1.out,y2.out,hsm.out,⟨fun i h=>hl.1.1 i h h,fun i h=>hl.1.2 i h h⟩,by rw [← hl.2.2];exact h⟩,fun h=>by rw [hl.2.2];exact h.sum⟩
      by_cases hq:used ≤ t.quota
      ·have bq:decide (used ≤ t.quota) = true:=decide_eq_true hq
       have hyes:Hid (DirOk t):=hiff.out.1 hq
       clear hq hl hinv hiff hk' hu1 hu2
       go_wp2
       go_ret
       exact ans_yes hyes.out (nw_trans nW hw)
      ·have bq:decide (used ≤ t.quota) = false:=decide_eq_false hq
       have hno:Hid (¬ DirOk t):=fun h=>hq (hiff.out.2 h)
       clear hq hl hinv hiff hk' hu1 hu2
       go_wp2
       go_ret
       exact ans_no hno.out (nw_trans nW hw)
   | false =>
    have hno:Hid (¬ DirOk t):=fun h=>not_of_false q1 h.quota
    clear hcon qn q1 m0
    refine nd_quiet ?_ rfl ?_ ?_
    rotate_left
    ·go_simp;rfl
    simp only [pL,List.set]
    refine nd_quiet ?_ rfl ?_ ?_
    rotate_left
    ·go_simp;rfl
    simp only [pL,List.set]
    refine nd_quiet ?_ rfl ?_ ?_
    rotate_left
    ·go_simp;rfl
    simp only [pL,List.set]
    refine nd_skip rfl ?_
    simp only [pL,List.set]
    refine nd_skip rfl ?_
    simp only [pL,List.set]
    refine nd_skip rfl ?_
    simp only [pL,List.set]
    refine nd_skip rfl ?_
    simp only [pL,List.set]
    refine nd_quiet ?_ rfl ?_ ?_
    rotate_left
    ·go_simp;rfl
    simp only [pL,List.set]
    go_wp2
    go_ret
    exact ans_no hno.out (nw_trans nW m1)
  | false =>
   have hno:Hid (¬ DirOk t):=fun h=>not_of_false q1 h.next
   clear hcon qn q1
   refine nd_quiet ?_ rfl ?_ ?_
   rotate_left
   ·go_simp;rfl
   simp only [pL,List.set]
   refine nd_quiet ?_ rfl ?_ ?_
   rotate_left
   ·go_simp;rfl
   simp only [pL,List.set]
   refine nd_skip rfl ?_
   simp only [pL,List.set]
   refine nd_skip rfl ?_
   simp only [pL,List.set]
   refine nd_skip rfl ?_
   simp only [pL,List.set]
   refine nd_skip rfl ?_
   simp only [pL,List.set]
   refine nd_quiet ?_ rfl ?_ ?_
   rotate_left
   ·go_simp;rfl
   simp only [pL,List.set]
   refine nd_quiet ?_ rfl ?_ ?_
   rotate_left
   ·go_simp;rfl
   simp only [pL,List.set]
   refine nd_skip rfl ?_
   simp only [pL,List.set]
   refine nd_skip rfl ?_
   simp only [pL,List.set]
   refine nd_skip rfl ?_
   simp only [pL,List.set]
   refine nd_skip rfl ?_
   simp only [pL,List.set]
   refine nd_quiet ?_ rfl ?_ ?_
   rotate_left
   ·go_simp;rfl
   simp only [pL,List.set]
   go_wp2
   go_ret
   exact ans_no hno.out (nw_trans nW m0)
 ·have bl:decide (16 < (t.links.length:Int)) = true:=decide_eq_true (by omega)
  refine wp_region_list ?_
  simp only [List.toList_toArray,List.append_eq,List.cons_append,List.nil_append]
  refine nd_quiet ?_ rfl ?_ ?_
  rotate_left
  ·go_simp;rfl
  simp only [pL,List.set]
  refine nd_quiet ?_ rfl ?_ ?_
  rotate_left
  ·have g0:W.cell? ⟨w.heap.size,7,none⟩ = some (.int .i64 t.next):=cell_blk hA rfl;go_simp;rfl
  simp only [pL,List.set]
  have hcon:Hid _:=c_btw 0 t.next 63 W
  unfold AnsP at hcon
  refine nd_call _ _ rfl hcon.out ?_ ?_
  ·first | (go_simp;done) | (go_simp;rfl)
  rintro e wk0 ⟨r,rfl,q1,qn⟩
  refine ⟨_,rfl,?_⟩
  simp only [pL,List.set]
  have m0:=qn
  replace ht:=ht.nw qn
  cases r with
  | true =>
   have y1:Hid (btw 0 t.next 63):=q1.1 rfl
   clear hcon qn q1
   refine nd_quiet ?_ rfl ?_ ?_
   rotate_left
   ·go_simp;rfl
   simp only [pL,List.set]
   refine nd_quiet ?_ rfl ?_ ?_
   rotate_left
   ·go_simp;rfl
   simp only [pL,List.set]
   refine nd_quiet ?_ rfl ?_ ?_
   rotate_left
   ·go_simp;rfl
   simp only [pL,List.set]
   refine nd_quiet ?_ rfl ?_ ?_
   rotate_left
   ·have g0:wk0.cell? ⟨w.heap.size,6,none⟩ = some (.int .i64 t.quota):=cell_blk ((m0.block _ (heap_lt hA) (fun h=>h)).trans hA) rfl;go_simp;rfl
   simp only [pL,List.set]
   have hcon:Hid _:=c_btw 1 t.quota 48 wk0
   unfold AnsP at hcon
   refine nd_call _ _ rfl hcon.out ?_ ?_
   ·first | (go_simp;done) | (go_simp;rfl)
   rintro e wk1 ⟨r,rfl,q1,qn⟩
   refine ⟨_,rfl,?_⟩
   simp only [pL,List.set]
   have m1:=nw_trans m0 qn
   replace ht:=ht.nw qn
   cases r with
   | true =>
    have y2:Hid (btw 1 t.quota 48):=q1.1 rfl
    clear hcon qn q1 m0
    refine nd_quiet ?_ rfl ?_ ?_
    rotate_left
    ·go_simp;rfl
    simp only [pL,List.set]
    refine nd_quiet ?_ rfl ?_ ?_
    rotate_left
    ·go_simp;rfl
    simp only [pL,List.set]
    refine nd_quiet ?_ rfl ?_ ?_
    rotate_left
    ·go_simp;rfl
    simp only [pL,List.set]
    refine nd_quiet ?_ rfl ?_ ?_
    rotate_left
    ·go_simp;rfl
    simp only [pL,List.set]
    refine nd_quiet ?_ rfl ?_ ?_
    rotate_left
    ·have g0:wk1.cell? ⟨w.heap.size,8,none⟩ = some (.slice ka t.links.length kc):=cell_blk ((m1.block _ (heap_lt hA) (fun h=>h)).trans hA) rfl;go_simp;rfl
    simp only [pL,List.set]
    refine nd_quiet ?_ rfl ?_ ?_
    rotate_left
    ·go_simp;rfl
    simp only [pL,List.set]
    refine nd_quiet ?_ rfl ?_ ?_
    rotate_left
    ·go_simp;rfl
    simp only [pL,List.set]
    refine nd_quiet ?_ rfl ?_ ?_
    rotate_left
    ·go_simp;rfl
    simp only [pL,List.set]
    have hno:Hid (¬ DirOk t):=fun h=>by have:=h.len;omega
    go_wp2
    go_ret
    exact ans_no hno.out (nw_trans nW m1)
   | false =>
    have hno:Hid (¬ DirOk t):=fun h=>not_of_false q1 h.quota
    clear hcon qn q1 m0
    refine nd_quiet ?_ rfl ?_ ?_
    rotate_left
    ·go_simp;rfl
    simp only [pL,List.set]
    refine nd_quiet ?_ rfl ?_ ?_
    rotate_left
    ·go_simp;rfl
    simp only [pL,List.set]
    refine nd_quiet ?_ rfl ?_ ?_
    rotate_left
    ·go_simp;rfl
    simp only [pL,List.set]
    refine nd_skip rfl ?_
    simp only [pL,List.set]
    refine nd_skip rfl ?_
    simp only [pL,List.set]
    refine nd_skip rfl ?_
    simp only [pL,List.set]
    refine nd_skip rfl ?_
    simp only [pL,List.set]
    refine nd_quiet ?_ rfl ?_ ?_
    rotate_left
    ·go_simp;rfl
    simp only [pL,List.set]
    go_wp2
    go_ret
    exact ans_no hno.out (nw_trans nW m1)
  | false =>
   have hno:Hid (¬ DirOk t):=fun h=>not_of_false q1 h.next
   clear hcon qn q1
   refine nd_quiet ?_ rfl ?_ ?_
   rotate_left
   ·go_simp;rfl
   simp only [pL,List.set]
   refine nd_quiet ?_ rfl ?_ ?_
   rotate_left
   ·go_simp;rfl
   simp only [pL,List.set]
   refine nd_skip rfl ?_
   simp only [pL,List.set]
   refine nd_skip rfl ?_
   simp only [pL,List.set]
   refine nd_skip rfl ?_
   simp only [pL,List.set]
   refine nd_skip rfl ?_
   simp only [pL,List.set]
   refine nd_quiet ?_ rfl ?_ ?_
   rotate_left
   ·go_simp;rfl
   simp only [pL,List.set]
   refine nd_quiet ?_ rfl ?_ ?_
   rotate_left
   ·go_simp;rfl
   simp only [pL,List.set]
   refine nd_skip rfl ?_
   simp only [pL,List.set]
   refine nd_skip rfl ?_
   simp only [pL,List.set]
   refine nd_skip rfl ?_
   simp only [pL,List.set]
   refine nd_skip rfl ?_
   simp only [pL,List.set]
   refine nd_quiet ?_ rfl ?_ ?_
   rotate_left
   ·go_simp;rfl
   simp only [pL,List.set]
   go_wp2
   go_ret
   exact ans_no hno.out (nw_trans nW m0)
end Go.Proofs.Ytghlilncdfiojaa
