/-
  The walk of GraphUnlinks.
-/
import Derived.Test.YtgmfofngmfekbaaGrGrS
import Derived.Test.YtgmfofngmfekbaaGrGjS
import Derived.Test.YtgmfofngmfekbaaThC4S
import Derived.Test.YtgmfofngmfekbaaGrU1S
namespace Go.Proofs.Ytgmfofngmfekbaa
set_option linter.unusedVariables false
set_option linter.unusedSimpArgs false
set_option maxRecDepth 20000
open Go.RowKit

theorem un_code (xs:List TC) (hold id:Int):(unX xs hold id).2.2 = 0∨(unX xs hold id).2.2 = 124∨(unX xs hold id).2.2 = 131:=by
 unfold unX
 cases findX xs hold with
 | none=>exact .inr (.inr rfl)
 | some d =>
  simp only
  split
  ·split
   ·exact .inl rfl
   ·exact .inr (.inl rfl)
  ·exact .inr (.inr rfl)

set_option maxRecDepth 100000 in
set_option maxHeartbeats 12800000 in
theorem c_lunlinks {v:Value} {xs:List TC} (hold id:Int) (w:World) (hx:TSl (fun b=>b < w.heap.size) (fun b=>b < w.heap.size) w v xs) (hin:∀ x ∈ xs,TIn x.t) :
  Calls Try.prog 4 #[v,.int .u64 hold,.int .u64 id] w fun e w'=>e = .returned (.bool true)∧Nw w w':=by
 have nW:=nw_refl w
 obtain ⟨ao,cap,rfl,hc1,hc2⟩:=hx.form
 obtain ⟨N,hN⟩:∃ N,xs.length = N:=⟨_,rfl⟩
 have hNx:Hid (xs.length = N):=hN
 rw [hN] at hx hc1 ⊢
 clear hN
 replace hin:Hid _:=hin
 go_enter Try.func4,Try.ntmps4
 have hcon:Hid _:=c_galive w
 go_wp2_with ((go_at_call 8;refine Calls.mono hcon.out ?_;rintro e W1 ⟨rfl,n1⟩;refine stop_here ?_))
 unfold Hid
 clear hcon
 replace hx:=hx.nw n1
 replace nW:=nw_trans nW n1
 go_upto_region 3 with fail
 by_cases hl:60 < N
 ·have hb1:decide ((60:Int) < (N:Int)) = true:=decide_eq_true (by omega)
  have hb2:decide (60 < N) = true:=decide_eq_true hl
  clear hx
  go_wp2
  go_ret
  exact ⟨rfl,nW⟩
 ·have hb1:decide ((60:Int) < (N:Int)) = false:=decide_eq_false (by omega)
  have hb2:decide (60 < N) = false:=decide_eq_false hl
  have hN6:Hid (xs.length ≤ 60):=by have:=hNx.out;unfold Hid;omega
  have hcon:Hid _:=c_rsound W1 hx (fun x hx=>(hin.out x hx).ok) (by have:=hN6.out;omega)
  unfold AnsP at hcon
  go_wp2_with ((go_at_call 11;refine Calls.mono hcon.out ?_;rintro e W2 ⟨r2,rfl,hr2,n2⟩;refine stop_here ?_))
  unfold Hid
  clear hcon
  replace hx:=hx.nw n2
  replace nW:=nw_trans nW n2
  cases r2 with
  | false =>
   clear hr2 hx
   go_wp2
   go_ret
   exact ⟨rfl,nW⟩
  | true =>
   have hS:Hid (SoundX xs):=hr2.1 rfl
   have hp:Hid (PwX xs):=rise_pw hS.out.rise
   clear hr2 hb1 hb2
   go_upto_region 5 with fail
   have hcon:Hid _:=c_rgcopy W2 hx (fun x hx=>(hin.out x hx).len) (by have:=hN6.out;omega)
   go_wp2_with ((go_at_call 9;refine Calls.mono hcon.out ?_;rintro e W3 ⟨u,ys,rfl,hy,hyx,n3⟩;refine stop_here ?_))
   unfold Hid
   clear hcon
   replace hx:=hx.nw n3
   replace nW:=nw_trans nW n3
   obtain ⟨s1,s2⟩:=same_un hyx hS.out hold id
   have hSy:=same_sound hyx hS.out
   have hcu:Hid _:=c_gunlink hold id W3 hy hSy (fun z hz=>right_tlen (sound_right hSy z hz)) (by have:=hN6.out;have:=same_len hyx;omega)
   unfold GUnP at hcu
   rw [s2] at hcu
   clear hSy s2
   replace hyx:Hid _:=hyx
   have hcon:Hid _:=hcu.out
   go_wp2_with ((go_at_call 23;refine Calls.mono hcon.out ?_;rintro e W4 ⟨u2,gv,zs,ids,rfl,hz,hi,hzs,hids,n4⟩;refine stop_here ?_))
   unfold Hid
   clear hcon  hcu
   replace hx:=hx.nw n4
   replace hy:=hy.nw n4
   replace nW:=nw_trans nW n4
   replace hx:=hx.mono (X':=fun _=>True) (Y':=fun _=>True) (fun _ _ _=>trivial) (fun _ _ _=>trivial)
   replace hy:=hy.mono (X':=fun _=>True) (Y':=fun _=>True) (fun _ _ _=>trivial) (fun _ _ _=>trivial)
   replace hz:=hz.mono (X':=fun _=>True) (Y':=fun _=>True) (fun _ _ _=>trivial) (fun _ _ _=>trivial)
   replace hi:=USl.all hi
   replace hzs:=hzs.trans s1
   clear s1
   have hSz:Hid (SoundX zs):=same_sound hzs (un_sound hS.out hold id)
   have hz6:Hid (zs.length ≤ 60):=by
    have:=hN6.out
    by_cases h0:(unX xs hold id).2.2 = 0
    ·have:=(keeps_same hzs (un_keeps hS.out h0)).len;unfold Hid;omega
    ·obtain ⟨q1,q2⟩:=un_not h0;have h1:=same_len hzs;rw [q1] at h1;unfold Hid;omega
   have hcr:Hid _:=c_rgunlink hold id W4 hx hS.out (by have:=hN6.out;omega)
   unfold RUnP at hcr
   have hcode:=un_code xs hold id
   replace hzs:Hid _:=hzs
   replace hids:Hid _:=hids
   have hcon:Hid _:=hcr.out
   go_wp2_with ((go_at_call 24;refine Calls.mono hcon.out ?_;rintro e W5 ⟨u3,gv3,zs3,ids3,rfl,hz3,hi3,hzs3,hids3,n5⟩;refine stop_here ?_))
   unfold Hid
   clear hcon  hcr
   replace hx:=hx.nw n5
   replace hy:=hy.nw n5
   replace hz:=hz.nw n5
   replace hi:=hi.nw n5
   replace nW:=nw_trans nW n5
   have hzz:Hid (zs.map (·.t) = zs3.map (·.t)):=hzs.out.trans hzs3.symm
   have hii:Hid (ids = ids3):=hids.out.trans hids3.symm
   clear hzs hids hzs3 hids3
   generalize (unX xs hold id).2.2 = E at *
   have hwr:IntKind.i64.wrap E = E:=by rcases hcode with h | h | h <;> (rw [h];decide)
   have heq:(E == E) = true:=by simp
   replace hcode:Hid _:=hcode
   have hcon:Hid _:=c_rgsame W5 hz hz3
   unfold AnsP at hcon
   go_wp2_with ((go_at_call 19;refine Calls.mono hcon.out ?_;rintro e W6 ⟨r,rfl,hr,n6⟩;refine stop_here ?_))
   unfold Hid
   clear hcon
   replace hx:=hx.nw n6
   replace hy:=hy.nw n6
   replace hz:=hz.nw n6
   replace hi:=hi.nw n6
   replace hz3:=hz3.nw n6
   replace hi3:=hi3.nw n6
   replace nW:=nw_trans nW n6
   obtain rfl:=hr.2 hzz.out
   clear hr hz3
   skip
   have hcon:Hid _:=c_rids W6 hi hi3
   unfold AnsP at hcon
   go_wp2_with ((go_at_call 25;refine Calls.mono hcon.out ?_;rintro e W7 ⟨r,rfl,hr,n7⟩;refine stop_here ?_))
   unfold Hid
   clear hcon
   replace hx:=hx.nw n7
   replace hy:=hy.nw n7
   replace hz:=hz.nw n7
   replace hi:=hi.nw n7
   replace hi3:=hi3.nw n7
   replace nW:=nw_trans nW n7
   obtain rfl:=hr.2 hii.out
   clear hr hi hi3
   have hcon:Hid _:=c_rgsame W7 hy hx
   unfold AnsP at hcon
   go_wp2_with ((go_at_call 19;refine Calls.mono hcon.out ?_;rintro e W8 ⟨r,rfl,hr,n8⟩;refine stop_here ?_))
   unfold Hid
   clear hcon
   replace hx:=hx.nw n8
   replace hy:=hy.nw n8
   replace hz:=hz.nw n8
   replace nW:=nw_trans nW n8
   obtain rfl:=hr.2 hyx.out
   clear hr hy hx
   have hcon:Hid _:=c_gsound W8 hz (right_cats (sound_right hSz.out)) (by have:=hz6.out;omega)
   unfold AnsP at hcon
   go_wp2_with ((go_at_call 10;refine Calls.mono hcon.out ?_;rintro e W9 ⟨r,rfl,hr,n9⟩;refine stop_here ?_))
   unfold Hid
   clear hcon
   replace hz:=hz.nw n9
   replace nW:=nw_trans nW n9
   obtain rfl:=hr.2 hSz.out
   clear hr hz
   go_wp2
   go_ret
   exact ⟨rfl,nW⟩

end Go.Proofs.Ytgmfofngmfekbaa
