/-
  The walk of GraphMends.
-/
import Derived.Test.YtgmfofngmfekbaaGrGrS
import Derived.Test.YtgmfofngmfekbaaGrGjS
import Derived.Test.YtgmfofngmfekbaaGrT20S
import Derived.Test.YtgmfofngmfekbaaGrU2S
namespace Go.Proofs.Ytgmfofngmfekbaa
set_option linter.unusedVariables false
set_option linter.unusedSimpArgs false
set_option maxRecDepth 20000
open Go.RowKit

set_option maxRecDepth 100000 in
set_option maxHeartbeats 12800000 in
theorem c_lmends {v:Value} {xs:List TC}  (w:World) (hx:TSl (fun b=>b < w.heap.size) (fun b=>b < w.heap.size) w v xs) (hin:∀ x ∈ xs,TIn x.t) :
  Calls Try.prog 5 #[v] w fun e w'=>e = .returned (.bool true)∧Nw w w':=by
 have nW:=nw_refl w
 obtain ⟨ao,cap,rfl,hc1,hc2⟩:=hx.form
 obtain ⟨N,hN⟩:∃ N,xs.length = N:=⟨_,rfl⟩
 have hNx:Hid (xs.length = N):=hN
 rw [hN] at hx hc1 ⊢
 clear hN
 replace hin:Hid _:=hin
 go_enter Try.func5,Try.ntmps5
 have hcon:Hid _:=c_galive w
 go_wp2_with ((go_at_call 8;refine Calls.mono hcon.out ?_;rintro e W1 ⟨rfl,n1⟩;refine stop_here ?_))
 unfold Hid
 clear hcon
 replace hx:=hx.nw n1
 replace nW:=nw_trans nW n1
 go_upto_region 3 with fail
 by_cases hl:60 < N
 ·have hb1:decide ((60:Int) < (N:Int)) = true:=decide_eq_true (by omega)
  have hb2:decide (60 < N) = true:=decide_eq_true hl
  clear hx
  go_wp2
  go_ret
  exact ⟨rfl,nW⟩
 ·have hb1:decide ((60:Int) < (N:Int)) = false:=decide_eq_false (by omega)
  have hb2:decide (60 < N) = false:=decide_eq_false hl
  have hN6:Hid (xs.length ≤ 60):=by have:=hNx.out;unfold Hid;omega
  have hcon:Hid _:=c_rmendable W1 hx (fun x hx=>(hin.out x hx).ok)
  unfold AnsP at hcon
  go_wp2_with ((go_at_call 16;refine Calls.mono hcon.out ?_;rintro e W2 ⟨r2,rfl,hr2,n2⟩;refine stop_here ?_))
  unfold Hid
  clear hcon
  replace hx:=hx.nw n2
  replace nW:=nw_trans nW n2
  cases r2 with
  | false =>
   clear hr2 hx
   go_wp2
   go_ret
   exact ⟨rfl,nW⟩
  | true =>
   have hM:Hid (MendX xs):=hr2.1 rfl
   clear hr2 hb1 hb2
   go_upto_region 5 with fail
   have hcon:Hid _:=c_rgcopy W2 hx (fun x hx=>(hin.out x hx).len) (by have:=hN6.out;omega)
   go_wp2_with ((go_at_call 9;refine Calls.mono hcon.out ?_;rintro e W3 ⟨u,ys,rfl,hy,hyx,n3⟩;refine stop_here ?_))
   unfold Hid
   clear hcon
   replace hx:=hx.nw n3
   replace nW:=nw_trans nW n3
   have hMy:Hid (MendX ys):=same_mendable hyx hM.out
   have hry:Hid (∀ z ∈ ys,RightT z.t):=fun z hz=>by obtain ⟨i,hi,rfl⟩:=List.getElem_of_mem hz;exact hMy.out.each i hi
   have hy6:Hid (ys.length ≤ 60):=by have:=hN6.out;have:=same_len hyx;unfold Hid;omega
   have hmy:Hid ((mendX ys).map (·.t) = (mendX xs).map (·.t)):=same_mend hyx
   replace hyx:Hid _:=hyx
   have hS0:Hid (SoundX (mendX xs)):=mend_sound hM.out
   have hl0:Hid ((mendX xs).length ≤ 60):=by
    have h1:=(out_sub (cutX xs) (marksX (cutX xs))).length_le
    have h2:(cutX xs).length = xs.length:=List.length_map ..
    have h3:(mendX xs).length = (keptX xs).length:=List.length_map ..
    have h4:(keptX xs).length = (outX (cutX xs) (marksX (cutX xs))).length:=rfl
    have:=hN6.out
    unfold Hid;omega
   have hcon:Hid _:=c_gmend W3 hy hMy.out (fun z hz=>right_tlen (hry.out z hz)) (by have:=hy6.out;omega)
   go_wp2_with ((go_at_call 26;refine Calls.mono hcon.out ?_;rintro e W4 ⟨u2,zs,rfl,hz,hzs,n4⟩;refine stop_here ?_))
   unfold Hid
   clear hcon
   replace hx:=hx.nw n4
   replace hy:=hy.nw n4
   replace nW:=nw_trans nW n4
   replace hx:=hx.mono (X':=fun _=>True) (Y':=fun _=>True) (fun _ _ _=>trivial) (fun _ _ _=>trivial)
   replace hy:=hy.mono (X':=fun _=>True) (Y':=fun _=>True) (fun _ _ _=>trivial) (fun _ _ _=>trivial)
   have hzy:=hzs
   replace hzs:=hzs.trans hmy.out
   have hSz:Hid (SoundX zs):=same_sound hzs hS0.out
   have hz6:Hid (zs.length ≤ 60):=by have:=hl0.out;have:=same_len hzs;unfold Hid;omega
   replace hzs:Hid _:=hzs
   replace hzy:Hid _:=hzy
   have hcon:Hid _:=c_rgmend W4 hx hM.out (by have:=hN6.out;omega)
   go_wp2_with ((go_at_call 27;refine Calls.mono hcon.out ?_;rintro e W5 ⟨u3,zs3,rfl,hz3,hzs3,n5⟩;refine stop_here ?_))
   unfold Hid
   clear hcon
   replace hx:=hx.nw n5
   replace hy:=hy.nw n5
   replace hz:=hz.nw n5
   replace nW:=nw_trans nW n5
   have hzz:Hid (zs.map (·.t) = zs3.map (·.t)):=hzs.out.trans hzs3.symm
   clear hzs3
   have hcon:Hid _:=c_rgsame W5 hz hz3
   unfold AnsP at hcon
   go_wp2_with ((go_at_call 19;refine Calls.mono hcon.out ?_;rintro e W6 ⟨r,rfl,hr,n6⟩;refine stop_here ?_))
   unfold Hid
   clear hcon
   replace hx:=hx.nw n6
   replace hy:=hy.nw n6
   replace hz:=hz.nw n6
   replace hz3:=hz3.nw n6
   replace nW:=nw_trans nW n6
   obtain rfl:=hr.2 hzz.out
   clear hr hz3
   have hcon:Hid _:=c_rgsame W6 hy hx
   unfold AnsP at hcon
   go_wp2_with ((go_at_call 19;refine Calls.mono hcon.out ?_;rintro e W7 ⟨r,rfl,hr,n7⟩;refine stop_here ?_))
   unfold Hid
   clear hcon
   replace hx:=hx.nw n7
   replace hy:=hy.nw n7
   replace hz:=hz.nw n7
   replace nW:=nw_trans nW n7
   obtain rfl:=hr.2 hyx.out
   clear hr hx
   have hcon:Hid _:=c_gsound W7 hz (right_cats (sound_right hSz.out)) (by have:=hz6.out;omega)
   unfold AnsP at hcon
   go_wp2_with ((go_at_call 10;refine Calls.mono hcon.out ?_;rintro e W8 ⟨r,rfl,hr,n8⟩;refine stop_here ?_))
   unfold Hid
   clear hcon
   replace hy:=hy.nw n8
   replace hz:=hz.nw n8
   replace nW:=nw_trans nW n8
   obtain rfl:=hr.2 hSz.out
   clear hr
   have hcon:Hid _:=c_gmend W8 hz (sound_mend hSz.out) (fun x hx=>right_tlen (sound_right hSz.out x hx)) (by have:=hz6.out;omega)
   go_wp2_with ((go_at_call 26;refine Calls.mono hcon.out ?_;rintro e W9 ⟨u4,zs4,rfl,hz4,hzs4,n9⟩;refine stop_here ?_))
   unfold Hid
   clear hcon
   replace hy:=hy.nw n9
   replace hz:=hz.nw n9
   replace nW:=nw_trans nW n9
   rw [mend_same hSz.out] at hzs4
   replace hzs4:Hid _:=hzs4
   have hcon:Hid _:=c_gsame W9 hz4 hz
   unfold AnsP at hcon
   go_wp2_with ((go_at_call 22;refine Calls.mono hcon.out ?_;rintro e W10 ⟨r,rfl,hr,n10⟩;refine stop_here ?_))
   unfold Hid
   clear hcon
   replace hy:=hy.nw n10
   replace hz:=hz.nw n10
   replace hz4:=hz4.nw n10
   replace nW:=nw_trans nW n10
   obtain rfl:=hr.2 hzs4.out
   clear hr hz4
   have hcon:Hid _:=c_gsound W10 hy (right_cats hry.out) (by have:=hy6.out;omega)
   unfold AnsP at hcon
   go_wp2_with ((go_at_call 10;refine Calls.mono hcon.out ?_;rintro e W11 ⟨r9,rfl,hr9,n11⟩;refine stop_here ?_))
   unfold Hid
   clear hcon
   replace hy:=hy.nw n11
   replace hz:=hz.nw n11
   replace nW:=nw_trans nW n11
   cases r9 with
   | false =>
    clear hr9 hy hz
    go_wp2
    go_ret
    exact ⟨rfl,nW⟩
   | true =>
    have hzy2:Hid (zs.map (·.t) = ys.map (·.t)):=by unfold Hid;rw [hzy.out,mend_same (hr9.1 rfl)]
    clear hr9
    have hcon:Hid _:=c_gsame W11 hz hy
    unfold AnsP at hcon
    go_wp2_with ((go_at_call 22;refine Calls.mono hcon.out ?_;rintro e W12 ⟨r,rfl,hr,n12⟩;refine stop_here ?_))
    unfold Hid
    clear hcon
    replace hy:=hy.nw n12
    replace hz:=hz.nw n12
    replace nW:=nw_trans nW n12
    obtain rfl:=hr.2 hzy2.out
    clear hr hy hz
    go_wp2
    go_ret
    exact ⟨rfl,nW⟩

end Go.Proofs.Ytgmfofngmfekbaa
