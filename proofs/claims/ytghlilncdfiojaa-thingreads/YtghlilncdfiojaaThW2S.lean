/-
  Lists held against each other: slices.Equal of categories and of links, bytes.Equal.
-/
import Derived.Laws.StructEq
import Derived.Test.YtghlilncdfiojaaThMS
import Derived.Test.YtghlilncdfiojaaLabS
namespace Go.Proofs.Ytghlilncdfiojaa
set_option linter.unusedVariables false
set_option linter.unusedSimpArgs false
set_option maxRecDepth 20000
open Go.RowKit

theorem run_neq_cs (x y:Cat) (w:World):(binOp .neq 52 (.agg #[.int .u64 x.1,.int .i64 x.2]) (.agg #[.int .u64 y.1,.int .i64 y.2])).run Try.prog w = .ok (.bool (!(x.1 == y.1 && x.2 == y.2))) w:=by
 simp [go_sem]
 by_cases h1:x.1 = y.1 <;> by_cases h2:x.2 = y.2 <;> simp [h1,h2]

set_option maxHeartbeats 1600000 in
theorem c_eqcs {X Y:Nat→Prop} {va vb:Value} {xa xb:List Cat} (w:World) (ha:CSl X w va xa) (hb:CSl Y w vb xb) :
  Calls Try.prog 36 #[va,vb] w (AnsP (xa = xb) w):=by
 obtain ⟨aa,ac,rfl,ha1,ha2⟩:=ha.form
 obtain ⟨ba,bc,rfl,hb1,hb2⟩:=hb.form
 go_enter Try.func36,Try.ntmps36
 by_cases hl:xa.length = xb.length
 ·have hlb:(((xa.length:Nat):Int) != ((xb.length:Nat):Int)) = false:=by simp [hl]
  have hl':xb.length ≤ xa.length:=by omega
  have hl'':xa.length ≤ xb.length:=by omega
  replace hl:Hid (xa.length = xb.length):=hl
  go_wp2
  clear hlb
  go_loopw [13] (fun kv wr=>∃ k:Nat,k ≤ xa.length∧kv = .int .i64 k∧Hid (xa.take k = xb.take k)∧Nw w wr) (fun kv _=>xa.length - (intOf kv).toNat)
  case atStart=>exact ⟨0,Nat.zero_le _,rfl,rfl,nw_refl _⟩
  case round =>
   obtain ⟨k,hk,rfl,ht,hw⟩:=hrel
   by_cases hlt:k < xa.length
   ·obtain ⟨q,off,rfl,_,d1,d2⟩:=(ha.nw hw).get k hlt
    obtain ⟨q',off',rfl,_,d3,d4⟩:=(hb.nw hw).get k (by omega)
    have hltb:k < xb.length:=by omega
    have hstep:Hid (xa[k] = xb[k]→xa.take (k + 1) = xb.take (k + 1)):=fun he=>take_eq_succ ht.out hlt hltb he
    have hbad:Hid (xa[k] ≠ xb[k]→xa ≠ xb):=fun he hx=>he (by subst hx;rfl)
    generalize xa[k] = x at *
    generalize xb[k] = y at *
    have hne:=run_neq_cs x y
    have D1:∀ z,(wr.drewN z).cell? ⟨q,off + k * 2,none⟩ = some (.int .u64 x.1):=fun z=>d1
    have D2:∀ z,(wr.drewN z).cell? ⟨q,off + k * 2 + 1,none⟩ = some (.int .i64 x.2):=fun z=>d2
    have D3:∀ z,(wr.drewN z).cell? ⟨q',off' + k * 2,none⟩ = some (.int .u64 y.1):=fun z=>d3
    have D4:∀ z,(wr.drewN z).cell? ⟨q',off' + k * 2 + 1,none⟩ = some (.int .i64 y.2):=fun z=>d4
    clear d1 d2 d3 d4
    by_cases hxy:x = y
    ·have hb2:(!(x.1 == y.1 && x.2 == y.2)) = false:=by simp [hxy]
     rw [hb2] at hne
     have ht':Hid (xa.take (k + 1) = xb.take (k + 1)):=hstep.out hxy
     clear hxy hstep hbad hb2
     go_wp2
     go_quiet (fail)
     go_wp2
     go_roundw
     case rel=>exact ⟨k + 1,by omega,by go_num,ht',nw_trans hw (nw_drewN wr _)⟩
     case measure=>simp [intOf];omega
    ·have hb2:(!(x.1 == y.1 && x.2 == y.2)) = true:=by
      by_cases h1:x.1 = y.1
      ·have h2:¬ x.2 = y.2:=fun h2=>hxy (Prod.ext h1 h2)
       simp [h1,h2]
      ·simp [h1]
     rw [hb2] at hne
     have hbad':Hid (xa ≠ xb):=hbad.out hxy
     clear hxy hstep hbad hb2
     go_wp2
     go_quiet (fail)
     go_wp2
     go_ret
     exact ans_no hbad'.out (nw_trans hw (nw_drewN wr _))
   ·have hfin:Hid (xa = xb):=by
     have h1:=ht.out
     have h2:=hl.out
     rw [List.take_of_length_le (by omega),List.take_of_length_le (by omega)] at h1
     exact h1
    clear ht
    go_wp2
    go_ret
    exact ans_yes hfin.out hw
 ·have hlb:(((xa.length:Nat):Int) != ((xb.length:Nat):Int)) = true:=by simp;omega
  have hno:Hid (xa ≠ xb):=fun h=>hl (by rw [h])
  clear hl
  go_wp2
  go_ret
  exact ans_no hno.out (nw_refl w)

theorem run_neq_ls (x y:Cat) (w:World):(binOp .neq 50 (.agg #[.int .u64 x.1,.int .i64 x.2]) (.agg #[.int .u64 y.1,.int .i64 y.2])).run Try.prog w = .ok (.bool (!(x.1 == y.1 && x.2 == y.2))) w:=by
 simp [go_sem]
 by_cases h1:x.1 = y.1 <;> by_cases h2:x.2 = y.2 <;> simp [h1,h2]

set_option maxHeartbeats 1600000 in
theorem c_eqls {X Y:Nat→Prop} {va vb:Value} {xa xb:List Cat} (w:World) (ha:CSl X w va xa) (hb:CSl Y w vb xb) :
  Calls Try.prog 37 #[va,vb] w (AnsP (xa = xb) w):=by
 obtain ⟨aa,ac,rfl,ha1,ha2⟩:=ha.form
 obtain ⟨ba,bc,rfl,hb1,hb2⟩:=hb.form
 go_enter Try.func37,Try.ntmps37
 by_cases hl:xa.length = xb.length
 ·have hlb:(((xa.length:Nat):Int) != ((xb.length:Nat):Int)) = false:=by simp [hl]
  have hl':xb.length ≤ xa.length:=by omega
  have hl'':xa.length ≤ xb.length:=by omega
  replace hl:Hid (xa.length = xb.length):=hl
  go_wp2
  clear hlb
  go_loopw [13] (fun kv wr=>∃ k:Nat,k ≤ xa.length∧kv = .int .i64 k∧Hid (xa.take k = xb.take k)∧Nw w wr) (fun kv _=>xa.length - (intOf kv).toNat)
  case atStart=>exact ⟨0,Nat.zero_le _,rfl,rfl,nw_refl _⟩
  case round =>
   obtain ⟨k,hk,rfl,ht,hw⟩:=hrel
   by_cases hlt:k < xa.length
   ·obtain ⟨q,off,rfl,_,d1,d2⟩:=(ha.nw hw).get k hlt
    obtain ⟨q',off',rfl,_,d3,d4⟩:=(hb.nw hw).get k (by omega)
    have hltb:k < xb.length:=by omega
    have hstep:Hid (xa[k] = xb[k]→xa.take (k + 1) = xb.take (k + 1)):=fun he=>take_eq_succ ht.out hlt hltb he
    have hbad:Hid (xa[k] ≠ xb[k]→xa ≠ xb):=fun he hx=>he (by subst hx;rfl)
    generalize xa[k] = x at *
    generalize xb[k] = y at *
    have hne:=run_neq_ls x y
    have D1:∀ z,(wr.drewN z).cell? ⟨q,off + k * 2,none⟩ = some (.int .u64 x.1):=fun z=>d1
    have D2:∀ z,(wr.drewN z).cell? ⟨q,off + k * 2 + 1,none⟩ = some (.int .i64 x.2):=fun z=>d2
    have D3:∀ z,(wr.drewN z).cell? ⟨q',off' + k * 2,none⟩ = some (.int .u64 y.1):=fun z=>d3
    have D4:∀ z,(wr.drewN z).cell? ⟨q',off' + k * 2 + 1,none⟩ = some (.int .i64 y.2):=fun z=>d4
    clear d1 d2 d3 d4
    by_cases hxy:x = y
    ·have hb2:(!(x.1 == y.1 && x.2 == y.2)) = false:=by simp [hxy]
     rw [hb2] at hne
     have ht':Hid (xa.take (k + 1) = xb.take (k + 1)):=hstep.out hxy
     clear hxy hstep hbad hb2
     go_wp2
     go_quiet (fail)
     go_wp2
     go_roundw
     case rel=>exact ⟨k + 1,by omega,by go_num,ht',nw_trans hw (nw_drewN wr _)⟩
     case measure=>simp [intOf];omega
    ·have hb2:(!(x.1 == y.1 && x.2 == y.2)) = true:=by
      by_cases h1:x.1 = y.1
      ·have h2:¬ x.2 = y.2:=fun h2=>hxy (Prod.ext h1 h2)
       simp [h1,h2]
      ·simp [h1]
     rw [hb2] at hne
     have hbad':Hid (xa ≠ xb):=hbad.out hxy
     clear hxy hstep hbad hb2
     go_wp2
     go_quiet (fail)
     go_wp2
     go_ret
     exact ans_no hbad'.out (nw_trans hw (nw_drewN wr _))
   ·have hfin:Hid (xa = xb):=by
     have h1:=ht.out
     have h2:=hl.out
     rw [List.take_of_length_le (by omega),List.take_of_length_le (by omega)] at h1
     exact h1
    clear ht
    go_wp2
    go_ret
    exact ans_yes hfin.out hw
 ·have hlb:(((xa.length:Nat):Int) != ((xb.length:Nat):Int)) = true:=by simp;omega
  have hno:Hid (xa ≠ xb):=fun h=>hl (by rw [h])
  clear hl
  go_wp2
  go_ret
  exact ans_no hno.out (nw_refl w)

set_option maxHeartbeats 1600000 in
theorem c_eqbs {X Y:Nat→Prop} {va vb:Value} {xa xb:List UInt8} (w:World) (ha:BSl X w va xa) (hb:BSl Y w vb xb) :
  Calls Try.prog 38 #[va,vb] w (AnsP (xa = xb) w):=by
 have r1:=run_string_sl (P:=Try.prog) 28 5 9 Try.underlying28 Try.underlying5 Try.underlying9 ha.sl
 have r2:=run_string_sl (P:=Try.prog) 28 5 9 Try.underlying28 Try.underlying5 Try.underlying9 hb.sl
 obtain ⟨aa,ac,rfl,ha1,ha2⟩:=ha.form
 obtain ⟨ba,bc,rfl,hb1,hb2⟩:=hb.form
 go_enter Try.func38,Try.ntmps38
 go_wp2
 go_ret
 refine ⟨_,rfl,?_,nw_refl w⟩
 simp [ByteArray.toList_mk]
end Go.Proofs.Ytghlilncdfiojaa
