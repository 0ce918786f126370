/-
  GrT18, GrQ2: in one text.
-/
import Derived.Test.YtgmfofngmfekbaaGrGpS
import Derived.Test.YtgmfofngmfekbaaLibS
import Derived.Test.YtgmfofngmfekbaaGrGiS
import Derived.Test.YtgmfofngmfekbaaThGdS
namespace Go.Proofs.Ytgmfofngmfekbaa
set_option linter.unusedVariables false
set_option linter.unusedSimpArgs false
set_option maxRecDepth 20000
open Go.RowKit

theorem results_tmp3 {P:Program} {W:World} {fn:Func} {p u t:Tmp} (h:fn.results = #[.tmp p,.tmp u,.tmp t]) (tmps:Array Value) :
  (results fn tmps).run P W = .ok (.tuple #[tmps.getD p undef,tmps.getD u undef,tmps.getD t undef]) W:=by
 simp [results,h]

/-- What Unlink answers, in memory of its own. -/
def GUnP (xs:List TC) (hold id:Int) (w:World) (e:Ending) (w':World):Prop :=
 ∃ u gv zs ids,e = .returned (.tuple #[u,gv,.int .i64 (unX xs hold id).2.2])∧TSl (fun b=>w.heap.size ≤ b) (fun b=>w.heap.size ≤ b) w' u zs∧USl (fun b=>w.heap.size ≤ b) w' gv ids∧zs.map (·.t) = (unX xs hold id).1.map (·.t)∧ids = (unX xs hold id).2.1∧Nw w w'

theorem usl_nil (X:Nat→Prop) (w:World):USl X w (.slice none 0 0) []:=⟨none,0,rfl,⟨Nat.le_refl _,Nat.zero_le _⟩,fun _=>rfl,fun i c h=>by simp at h⟩
theorem un_131 {xs ys:List TC} (hp:PwX xs) (hyt:ys.map (·.t) = xs.map (·.t)) {hold id:Int} (h:¬ (foundX ys hold = true∧∃ h:posX ys hold < ys.length,(ys[posX ys hold]'h).t.kind = 1)):unX xs hold id = (xs,[],131):=by
 unfold unX
 cases hf:findX xs hold with
 | none=>rfl
 | some d =>
  by_cases hk:d.t.kind = 1
  ·exfalso
   apply h
   have h1:foundX xs hold = true:=by unfold foundX;rw [hf];rfl
   rw [same_found hyt,same_pos hyt]
   refine ⟨h1,?_⟩
   obtain ⟨hl,e⟩:=find_pos hp hf
   have hl2:posX xs hold < ys.length:=by rw [same_len hyt];exact hl
   refine ⟨hl2,?_⟩
   rw [same_at hyt hl2 hl,e]
   exact hk
  ·simp only [if_neg hk]
theorem un_found {xs ys:List TC} (hp:PwX xs) (hyt:ys.map (·.t) = xs.map (·.t)) {hold:Int} (h:foundX ys hold = true) (hl:posX ys hold < ys.length):∃ d,findX xs hold = some d∧d.t = (ys[posX ys hold]).t:=by
 rw [same_found hyt] at h
 obtain ⟨hl2,h2,_⟩:=find_at hp h
 refine ⟨_,h2,?_⟩
 have e:=same_pos hyt hold
 have:=same_at hyt hl (by rw [e];exact hl2)
 simp only [e] at this ⊢
 exact this.symm

set_option maxRecDepth 100000 in
set_option maxHeartbeats 6400000 in
theorem c_gunlink {X Y:Nat→Prop} {v:Value} {xs:List TC} (hold id:Int) (w:World) (h:TSl X Y w v xs) (hS:SoundX xs) (hok:∀ x ∈ xs,TLen x.t) (hn:xs.length ≤ 100000) :
  Calls Try.prog 23 #[v,.int .u64 hold,.int .u64 id] w (GUnP xs hold id w):=by
 obtain ⟨g,hg⟩:∃ g,Hid (g = w.heap.size):=⟨_,rfl⟩
 have hc:Hid _:=c_gcopies9 w hg h hok (by omega)
 have hpx:Hid (PwX xs):=rise_pw hS.rise
 have hright:Hid (∀ x ∈ xs,RightT x.t):=fun x hx=>by obtain ⟨i,hi,rfl⟩:=List.getElem_of_mem hx;exact (hS.each i hi).right
 replace hS:Hid _:=hS
 obtain ⟨ao,cap,rfl,hc1,hc2⟩:=h.form
 clear h hok
 go_enter Try.func23,Try.ntmps23
 go_wp2_with (go_at_call 44;refine Calls.mono hc.out ?_;rintro e w1 ⟨ys,rfl,hR,hL,hyt,n1⟩;refine stop_here ?_)
 unfold Hid
 clear hc
 have hyl:Hid (ys.length = xs.length):=same_len hyt
 have hpy:Hid (PwX ys):=same_pw hyt hpx.out
 have hry:Hid (∀ y ∈ ys,RightT y.t):=same_mem hyt hright.out
 replace hyt:Hid _:=hyt
 have hat:=lay_at hL
 have hgl:=heap_lt hR
 clear hL
 have hcd:Hid _:=c_gdrop hold id w1 hR hat hpy.out hry.out (by have:=hyl.out;omega)
 rw [hyl.out] at hcd
 unfold DropP at hcd
 go_wp2_with (go_at_call 48;refine Calls.mono hcd.out ?_;rintro e w2 hdr;rcases hdr with ⟨hf,hlt,hk,u1,u2,u3,u4,rfl,hR2,hat2,f2⟩ | ⟨hno,rfl,n2⟩ <;> refine stop_here ?_)
 all_goals unfold Hid
 all_goals clear hcd
 ·obtain ⟨d,hfd,hde⟩:=un_found hpx.out hyt.out hf hlt
  have nW2:Hid (Nw w w2):=Fr.trans n1 f2 (fun b hb=>.inr (by have hb2:b = g:=hb;have:=hg.out;omega))
  have haty:∀ y ∈ ys,y.At (fun b=>w.heap.size ≤ b∧¬ b = g) w2:=fun y hy=>TC.At.keep (hat y hy) f2 (fun b hb _ e=>by have e2:b = g:=e;have:=hb.1;omega) (fun b hb _=>⟨by have:=hb.1;have:=hg.out;omega,by have:=hb.1;omega⟩)
  have hn1:=Fr.size n1
  have hatT:TC.At (fun b=>w.heap.size ≤ b∧¬ b = g) w2 ⟨(dropT (ys[posX ys hold]).t id).1,u1,u2,u3,u4⟩:=hat2.mono (fun b hb _=>by have hb2:w1.heap.size ≤ b:=hb;exact ⟨by omega,by omega⟩)
  have hall:=all_set (P:=fun z=>z.At (fun b=>w.heap.size ≤ b∧¬ b = g) w2) (p:=posX ys hold) haty hatT
  clear haty hatT hat hat2 f2
  rw [← hde] at hk hR2 hall ⊢
  have hkd:Hid (d.t.kind = 1):=hk
  cases hh:hasB d.t.links id with
  | true =>
   have hdp:dropT d.t id = ({ d.t with links:=rmL d.t.links id },0):=by unfold dropT;rw [if_pos hh]
   rw [hdp] at hR2 hall ⊢
   clear hdp
   obtain ⟨T,hT⟩:∃ T:TC,T = ⟨{ d.t with links:=rmL d.t.links id },u1,u2,u3,u4⟩:=⟨_,rfl⟩
   have hTt:T.t = { d.t with links:=rmL d.t.links id }:=by rw [hT]
   have hR3:RowB w2 g (ys.set (posX ys hold) T):=by rw [hT];exact hR2
   have hall3:∀ z ∈ ys.set (posX ys hold) T,z.At (fun b=>w.heap.size ≤ b∧¬ b = g) w2:=by rw [hT];exact hall
   clear hR2 hall hT
   have hid:T.t.id = hold:=by rw [hTt];exact find_id hfd
   have hput:(ys.set (posX ys hold) T).map (·.t) = (putX xs T).map (·.t):=by
    have h1:=put_pos hpy.out T
    rw [hid,if_pos hf] at h1
    rw [← h1]
    exact same_put hyt.out hpx.out rfl
   obtain ⟨m1,m2,m3⟩:=un_marks hS.out hfd hkd.out hh hTt hput
   have hpg:Hid (PwX (ys.set (posX ys hold) T)):=same_pw hput (put_pw hpx.out T)
   have hrT:RightT T.t:=by rw [hTt];exact right_rm (hright.out d (find_mem hfd).1) hkd.out hh
   have hrg:Hid (∀ z ∈ ys.set (posX ys hold) T,RightT z.t):=all_set (P:=fun z=>RightT z.t) hry.out hrT
   generalize hG:ys.set (posX ys hold) T = G at *
   have hGl:Hid (G.length = xs.length):=by unfold Hid;rw [← hG,List.length_set];exact hyl.out
   have hG0:0 < G.length:=by rw [hGl.out];exact hS.out.ne
   have hG1:G[0].t.id = 1:=by
    have hun:=un_put hpx.out (find_mem hfd).1 (t:=T) (by rw [hTt])
    have e1:=same_at hput hG0 (by rw [hun,List.length_map];exact hS.out.ne)
    rw [e1]
    have e2:(putX xs T)[0]'(by rw [hun,List.length_map];exact hS.out.ne) = (xs.map (unF d.t T))[0]'(by rw [List.length_map];exact hS.out.ne):=by congr 1
    rw [e2,List.getElem_map,(un_less hTt).keep.id]
    exact hS.out.id
   have hsl:=row_tsl hR3 (by rw [hGl.out];omega) hall3
   have hcp:Hid _:=c_gparted w2 hsl hpg.out hG0 hG1 (fun z hz=>right_len (hrg.out z hz)) (by rw [hGl.out];exact hn)
   rw [hGl.out] at hcp
   clear hput hpg hrT hrg hG hG1 hG0 hsl hall3 hR3 hid hTt hf hlt hh hde
   replace m1:Hid _:=m1
   replace m2:Hid _:=m2
   replace m3:Hid _:=m3
   replace hfd:Hid _:=hfd
   have hn2:=Fr.size nW2.out
   go_wp2_with (go_at_call 49;refine Calls.mono hcp.out ?_;rintro e w3 ⟨u,gv,rfl,hrow,hids,n3⟩;refine stop_here ?_)
   unfold Hid
   clear hcp
   have hfin:Hid (TSl (fun b=>w.heap.size ≤ b) (fun b=>w.heap.size ≤ b) w3 u (outX G (marksX G))∧USl (fun b=>w.heap.size ≤ b) w3 gv (offX G (marksX G))∧Nw w w3) :=
    ⟨hrow.sl.mono (fun b hb _=>by have:=(hrow.own.lt b hb).1;omega) (fun b hb _=>hb.1.1.1),usl_owns (owns_mono hids (by omega)),nw_trans nW2.out n3⟩
   obtain ⟨pa,pc,e1⟩:=hrow.form
   subst e1
   obtain ⟨qa,qc,e2⟩:=owns_form hids
   subst e2
   clear hrow hids n3
   go_wp2
   refine bodyPost_ret (results_tmp3 rfl _) rfl ?_
   exact ⟨_,_,_,_,by rw [m3.out];rfl,hfin.out.1,hfin.out.2.1,m1.out,m2.out,hfin.out.2.2⟩
  | false =>
   have hdp:dropT d.t id = (d.t,124):=by unfold dropT;rw [if_neg (by rw [hh];exact Bool.noConfusion)]
   rw [hdp] at hR2 hall ⊢
   have hq:Hid (unX xs hold id = (xs,[],124)):=by
    unfold Hid unX
    simp only [hfd,if_pos hkd.out,if_neg (show ¬ hasB d.t.links id = true by rw [hh];exact Bool.noConfusion)]
   have hm:Hid ((ys.set (posX ys hold) ⟨d.t,u1,u2,u3,u4⟩).map (·.t) = xs.map (·.t)):=by
    unfold Hid
    rw [List.map_set]
    show (ys.map (·.t)).set (posX ys hold) d.t = _
    rw [hde,← List.getElem_map (fun x:TC=>x.t) (h:=by rw [List.length_map];exact hlt),List.set_getElem_self]
    exact hyt.out
   have hsl:Hid (TSl (fun b=>w.heap.size ≤ b) (fun b=>w.heap.size ≤ b) w2 (rowV g xs.length) (ys.set (posX ys hold) ⟨d.t,u1,u2,u3,u4⟩)):=by
    have h1:=row_tsl hR2 (by rw [List.length_set,hyl.out];omega) hall
    rw [List.length_set,hyl.out] at h1
    exact h1.mono (fun b hb _=>by have hb2:b = g:=hb;have:=hg.out;omega) (fun b hb _=>hb.1)
   clear hdp hR2 hall hf hlt hh hde hfd
   go_wp2
   refine bodyPost_ret (results_tmp3 rfl _) rfl ?_
   exact ⟨_,_,_,[],by rw [hq.out];rfl,hsl.out,usl_nil _ _,by rw [hq.out];exact hm.out,by rw [hq.out],nW2.out⟩
 ·have hq:Hid (unX xs hold id = (xs,[],131)):=un_131 hpx.out hyt.out hno
  have nW2:Hid (Nw w w2):=nw_trans n1 n2
  have hsl:Hid (TSl (fun b=>w.heap.size ≤ b) (fun b=>w.heap.size ≤ b) w2 (rowV g xs.length) ys):=by
   have h1:=row_tsl (hR.nw n2) (by rw [hyl.out];omega) (fun y hy=>TC.At.nw (hat y hy) n2)
   rw [hyl.out] at h1
   exact h1.mono (fun b hb _=>by have hb2:b = g:=hb;have:=hg.out;omega) (fun b hb _=>by have:=hb.1;have:=hg.out;omega)
  clear hno hat hR n2
  go_wp2
  refine bodyPost_ret (results_tmp3 rfl _) rfl ?_
  exact ⟨_,_,_,[],by rw [hq.out];rfl,hsl.out,usl_nil _ _,by rw [hq.out];exact hyt.out,by rw [hq.out],nW2.out⟩
end Go.Proofs.Ytgmfofngmfekbaa

namespace Go.Proofs.Ytgmfofngmfekbaa
set_option linter.unusedVariables false
set_option linter.unusedSimpArgs false
set_option maxRecDepth 20000
open Go.RowKit

theorem splice_len (C:List Value) (off:Nat) (cs:List Value) (h:off + cs.length ≤ C.length):(splice C off cs).length = C.length:=by
 unfold splice
 rw [List.length_append,List.length_append,List.length_take,List.length_drop]
 omega
theorem splice3 (a b c C:List Value) (n:Nat) (ha:a.length = n) (hb:b.length = n) (hc:c.length = n) (hC:C.length = 3 * n):splice (splice (splice C 0 a) n b) (2 * n) c = a ++ b ++ c:=by
 have e1:splice C 0 a = a ++ C.drop n:=by unfold splice;rw [List.take_zero,List.nil_append,Nat.zero_add,ha]
 have e2:splice (a ++ C.drop n) n b = (a ++ b) ++ C.drop (n + n):=by
  have h1:(a ++ C.drop n).drop (n + n) = C.drop (n + n):=by
   rw [List.drop_append,ha,List.drop_of_length_le (by omega),List.nil_append,List.drop_drop]
   congr 1
   omega
  unfold splice
  rw [List.take_left' ha,hb,h1,List.append_assoc]
 have hab:(a ++ b).length = 2 * n:=by rw [List.length_append];omega
 have h2:((a ++ b) ++ C.drop (n + n)).drop (2 * n + n) = []:=List.drop_of_length_le (by rw [List.length_append,List.length_drop];omega)
 rw [e1,e2]
 conv=>lhs;unfold splice
 rw [List.take_left' hab,hc,h2,List.append_nil]

section
variable {P:Program} {ops:Array Oper} {Q:Exit→Act→World→Prop} {o:Oper} {rest:List Oper} {a:Act} {w:World}
theorem wpList_buildSlice3 (hw:Region.wanted o (yielded ops a.tmps) = true) (t e:TypeId) (x y z:Operand) (ho:o.op = .buildSlice t 3 #[(0,x),(1,y),(2,z)]) (c1 c2 c3:List Value) (h1:a.eval x = .agg c1.toArray) (h2:a.eval y = .agg c2.toArray) (h3:a.eval z = .agg c3.toArray)
  (l2:c2.length = c1.length) (l3:c3.length = c1.length) (hu:P.underlying t = some (.slice e)) (hsz:(P.info? e).map (·.size) = some c1.length) (hz:((P.info? e).bind (·.zero)).isSome = true) (hpos:0 < c1.length) (hsm:3 * c1.length ≤ 1000000)
  (h:wpList P ops Q rest (a.put o.dst (.slice (some ⟨w.heap.size,0,none⟩) 3 3)) (w.alloc (.cells (c1 ++ c2 ++ c3).toArray e))):wpList P ops Q (o :: rest) a w:=by
 refine wpList_do hw ?_
 cases hie:P.info? e with
 | none=>simp [hie] at hsz
 | some ie =>
  simp only [hie,Option.map_some,Option.some.injEq,Option.bind_some] at hsz hz
  obtain ⟨zz,hzz⟩:=Option.isSome_iff_exists.1 hz
  refine wp_buildSlice t e 3 _ ho (c1 ++ c2 ++ c3).toArray ie zz hu hie hzz (by rw [hsz];omega) (by rw [hsz];omega) ?_ h
  rw [hsz]
  simp only [List.map_toArray,List.map_cons,List.map_nil,h1,h2,h3]
  generalize hC:(Array.map (fun x=>zz.cells[x % zz.cells.size]!) (Array.range (3 * c1.length))) = C
  have hCl:C.toList.length = 3 * c1.length:=by rw [← hC];simp
  have f1:=fill_cons (fun i=>some (i * c1.length,c1.length)) C.toList 0 (.agg c1.toArray) c1 0 [(1,.agg c2.toArray),(2,.agg c3.toArray)] (by simp) rfl (by omega)
  have g1:(splice C.toList 0 c1).length = 3 * c1.length:=by rw [splice_len _ _ _ (by omega)];exact hCl
  have f2:=fill_cons (fun i=>some (i * c1.length,c1.length)) (splice C.toList 0 c1) 1 (.agg c2.toArray) c2 c1.length [(2,.agg c3.toArray)] (by simp [l2]) rfl (by omega)
  have g2:(splice (splice C.toList 0 c1) c1.length c2).length = 3 * c1.length:=by rw [splice_len _ _ _ (by omega)];exact g1
  have f3:=fill_cons (fun i=>some (i * c1.length,c1.length)) (splice (splice C.toList 0 c1) c1.length c2) 2 (.agg c3.toArray) c3 (2 * c1.length) [] (by simp [l3]) rfl (by omega)
  simp only [Array.toArray_toList] at f1
  rw [f1,f2,f3,splice3 c1 c2 c3 C.toList c1.length rfl l2 l3 hCl]
  rfl
end

/-- What is made for the example, in whatever order. -/
def FN (N:Nat):Nat→Value→World→Prop
 | 2=>fun v w=>CSl (fun b=>N ≤ b) w v [(65,4)]
 | 3=>fun v w=>∃ u,v = thV nT0 (.slice none 0 0) (.slice none 0 0) u (.slice none 0 0)∧CSl (fun b=>N ≤ b) w u [(65,4)]
 | 6=>fun v w=>CSl (fun b=>N ≤ b) w v [(4161,2)]
 | 7=>fun v w=>∃ u,v = thV nT1 (.slice none 0 0) (.slice none 0 0) u (.slice none 0 0)∧CSl (fun b=>N ≤ b) w u [(4161,2)]
 | 9=>fun v w=>BSl (fun b=>N ≤ b) w v (List.replicate 32 0)
 | 10=>fun v w=>∃ u,v = thV nT2 (.slice none 0 0) (.slice none 0 0) (.slice none 0 0) u∧BSl (fun b=>N ≤ b) w u (List.replicate 32 0)
 | _=>fun _ _=>True

theorem built_n0 (v:Value) (a:Option Addr) (n c:Nat) (hv:v = .slice a n c):Try.prog.built 34 [(0,.int .u64 1),(1,.int .i64 1),(2,.agg #[.int .i64 2,.slice none 0 0]),(4,.int .i64 9),(5,.int .i64 1),(6,v)] = some (thC nT0 (.slice none 0 0) (.slice none 0 0) v (.slice none 0 0)).toArray:=by
 subst hv
 kernel_rfl
theorem built_n1 (v:Value) (a:Option Addr) (n c:Nat) (hv:v = .slice a n c):Try.prog.built 34 [(0,.int .u64 65),(1,.int .i64 1),(2,.agg #[.int .i64 2,.slice none 0 0]),(4,.int .i64 4),(5,.int .i64 1),(6,v)] = some (thC nT1 (.slice none 0 0) (.slice none 0 0) v (.slice none 0 0)).toArray:=by
 subst hv
 kernel_rfl
theorem built_n2 (v:Value) (a:Option Addr) (n c:Nat) (hv:v = .slice a n c):Try.prog.built 34 [(0,.int .u64 4161),(1,.int .i64 4),(2,.agg #[.int .i64 2,.slice none 0 0]),(4,.int .i64 2),(7,v)] = some (thC nT2 (.slice none 0 0) (.slice none 0 0) (.slice none 0 0) v).toArray:=by
 subst hv
 kernel_rfl
theorem csl_new1 (N:Nat) (w:World) (h:N ≤ w.heap.size) (x:Cat):CSl (fun b=>N ≤ b) (w.alloc (.cells #[.int .u64 x.1,.int .i64 x.2] 54)) (.slice (some ⟨w.heap.size,0,none⟩) 1 1) [x] :=
 ⟨some ⟨w.heap.size,0,none⟩,1,rfl,⟨Nat.le_refl _,by unfold maxLen;decide⟩,(fun e=>by cases e),fun i c hi=>⟨w.heap.size,0,rfl,h,by
  rw [Nat.zero_add]
  have h2:(#[.int .u64 x.1,.int .i64 x.2]:Array Value)[i]? = some c:=by
   have h3:=hi
   rw [← List.getElem?_toArray] at h3
   exact h3
  exact cell_blk (heap_alloc_new w _) h2⟩⟩
theorem made_byte (n:Nat):madeCells (Value.int .u8 0).cells (n * 1) = ((List.replicate n (0:UInt8)).map bv).toArray:=by
 apply Array.toList_inj.1
 refine List.ext_getElem (by simp [madeCells]) (fun i h1 h2=>?_)
 simp [madeCells,Value.cells,Nat.mod_one,bv]
theorem bsl_new (N:Nat) (w:World) (h:N ≤ w.heap.size):BSl (fun b=>N ≤ b) (w.alloc (.cells ((List.replicate 32 (0:UInt8)).map bv).toArray 5)) (.slice (some ⟨w.heap.size,0,none⟩) 32 32) (List.replicate 32 0) :=
 ⟨some ⟨w.heap.size,0,none⟩,32,rfl,⟨Nat.le_refl _,by unfold maxLen;decide⟩,(fun e=>by cases e),fun i c hi=>⟨w.heap.size,0,rfl,h,by
  rw [Nat.zero_add]
  exact cell_blk (heap_alloc_new w _) (by rw [List.getElem?_toArray];exact hi)⟩⟩

set_option maxRecDepth 100000 in
set_option maxHeartbeats 6400000 in
theorem c_nest (w:World):Calls Try.prog 28 #[] w fun e w'=>∃ u xs,e = .returned u∧TSl (fun b=>w.heap.size ≤ b) (fun b=>w.heap.size ≤ b) w' u xs∧xs.map (·.t) = nestC.map (·.t)∧Nw w w':=by
 go_enter Try.func28,Try.ntmps28
 go_upto_region 2 with fail
 obtain ⟨W,hW⟩:∃ W,Hid (W = w.alloc (.cells #[.int .i64 2,.slice none 0 0] 26)):=⟨_,rfl⟩
 rw [← hW.out]
 have nW:Nw w W:=by rw [hW.out];exact nw_alloc (nw_refl w) _
 have hB:W.heap[w.heap.size]? = some (.cells #[.int .i64 2,.slice none 0 0] 26 (0,0)):=by rw [hW.out];exact heap_alloc_new w _
 clear hW
 have hws:=heap_lt hB
 generalize hN:w.heap.size = N at *
 replace hN:Hid _:=hN
 have hSof:∀ w',Nw W w'→(fun w':World=>Nw W w'∧w'.cell? ⟨N,0,none⟩ = some (.int .i64 2)∧w'.cell? ⟨N,1,none⟩ = some (.slice none 0 0)) w':=fun w' hw=>⟨hw,cell_blk ((hw.block _ (heap_lt hB) (fun h=>h)).trans hB) rfl,cell_blk ((hw.block _ (heap_lt hB) (fun h=>h)).trans hB) rfl⟩
 have hW0:Nw W W.drew:=Fr.drew (Fr.refl _ W)
 have hS:=hSof _ hW0
 refine wp_region_plan [] 11 [(0,[]),(1,[]),(4,[]),(5,[]),(8,[]),(0,[(2,[]),(3,[2]),(6,[]),(7,[6]),(9,[]),(10,[9])])] (fun w':World=>Nw W w'∧w'.cell? ⟨N,0,none⟩ = some (.int .i64 2)∧w'.cell? ⟨N,1,none⟩ = some (.slice none 0 0)) (by kernel_rfl) (by kernel_rfl) ?_
 refine plan_quiet _ ?_ rfl hS rfl ?_ ?_
 rotate_left
 ·rintro w' ⟨hn,h0,h1⟩;go_simp;rfl
 simp only [pL,List.set]
 refine plan_quiet _ ?_ rfl hS rfl ?_ ?_
 rotate_left
 ·rintro w' ⟨hn,h0,h1⟩;go_simp;rfl
 simp only [pL,List.set]
 refine plan_quiet _ ?_ rfl hS rfl ?_ ?_
 rotate_left
 ·rintro w' ⟨hn,h0,h1⟩;go_simp;rfl
 simp only [pL,List.set]
 refine plan_quiet _ ?_ rfl hS rfl ?_ ?_
 rotate_left
 ·rintro w' ⟨hn,h0,h1⟩;go_simp;rfl
 simp only [pL,List.set]
 refine plan_quiet _ ?_ rfl hS rfl ?_ ?_
 rotate_left
 ·rintro w' ⟨hn,h0,h1⟩;go_simp;rfl
 simp only [pL,List.set]
 refine plan_group (fun | 2=>5 | 3=>6 | 6=>9 | 7=>10 | 9=>12 | 10=>13 | _=>0) (FN N) Nw (by decide) (by decide) (by decide) (fun a b ha hb=>hSof b (nw_trans ha.1 hb)) ?FG hS ?steps ?fin
 case FG =>
  intro p hp v w1 w2 h1 h2
  simp only [List.mem_cons,List.not_mem_nil,or_false] at hp
  rcases hp with rfl | rfl | rfl | rfl | rfl | rfl
  ·exact h1.nw h2
  ·obtain ⟨u,q1,q2⟩:=h1
   exact ⟨u,q1,q2.nw h2⟩
  ·exact h1.nw h2
  ·obtain ⟨u,q1,q2⟩:=h1
   exact ⟨u,q1,q2.nw h2⟩
  ·exact h1.nw h2
  ·obtain ⟨u,q1,q2⟩:=h1
   exact ⟨u,q1,q2.nw h2⟩
 case steps =>
  intro p hp x w2 hS2 hd
  simp only [List.mem_cons,List.not_mem_nil,or_false] at hp
  have hws2:N ≤ w2.heap.size:=by have:=hS2.1.size;omega
  rcases hp with rfl | rfl | rfl | rfl | rfl | rfl
  ·refine ⟨_,rfl,fun K hK=>?_⟩
   simp only [putAll,Act.put,List.setIfInBounds_toArray,List.set_cons_zero,List.set_cons_succ] at hK ⊢
   have hc:Hid _:=csl_new1 N w2 hws2 (65,4)
   clear hd hS
   go_wp2
   exact hK _ _ (nw_alloc (nw_refl w2) _) hc.out
  ·refine ⟨_,rfl,fun K hK=>?_⟩
   simp only [putAll,Act.put,List.setIfInBounds_toArray,List.set_cons_zero,List.set_cons_succ] at hK ⊢
   have h2:=hd 2 (by simp)
   obtain ⟨ao,cap,hx,_,_⟩:=CSl.form h2
   refine wpList_build_as rfl 34 _ rfl (thV nT0 (.slice none 0 0) (.slice none 0 0) (x 2) (.slice none 0 0)) (thC nT0 (.slice none 0 0) (.slice none 0 0) (x 2) (.slice none 0 0)).toArray rfl ?z ?_
   case z =>
    simp only [List.map_cons,List.map_nil,Act.eval]
    exact built_n0 (x 2) _ _ _ hx
   exact hK _ _ (nw_refl _) ⟨x 2,rfl,h2⟩
  ·refine ⟨_,rfl,fun K hK=>?_⟩
   simp only [putAll,Act.put,List.setIfInBounds_toArray,List.set_cons_zero,List.set_cons_succ] at hK ⊢
   have hc:Hid _:=csl_new1 N w2 hws2 (4161,2)
   clear hd hS
   go_wp2
   exact hK _ _ (nw_alloc (nw_refl w2) _) hc.out
  ·refine ⟨_,rfl,fun K hK=>?_⟩
   simp only [putAll,Act.put,List.setIfInBounds_toArray,List.set_cons_zero,List.set_cons_succ] at hK ⊢
   have h2:=hd 6 (by simp)
   obtain ⟨ao,cap,hx,_,_⟩:=CSl.form h2
   refine wpList_build_as rfl 34 _ rfl (thV nT1 (.slice none 0 0) (.slice none 0 0) (x 6) (.slice none 0 0)) (thC nT1 (.slice none 0 0) (.slice none 0 0) (x 6) (.slice none 0 0)).toArray rfl ?z ?_
   case z =>
    simp only [List.map_cons,List.map_nil,Act.eval]
    exact built_n1 (x 6) _ _ _ hx
   exact hK _ _ (nw_refl _) ⟨x 6,rfl,h2⟩
  ·refine ⟨_,rfl,fun K hK=>?_⟩
   simp only [putAll,Act.put,List.setIfInBounds_toArray,List.set_cons_zero,List.set_cons_succ] at hK ⊢
   have hc:Hid _:=bsl_new N w2 hws2
   clear hd hS
   obtain ⟨i0,hi0,hz0,hs0,hb0⟩:=info_parts3 Try.infoBy
   have hmade:madeCells (Value.int .u8 0).cells (32 * i0.size) = ((List.replicate 32 (0:UInt8)).map bv).toArray:=by rw [hs0];exact made_byte 32
   refine wpList_make_as rfl 28 5 _ _ rfl 32 rfl rfl i0 _ Try.underlying28 hi0 hz0 (by decide) (by rw [hb0];decide) _ hmade ?_
   exact hK _ _ (nw_alloc (nw_refl w2) _) hc.out
  ·refine ⟨_,rfl,fun K hK=>?_⟩
   simp only [putAll,Act.put,List.setIfInBounds_toArray,List.set_cons_zero,List.set_cons_succ] at hK ⊢
   have h2:=hd 9 (by simp)
   obtain ⟨ao,cap,hx,_,_⟩:=BSl.form h2
   refine wpList_build_as rfl 34 _ rfl (thV nT2 (.slice none 0 0) (.slice none 0 0) (.slice none 0 0) (x 9)) (thC nT2 (.slice none 0 0) (.slice none 0 0) (.slice none 0 0) (x 9)).toArray rfl ?z ?_
   case z =>
    simp only [List.map_cons,List.map_nil,Act.eval]
    exact built_n2 (x 9) _ _ _ hx
   exact hK _ _ (nw_refl _) ⟨x 9,rfl,h2⟩
 case fin =>
  intro x w2 hS2 hF
  obtain ⟨u0,e0,k0⟩:=hF (3,[2]) (by simp)
  obtain ⟨u1,e1,k1⟩:=hF (7,[6]) (by simp)
  obtain ⟨u2,e2,k2⟩:=hF (10,[9]) (by simp)
  simp only at e0 e1 e2 k0 k1 k2
  refine plan_tail ?_
  simp only [putAll,Act.put,List.setIfInBounds_toArray,List.set_cons_zero,List.set_cons_succ,List.drop_succ_cons,List.drop_zero,e0,e1,e2]
  clear hF e0 e1 e2
  have nU:=nw_trans nW hS2.1
  obtain ⟨U,hU⟩:∃ U,Hid (U = w2.alloc (.cells ((thC nT0 (.slice none 0 0) (.slice none 0 0) u0 (.slice none 0 0)) ++ (thC nT1 (.slice none 0 0) (.slice none 0 0) u1 (.slice none 0 0)) ++ (thC nT2 (.slice none 0 0) (.slice none 0 0) (.slice none 0 0) u2)).toArray 34)):=⟨_,rfl⟩
  have nA:Nw w2 U:=by rw [hU.out];exact nw_alloc (nw_refl _) _
  have hR:RowB U w2.heap.size [⟨nT0,(.slice none 0 0),(.slice none 0 0),u0,(.slice none 0 0)⟩,⟨nT1,(.slice none 0 0),(.slice none 0 0),u1,(.slice none 0 0)⟩,⟨nT2,(.slice none 0 0),(.slice none 0 0),(.slice none 0 0),u2⟩]:=by
   unfold RowB
   rw [hU.out,heap_alloc_new]
   rfl
  have hws2:N ≤ w2.heap.size:=by have:=hS2.1.size;omega
  have hall:∀ y ∈ ([⟨nT0,(.slice none 0 0),(.slice none 0 0),u0,(.slice none 0 0)⟩,⟨nT1,(.slice none 0 0),(.slice none 0 0),u1,(.slice none 0 0)⟩,⟨nT2,(.slice none 0 0),(.slice none 0 0),(.slice none 0 0),u2⟩]:List TC),y.At (fun b=>N ≤ b) U:=by
   intro y hy
   simp only [List.mem_cons,List.not_mem_nil,or_false] at hy
   rcases hy with rfl | rfl | rfl
   ·exact ⟨csl_nil _ _,csl_nil _ _,k0.nw nA,bsl_nil _ _⟩
   ·exact ⟨csl_nil _ _,csl_nil _ _,k1.nw nA,bsl_nil _ _⟩
   ·exact ⟨csl_nil _ _,csl_nil _ _,csl_nil _ _,k2.nw nA⟩
  have hsl:=(row_tsl hR (by show 3 ≤ _;decide) hall).mono (X':=fun b=>N ≤ b) (Y':=fun b=>N ≤ b) (fun b hb _=>by have hb2:b = w2.heap.size:=hb;omega) (fun b hb _=>hb)
  have hfin:Hid (Nw w U):=nw_trans nU nA
  clear hall hR nA nU k0 k1 k2 hS2 hS hSof hW0
  replace hsl:Hid _:=hsl
  refine wpList_buildSlice3 rfl 22 34 _ _ _ rfl (thC nT0 (.slice none 0 0) (.slice none 0 0) u0 (.slice none 0 0)) (thC nT1 (.slice none 0 0) (.slice none 0 0) u1 (.slice none 0 0)) (thC nT2 (.slice none 0 0) (.slice none 0 0) (.slice none 0 0) u2) rfl rfl rfl rfl rfl Try.underTs Try.sizeT Try.zeroSome (Nat.succ_pos 25) (show 3 * 26 ≤ 1000000 by decide) ?_
  rw [← hU.out]
  clear hU
  go_wp2
  go_ret
  rw [hN.out]
  exact ⟨_,_,rfl,hsl.out,rfl,hfin.out⟩

theorem right_tlen {t:Th} (h:RightT t):TLen t:=by
 have h1:=h.rgt.len
 have h2:=right_len h
 have hc:t.ccats.length ≤ 6∧t.data.length ≤ 128:=by
  have hs:=h.same
  rcases h.parts with ⟨hk,_⟩ | ⟨hk,hp⟩ | ⟨hk,hp⟩ | ⟨hk,hp⟩ | ⟨hk,_⟩ | ⟨hk,_⟩
  ·have e1:t.ccats = []:=by rw [hs,ofk1 t hk];rfl
   have e2:t.data = []:=by rw [hs,ofk1 t hk];rfl
   rw [e1,e2];exact ⟨Nat.zero_le _,Nat.zero_le _⟩
  ·have e2:t.data = []:=by rw [hs,ofk2 t (by omega) hk];rfl
   rw [e2];exact ⟨hp.rgt.len,Nat.zero_le _⟩
  ·have e2:t.data = []:=by rw [hs,ofk3 t (by omega) (by omega) hk];rfl
   rw [e2];exact ⟨hp.rgt.len,Nat.zero_le _⟩
  ·have e1:t.ccats = []:=by rw [hs,ofk4 t (by omega) (by omega) (by omega) hk];rfl
   rw [e1];exact ⟨Nat.zero_le _,hp.hi⟩
  ·have e1:t.ccats = []:=by rw [hs,ofk5 t (by omega) (by omega) (by omega) (by omega) hk];rfl
   have e2:t.data = []:=by rw [hs,ofk5 t (by omega) (by omega) (by omega) (by omega) hk];rfl
   rw [e1,e2];exact ⟨Nat.zero_le _,Nat.zero_le _⟩
  ·have e:ofK t = baseT t:=by unfold ofK;rw [if_neg (by omega),if_neg (by omega),if_neg (by omega),if_neg (by omega),if_neg (by omega)]
   have e1:t.ccats = []:=by rw [hs,e];rfl
   have e2:t.data = []:=by rw [hs,e];rfl
   rw [e1,e2];exact ⟨Nat.zero_le _,Nat.zero_le _⟩
 exact ⟨by omega,by omega,by omega,by omega⟩
theorem sound_right {xs:List TC} (h:SoundX xs):∀ x ∈ xs,RightT x.t:=fun x hx=>by obtain ⟨i,hi,rfl⟩:=List.getElem_of_mem hx;exact (h.each i hi).right
theorem right_cats {xs:List TC} (h:∀ x ∈ xs,RightT x.t):∀ x ∈ xs,x.t.cats.length ≤ 8796093022208∧x.t.ccats.length ≤ 8796093022208:=fun x hx=>⟨(right_tlen (h x hx)).l1,(right_tlen (h x hx)).l2⟩
theorem usl_two (w:World) (a b:Int):USl (fun k=>w.heap.size ≤ k) (w.alloc (.cells #[.int .u64 a,.int .u64 b] 23)) (.slice (some ⟨w.heap.size,0,none⟩) 2 2) [a,b] :=
 ⟨some ⟨w.heap.size,0,none⟩,2,rfl,⟨Nat.le_refl _,by unfold maxLen;decide⟩,(fun e=>by cases e),fun i c hi=>⟨w.heap.size,0,rfl,Nat.le_refl _,by
  rw [Nat.zero_add]
  have h2:(#[.int .u64 a,.int .u64 b]:Array Value)[i]? = some c:=by
   have h3:=hi
   rw [← List.getElem?_toArray] at h3
   exact h3
  exact cell_blk (heap_alloc_new w _) h2⟩⟩

set_option maxRecDepth 100000 in
set_option maxHeartbeats 6400000 in
theorem c_galive (w:World):Calls Try.prog 8 #[] w fun e w'=>e = .returned (.bool true)∧Nw w w':=by
 have h0:Hid _:=c_nest w
 go_enter Try.func8,Try.ntmps8
 go_wp2_with (go_at_call 28;refine Calls.mono h0.out ?_;rintro e w1 ⟨u,xs,rfl,hsl,hxs,n1⟩;refine stop_here ?_)
 unfold Hid
 clear h0
 have hs:=same_sound hxs nest_sound
 have hl:xs.length = 3:=same_len hxs
 obtain ⟨s1,s2⟩:=same_un hxs nest_sound 1 65
 rw [nest_un] at s1 s2
 have hu:Hid _:=c_gunlink 1 65 w1 hsl hs (fun x hx=>right_tlen (sound_right hs x hx)) (by omega)
 unfold GUnP at hu
 rw [s2] at hu
 clear hs hl s2 hsl hxs
 go_wp2_with (go_at_call 23;refine Calls.mono hu.out ?_;rintro e w2 ⟨u2,gv,zs,ids,rfl,hz,hi,hzs,hids,n2⟩;refine stop_here ?_)
 unfold Hid
 clear hu
 have hzt:=hzs.trans s1
 have hz1:zs.length = 1:=same_len hzt
 have hids2:ids = [65,4161]:=hids
 subst hids2
 have hsz:=same_sound hzt nest_less
 obtain ⟨ao,cap,rfl,_,_⟩:=hz.form
 obtain ⟨bo,cap2,rfl,_,_⟩:=USl.form hi
 have hnW:=nw_trans n1 n2
 replace hsz:Hid _:=hsz
 replace hz1:Hid _:=hz1
 rw [hz1.out]
 clear n1 n2 hids hzs s1 hzt
 go_upto_region 2 with fail
 have h0:Hid _:=c_nest w2
 go_wp2_with (go_at_call 28;refine Calls.mono h0.out ?_;rintro e w3 ⟨u3,xs3,rfl,hsl,hxs,n3⟩;refine stop_here ?_)
 unfold Hid
 clear h0
 have hs:=same_sound hxs nest_sound
 have hl:xs3.length = 3:=same_len hxs
 have hq:Hid _:=c_gsound w3 hsl (right_cats (sound_right hs)) (by omega)
 unfold AnsP at hq
 replace hs:Hid _:=hs
 replace hz:=hz.nw n3
 replace hi:=hi.nw n3
 replace hnW:=nw_trans hnW n3
 clear hsl hxs hl n3
 go_wp2_with (go_at_call 10;refine Calls.mono hq.out ?_;rintro e w4 ⟨r,rfl,hr,n4⟩;refine stop_here ?_)
 unfold Hid
 obtain rfl:=hr.2 hs.out
 clear hq hr hs
 replace hz:=hz.nw n4
 replace hi:=hi.nw n4
 replace hnW:=nw_trans hnW n4
 clear n4
 obtain ⟨w5,hw5⟩:∃ v,Hid (v = w4.alloc (.cells #[.int .u64 65,.int .u64 4161] 23)):=⟨_,rfl⟩
 have n5:Nw w4 w5:=by rw [hw5.out];exact nw_alloc (nw_refl _) _
 have hlit:USl (fun k=>w4.heap.size ≤ k) w5 (.slice (some ⟨w4.heap.size,0,none⟩) 2 2) [65,4161]:=by rw [hw5.out];exact usl_two w4 65 4161
 have hq:Hid _:=c_rids w5 (hi.nw n5) hlit
 unfold AnsP at hq
 replace hz:=hz.nw n5
 replace hnW:=nw_trans hnW n5
 clear hlit hi n5
 go_wp2_with (go_at_call 25;rw [← hw5.out];refine Calls.mono hq.out ?_;rintro e w6 ⟨r,rfl,hr,n6⟩;refine stop_here ?_)
 unfold Hid
 obtain rfl:=hr.2 trivial
 clear hq hr hw5
 replace hz:=hz.nw n6
 replace hnW:=nw_trans hnW n6
 clear n6
 have hq:Hid _:=c_gsound w6 hz (right_cats (sound_right hsz.out)) (by rw [hz1.out];decide)
 unfold AnsP at hq
 rw [hz1.out] at hq
 clear hz
 go_wp2_with (go_at_call 10;refine Calls.mono hq.out ?_;rintro e w7 ⟨r,rfl,hr,n7⟩;refine stop_here ?_)
 unfold Hid
 obtain rfl:=hr.2 hsz.out
 clear hq hr hsz
 replace hnW:=nw_trans hnW n7
 clear n7
 go_wp2
 go_ret
 exact ⟨rfl,hnW⟩

end Go.Proofs.Ytgmfofngmfekbaa
