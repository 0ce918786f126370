/-
  Right: registers and slots.
-/
import Derived.Laws.StructEq
import Derived.Test.YtghlilncdfiojaaThR1S
namespace Go.Proofs.Ytghlilncdfiojaa
set_option linter.unusedVariables false
set_option linter.unusedSimpArgs false
set_option maxRecDepth 20000
open Go.RowKit

def cnv (j k:Nat) (x:Int):Int:=if j < k then Num.canonV x else x
def cnC (k:Nat) (a b c d:Int):List Value:=[.int .u64 (cnv 0 k a),.int .u64 (cnv 1 k b),.int .u64 (cnv 2 k c),.int .u64 (cnv 3 k d)]

theorem idx4 (a b c d:Int) (k:Nat) (hk:k < 4):∃ x,(∀ w,(Instr.index 29 (.agg #[.int .u64 a,.int .u64 b,.int .u64 c,.int .u64 d]) (.int .i64 (k:Int))).run Try.prog w = .ok (.int .u64 x) w)∧(cnC k a b c d)[k]? = some (.int .u64 x)∧(cnC k a b c d).set k (.int .u64 (Num.canonV x)) = cnC (k + 1) a b c d:=by
 rcases k with _ | _ | _ | _ | k
 ·exact ⟨a,fun w=>by simp [Instr.index,go_sem],rfl,rfl⟩
 ·exact ⟨b,fun w=>by simp [Instr.index,go_sem],rfl,rfl⟩
 ·exact ⟨c,fun w=>by simp [Instr.index,go_sem],rfl,rfl⟩
 ·exact ⟨d,fun w=>by simp [Instr.index,go_sem],rfl,rfl⟩
 ·omega

set_option maxHeartbeats 1600000 in
theorem c_canons (a b c d:Int) (w:World) :
  Calls Try.prog 57 #[.agg #[.int .u64 a,.int .u64 b,.int .u64 c,.int .u64 d]] w fun e w'=>e = .returned (.agg #[.int .u64 (Num.canonV a),.int .u64 (Num.canonV b),.int .u64 (Num.canonV c),.int .u64 (Num.canonV d)])∧Nw w w':=by
 go_enter Try.func57,Try.ntmps57
 go_wp2
 go_loopw [6] (fun kv wr=>∃ k:Nat,k ≤ 4∧kv = .int .i64 k∧wr.heap[w.heap.size]? = some (.cells (cnC k a b c d).toArray 29 (0,0))∧wr.heap[w.heap.size + 1]? = some (.cells #[.int .u64 0,.int .u64 0,.int .u64 0,.int .u64 0] 29 (0,0))∧Nw w wr) (fun kv _=>4 - (intOf kv).toNat)
 case atStart=>exact ⟨0,Nat.zero_le _,rfl,heap_alloc2_old w _ _,heap_alloc2_new w _ _,nw_alloc (nw_alloc (nw_refl w) _) _⟩
 case round =>
  obtain ⟨k,hk,rfl,hA,hZ,hw⟩:=hrel
  have hlt:=heap_lt hZ
  have hfr:∀ j,wr.frozen? ⟨w.heap.size,j,none⟩ = false:=fun j=>free_blk hA
  by_cases hk4:k < 4
  ·obtain ⟨x,hix,hgx,hst⟩:=idx4 a b c d k hk4
   have g:wr.cell? ⟨w.heap.size,k,none⟩ = some (.int .u64 x):=cell_blk hA (by simpa using hgx)
   have hA':Hid ((wr.setCell ⟨w.heap.size,k,none⟩ (.int .u64 (Num.canonV x))).heap[w.heap.size]? = some (.cells (cnC (k + 1) a b c d).toArray 29 (0,0))):=by
    unfold Hid;rw [blk_setCell hA,← hst];simp
   have fV:Hid (Fr (fun k=>k = w.heap.size) wr (wr.setCell ⟨w.heap.size,k,none⟩ (.int .u64 (Num.canonV x)))):=(Fr.refl (fun k=>k = w.heap.size) wr).setCell (p:=⟨w.heap.size,k,none⟩) (.inl rfl) _
   replace hgx:Hid _:=hgx
   replace hst:Hid _:=hst
   have hcc:Hid (∀ w,Calls Try.prog 59 #[.int .u64 x] w fun e w'=>e = .returned (.int .u64 (Num.canonV x))∧w = w'):=fun w=>Num.c_canon x w
   replace hA:Hid _:=hA
   replace hZ:Hid _:=hZ
   go_wp2_with (go_at_call 59;refine Calls.mono (hcc.out _) ?_;rintro e w' ⟨rfl,rfl⟩)
   go_roundw
   case rel=>exact ⟨k + 1,by omega,by go_num,hA'.out,(fV.out.block _ (heap_lt hZ.out) (by omega)).trans hZ.out,Fr.trans hw fV.out (fun j hj=>.inr (by omega))⟩
   case measure=>simp [intOf];omega
  ·have hk4':k = 4:=by omega
   subst hk4'
   have h4:wr.rangeAt w.heap.size 0 (cnC 4 a b c d):=range_all hA
   have hfin:Hid ((wr.setRow (w.heap.size + 1) (cnC 4 a b c d).toArray).rangeAt (w.heap.size + 1) 0 (cnC 4 a b c d)∧Nw w (wr.setRow (w.heap.size + 1) (cnC 4 a b c d).toArray)):=⟨range_all (setRow_heap _ _ _ _ _ _ hZ),Fr.setRow hw (.inr (by omega)) _⟩
   go_wp2_with (refine wpList_load_as rfl 29 _ rfl w.heap.size 0 rfl (.agg (cnC 4 a b c d).toArray) _ rfl h4 Try.row4 Try.size4 ?_;refine stop_here ?_)
   unfold Hid
   refine wpList_store_all rfl 29 _ _ rfl (w.heap.size + 1) rfl (.agg (cnC 4 a b c d).toArray) rfl (cnC 4 a b c d) rfl [.int .u64 0,.int .u64 0,.int .u64 0,.int .u64 0] 29 hZ rfl (by simp [cnC,Value.oneCell']) Try.size4 ?_
   go_wp2
   refine bodyPost_ret (results_cell1 rfl _ (w.heap.size + 1) _ (.agg (cnC 4 a b c d).toArray) rfl rfl hfin.out.1 Try.row4 Try.size4) rfl ?_
   exact ⟨rfl,hfin.out.2⟩

theorem idx8 (s0 s1 s2 s3 s4 s5 s6 s7:Int) (k:Nat) (hk:k < 4):∃ x y,(∀ w,(Instr.index 32 (.agg #[.int .u64 s0,.int .u64 s1,.int .u64 s2,.int .u64 s3,.int .u64 s4,.int .u64 s5,.int .u64 s6,.int .u64 s7]) (.int .i64 (k:Int))).run Try.prog w = .ok (.agg #[.int .u64 x,.int .u64 y]) w)∧[(s0,s1),(s2,s3),(s4,s5),(s6,s7)][k]? = some (x,y):=by
 rcases k with _ | _ | _ | _ | k
 ·exact ⟨s0,s1,fun w=>by simp [Instr.index,go_sem],rfl⟩
 ·exact ⟨s2,s3,fun w=>by simp [Instr.index,go_sem],rfl⟩
 ·exact ⟨s4,s5,fun w=>by simp [Instr.index,go_sem],rfl⟩
 ·exact ⟨s6,s7,fun w=>by simp [Instr.index,go_sem],rfl⟩
 ·omega

theorem run_neq_slot (x y:Int) (w:World):(binOp .neq 31 (.agg #[.int .u64 x,.int .u64 y]) (.agg #[.int .u64 0,.int .u64 0])).run Try.prog w = .ok (.bool (!(x == 0 && y == 0))) w:=by
 simp [go_sem]
 by_cases h1:x = 0 <;> by_cases h2:y = 0 <;> simp [h1,h2]

/-- The first slots are as they must be. -/
def okTo (l:List (Int × Int)) (k:Nat):Prop:=∀ j p,j < k→l[j]? = some p→slOk p.1 p.2
theorem okTo_succ {l:List (Int × Int)} {k:Nat} {p:Int × Int} (h:okTo l k) (hp:l[k]? = some p) (h2:slOk p.1 p.2):okTo l (k + 1):=fun j q hj hq=>by
 by_cases e:j = k
 ·subst e;rw [hp] at hq;cases hq;exact h2
 ·exact h j q (by omega) hq
def slotsL (s0 s1 s2 s3 s4 s5 s6 s7:Int):List (Int × Int):=[(s0,s1),(s2,s3),(s4,s5),(s6,s7)]
theorem okTo_all (s0 s1 s2 s3 s4 s5 s6 s7:Int):okTo (slotsL s0 s1 s2 s3 s4 s5 s6 s7) 4↔(slOk s0 s1∧slOk s2 s3∧slOk s4 s5∧slOk s6 s7) :=
 ⟨fun h=>⟨h 0 _ (by decide) rfl,h 1 _ (by decide) rfl,h 2 _ (by decide) rfl,h 3 _ (by decide) rfl⟩,fun ⟨h0,h1,h2,h3⟩ j p hj hp=>by
  rcases j with _ | _ | _ | _ | j
  ·cases hp;exact h0
  ·cases hp;exact h1
  ·cases hp;exact h2
  ·cases hp;exact h3
  ·omega⟩

set_option maxHeartbeats 1600000 in
theorem c_slots (s0 s1 s2 s3 s4 s5 s6 s7:Int) (w:World) :
  Calls Try.prog 61 #[.agg #[.int .u64 s0,.int .u64 s1,.int .u64 s2,.int .u64 s3,.int .u64 s4,.int .u64 s5,.int .u64 s6,.int .u64 s7]] w (AnsP (slOk s0 s1∧slOk s2 s3∧slOk s4 s5∧slOk s6 s7) w):=by
 rw [← okTo_all]
 have hsl:∀ k:Nat,k < 4→∃ x y,(∀ w,(Instr.index 32 (.agg #[.int .u64 s0,.int .u64 s1,.int .u64 s2,.int .u64 s3,.int .u64 s4,.int .u64 s5,.int .u64 s6,.int .u64 s7]) (.int .i64 (k:Int))).run Try.prog w = .ok (.agg #[.int .u64 x,.int .u64 y]) w)∧(slotsL s0 s1 s2 s3 s4 s5 s6 s7)[k]? = some (x,y):=fun k hk=>idx8 s0 s1 s2 s3 s4 s5 s6 s7 k hk
 generalize slotsL s0 s1 s2 s3 s4 s5 s6 s7 = L at *
 replace hsl:Hid _:=hsl
 go_enter Try.func61,Try.ntmps61
 go_wp2
 go_loopw [6] (fun kv wr=>∃ k:Nat,k ≤ 4∧kv = .int .i64 k∧Hid (okTo L k)∧Nw w wr) (fun kv _=>4 - (intOf kv).toNat)
 case atStart=>exact ⟨0,Nat.zero_le _,rfl,fun j p hj=>by omega,nw_alloc (nw_refl w) _⟩
 case round =>
  obtain ⟨k,hk,rfl,hok,hw⟩:=hrel
  by_cases hk4:k < 4
  ·obtain ⟨x,y,hix,hp⟩:=hsl.out k hk4
   have hne:=run_neq_slot x y
   have hyes:Hid (slOk x y→okTo L (k + 1)):=fun h=>okTo_succ hok.out hp h
   have hbad:Hid (¬ slOk x y→¬ okTo L 4):=fun h h2=>h (h2 k _ hk4 hp)
   replace hp:Hid _:=hp
   have hnA:Hid (∀ o,Nw w (wr.alloc o)):=fun o=>nw_alloc hw o
   by_cases hz:x = 0∧y = 0
   ·have hb:(!(x == 0 && y == 0)) = false:=by simp [hz.1,hz.2]
    rw [hb] at hne
    have hy:Hid (okTo L (k + 1)):=hyes.out (.inl hz)
    clear hz hb hyes hbad hok
    go_wp2
    go_roundw
    case rel=>exact ⟨k + 1,by omega,by go_num,hy,hnA.out _⟩
    case measure=>simp [intOf];omega
   ·have hb:(!(x == 0 && y == 0)) = true:=by
     by_cases h1:x = 0
     ·have h2:¬ y = 0:=fun h2=>hz ⟨h1,h2⟩
      simp [h2]
     ·simp [h1]
    rw [hb] at hne
    have hcx:Hid (∀ w,Calls Try.prog 24 #[.int .u64 x] w fun e w'=>∃ r:Bool,e = .returned (.bool r)∧(r = true↔idOk x)∧Nw w w'):=fun w=>c_isID x w
    have hcy:Hid (∀ w,Calls Try.prog 24 #[.int .u64 y] w fun e w'=>∃ r:Bool,e = .returned (.bool r)∧(r = true↔idOk y)∧Nw w w'):=fun w=>c_isID y w
    replace hz:Hid _:=hz
    have hsz:wr.heap.size = wr.heap.size:=rfl
    have g0:∀ w',Nw (wr.alloc (.cells #[.int .u64 x,.int .u64 y] 31)) w'→w'.cell? ⟨wr.heap.size,1,none⟩ = some (.int .u64 y):=fun w' hw'=>cell_blk ((hw'.block _ (by simp) (fun h=>h)).trans (heap_alloc_new wr _)) rfl
    replace g0:Hid _:=g0
    clear hb
    go_wp2_with (go_at_call 24;refine Calls.mono (hcx.out _) ?_;rintro e w3 ⟨r,rfl,q1,qn⟩;refine stop_here ?_)
    unfold Hid
    have gy:=g0.out _ qn
    have hw3:=nw_trans (hnA.out _) qn
    cases r with
    | false =>
     have hno:Hid (¬ okTo L 4):=hbad.out (fun h=>h.elim (fun h=>hz.out h) (fun h=>not_of_false q1 h.1))
     clear q1 hyes hbad hok
     go_wp2
     go_ret
     exact ans_no hno.out hw3
    | true =>
     have hx:Hid (idOk x):=q1.1 rfl
     clear q1 qn g0
     go_wp2_with (go_at_call 24;refine Calls.mono (hcy.out _) ?_;rintro e w4 ⟨r,rfl,q1,qn⟩;refine stop_here ?_)
     unfold Hid
     cases r with
     | false =>
      have hno:Hid (¬ okTo L 4):=hbad.out (fun h=>h.elim (fun h=>hz.out h) (fun h=>not_of_false q1 h.2))
      clear q1 hyes hbad hok
      go_wp2
      go_ret
      exact ans_no hno.out (nw_trans hw3 qn)
     | true =>
      have hy:Hid (okTo L (k + 1)):=hyes.out (.inr ⟨hx.out,q1.1 rfl⟩)
      clear q1 hyes hbad hok
      go_wp2
      go_roundw
      case rel=>exact ⟨k + 1,by omega,by go_num,hy,nw_trans hw3 qn⟩
      case measure=>simp [intOf];omega
  ·have hk4':k = 4:=by omega
   subst hk4'
   have hyes:Hid (okTo L 4):=hok.out
   go_wp2
   go_ret
   exact ans_yes hyes.out hw
end Go.Proofs.Ytghlilncdfiojaa
