/-
  Read: pairs of fields, by slices.Chunk's iterator.
-/
import Derived.RangeFuncNested
import Derived.RangeFuncBound
import Derived.RangeFuncCalls
import Derived.RangeFuncLeaves
import Derived.Shelf.Abstract
import Derived.Shelf.RegionOpen
import Derived.WalkKit
import Derived.OwnWalkIn
import Derived.TacticsInMore
import Derived.LoopNIn
import Derived.LoopIn
import Derived.BigRegionIn
import Derived.Test.YtghlilncdfiojaaThI6S
namespace Go.Proofs.Ytghlilncdfiojaa
set_option linter.unusedVariables false
set_option linter.unusedSimpArgs false
set_option maxRecDepth 20000
open Go.RowKit Go.Shelf

attribute [local go_sem] Oper.semAt_some

/-- All that lay below N lies on but the block O. -/
def Kx (N O:Nat) (A B:World):Prop:=Below O A B∧∀ b,b < N→b ≠ O→B.heap[b]? = A.heap[b]?
theorem Kx.refl (N O:Nat) (A:World):Kx N O A A:=⟨Below.refl _ _,fun _ _ _=>rfl⟩
theorem Kx.trans {N O:Nat} {A B C:World} (h:Kx N O A B) (k:Kx N O B C):Kx N O A C:=⟨h.1.trans k.1,fun b h1 h2=>(k.2 b h1 h2).trans (h.2 b h1 h2)⟩
theorem Kx.drew {N O:Nat} {A B:World} (h:Kx N O A B):Kx N O A B.drew:=⟨h.1.drew,h.2⟩
theorem Kx.cell {N O:Nat} {A B:World} (h:Kx N O A B) {b i:Nat} (hb:b < N∧b ≠ O):B.cell? ⟨b,i,none⟩ = A.cell? ⟨b,i,none⟩:=by
 unfold World.cell?
 dsimp only
 rw [h.2 b hb.1 hb.2]

theorem finTake {m k:Nat} (h:k < m):(List.finRange m).take (k + 1) = (List.finRange m).take k ++ [⟨k,h⟩]:=by
 rw [List.take_succ_eq_append_getElem (by simpa using h)]
 simp

set_option maxRecDepth 100000 in
set_option maxHeartbeats 2000000 in
theorem chunk1_in (n:Nat) (hn:1 ≤ n) (l Bs Bn n₀ O b off m cap:Nat) (hb:Bs < n₀∧Bs ≠ O) (hb':Bn < n₀∧Bn ≠ O) (hm63:2 * m ≤ 9223372036854775807) (hc:2 * m ≤ cap) (J Jx:List (Fin m)→World→Prop) (hJd:∀ pre w,J pre w→J pre w.drew)
  (hY:∀ pre x W,J pre W→pre.length < m→YieldAt Fence.wide (n - 1) Try.prog l #[.slice (some ⟨b,off + 2 * x.1 * 2,none⟩) 2 2] W fun e W' =>
   (e = .returned (.bool true)∧J (pre ++ [x]) W'∧Kx n₀ O W W')∨(e = .returned (.bool false)∧Jx (pre ++ [x]) W'))
  (W:World) (hcs:W.cell? ⟨Bs,0,none⟩ = some (.slice (some ⟨b,off,none⟩) (2 * m) cap)) (hcn:W.cell? ⟨Bn,0,none⟩ = some (.int .i64 2)) (h0:J [] W) :
  CallsIn Fence.wide n Try.prog 100 #[.func (.yield l) #[] #[],.pointer (some ⟨Bs,0,none⟩),.pointer (some ⟨Bn,0,none⟩)] W fun e W'=>(∃ v,e = .returned v) ∧
   ((∃ ys,ys = List.finRange m∧J ys W')∨(∃ pre,(∃ k,k ≤ m∧pre = (List.finRange m).take k)∧Jx pre W')):=by
 refine callsIn_of_wp Try.func100 rfl trivial ?_ rfl
 simp only [Try.ntmps100,List.size_toArray,List.length_cons,List.length_nil,Nat.reduceAdd,Nat.reduceSub,Array.replicate_succ,Array.replicate_zero,List.push_toArray,List.append_toArray,List.nil_append,List.cons_append]
 gi_wp2
 gi_loopw [4] (fun i wr=>∃ k:Nat,k ≤ m∧i = .int .i64 ((2 * k:Nat):Int)∧J ((List.finRange m).take k) wr∧Kx n₀ O W wr)
  (fun i _=>2 * m - (intOf i).toNat)
 case atStart=>exact ⟨0,Nat.zero_le _,rfl,h0,Kx.refl _ _ _⟩
 case round =>
  obtain ⟨k,hk,rfl,hJs,hnx⟩:=hrel
  have hcs':=(hnx.cell (i:=0) hb).trans hcs
  have hcn':=(hnx.cell (i:=0) hb').trans hcn
  by_cases hlt:k < m
  ·obtain ⟨fn,tmps,assign,body,hy,hR⟩:=hY _ ⟨k,hlt⟩ wr.drew (hJd _ _ hJs) (by simp;omega)
   dsimp only at hy
   have hmn:min (2:Int) ((2 * m - 2 * k:Nat):Int) = 2:=by omega
   have D1:∀ z,(wr.drewN z).cell? ⟨Bs,0,none⟩ = some (.slice (some ⟨b,off,none⟩) (2 * m) cap):=fun z=>hcs'
   have D2:∀ z,(wr.drewN z).cell? ⟨Bn,0,none⟩ = some (.int .i64 2):=fun z=>hcn'
   gi_wp2
   gi_region
   gi_wp2
   refine hR.mono ?_
   rintro e W3 (⟨rfl,hJ3,hk3⟩ | ⟨rfl,hJx3⟩)
   ·have hcn3:W3.cell? ⟨Bn,0,none⟩ = some (.int .i64 2):=(hk3.cell (i:=0) hb').trans hcn'
    have hk2:((2 * (k + 1):Nat):Int) = 2 * (k:Int) + 2:=by omega
    gi_wp2
    go_roundw
    case rel=>exact ⟨k + 1,by omega,by rw [hk2],by rw [finTake hlt];exact hJ3,(hnx.drew).trans hk3⟩
    case measure=>simp [intOf];omega
   ·gi_wp2
    refine bodyPost_ret (results_none rfl _ _ _) rfl ?_
    exact ⟨⟨_,rfl⟩,.inr ⟨_,⟨k + 1,by omega,(finTake hlt).symm⟩,hJx3⟩⟩
  ·obtain rfl:k = m:=by omega
   gi_wp2
   go_end0
   exact ⟨⟨_,rfl⟩,.inl ⟨_,rfl,by rw [List.take_of_length_le (by simp)] at hJs;exact hJs⟩⟩

set_option maxRecDepth 100000 in
set_option maxHeartbeats 2000000 in
theorem chunk1_nil (n l Bs Bn:Nat) (m:Nat) (hm:m = 0) (a:Option Addr) (c:Nat) (J Jx:List (Fin m)→World→Prop) (W:World) (hcs:W.cell? ⟨Bs,0,none⟩ = some (.slice a 0 c)) (h0:J [] W) :
  CallsIn Fence.wide n Try.prog 100 #[.func (.yield l) #[] #[],.pointer (some ⟨Bs,0,none⟩),.pointer (some ⟨Bn,0,none⟩)] W fun e W'=>(∃ v,e = .returned v) ∧
   ((∃ ys,ys = List.finRange m∧J ys W')∨(∃ pre,(∃ k,k ≤ m∧pre = (List.finRange m).take k)∧Jx pre W')):=by
 subst hm
 refine callsIn_of_wp Try.func100 rfl trivial ?_ rfl
 simp only [Try.ntmps100,List.size_toArray,List.length_cons,List.length_nil,Nat.reduceAdd,Nat.reduceSub,Array.replicate_succ,Array.replicate_zero,List.push_toArray,List.append_toArray,List.nil_append,List.cons_append]
 gi_wp2
 gi_loopw [4] (fun i wr=>i = .int .i64 0∧wr = W) (fun i _=>0)
 case atStart=>exact ⟨rfl,rfl⟩
 case round =>
  obtain ⟨rfl,hwe⟩:=hrel
  have hwe':=hwe.symm
  subst hwe'
  gi_wp2
  go_end0
  first | exact ⟨⟨_,rfl⟩,.inl ⟨_,rfl,h0⟩⟩ | exact ⟨⟨_,rfl⟩,.inl h0⟩

/-- Pairs of fields: a slice of 2 * m of them, or nothing. -/
def Prs2 (sv:Value) (m b off:Nat):Prop:=(∃ a c,sv = .slice a 0 c∧m = 0)∨∃ cap,sv = .slice (some ⟨b,off,none⟩) (2 * m) cap∧2 * m ≤ cap∧2 * m ≤ 9223372036854775807

theorem chunk_stops (n:Nat) (hn:1 ≤ n) (Bs Bn n₀ O m b off:Nat) (sv:Value) (w:World) (hb:Bs < n₀∧Bs ≠ O) (hb':Bn < n₀∧Bn ≠ O) (hn0:n₀ ≤ w.heap.size) (hcs:w.cell? ⟨Bs,0,none⟩ = some sv) (hcn:w.cell? ⟨Bn,0,none⟩ = some (.int .i64 2)) (hp:Prs2 sv m b off) :
  SeqStopsK Fence.wide n Try.prog 100 #[.pointer (some ⟨Bs,0,none⟩),.pointer (some ⟨Bn,0,none⟩)] (fun x:Fin m=>#[.slice (some ⟨b,off + 2 * x.1 * 2,none⟩) 2 2]) (Kx n₀ O) (fun ys=>ys = List.finRange m) (fun pre=>pre <+: List.finRange m) m w:=fun l J Jx W hW hJ _ hY h0=>by
 have hcs':=(hW.cell (p:=⟨Bs,0,none⟩) (by show Bs < _;omega)).trans hcs
 have hcn':=(hW.cell (p:=⟨Bn,0,none⟩) (by show Bn < _;omega)).trans hcn
 rcases hp with ⟨a,c,rfl,hm⟩ | ⟨cap,rfl,h1,h2⟩
 ·refine (chunk1_nil n l Bs Bn m hm a c J Jx W hcs' h0).mono ?_
  rintro e W' ⟨he,⟨ys,rfl,hj⟩ | ⟨pre,⟨k,hk,rfl⟩,hj⟩⟩
  ·exact ⟨he,.inl ⟨_,rfl,hj⟩⟩
  ·exact ⟨he,.inr ⟨_,List.take_prefix _ _,hj⟩⟩
 ·refine (chunk1_in n hn l Bs Bn n₀ O b off m cap hb hb' h2 h1 J Jx (fun pre w0 h=>hJ _ _ _ none h (grown_of_below ((Below.refl _ w0).drew)) (fun r e=>by cases e)) hY W hcs' hcn' h0).mono ?_
  rintro e W' ⟨he,⟨ys,rfl,hj⟩ | ⟨pre,⟨k,hk,rfl⟩,hj⟩⟩
  ·exact ⟨he,.inl ⟨_,rfl,hj⟩⟩
  ·exact ⟨he,.inr ⟨_,List.take_prefix _ _,hj⟩⟩
end Go.Proofs.Ytghlilncdfiojaa
