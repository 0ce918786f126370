/-
  Image: slices.Grow of nothing, slices.Concat of two rows of fields.
-/
import Derived.Lib.AppendZeros
import Derived.Laws.CopyOwn
import Derived.Test.YtghlilncdfiojaaThI3S
import Derived.Test.YtghlilncdfiojaaLabS
namespace Go.Proofs.Ytghlilncdfiojaa
set_option linter.unusedVariables false
set_option linter.unusedSimpArgs false
set_option maxRecDepth 20000
open Go.RowKit

theorem zeroCells_size (z:Array Value) (n:Nat):(Builtin.zeroCells z n).size = n * z.size:=by
 simp [Builtin.zeroCells]

set_option maxHeartbeats 1600000 in
theorem c_grow (n:Nat) (h1:1 ≤ n) (h2:n ≤ 1000) (w:World) :
  Calls Try.prog 67 #[.slice none 0 0,.int .i64 (n:Int)] w fun e w'=>∃ G,e = .returned (.slice (some ⟨w.heap.size,0,none⟩) 0 G)∧w'.ownsRow w.heap.size 74 2 (.slice (some ⟨w.heap.size,0,none⟩) 0 G) 0 []∧Nw w w':=by
 obtain ⟨i0,hj,hj0,hj1,hj2⟩:=info_parts3 Try.infoFd
 obtain ⟨G,hG⟩:∃ G,Hid (G = grownCap w n 0 74):=⟨_,rfl⟩
 obtain ⟨ROW,hROW⟩:∃ ROW:Array Value,Hid (ROW = Builtin.zeroCells (Value.agg #[.int .u64 0,.slice none 0 0]).cells n ++ Builtin.zeroCells (Value.agg #[.int .u64 0,.slice none 0 0]).cells (G - n)):=⟨_,rfl⟩
 have hGn:n ≤ G:=by rw [hG.out];exact grownCap_ge w _ _ _
 have hGm:G ≤ 9223372036854775807:=by rw [hG.out];exact grownCap_le_maxLen w _ _ _ (by unfold maxLen;omega)
 have hRs:ROW.size = G * 2:=by rw [hROW.out,Array.size_append,zeroCells_size,zeroCells_size];show n * 2 + (G - n) * 2 = _;omega
 obtain ⟨W1,hW1⟩:∃ W1,Hid (W1 = w.drew.alloc (.cells ROW 74)):=⟨_,rfl⟩
 have nW1:Hid (Nw w W1):=by unfold Hid;rw [hW1.out];exact nw_alloc (Fr.drew (nw_refl w)) _
 have hown:Hid (W1.ownsRow w.heap.size 74 2 (.slice (some ⟨w.heap.size,0,none⟩) 0 G) 0 []):=⟨rfl,.inr ⟨w.heap.size,G,ROW,rfl,Nat.le_refl _,by rw [hW1.out];exact heap_alloc_new w.drew _,Nat.zero_le _,hGm,hRs,by simp⟩⟩
 have hrz:∀ ty,(Builtin.append_ #[71,3] ty #[.slice none 0 0,.int .i64 (n:Int)]).run Try.prog w = .ok (.slice (some ⟨w.heap.size,0,none⟩) n G) W1:=fun ty=>by
  rw [hW1.out,hROW.out,hG.out]
  have hnx:=nextslicecap_le (need:=n) (old:=0) (by omega)
  exact Lib.run_append_nil_zeros w 71 3 ty 74 i0 _ .i64 .i64 Try.underlying71 Try.underlying3 hj hj0 n (by omega) (by rw [hj1];omega) (by omega) (by rw [hj2];omega)
 have hn0:decide (0 < (n:Int)) = true:=decide_eq_true (by omega)
 clear hGn hRs
 go_enter Try.func67,Try.ntmps67
 go_wp2_with (at_builtin;refine Lib.wpList_append_run _ rfl _ _ 71 3 rfl _ _ rfl rfl _ _ (hrz _) ?_)
 go_ret
 exact ⟨G,rfl,hown.out,nW1.out⟩

def szk (n1 n2 k:Nat):Nat:=if k = 0 then 0 else if k = 1 then n1 else n1 + n2
def csk (c1 c2:List Value) (k:Nat):List Value:=if k = 0 then [] else if k = 1 then c1 else c1 ++ c2

set_option maxHeartbeats 3200000 in
theorem c_concat {K1 K2 B:Nat} {w:World} {va vb:Value} {fa fb:List Fld} (ha:FldS K1 w va fa) (hb:FldS K2 w vb fb) (h1:K1 ≤ w.heap.size) (h2:K2 ≤ w.heap.size) (hB:w.heap[B]? = some (.cells #[va,vb] 71 (0,0))) (hn1:1 ≤ fa.length) (hn:fa.length ≤ 100∧fb.length ≤ 100) :
  Calls Try.prog 43 #[.slice (some ⟨B,0,none⟩) 2 2] w fun e w'=>∃ v,e = .returned v∧FldS w'.heap.size w' v (fa ++ fb)∧Nw w w':=by
 obtain ⟨i0,hj,hj0,hj1,hj2⟩:=info_parts3 Try.infoFd
 obtain ⟨c1,s1,x1,o1⟩:=ha
 obtain ⟨c2,s2,x2,o2⟩:=hb
 have l1:=x1.1
 have l2:=x2.1
 obtain ⟨aa,ac,ea⟩:=sl_form s1
 obtain ⟨ba,bc,eb⟩:=sl_form s2
 have hx:Hid (FldX (fun b=>b < w.heap.size) w (fa ++ fb) (c1 ++ c2)):=fldx_append (x1.keep (fun b hb=>⟨by have h9:b < K1:=hb;show b < _;omega,rfl⟩)) (x2.keep (fun b hb=>⟨by have h9:b < K2:=hb;show b < _;omega,rfl⟩))
 have hla:(fa ++ fb).length = fa.length + fb.length:=List.length_append
 replace hla:Hid _:=hla
 have ho:Hid (∀ u ∈ c1 ++ c2,u.oneCell' = true):=fun u hu=>(List.mem_append.1 hu).elim (o1 u) (o2 u)
 clear x1 x2
 generalize fa.length = n1 at *
 generalize fb.length = n2 at *
 have hpart:Hid (∀ k:Nat,k < 2→∃ (a:Option Addr) (m c:Nat) (news:List Value),w.cell? ⟨B,k,none⟩ = some (.slice a m c)∧m ≤ c∧c ≤ 9223372036854775807∧szk n1 n2 k + m = szk n1 n2 (k + 1)∧(∀ wr,Nw w wr→Sl w.heap.size wr (.slice a m c) m news)∧news.length = m * 2∧(∀ u ∈ news,u.oneCell' = true)∧csk c1 c2 k ++ news = csk c1 c2 (k + 1)):=fun k hk=>by
  rcases k with _ | _ | k
  ·refine ⟨aa,n1,ac,c1,by rw [← ea];exact cell_blk hB rfl,?_,?_,by simp [szk],fun wr hw=>by rw [← ea];exact (s1.keep (hw.below h1 (fun _ h=>h.elim))).mono h1,l1,o1,by simp [csk]⟩
   ·obtain ⟨a9,c9,e9,⟨h9,_⟩,_⟩:=s1;rw [ea] at e9;cases e9;exact h9
   ·obtain ⟨a9,c9,e9,⟨_,h9⟩,_⟩:=s1;rw [ea] at e9;cases e9;exact h9
  ·refine ⟨ba,n2,bc,c2,by rw [← eb];exact cell_blk hB rfl,?_,?_,by simp [szk],fun wr hw=>by rw [← eb];exact (s2.keep (hw.below h2 (fun _ h=>h.elim))).mono h2,l2,o2,by simp [csk]⟩
   ·obtain ⟨a9,c9,e9,⟨h9,_⟩,_⟩:=s2;rw [eb] at e9;cases e9;exact h9
   ·obtain ⟨a9,c9,e9,⟨_,h9⟩,_⟩:=s2;rw [eb] at e9;cases e9;exact h9
  ·omega
 have hsz:Hid (∀ k:Nat,szk n1 n2 k ≤ 200):=fun k=>by unfold szk;split;omega;split <;> omega
 clear s1 s2 ea eb l1 l2
 go_enter Try.func43,Try.ntmps43
 go_wp2
 go_loopw [11,3] (fun kv sv wr=>∃ k S:Nat,k ≤ 2∧kv = .int .i64 k∧sv = .int .i64 S∧Hid (S = szk n1 n2 k)∧S ≤ 200∧wr = w) (fun kv _ _=>2 - (intOf kv).toNat)
 case atStart=>exact ⟨0,0,by omega,rfl,rfl,rfl,by omega,rfl⟩
 case round =>
  obtain ⟨k,S,hk,rfl,rfl,hS,hS2,hwe⟩:=hrel
  have hwe':=hwe.symm
  subst hwe'
  clear hwe
  by_cases hlt:k < 2
  ·obtain ⟨a,m,c,news,g1,g2,g3,g4,_⟩:=hpart.out k hlt
   have hS':Hid (S + m = szk n1 n2 (k + 1)):=by unfold Hid;rw [← g4,hS.out]
   have hb9:S + m ≤ 200:=by rw [hS'.out];exact hsz.out _
   have hneg:decide ((S:Int) + (m:Int) < 0) = false:=decide_eq_false (by omega)
   clear g4 hS
   go_wp2
   go_roundw
   case rel=>exact ⟨k + 1,S + m,by omega,by go_num,by go_num,hS'.out,hb9,by first | rfl | trivial⟩
   case measure=>simp [intOf];omega
  ·have hk2:k = 2:=by omega
   subst hk2
   have hS3:S = n1 + n2:=hS.out
   have hcg:Hid _:=c_grow S (by omega) (by omega) w
   clear hS
   replace hS3:Hid (S = n1 + n2):=hS3
   go_wp2_with (go_at_call 67;refine Calls.mono hcg.out ?_;rintro e w2 ⟨G,rfl,hown,qn⟩;refine stop_here ?_)
   unfold Hid
   replace hown:Hid (w2.ownsRow w.heap.size 74 2 (.slice (some ⟨w.heap.size,0,none⟩) 0 G) 0 []):=hown
   clear hcg
   go_wp2
   go_loopw [27,6] (fun kv fv wr=>∃ (k:Nat) (va:Option Addr) (vc N:Nat),k ≤ 2∧kv = .int .i64 k∧fv = .slice va N vc∧Hid (N = szk n1 n2 k)∧N ≤ 200∧wr.ownsRow w.heap.size 74 2 (.slice va N vc) N (csk c1 c2 k)∧Nw w wr) (fun kv _ _=>2 - (intOf kv).toNat)
   case atStart=>exact ⟨0,_,_,0,by omega,rfl,rfl,rfl,by omega,hown.out,qn⟩
   case round =>
    obtain ⟨k,va,vc,N,hk,rfl,rfl,hN,hN2,hown,hw⟩:=hrel
    by_cases hlt:k < 2
    ·obtain ⟨a,m,c,news,g1,g2,g3,g4,g5,g6,g7,g8⟩:=hpart.out k hlt
     have hsl:=g5 _ hw
     have g1':wr.cell? ⟨B,k,none⟩ = some (.slice a m c):=by rw [World.cell?_of_block (w:=w) (hw.block _ (heap_lt hB) (fun h=>h))];exact g1
     have hN':Hid (N + m = szk n1 n2 (k + 1)):=by unfold Hid;rw [← g4,hN.out]
     have hb9:N + m ≤ 200:=by rw [hN'.out];exact hsz.out _
     have hsw:=hw.size
     clear g4 g5 g1
     go_wp2_with (at_builtin;refine wpList_append_sl _ rfl _ _ 71 rfl w.heap.size 74 i0 _ 2 32 Try.underlying71 hj hj0 hj1 hj2 rfl (by decide) _ _ _ rfl hown _ _ m _ rfl hsl g6 g7 ?d2 ?d3 ?d4 ?_)
     case d2=>unfold maxLen;omega
     case d3=>omega
     case d4=>omega
     intro v9 w9 hown9 hgrow9 hat9
     have nw9:Nw w w9:=Fr.grown hw hgrow9 (fun q hq=>.inr (hown.lt q hq).1)
     obtain ⟨va9,vc9,hv9⟩:=owns_form hown9
     subst hv9

     replace hown9:Hid (w9.ownsRow w.heap.size 74 2 (.slice va9 (N + m) vc9) (N + m) (csk c1 c2 (k + 1))):=hown9
     clear hgrow9 hat9 hown hsl g6 g7 g8 hN
     go_wp2
     go_roundw
     case rel=>exact ⟨k + 1,va9,vc9,N + m,by omega,by go_num,by go_num,hN'.out,hb9,hown9.out,nw9⟩
     case measure=>simp [intOf];omega
    ·have hk2:k = 2:=by omega
     subst hk2
     have hN3:N = n1 + n2:=hN.out
     have hfin:Hid (FldS wr.heap.size wr (.slice va N vc) (fa ++ fb)):=by
      refine ⟨c1 ++ c2,?_,hx.out.keep (fun b hb=>⟨by have h9:b < w.heap.size:=hb;have:=hw.size;show b < _;omega,hw.block b hb (fun h=>h)⟩),ho.out⟩
      rw [hla.out,← hN3]
      exact sl_of_owns hown
     clear hown hN hN3
     go_wp2
     go_ret
     exact ⟨_,rfl,hfin.out,hw⟩

end Go.Proofs.Ytghlilncdfiojaa
