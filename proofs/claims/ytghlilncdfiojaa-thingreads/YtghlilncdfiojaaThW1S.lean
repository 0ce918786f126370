/-
  Same: what isn't a list.
-/
import Derived.Laws.StructEq
import Derived.ChangeKeysEq
import Derived.Test.YtghlilncdfiojaaThMS
namespace Go.Proofs.Ytghlilncdfiojaa
set_option linter.unusedVariables false
set_option linter.unusedSimpArgs false
set_option maxRecDepth 20000
open Go.RowKit

def flZ:List Value :=
 [.int .u64 0,.int .i64 0,.int .i64 0,.int .i64 0,.int .i64 0,.int .i64 0,.int .u64 0,.int .u64 0,.int .u64 0,.int .u64 0,.int .i64 0,.int .i64 0,.bool false,.int .u64 0,
 .int .u64 0,.int .u64 0,.int .u64 0,.int .u64 0,.int .u64 0,.int .u64 0,.int .u64 0,.int .u64 0]
theorem Try.zeroFl:(Try.prog.info? 62).bind (·.zero) = some (.agg flZ.toArray):=by kernel_rfl

def rgC (t:Th):List Value:=[.int .u64 t.r0,.int .u64 t.r1,.int .u64 t.r2,.int .u64 t.r3]
def slC (t:Th):List Value:=[.int .u64 t.s0,.int .u64 t.s1,.int .u64 t.s2,.int .u64 t.s3,.int .u64 t.s4,.int .u64 t.s5,.int .u64 t.s6,.int .u64 t.s7]
def rgV (t:Th):Value:=.agg (rgC t).toArray
def slV (t:Th):Value:=.agg (slC t).toArray
def flV (t:Th):Value:=.agg (flC t).toArray

theorem builtFl (t:Th):Try.prog.built 62 [(0,.int .u64 t.id),(1,.int .i64 t.kind),(2,.int .i64 t.quota),(3,.int .i64 t.df),(4,.int .i64 t.cdf),(5,.int .i64 t.next),(6,rgV t),(7,.int .i64 t.minted),(8,.int .i64 t.boot),(9,.bool t.halted),(10,.int .u64 t.value),(11,slV t)] = some (flC t).toArray:=by kernel_rfl

set_option maxHeartbeats 1600000 in
theorem c_flatOf (t:Th) (uL uC uK uD:Value) (w:World) :
  Calls Try.prog 35 #[thV t uL uC uK uD] w fun e w'=>e = .returned (flV t)∧Nw w w':=by
 obtain ⟨W,hW⟩:∃ W,Hid (W = w.alloc (.cells (thC t uL uC uK uD).toArray 34)):=⟨_,rfl⟩
 have nW:Nw w W:=by rw [hW.out];exact nw_alloc (nw_refl w) _
 have hA:W.heap[w.heap.size]? = some (.cells (thC t uL uC uK uD).toArray 34 (0,0)):=by rw [hW.out];exact heap_alloc_new w _
 have a0:W.cell? ⟨w.heap.size,0,none⟩ = some (.int .u64 t.id):=cell_blk hA rfl
 have a1:W.cell? ⟨w.heap.size,1,none⟩ = some (.int .i64 t.kind):=cell_blk hA rfl
 have a2:W.cell? ⟨w.heap.size,2,none⟩ = some (.int .i64 t.df):=cell_blk hA rfl
 have a4:W.cell? ⟨w.heap.size,4,none⟩ = some (.int .i64 t.cdf):=cell_blk hA rfl
 have a6:W.cell? ⟨w.heap.size,6,none⟩ = some (.int .i64 t.quota):=cell_blk hA rfl
 have a7:W.cell? ⟨w.heap.size,7,none⟩ = some (.int .i64 t.next):=cell_blk hA rfl
 have a14:W.cell? ⟨w.heap.size,14,none⟩ = some (.int .i64 t.minted):=cell_blk hA rfl
 have a15:W.cell? ⟨w.heap.size,15,none⟩ = some (.int .i64 t.boot):=cell_blk hA rfl
 have a16:W.cell? ⟨w.heap.size,16,none⟩ = some (.bool t.halted):=cell_blk hA rfl
 have a17:W.cell? ⟨w.heap.size,17,none⟩ = some (.int .u64 t.value):=cell_blk hA rfl
 have h4:W.rangeAt w.heap.size 10 (rgC t):=range_blk hA 10 _ (fun j v hj=>by rcases j with _ | _ | _ | _ | j <;> first | exact hj | (simp [rgC] at hj;done))
 have h8:W.rangeAt w.heap.size 18 (slC t):=range_blk hA 18 _ (fun j v hj=>by rcases j with _ | _ | _ | _ | _ | _ | _ | _ | j <;> first | exact hj | (simp [slC] at hj;done))
 have hs:W.heap.size = w.heap.size + 1:=by rw [hW.out];simp
 obtain ⟨W2,hW2⟩:∃ W2,Hid (W2 = W.alloc (.cells flZ.toArray 62)):=⟨_,rfl⟩
 have n2:Nw W W2:=by rw [hW2.out];exact nw_alloc (nw_refl W) _
 have hB:W2.heap[W.heap.size]? = some (.cells flZ.toArray 62 (0,0)):=by rw [hW2.out];exact heap_alloc_new W _
 have keep:∀ k v,W.cell? ⟨w.heap.size,k,none⟩ = some v→W2.cell? ⟨w.heap.size,k,none⟩ = some v:=fun k v h=>by rw [World.cell?_of_block (w:=W) (n2.block _ (heap_lt hA) (fun h=>h))];exact h
 replace a0:=keep _ _ a0;replace a1:=keep _ _ a1;replace a2:=keep _ _ a2;replace a4:=keep _ _ a4;replace a6:=keep _ _ a6;replace a7:=keep _ _ a7;replace a14:=keep _ _ a14;replace a15:=keep _ _ a15;replace a16:=keep _ _ a16;replace a17:=keep _ _ a17
 replace h4:W2.rangeAt w.heap.size 10 (rgC t):=fun j v hj=>keep _ _ (h4 j v hj)
 replace h8:W2.rangeAt w.heap.size 18 (slC t):=fun j v hj=>keep _ _ (h8 j v hj)
 clear keep
 have hfin:(W2.setRow W.heap.size (flC t).toArray).rangeAt W.heap.size 0 (flC t)∧Nw w (W2.setRow W.heap.size (flC t).toArray):=⟨range_all (setRow_heap _ _ _ _ _ _ hB),Fr.setRow (nw_trans nW n2) (.inr nW.size) _⟩
 replace hfin:Hid _:=hfin
 go_enter Try.func35,Try.ntmps35
 go_upto_region 1 with (first | (refine wpList_box_agg rfl 34 _ rfl (thV t uL uC uK uD) _ rfl rfl ?_;rw [← hW.out]) | (refine wpList_alloc_agg rfl 62 rfl _ Try.zeroFl ?_;rw [← hW2.out]))
 go_wp2_with (first
  | (refine wpList_load_as rfl 29 _ rfl w.heap.size 10 rfl (rgV t) _ rfl h4 Try.row4 Try.size4 ?_)
  | (refine wpList_load_as rfl 32 _ rfl w.heap.size 18 rfl (slV t) _ rfl h8 Try.row8 Try.size8 ?_;refine stop_here ?_))
 unfold Hid
 refine wpList_build_as rfl 62 _ rfl (flV t) (flC t).toArray rfl ?z ?_
 case z =>
  simp only [List.map_cons,List.map_nil,Act.eval]
  exact builtFl t
 refine wpList_store_all rfl 62 _ _ rfl W.heap.size (by rw [hs];rfl) (flV t) rfl (flC t) rfl flZ 62 hB rfl (by unfold flC;simp [Value.oneCell']) Try.sizeF ?_
 go_wp2
 refine bodyPost_ret (results_cell1 rfl _ W.heap.size _ (flV t) rfl (by rw [hs];rfl) hfin.out.1 Try.rowF Try.sizeF) rfl ?_
 exact ⟨rfl,hfin.out.2⟩

theorem Try.cells64:Try.prog.cellsOf 23 = 1:=by kernel_rfl
theorem Try.cellsSlot:Try.prog.cellsOf 31 = 2:=by kernel_rfl

theorem eq4 (d:Nat) (a0 a1 a2 a3 b0 b1 b2 b3:Int) (w:World) :
  (Op.equalIn (d + 2) 29 (.agg #[.int .u64 a0,.int .u64 a1,.int .u64 a2,.int .u64 a3]) (.agg #[.int .u64 b0,.int .u64 b1,.int .u64 b2,.int .u64 b3])).run Try.prog w = .ok (a0 == b0 && (a1 == b1 && (a2 == b2 && a3 == b3))) w:=by
 obtain ⟨i,hi⟩:=info_of_underlying (P:=Try.prog) Try.underlying23
 rw [run_equalIn_array w (d + 1) _ _ Try.underlying29 hi,Try.cells64,show List.range 4 = [0,1,2,3] from rfl]
 simp [go_sem,Op.eqItems]
 by_cases h0:a0 = b0 <;> by_cases h1:a1 = b1 <;> by_cases h2:a2 = b2 <;> by_cases h3:a3 = b3 <;> simp [h0,h1,h2,h3]

theorem eq8 (d:Nat) (a0 a1 a2 a3 a4 a5 a6 a7 b0 b1 b2 b3 b4 b5 b6 b7:Int) (w:World) :
  (Op.equalIn (d + 3) 32 (.agg #[.int .u64 a0,.int .u64 a1,.int .u64 a2,.int .u64 a3,.int .u64 a4,.int .u64 a5,.int .u64 a6,.int .u64 a7]) (.agg #[.int .u64 b0,.int .u64 b1,.int .u64 b2,.int .u64 b3,.int .u64 b4,.int .u64 b5,.int .u64 b6,.int .u64 b7])).run Try.prog w
   = .ok ((a0 == b0 && a1 == b1) && ((a2 == b2 && a3 == b3) && ((a4 == b4 && a5 == b5) && (a6 == b6 && a7 == b7)))) w:=by
 obtain ⟨i,hi⟩:=info_of_underlying (P:=Try.prog) Try.underlying31
 rw [run_equalIn_array w (d + 2) _ _ Try.underlying32 hi,Try.cellsSlot,show List.range 4 = [0,1,2,3] from rfl]
 simp [go_sem,Op.eqItems]
 by_cases h0:a0 = b0
 ·by_cases h1:a1 = b1
  ·by_cases h2:a2 = b2
   ·by_cases h3:a3 = b3
    ·by_cases h4:a4 = b4
     ·by_cases h5:a5 = b5
      ·by_cases h6:a6 = b6
       ·by_cases h7:a7 = b7 <;> simp [h0,h1,h2,h3,h4,h5,h6,h7]
       ·simp [h0,h1,h2,h3,h4,h5,h6]
      ·simp [h0,h1,h2,h3,h4,h5]
     ·simp [h0,h1,h2,h3,h4]
    ·simp [h0,h1,h2,h3]
   ·simp [h0,h1,h2]
  ·simp [h0,h1]
 ·simp [h0]

def e4 (t u:Th):Bool:=t.r0 == u.r0 && (t.r1 == u.r1 && (t.r2 == u.r2 && t.r3 == u.r3))
def e8 (t u:Th):Bool:=(t.s0 == u.s0 && t.s1 == u.s1) && ((t.s2 == u.s2 && t.s3 == u.s3) && ((t.s4 == u.s4 && t.s5 == u.s5) && (t.s6 == u.s6 && t.s7 == u.s7)))
def eFl (t u:Th):Bool:=t.id == u.id && (t.kind == u.kind && (t.quota == u.quota && (t.df == u.df && (t.cdf == u.cdf && (t.next == u.next && (e4 t u && (t.minted == u.minted && (t.boot == u.boot && (t.halted == u.halted && (t.value == u.value && e8 t u))))))))))

theorem eFl_iff (t u:Th):eFl t u = true↔flC t = flC u:=by simp [eFl,e4,e8,flC,and_assoc]

theorem run_eq_flat (t u:Th) (w:World):(binOp .eql 62 (flV t) (flV u)).run Try.prog w = .ok (.bool (eFl t u)) w:=by
 have k4:∀ d w,(Op.equalIn (d + 2) 29 (.agg #[.int .u64 t.r0,.int .u64 t.r1,.int .u64 t.r2,.int .u64 t.r3]) (.agg #[.int .u64 u.r0,.int .u64 u.r1,.int .u64 u.r2,.int .u64 u.r3])).run Try.prog w = .ok (e4 t u) w:=fun d w=>eq4 d _ _ _ _ _ _ _ _ w
 have k8:∀ d w,(Op.equalIn (d + 3) 32 (.agg #[.int .u64 t.s0,.int .u64 t.s1,.int .u64 t.s2,.int .u64 t.s3,.int .u64 t.s4,.int .u64 t.s5,.int .u64 t.s6,.int .u64 t.s7]) (.agg #[.int .u64 u.s0,.int .u64 u.s1,.int .u64 u.s2,.int .u64 u.s3,.int .u64 u.s4,.int .u64 u.s5,.int .u64 u.s6,.int .u64 u.s7])).run Try.prog w = .ok (e8 t u) w:=fun d w=>eq8 d _ _ _ _ _ _ _ _ _ _ _ _ _ _ _ _ w
 unfold flV flC eFl
 simp [go_sem,k4,k8]
 by_cases h0:t.id = u.id
 ·by_cases h1:t.kind = u.kind
  ·by_cases h2:t.quota = u.quota
   ·by_cases h3:t.df = u.df
    ·by_cases h4:t.cdf = u.cdf
     ·by_cases h5:t.next = u.next
      ·by_cases h6:e4 t u = true
       ·by_cases h7:t.minted = u.minted
        ·by_cases h8:t.boot = u.boot
         ·by_cases h9:t.halted = u.halted
          ·by_cases h10:t.value = u.value
           ·by_cases h11:e8 t u = true
            ·simp [h0,h1,h2,h3,h4,h5,h6,h7,h8,h9,h10,h11]
            ·have h11:e8 t u = false:=by simpa using h11
             simp [h0,h1,h2,h3,h4,h5,h6,h7,h8,h9,h10,h11]
           ·simp [h0,h1,h2,h3,h4,h5,h6,h7,h8,h9,h10]
          ·simp [h0,h1,h2,h3,h4,h5,h6,h7,h8,h9]
         ·simp [h0,h1,h2,h3,h4,h5,h6,h7,h8]
        ·simp [h0,h1,h2,h3,h4,h5,h6,h7]
       ·have h6:e4 t u = false:=by simpa using h6
        simp [h0,h1,h2,h3,h4,h5,h6]
      ·simp [h0,h1,h2,h3,h4,h5]
     ·simp [h0,h1,h2,h3,h4]
    ·simp [h0,h1,h2,h3]
   ·simp [h0,h1,h2]
  ·simp [h0,h1]
 ·simp [h0]
end Go.Proofs.Ytghlilncdfiojaa
