/-
  The document's Image: a label's bytes.
-/
import Derived.Test.YtghlilncdfiojaaThX7S
import Derived.Test.YtghlilncdfiojaaLibS
import Derived.Test.YtghlilncdfiojaaThL1S
namespace Go.Proofs.Ytghlilncdfiojaa
set_option linter.unusedVariables false
set_option linter.unusedSimpArgs false
set_option maxRecDepth 20000
open Go.RowKit

theorem sl_one {w:World} {G:Nat} {x:Value} (h:w.heap[G]? = some (.cells #[x] 5 (0,0))):Sl w.heap.size w (.slice (some ⟨G,0,none⟩) 1 1) 1 [x] :=
 ⟨_,1,rfl,⟨Nat.le_refl _,by decide⟩,(fun h=>by cases h),fun i c hi=>⟨G,0,rfl,heap_lt h,cell_blk h (by simpa using hi)⟩⟩

theorem be1 (n:Nat) (h:n < 256):(be 1 n).map bv = [.int .u8 (n:Int)]:=by
 simp [be,bv]
 omega

theorem labB_take {d:Int} {xs:List Cat} {k:Nat} (h:k < xs.length):labB d (xs.take (k + 1)) = labB d (xs.take k) ++ (be 8 xs[k].1.toNat ++ be 1 xs[k].2.toNat):=by
 unfold labB pairB
 rw [List.take_succ_eq_append_getElem h,List.flatMap_append,List.append_assoc]
 simp

set_option maxRecDepth 100000 in
set_option maxHeartbeats 6400000 in
theorem c_rtext {X:Nat→Prop} {v:Value} {d:Int} {xs:List Cat} (w:World) (h:CSl X w v xs) (hr:Rgt d xs) :
  Calls Try.prog 46 #[labV d v] w fun e w'=>∃ u,e = .returned u∧BSl (fun b=>w.heap.size ≤ b) w' u (labB d xs)∧Nw w w':=by
 obtain ⟨i0,hi,hz0,hz1,hz2⟩:=info_parts Try.infoB1
 obtain ⟨ao,cap,rfl,ha1,ha2⟩:=h.form
 obtain ⟨nd,hnd⟩:∃ nd:Nat,d = (nd:Int):=⟨d.toNat,by have:=hr.lo;omega⟩
 subst hnd
 generalize hd0:((nd:Nat):Int) = d at *
 have hd1:1 ≤ d:=hr.lo
 have hd4:d ≤ 4:=hr.hi
 have hx6:xs.length ≤ 6:=hr.len
 have hfit:Hid (FitsB 1 xs):=fits_rgt hr
 clear hr
 obtain ⟨W,hW⟩:∃ W,Hid (W = w.alloc (.cells #[.int .i64 d,.slice ao xs.length cap] 26)):=⟨_,rfl⟩
 have nW:Nw w W:=by rw [hW.out];exact nw_alloc (nw_refl w) _
 have hA:W.heap[w.heap.size]? = some (.cells #[.int .i64 d,.slice ao xs.length cap] 26 (0,0)):=by rw [hW.out];exact heap_alloc_new w _
 have ht:=h.nw nW
 clear h
 have hcv:∀ w,(convert 3 5 (.int .i64 d)).run Try.prog w = .ok (.int .u8 d) w:=fun w=>by
  simp [go_sem]
  simp [IntKind.wrap,IntKind.signed,IntKind.bits]
  omega
 have hone0:Hid ((labB d (xs.take 0)).map bv = [.int .u8 d]):=by
  unfold Hid labB pairB
  rw [List.take_zero,List.flatMap_nil,List.append_nil,be1 _ (by omega)]
  congr 2
  omega
 have hl0:∀ k,k ≤ xs.length→(labB d (xs.take k)).length = 1 + 9 * k:=fun k hk=>by rw [labB_length,List.length_take,Nat.min_eq_left hk]
 replace hl0:Hid _:=hl0
 obtain ⟨nx,hnx⟩:∃ n,Hid (xs.length = n):=⟨_,rfl⟩
 rw [hnx.out] at hA hW ha1 hx6
 have hd0':Hid (((nd:Nat):Int) = d):=hd0
 clear hd0
 unfold labV
 rw [hnx.out]
 have a0:W.cell? ⟨w.heap.size,0,none⟩ = some (.int .i64 d):=cell_blk hA rfl
 have a1:W.cell? ⟨w.heap.size,1,none⟩ = some (.slice ao nx cap):=cell_blk hA rfl
 obtain ⟨W1,hW1⟩:∃ W1,Hid (W1 = W.alloc (.cells #[.int .u8 d] 5)):=⟨_,rfl⟩
 have n1:Nw W W1:=by rw [hW1.out];exact nw_alloc (nw_refl _) _
 have hr1:W1.ownsRow W.heap.size 5 1 (.slice (some ⟨W.heap.size,0,none⟩) 1 1) 1 ((labB d (xs.take 0)).map bv):=by
  rw [hone0.out]
  exact ⟨rfl,.inr ⟨W.heap.size,1,#[.int .u8 d],rfl,Nat.le_refl _,by rw [hW1.out];exact heap_alloc_new W _,Nat.le_refl _,by decide,rfl,by simp⟩⟩
 replace hr1:Hid _:=hr1
 go_enter Try.func46,Try.ntmps46
 go_upto_region 1 with fail
 rw [← hW.out]
 go_upto_region 2 with fail
 rw [← hW1.out]
 replace hA:=(n1.block _ (heap_lt hA) (fun h=>h)).trans hA
 clear a0 a1 hcv
 have a1:W1.cell? ⟨w.heap.size,1,none⟩ = some (.slice ao nx cap):=cell_blk hA rfl
 go_wp2
 clear a1
 go_loopw [15,3] (fun kv ov wr=>∃ (k n:Nat) (va:Option Addr) (vc:Nat),k ≤ nx∧kv = .int .i64 k∧ov = .slice va n vc∧Hid (n = 1 + 9 * k)∧wr.ownsRow W.heap.size 5 1 (.slice va n vc) n ((labB d (xs.take k)).map bv)∧Nw W wr) (fun kv _ _=>nx - (intOf kv).toNat)
 case atStart=>exact ⟨0,1,_,_,Nat.zero_le _,rfl,rfl,rfl,hr1.out,n1⟩
 case round =>
  obtain ⟨k,n,va,vc,hkn,rfl,rfl,hn,hown,hw⟩:=hrel
  by_cases hlt:k < nx
  ·have hkx:k < xs.length:=by rw [hnx.out];exact hlt
   obtain ⟨q,off,e1,_,d1,d2⟩:=(ht.nw hw).get k hkx
   subst e1
   obtain ⟨f1,f2,f3,f4⟩:=hfit.out k hkx
   have hstep:Hid _:=labB_take (d:=d) hkx
   obtain ⟨n1',hn1⟩:∃ m:Nat,xs[k].1 = (m:Int):=⟨xs[k].1.toNat,by omega⟩
   obtain ⟨l1,hl1⟩:∃ m:Nat,xs[k].2 = (m:Int):=⟨xs[k].2.toNat,by omega⟩
   rw [hn1] at d1 f2
   rw [hl1] at d2 f4
   replace hstep:Hid (labB d (xs.take (k + 1)) = labB d (xs.take k) ++ (be 8 n1' ++ be 1 l1)):=by have:=hstep.out;rw [hn1,hl1] at this;unfold Hid;simpa using this
   have hn64:n1' < 18446744073709551616:=by simpa using f2
   have hl256:l1 < 256:=by simpa using f4
   clear hn1 hl1 f1 f2 f3 f4
   replace hstep:Hid ((labB d (xs.take (k + 1))).map bv = ((labB d (xs.take k)).map bv ++ (be 8 n1').map bv) ++ [.int .u8 (l1:Int)]):=by unfold Hid;rw [hstep.out,List.map_append,List.map_append,be1 _ hl256,List.append_assoc]
   obtain ⟨Wl,hWl⟩:∃ Wl,Hid (Wl = wr.alloc (.cells #[.int .u64 (n1':Int),.int .i64 (l1:Int)] 52)):=⟨_,rfl⟩
   have nl:Nw wr Wl:=by rw [hWl.out];exact nw_alloc (nw_refl _) _
   have hL:Wl.heap[wr.heap.size]? = some (.cells #[.int .u64 (n1':Int),.int .i64 (l1:Int)] 52 (0,0)):=by rw [hWl.out];exact heap_alloc_new wr _
   have hLo:Hid (¬ (Value.slice va n vc).ownBlock = some wr.heap.size):=fun e=>by have:=(hown.lt _ e).2;omega
   replace hown:=owns_nw hown nl
   have hcn:Hid (Calls Try.prog 47 #[.int .u64 (n1':Int),.int .i64 8] Wl fun e w'=>∃ v',e = .returned (.tuple #[v',.bool (decide (n1' < 256 ^ 8))])∧Sl w'.heap.size w' v' 8 ((be 8 n1').map bv)∧Below Wl.heap.size Wl w'):=c_refNumber 8 n1' Wl (by omega) hn64
   have hnn:Hid (n + 8 + 1 = 1 + 9 * (k + 1)):=by have:=hn.out;unfold Hid;omega
   have hn100:n ≤ 100:=by have:=hn.out;omega
   have nWl:Nw W Wl:=nw_trans hw nl
   replace hown:Hid (Wl.ownsRow W.heap.size 5 1 (.slice va n vc) n ((labB d (xs.take k)).map bv)):=hown
   clear hn hA hw
   go_upto_region 5 with fail
   rw [← hWl.out]
   clear hWl d1 d2 nl
   generalize wr.heap.size = L at *
   have a0:Wl.cell? ⟨L,0,none⟩ = some (.int .u64 (n1':Int)):=cell_blk hL rfl
   go_wp2_with (go_at_call 47;refine Calls.mono hcn.out ?_;rintro e V ⟨u8,rfl,hb8,qb⟩;refine stop_here ?_)
   unfold Hid
   have nq:Nw Wl V:=fr_of_below (S:=fun _=>False) qb
   replace hL:=(nq.block _ (heap_lt hL) (fun h=>h)).trans hL
   replace hown:=owns_nw hown.out nq
   have nV:Nw W V:=nw_trans nWl nq
   have hLV:L < V.heap.size:=heap_lt hL
   have hcv:∀ w,(convert 3 5 (.int .i64 (l1:Int))).run Try.prog w = .ok (.int .u8 (l1:Int)) w:=fun w=>by
    simp [go_sem]
    simp [IntKind.wrap,IntKind.signed,IntKind.bits]
    omega
   clear hcn qb nq a0 nWl
   generalize n1' = n1 at *
   go_upto_region 6 with fail
   have hS:V.drew.cell? ⟨L,1,none⟩ = some (.int .i64 (l1:Int)):=cell_blk (show V.drew.heap[L]? = _ from hL) rfl
   clear hL
   refine wp_region_fork [] 7 1 ([(0,true),(1,true),(3,true),(4,true),(5,true)],[(2,[(6,false)]),(6,[(2,false)])]) (fun w':World=>w'.cell? ⟨L,1,none⟩ = some (.int .i64 (l1:Int))) _ (by kernel_rfl) (by kernel_rfl) ?_ (fun _ _ h=>h)
   refine fork_in2 (d:=0) ?_
   refine ord_quietL _ ?_ rfl hS rfl ?_ ?_
   rotate_left
   ·rintro w' hn;go_simp;rfl
   simp only [pL,List.set]
   refine ord_quietL _ ?_ rfl hS rfl ?_ ?_
   rotate_left
   ·rintro w' hn;go_simp;rfl
   simp only [pL,List.set]
   refine ord_quietL _ ?_ rfl hS rfl ?_ ?_
   rotate_left
   ·rintro w' hn;go_simp;rfl
   simp only [pL,List.set]
   refine ord_quietL _ ?_ rfl hS rfl ?_ ?_
   rotate_left
   ·rintro w' hn;have g0:w'.cell? ⟨L,1,none⟩ = some (.int .i64 (l1:Int)):=hn;go_simp;rfl
   simp only [pL,List.set]
   refine ord_quietL _ ?_ rfl hS rfl ?_ ?_
   rotate_left
   ·rintro w' hn;go_simp;rfl
   simp only [pL,List.set]
   refine fork_two _ _ rfl rfl ?w1 ?w2
   case w1 =>
    intro K1 hK1
    refine wpList_append_sl _ rfl _ _ 28 rfl W.heap.size 5 i0 _ 1 1 Try.underlying28 hi hz0 hz1 hz2 rfl (by decide) (.slice va n vc) n _ rfl hown _ u8 8 _ rfl hb8 (by simp [be_length]) (bv_oneCell _) (by unfold maxLen;omega) (by omega) ?_ ?_
    ·have:=nV.size;exact this
    intro v9 w9 hown9 hgrow9 hat9
    have hS9:w9.cell? ⟨L,1,none⟩ = some (.int .i64 (l1:Int)):=(World.cell?_of_block (w:=V.drew) (hgrow9.block L hLV (fun e=>hLo.out e.symm))).trans hS
    go_wp2
    refine hK1 _ _ hS9 ?_
    clear hK1 K1 hS
    refine fork_leaf ?_
    refine ord_actL _ rfl (fun K1 hK1=>?_)
    have nZ0:Nw W w9:=Fr.grown (Fr.drew nV) hgrow9 (fun q hq=>.inr (hown.lt q hq).1)
    obtain ⟨Z,hZ⟩:∃ Z,Hid (Z = w9.alloc (.cells #[.int .u8 (l1:Int)] 5)):=⟨_,rfl⟩
    have nZ:Nw W Z:=by rw [hZ.out];exact nw_alloc nZ0 _
    have nZ1:Nw w9 Z:=by rw [hZ.out];exact nw_alloc (nw_refl _) _
    have hlit0:Z.heap[w9.heap.size]? = some (.cells #[.int .u8 (l1:Int)] 5 (0,0)):=by rw [hZ.out];exact heap_alloc_new w9 _
    have hSZ:Z.cell? ⟨L,1,none⟩ = some (.int .i64 (l1:Int)):=(World.cell?_of_block (w:=w9) (nZ1.block L (World.block_lt_of_cell? w9 _ hS9) (fun h=>h))).trans hS9
    generalize hG:w9.heap.size = G at *
    have hlit:=sl_one hlit0
    replace hown9:=owns_nw hown9 nZ1
    go_wp2
    rw [← hZ.out]
    refine hK1 _ _ hSZ ?_
    clear hK1 K1 hS9 hSZ hZ hG nZ0 nZ1 hlit0 hgrow9 hat9 hown
    refine ord_tail ?_
    simp only [List.drop_succ_cons,List.drop_zero]
    refine wpList_append_sl _ rfl _ _ 28 rfl W.heap.size 5 i0 _ 1 1 Try.underlying28 hi hz0 hz1 hz2 rfl (by decide) v9 (n + 8) _ rfl hown9 _ (.slice (some ⟨G,0,none⟩) 1 1) 1 _ rfl hlit (by simp [be_length]) (by simp [Value.oneCell']) (by unfold maxLen;omega) (by omega) ?_ ?_
    ·have:=nZ.size;exact this
    intro v10 w10 hown10 hgrow10 hat10
    obtain ⟨va10,vc10,hv10⟩:=owns_form hown10
    subst hv10
    have nw10:Hid (Nw W w10):=Fr.grown nZ hgrow10 (fun q hq=>.inr (hown9.lt q hq).1)
    replace hown10:Hid (w10.ownsRow W.heap.size 5 1 (.slice va10 (n + 8 + 1) vc10) (n + 8 + 1) ((labB d (xs.take (k + 1))).map bv)):=by unfold Hid;rw [hstep.out];simpa using hown10
    clear hown9 hlit nZ hgrow10 hat10
    go_wp2
    go_roundw
    case rel=>exact ⟨k + 1,n + 8 + 1,va10,vc10,by omega,by go_num,rfl,hnn.out,hown10.out,nw10.out⟩
    case measure=>simp [intOf];omega
   case w2 =>
    intro K1 hK1
    obtain ⟨Z0,hZ⟩:∃ Z,Hid (Z = (V.alloc (.cells #[.int .u8 (l1:Int)] 5)).drew):=⟨_,rfl⟩
    have nZ1:Nw V Z0:=by rw [hZ.out];exact Fr.drew (nw_alloc (nw_refl _) _)
    have hlit0:Z0.heap[V.heap.size]? = some (.cells #[.int .u8 (l1:Int)] 5 (0,0)):=by rw [hZ.out];exact heap_alloc_new V _
    have hSZ:Z0.cell? ⟨L,1,none⟩ = some (.int .i64 (l1:Int)):=(World.cell?_of_block (w:=V) (nZ1.block L hLV (fun h=>h))).trans hS
    have hG9:Hid (∀ q,(Value.slice va n vc).ownBlock = some q→q < V.heap.size):=fun q hq=>(hown.lt q hq).2
    replace hown:=owns_nw hown nZ1
    have hb9:Sl Z0.heap.size Z0 u8 8 ((be 8 n1).map bv):=(hb8.keep (nZ1.below (Nat.le_refl _) (fun _ h=>h.elim))).mono nZ1.size
    have nZ0:Nw W Z0:=nw_trans nV nZ1
    generalize hG:V.heap.size = G at *
    go_wp2
    first | rw [hG,← hZ.out] | rw [← hZ.out]
    refine hK1 _ _ hSZ ?_
    clear hK1 K1 hS hZ hb8
    refine fork_leaf ?_
    refine ord_actL _ rfl (fun K1 hK1=>?_)
    refine wpList_append_sl _ rfl _ _ 28 rfl W.heap.size 5 i0 _ 1 1 Try.underlying28 hi hz0 hz1 hz2 rfl (by decide) (.slice va n vc) n _ rfl hown _ u8 8 _ rfl hb9 (by simp [be_length]) (bv_oneCell _) (by unfold maxLen;omega) (by omega) ?_ ?_
    ·have:=nZ0.size;exact this
    intro v9 w9 hown9 hgrow9 hat9
    have hlit1:w9.heap[G]? = some (.cells #[.int .u8 (l1:Int)] 5 (0,0)):=(hgrow9.block G (heap_lt hlit0) (fun e=>by have:=hG9.out G e.symm;omega)).trans hlit0
    have hS9:w9.cell? ⟨L,1,none⟩ = some (.int .i64 (l1:Int)):=(World.cell?_of_block (w:=Z0) (hgrow9.block L (World.block_lt_of_cell? Z0 _ hSZ) (fun e=>hLo.out e.symm))).trans hSZ
    have nZ:Nw W w9:=Fr.grown nZ0 hgrow9 (fun q hq=>.inr (hown.lt q hq).1)
    have hlit:=sl_one hlit1
    go_wp2
    refine hK1 _ _ hS9 ?_
    clear hK1 K1 hS9 hSZ hG hlit0 hlit1 hgrow9 hat9 hown hb9 nZ0 nZ1 hG9
    refine ord_tail ?_
    simp only [List.drop_succ_cons,List.drop_zero]
    refine wpList_append_sl _ rfl _ _ 28 rfl W.heap.size 5 i0 _ 1 1 Try.underlying28 hi hz0 hz1 hz2 rfl (by decide) v9 (n + 8) _ rfl hown9 _ (.slice (some ⟨G,0,none⟩) 1 1) 1 _ rfl hlit (by simp [be_length]) (by simp [Value.oneCell']) (by unfold maxLen;omega) (by omega) ?_ ?_
    ·have:=nZ.size;exact this
    intro v10 w10 hown10 hgrow10 hat10
    obtain ⟨va10,vc10,hv10⟩:=owns_form hown10
    subst hv10
    have nw10:Hid (Nw W w10):=Fr.grown nZ hgrow10 (fun q hq=>.inr (hown9.lt q hq).1)
    replace hown10:Hid (w10.ownsRow W.heap.size 5 1 (.slice va10 (n + 8 + 1) vc10) (n + 8 + 1) ((labB d (xs.take (k + 1))).map bv)):=by unfold Hid;rw [hstep.out];simpa using hown10
    clear hown9 hlit nZ hgrow10 hat10
    go_wp2
    go_roundw
    case rel=>exact ⟨k + 1,n + 8 + 1,va10,vc10,by omega,by go_num,rfl,hnn.out,hown10.out,nw10.out⟩
    case measure=>simp [intOf];omega
  ·have hke:Hid (k = xs.length):=by unfold Hid;rw [hnx.out];omega
   have hfin:Hid (BSl (fun b=>w.heap.size ≤ b) wr (.slice va n vc) (labB d xs)):=by
    rw [hke.out,List.take_length] at hown
    have hle:n = (labB d xs).length:=by rw [labB_length,← hke.out];exact hn.out
    have hs:=bsl_of_own (bs:=labB d xs) (v:=.slice va n vc) (by rw [← hle];exact hown)
    exact hs.mono (fun b hb _=>Nat.le_trans nW.size hb)
   clear hown
   go_wp2
   go_ret
   exact ⟨_,rfl,hfin.out,nw_trans nW hw⟩
end Go.Proofs.Ytghlilncdfiojaa
