/-
  ThingReads' walk.
-/
import Derived.Test.YtghlilncdfiojaaThU3S
import Derived.Test.YtghlilncdfiojaaThC4S
import Derived.Test.YtghlilncdfiojaaThL1S
namespace Go.Proofs.Ytghlilncdfiojaa
set_option linter.unusedVariables false
set_option linter.unusedSimpArgs false
set_option maxRecDepth 20000
open Go.RowKit

set_option maxRecDepth 100000 in
set_option maxHeartbeats 6400000 in
theorem c_lreads {v:Value} {bs:List UInt8} (w:World) (hx:Sl w.heap.size w v bs.length (bs.map bv)) (hm:bs.length ≤ 140737488351232) :
  Calls Try.prog 6 #[v] w fun e w'=>e = .returned (.bool true)∧Nw w w':=by
 obtain ⟨i0,hi,hz0,hz1,hz2⟩:=info_parts Try.infoB1
 replace hx:Hid (Sl w.heap.size w v bs.length (bs.map bv)):=hx
 have hxa:Sl w.heap.size (w.alloc (.cells #[] 5)) v bs.length (bs.map bv):=hx.out.keep ((nw_alloc (nw_refl w) _).below (Nat.le_refl _) (fun _ h=>h.elim))
 have hg2:(w.alloc (.cells #[] 5)).heap[w.heap.size]? = some (.cells #[] 5 (0,0)):=heap_alloc_new w _
 have nL:Nw w (w.alloc (.cells #[] 5)):=nw_alloc (nw_refl _) _
 go_enter Try.func6,Try.ntmps6
 go_upto_region 1 with fail
 go_wp2_with (at_builtin;refine wpList_append_new _ rfl _ _ 28 rfl 5 i0 _ 1 1 Try.underlying28 hi hz0 hz1 hz2 rfl (by decide) _ rfl hg2 w.heap.size v bs.length (bs.map bv) rfl hxa (by simp) (bv_oneCell bs) (by unfold maxLen;omega) (by omega) ?_;refine stop_here ?_)
 unfold Hid
 intro va Wa howna na
 have hcr:Hid _:=c_tread Wa (sl_of_owns howna) (Nat.le_refl _)
 obtain ⟨xa,xc,hva⟩:=owns_form howna
 subst hva
 have ho:Hid (Sl Wa.heap.size Wa (.slice xa bs.length xc) bs.length (bs.map bv)):=sl_of_owns howna
 clear howna hxa hg2
 replace nL:Hid (Nw w Wa):=nw_trans nL na
 clear na
 by_cases hex:∃ u,RightT u∧WfT u∧imgO u = some bs
 ·skip
  obtain ⟨u,hu,wu,eu⟩:=hex
  replace hu:Hid (RightT u):=hu
  replace eu:Hid (imgO u = some bs):=eu
  go_upto_region 2 with fail
  go_wp2_with (first | (go_at_call 18;refine Calls.mono hcr.out ?_;rintro e R2 ⟨hrd,n9⟩;obtain ⟨vL,vC,vK,vD,rfl,hut⟩:=read_img hrd hu.out wu eu.out;refine stop_here ?_))
  unfold Hid
  clear hcr hrd
  obtain ⟨YV2,hYV2⟩:∃ Y,Hid (Y = R2.alloc (.cells (thC zeroT (.slice none 0 0) (.slice none 0 0) (.slice none 0 0) (.slice none 0 0)).toArray 34)):=⟨_,rfl⟩
  have hPV2:YV2.heap[R2.heap.size]? = some (.cells (thC zeroT (.slice none 0 0) (.slice none 0 0) (.slice none 0 0) (.slice none 0 0)).toArray 34 (0,0)):=by rw [hYV2.out];exact heap_alloc_new R2 _
  have nYV2:Nw R2 YV2:=by rw [hYV2.out];exact nw_alloc (nw_refl _) _
  obtain ⟨V2,hVV2⟩:∃ V,Hid (V = YV2.setRow R2.heap.size (thC u vL vC vK vD).toArray):=⟨_,rfl⟩
  have hB:V2.heap[R2.heap.size]? = some (.cells (thC u vL vC vK vD).toArray 34 (0,0)):=by rw [hVV2.out];exact setRow_heap _ _ _ _ _ _ hPV2
  have nV2:Nw R2 V2:=by rw [hVV2.out];exact Fr.setRow nYV2 (.inr (Nat.le_refl _)) _
  go_wp2_with (refine wpList_alloc_agg rfl 34 rfl _ Try.zeroTh ?_;rw [← hYV2.out];refine stop_here ?_)
  unfold Hid
  refine wpList_store_all rfl 34 _ _ rfl R2.heap.size rfl (thV u vL vC vK vD) rfl (thC u vL vC vK vD) rfl (thC zeroT (.slice none 0 0) (.slice none 0 0) (.slice none 0 0) (.slice none 0 0)) 34 hPV2 rfl hut.one Try.sizeT ?_
  rw [← hVV2.out]
  clear hYV2 hVV2 hPV2 nYV2
  replace hut:=hut.nw nV2
  have nO:Hid (Nw Wa V2):=nw_trans n9 nV2
  have nV:Nw w V2:=nw_trans nL.out nO.out
  clear n9 nV2
  have hcq:Hid _:=c_rread V2 (hx.out.keep (nV.below (Nat.le_refl _) (fun _ h=>h.elim))) nV.size
  go_upto_region 3 with fail
  go_wp2_with (first | (go_at_call 19;refine Calls.mono hcq.out ?_;rintro e R3 ⟨hrd,n8⟩;obtain ⟨yL,yC,yK,yD,rfl,hvt⟩:=read_img hrd hu.out wu eu.out;refine stop_here ?_))
  unfold Hid
  clear hcq hrd
  obtain ⟨YV3,hYV3⟩:∃ Y,Hid (Y = R3.alloc (.cells (thC zeroT (.slice none 0 0) (.slice none 0 0) (.slice none 0 0) (.slice none 0 0)).toArray 34)):=⟨_,rfl⟩
  have hPV3:YV3.heap[R3.heap.size]? = some (.cells (thC zeroT (.slice none 0 0) (.slice none 0 0) (.slice none 0 0) (.slice none 0 0)).toArray 34 (0,0)):=by rw [hYV3.out];exact heap_alloc_new R3 _
  have nYV3:Nw R3 YV3:=by rw [hYV3.out];exact nw_alloc (nw_refl _) _
  obtain ⟨V3,hVV3⟩:∃ V,Hid (V = YV3.setRow R3.heap.size (thC u yL yC yK yD).toArray):=⟨_,rfl⟩
  have hC:V3.heap[R3.heap.size]? = some (.cells (thC u yL yC yK yD).toArray 34 (0,0)):=by rw [hVV3.out];exact setRow_heap _ _ _ _ _ _ hPV3
  have nV3:Nw R3 V3:=by rw [hVV3.out];exact Fr.setRow nYV3 (.inr (Nat.le_refl _)) _
  go_wp2_with (refine wpList_alloc_agg rfl 34 rfl _ Try.zeroTh ?_;rw [← hYV3.out];refine stop_here ?_)
  unfold Hid
  refine wpList_store_all rfl 34 _ _ rfl R3.heap.size rfl (thV u yL yC yK yD) rfl (thC u yL yC yK yD) rfl (thC zeroT (.slice none 0 0) (.slice none 0 0) (.slice none 0 0) (.slice none 0 0)) 34 hPV3 rfl hvt.one Try.sizeT ?_
  rw [← hVV3.out]
  clear hYV3 hVV3 hPV3 nYV3
  replace hvt:=hvt.nw nV3
  have n7:=nw_trans n8 nV3
  replace hB:=(n7.block _ (heap_lt hB) (fun h=>h)).trans hB
  replace hut:=hut.nw n7
  replace nO:Nw Wa V3:=nw_trans nO.out n7
  replace nV:Nw w V3:=nw_trans nV n7
  clear n8 nV3 n7
  generalize hBA:R2.heap.size = cb at *
  generalize hCA:R3.heap.size = cc at *
  clear hBA hCA
  go_upto_region 4 with fail
  go_wp2_with (first | (go_at_call 9;refine Calls.mono (c_alive _) ?_;rintro e V5 ⟨rfl,n8⟩;refine stop_here ?_))
  unfold Hid
  replace hB:=(n8.block _ (heap_lt hB) (fun h=>h)).trans hB
  replace hC:=(n8.block _ (heap_lt hC) (fun h=>h)).trans hC
  replace hut:=hut.nw n8
  replace hvt:=hvt.nw n8
  replace nO:=nw_trans nO n8
  replace nV:=nw_trans nV n8
  clear n8
  have hcs:Hid _:=c_rtsame V5 hut hvt
  unfold AnsP at hcs
  have hrB:=range_all hB
  have hrC:=range_all hC
  go_wp2_with (first | (refine wpList_load_as rfl 34 _ rfl (cb) 0 rfl (thV u vL vC vK vD) _ rfl hrB Try.rowT Try.sizeT ?_) | (refine wpList_load_as rfl 34 _ rfl (cc) 0 rfl (thV u yL yC yK yD) _ rfl hrC Try.rowT Try.sizeT ?_) | (go_at_call 14;refine Calls.mono hcs.out ?_;rintro e V6 ⟨r1,rfl,q,n8⟩;obtain rfl:=q.2 (by trivial);refine stop_here ?_))
  unfold Hid
  replace nO:=nw_trans nO n8
  replace nV:=nw_trans nV n8
  clear hcs q hrB hrC hB hC hut hvt n8
  have so:Sl Wa.heap.size V6 (.slice xa bs.length xc) bs.length (bs.map bv):=ho.out.keep (nO.below (Nat.le_refl _) (fun _ h=>h.elim))
  have sx:Sl w.heap.size V6 v bs.length (bs.map bv):=hx.out.keep (nV.below (Nat.le_refl _) (fun _ h=>h.elim))
  have s1:=run_string_sl (P:=Try.prog) 28 5 9 Try.underlying28 Try.underlying5 Try.underlying9 so
  have s2:=run_string_sl (P:=Try.prog) 28 5 9 Try.underlying28 Try.underlying5 Try.underlying9 sx
  have nEnd:Hid (Nw w V6):=nV
  clear so sx nO nV
  go_wp2
  go_ret
  exact ⟨by first | rfl | simp,nEnd.out⟩
 ·skip
  replace hex:Hid _:=hex
  go_upto_region 2 with fail
  go_wp2_with (first | (go_at_call 18;refine Calls.mono hcr.out ?_;rintro e R2 ⟨hrd,n9⟩;obtain rfl:=read_none hrd (fun u hu wu eu=>hex.out ⟨u,hu,wu,eu⟩);refine stop_here ?_))
  unfold Hid
  clear hcr hrd
  obtain ⟨YV2,hYV2⟩:∃ Y,Hid (Y = R2.alloc (.cells (thC zeroT (.slice none 0 0) (.slice none 0 0) (.slice none 0 0) (.slice none 0 0)).toArray 34)):=⟨_,rfl⟩
  have hPV2:YV2.heap[R2.heap.size]? = some (.cells (thC zeroT (.slice none 0 0) (.slice none 0 0) (.slice none 0 0) (.slice none 0 0)).toArray 34 (0,0)):=by rw [hYV2.out];exact heap_alloc_new R2 _
  have nYV2:Nw R2 YV2:=by rw [hYV2.out];exact nw_alloc (nw_refl _) _
  obtain ⟨V2,hVV2⟩:∃ V,Hid (V = YV2.setRow R2.heap.size (thC zeroT (.slice none 0 0) (.slice none 0 0) (.slice none 0 0) (.slice none 0 0)).toArray):=⟨_,rfl⟩
  have hB:V2.heap[R2.heap.size]? = some (.cells (thC zeroT (.slice none 0 0) (.slice none 0 0) (.slice none 0 0) (.slice none 0 0)).toArray 34 (0,0)):=by rw [hVV2.out];exact setRow_heap _ _ _ _ _ _ hPV2
  have nV2:Nw R2 V2:=by rw [hVV2.out];exact Fr.setRow nYV2 (.inr (Nat.le_refl _)) _
  go_wp2_with (refine wpList_alloc_agg rfl 34 rfl _ Try.zeroTh ?_;rw [← hYV2.out];refine stop_here ?_)
  unfold Hid
  refine wpList_store_all rfl 34 _ _ rfl R2.heap.size rfl (thV zeroT (.slice none 0 0) (.slice none 0 0) (.slice none 0 0) (.slice none 0 0)) rfl (thC zeroT (.slice none 0 0) (.slice none 0 0) (.slice none 0 0) (.slice none 0 0)) rfl (thC zeroT (.slice none 0 0) (.slice none 0 0) (.slice none 0 0) (.slice none 0 0)) 34 hPV2 rfl (th_one _ _ _ _ _ rfl rfl rfl rfl) Try.sizeT ?_
  rw [← hVV2.out]
  clear hYV2 hVV2 hPV2 nYV2
  have nO:Hid (Nw Wa V2):=nw_trans n9 nV2
  have nV:Nw w V2:=nw_trans nL.out nO.out
  clear n9 nV2
  have hcq:Hid _:=c_rread V2 (hx.out.keep (nV.below (Nat.le_refl _) (fun _ h=>h.elim))) nV.size
  go_upto_region 3 with fail
  go_wp2_with (first | (go_at_call 19;refine Calls.mono hcq.out ?_;rintro e R3 ⟨hrd,n8⟩;obtain rfl:=read_none hrd (fun u hu wu eu=>hex.out ⟨u,hu,wu,eu⟩);refine stop_here ?_))
  unfold Hid
  clear hcq hrd
  obtain ⟨YV3,hYV3⟩:∃ Y,Hid (Y = R3.alloc (.cells (thC zeroT (.slice none 0 0) (.slice none 0 0) (.slice none 0 0) (.slice none 0 0)).toArray 34)):=⟨_,rfl⟩
  have hPV3:YV3.heap[R3.heap.size]? = some (.cells (thC zeroT (.slice none 0 0) (.slice none 0 0) (.slice none 0 0) (.slice none 0 0)).toArray 34 (0,0)):=by rw [hYV3.out];exact heap_alloc_new R3 _
  have nYV3:Nw R3 YV3:=by rw [hYV3.out];exact nw_alloc (nw_refl _) _
  obtain ⟨V3,hVV3⟩:∃ V,Hid (V = YV3.setRow R3.heap.size (thC zeroT (.slice none 0 0) (.slice none 0 0) (.slice none 0 0) (.slice none 0 0)).toArray):=⟨_,rfl⟩
  have hC:V3.heap[R3.heap.size]? = some (.cells (thC zeroT (.slice none 0 0) (.slice none 0 0) (.slice none 0 0) (.slice none 0 0)).toArray 34 (0,0)):=by rw [hVV3.out];exact setRow_heap _ _ _ _ _ _ hPV3
  have nV3:Nw R3 V3:=by rw [hVV3.out];exact Fr.setRow nYV3 (.inr (Nat.le_refl _)) _
  go_wp2_with (refine wpList_alloc_agg rfl 34 rfl _ Try.zeroTh ?_;rw [← hYV3.out];refine stop_here ?_)
  unfold Hid
  refine wpList_store_all rfl 34 _ _ rfl R3.heap.size rfl (thV zeroT (.slice none 0 0) (.slice none 0 0) (.slice none 0 0) (.slice none 0 0)) rfl (thC zeroT (.slice none 0 0) (.slice none 0 0) (.slice none 0 0) (.slice none 0 0)) rfl (thC zeroT (.slice none 0 0) (.slice none 0 0) (.slice none 0 0) (.slice none 0 0)) 34 hPV3 rfl (th_one _ _ _ _ _ rfl rfl rfl rfl) Try.sizeT ?_
  rw [← hVV3.out]
  clear hYV3 hVV3 hPV3 nYV3
  have n7:=nw_trans n8 nV3
  replace hB:=(n7.block _ (heap_lt hB) (fun h=>h)).trans hB
  replace nO:Nw Wa V3:=nw_trans nO.out n7
  replace nV:Nw w V3:=nw_trans nV n7
  clear n8 nV3 n7
  generalize hBA:R2.heap.size = cb at *
  generalize hCA:R3.heap.size = cc at *
  clear hBA hCA
  go_upto_region 4 with fail
  go_wp2_with (first | (go_at_call 9;refine Calls.mono (c_alive _) ?_;rintro e V5 ⟨rfl,n8⟩;refine stop_here ?_))
  unfold Hid
  replace hB:=(n8.block _ (heap_lt hB) (fun h=>h)).trans hB
  replace hC:=(n8.block _ (heap_lt hC) (fun h=>h)).trans hC
  have hut:ThAt (fun _=>False) V5 zeroT (.slice none 0 0) (.slice none 0 0) (.slice none 0 0) (.slice none 0 0):=⟨csl_nil _ _,csl_nil _ _,csl_nil _ _,bsl_nil _ _⟩
  have hvt:=hut
  replace nO:=nw_trans nO n8
  replace nV:=nw_trans nV n8
  clear n8
  have hcs:Hid _:=c_rtsame V5 hut hvt
  unfold AnsP at hcs
  have hrB:=range_all hB
  have hrC:=range_all hC
  go_wp2_with (first | (refine wpList_load_as rfl 34 _ rfl (cb) 0 rfl (thV zeroT (.slice none 0 0) (.slice none 0 0) (.slice none 0 0) (.slice none 0 0)) _ rfl hrB Try.rowT Try.sizeT ?_) | (refine wpList_load_as rfl 34 _ rfl (cc) 0 rfl (thV zeroT (.slice none 0 0) (.slice none 0 0) (.slice none 0 0) (.slice none 0 0)) _ rfl hrC Try.rowT Try.sizeT ?_) | (go_at_call 14;refine Calls.mono hcs.out ?_;rintro e V6 ⟨r1,rfl,q,n8⟩;obtain rfl:=q.2 (by trivial);refine stop_here ?_))
  unfold Hid
  replace nO:=nw_trans nO n8
  replace nV:=nw_trans nV n8
  clear hcs q hrB hrC hB hC hut hvt n8
  have so:Sl Wa.heap.size V6 (.slice xa bs.length xc) bs.length (bs.map bv):=ho.out.keep (nO.below (Nat.le_refl _) (fun _ h=>h.elim))
  have sx:Sl w.heap.size V6 v bs.length (bs.map bv):=hx.out.keep (nV.below (Nat.le_refl _) (fun _ h=>h.elim))
  have s1:=run_string_sl (P:=Try.prog) 28 5 9 Try.underlying28 Try.underlying5 Try.underlying9 so
  have s2:=run_string_sl (P:=Try.prog) 28 5 9 Try.underlying28 Try.underlying5 Try.underlying9 sx
  have nEnd:Hid (Nw w V6):=nV
  clear so sx nO nV
  go_wp2
  go_ret
  exact ⟨by first | rfl | simp,nEnd.out⟩
end Go.Proofs.Ytghlilncdfiojaa
