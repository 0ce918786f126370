/-
  Read: labelOf.
-/
import Derived.Test.YtghlilncdfiojaaThK5S
namespace Go.Proofs.Ytghlilncdfiojaa
set_option linter.unusedVariables false
set_option linter.unusedSimpArgs false
set_option maxRecDepth 20000
open Go.RowKit Go.Shelf

attribute [local go_sem] Oper.semAt_some

theorem ownsRow_set {W:World} {base:Nat} {e:TypeId} {size:Nat} {v:Value} {k:Nat} {xs:List Value} (h:W.ownsRow base e size v k xs) {B i:Nat} {v':Value} (hB:B < base):(W.setCell ⟨B,i,none⟩ v').ownsRow base e size v k xs:=by
 refine h.kept (row:=some B) ⟨rfl,rfl,rfl,(KeepsWalks.setCell W _ v').size,fun k _ hk=>Below.heap_setCell _ _ _ k (fun e=>hk (by rw [e]))⟩ ?_
 rcases h.2 with ⟨rfl,_⟩ | ⟨g,cap,cur,rfl,hb,_⟩
 ·exact .inl rfl
 ·refine .inr fun e'=>?_
  have:g = B:=by simpa [Value.ownBlock] using e'
  omega

set_option maxRecDepth 100000 in
set_option maxHeartbeats 4000000 in
theorem c_labelOf {K:Nat} {v:Value} {bs:List UInt8} (w:World) (hx:Sl K w v bs.length (bs.map bv)) (hK:K ≤ w.heap.size) (h63:bs.length ≤ 1000000) :
  Calls Try.prog 76 #[v] w fun e w'=>∃ d u xs,e = .returned (.agg #[.int .i64 d,u])∧w'.ownsRow w.heap.size 52 2 u xs.length (ccells xs)∧(∀ d' xs',Rgt d' xs'→bs = labB d' xs'→d = d'∧xs = xs')∧FitsB 1 xs∧xs.length ≤ 100∧0 ≤ d∧d < 256∧Below w.heap.size w w':=by
 obtain ⟨i0,hi,hz0,hz1,hz2⟩:=info_parts Try.infoLabF
 have hx0:Hid _:=hx
 have hq:((bs.length:Nat):Int) / 9 = ((bs.length / 9:Nat):Int):=by omega
 have hq':Int.tdiv ((bs.length:Nat):Int) 9 = ((bs.length / 9:Nat):Int):=by
  rw [Int.tdiv_eq_ediv_of_nonneg (by omega)]
  exact hq
 have hrep:∀ w,Hid (Calls Try.prog 87 #[.string { data:=#[56,49] },.int .i64 ((bs.length / 9:Nat):Int)] w fun e w'=>∃ sh:ByteArray,e = .returned (.string sh)∧sh.data.toList = repS 56 49 (bs.length / 9)∧sh.size = 2 * (bs.length / 9)∧Below w.heap.size w w'):=fun w =>
  (c_repeat { data:=#[56,49] } (bs.length / 9) w (by omega) (by show 2 * _ ≤ _;omega)).mono (by
   rintro e w' ⟨rfl,hb⟩
   have e1:(⟨(Lib.repeatL [56,49] (bs.length / 9)).toArray⟩:ByteArray).data.toList = repS 56 49 (bs.length / 9):=by simp [repS]
   exact ⟨_,rfl,e1,by rw [← ba_len,e1,repS_len],hb⟩)
 have hWA:=heap_alloc_new w (.cells #[.int .i64 0,.slice none 0 0] 26)
 have bWA:Below w.heap.size w (w.alloc (.cells #[.int .i64 0,.slice none 0 0] 26)):=(Below.refl _ w).alloc (Nat.le_refl _) _
 have hWs:(w.alloc (.cells #[.int .i64 0,.slice none 0 0] 26)).heap.size = w.heap.size + 1:=by simp
 rcases lab_ex bs with ⟨hu,hno⟩ | ⟨d,xs,hf,d0,d1,hl,hback,hu⟩
 ·have hno:Hid _:=hno
  have hunp:∀ sh w1,sh.data.toList = 49 :: repS 56 49 (bs.length / 9)→Below w.heap.size w w1→Hid (Calls Try.prog 75 #[.string sh,v] w1 fun e w'=>e = .returned (.tuple #[.slice none 0 0,.int .i64 21])∧Below w1.heap.size w1 w'):=fun sh w1 e hb =>
   c_unpLabN sh e h63 hu w1 (hx.keep (hb.mono hK)) (Nat.le_trans hK hb.size)
  obtain ⟨ao,cap,rfl,hcap,_⟩:=hx
  generalize hn:bs.length / 9 = q at *
  refine (callsIn_wide (n:=4)).1 ?_
  refine callsIn_of_wp_marks Try.func76 rfl trivial ?_ rfl
  simp only [Try.ntmps76,List.size_toArray,List.length_cons,List.length_nil,Nat.reduceAdd,Nat.reduceSub,Array.replicate_succ,Array.replicate_zero,List.push_toArray,List.append_toArray,List.nil_append,List.cons_append]
  gi_wp2_with (refine ⟨trivial,?_⟩;gi_at_call 87;refine (callsIn_wide.2 (hrep _).out).mono ?_;rintro e w1 ⟨sh,rfl,hsh,hsz,b1⟩;refine stop_here ?_)
  unfold Hid
  gi_wp2_with (refine ⟨trivial,?_⟩;gi_at_call 75;refine (callsIn_wide.2 (hunp _ _ (by simp [hsh]) (bWA.trans (b1.mono (by omega)))).out).mono ?_;rintro e w2 ⟨rfl,b2⟩;refine stop_here ?_)
  unfold Hid
  have b12:Below (w.heap.size + 1) (w.alloc (.cells #[.int .i64 0,.slice none 0 0] 26)) w2:=by rw [← hWs];exact b1.trans (b2.mono b1.size)
  have hA2:=(b12.block w.heap.size (Nat.lt_succ_self _)).trans hWA
  have c0:w2.cell? ⟨w.heap.size,0,none⟩ = some (.int .i64 0):=cell_blk hA2 rfl
  have c1:w2.cell? ⟨w.heap.size,1,none⟩ = some (.slice none 0 0):=cell_blk hA2 rfl
  have cf:∀ k,w2.frozen? ⟨w.heap.size,k,none⟩ = false:=fun k=>free_blk hA2
  have b02:Below w.heap.size w w2:=bWA.trans (b12.mono (by omega))
  have hfr:((w2.setCell ⟨w.heap.size,0,none⟩ (.int .i64 0)).setCell ⟨w.heap.size,1,none⟩ (.slice none 0 0)).rangeAt w.heap.size 0 [.int .i64 0,.slice none 0 0]:=range_all (C:=[.int .i64 0,.slice none 0 0]) (by rw [blk_setCell (blk_setCell hA2)];rfl)
  have hfb:Below w.heap.size w ((w2.setCell ⟨w.heap.size,0,none⟩ (.int .i64 0)).setCell ⟨w.heap.size,1,none⟩ (.slice none 0 0)):=(b02.setCell (p:=⟨w.heap.size,0,none⟩) (Nat.le_refl _) _).setCell (p:=⟨w.heap.size,1,none⟩) (Nat.le_refl _) _
  replace hfr:Hid _:=hfr
  replace hfb:Hid _:=hfb
  clear b1 b2 b12 hunp hrep hWA
  gi_wp2
  exact ⟨_,results_cell1 rfl _ w.heap.size _ _ rfl rfl hfr.out Try.rowL Try.sizeL,0,_,[],rfl,World.ownsRow_nil _ _ _ _,(fun d' xs' h e=>absurd e (hno.out d' xs' h)),(fun i hi=>by simp at hi),by simp,by omega,by omega,hfb.out⟩
 ·have hback:Hid _:=hback
  have hf0:Hid _:=hf
  have hunp:∀ sh w1,sh.data.toList = 49 :: repS 56 49 (bs.length / 9)→Below w.heap.size w w1→Hid (Calls Try.prog 75 #[.string sh,v] w1 fun e w'=>∃ b off cap,e = .returned (.tuple #[.slice (some ⟨b,off,none⟩) (1 + 2 * xs.length) cap,.int .i64 0])∧1 + 2 * xs.length ≤ cap∧b < w'.heap.size∧w'.cell? ⟨b,off,none⟩ = some (.int .u64 d)∧PrM w' b (off + 2) xs∧Below w1.heap.size w1 w'):=fun sh w1 e hb =>
   c_unpLabS sh e h63 d0 hf hl hu w1 (hx.keep (hb.mono hK)) (Nat.le_trans hK hb.size)
  have hcv0:∀ w,(convert 23 3 (.int .u64 d)).run Try.prog w = .ok (.int .i64 d) w:=fun w=>by
   simp [go_sem]
   try rw [IntKind.wrap_i64]
   omega
  obtain ⟨ao,cap,rfl,hcap,_⟩:=hx
  generalize hn:bs.length / 9 = q at *
  refine (callsIn_wide (n:=4)).1 ?_
  refine callsIn_of_wp_marks Try.func76 rfl trivial ?_ rfl
  simp only [Try.ntmps76,List.size_toArray,List.length_cons,List.length_nil,Nat.reduceAdd,Nat.reduceSub,Array.replicate_succ,Array.replicate_zero,List.push_toArray,List.append_toArray,List.nil_append,List.cons_append]
  gi_wp2_with (refine ⟨trivial,?_⟩;gi_at_call 87;refine (callsIn_wide.2 (hrep _).out).mono ?_;rintro e w1 ⟨sh,rfl,hsh,hsz,b1⟩;refine stop_here ?_)
  unfold Hid
  gi_wp2_with (refine ⟨trivial,?_⟩;gi_at_call 75;refine (callsIn_wide.2 (hunp _ _ (by simp [hsh]) (bWA.trans (b1.mono (by omega)))).out).mono ?_;rintro e w2 ⟨b,off,cap2,rfl,hc2,hbl,hcd,hpm,b2⟩;refine stop_here ?_)
  unfold Hid
  have b12:Below (w.heap.size + 1) (w.alloc (.cells #[.int .i64 0,.slice none 0 0] 26)) w2:=by rw [← hWs];exact b1.trans (b2.mono b1.size)
  have hA2:=(b12.block w.heap.size (Nat.lt_succ_self _)).trans hWA
  have b02:Below w.heap.size w w2:=bWA.trans (b12.mono (by omega))
  clear b1 b2 b12 hunp hrep hWA
  by_cases h1:cap2 = 1
  ·subst h1
   gi_wp2_with (refine ⟨trivial,?_⟩;gi_at_call 90;refine (callsIn_wide.2 (c_chunk _ _ _ _)).mono ?_;rintro e w3 ⟨rfl,rfl⟩)
   have hp:Prs2 (.slice (some ⟨b,off,none⟩) 0 0) xs.length b (off + 2):=.inl ⟨some ⟨b,off,none⟩,0,rfl,by omega⟩
   have bO:LBox (w2.alloc (.cells #[.int .i64 d,.slice none 0 0] 26)) w2.heap.size d (.slice none 0 0):=heap_alloc_new w2 _
   have bS:=Boxed.new (w2.alloc (.cells #[.int .i64 d,.slice none 0 0] 26)) 71 (.slice (some ⟨b,off,none⟩) 0 0)
   have bN:=Boxed.new ((w2.alloc (.cells #[.int .i64 d,.slice none 0 0] 26)).alloc (.cells #[.slice (some ⟨b,off,none⟩) 0 0] 71)) 3 (.int .i64 2)
   have hsz:(((w2.alloc (.cells #[.int .i64 d,.slice none 0 0] 26)).alloc (.cells #[.slice (some ⟨b,off,none⟩) 0 0] 71)).alloc (.cells #[.int .i64 2] 3)).heap.size = w2.heap.size + 3:=by simp
   have hB0:Below w2.heap.size w2 (((w2.alloc (.cells #[.int .i64 d,.slice none 0 0] 26)).alloc (.cells #[.slice (some ⟨b,off,none⟩) 0 0] 71)).alloc (.cells #[.int .i64 2] 3)):=(((Below.refl _ w2).alloc (Nat.le_refl _) _).alloc (by simp) _).alloc (by simp;omega) _
   have hpm0:=hpm.below hB0
   replace bO:LBox (((w2.alloc (.cells #[.int .i64 d,.slice none 0 0] 26)).alloc (.cells #[.slice (some ⟨b,off,none⟩) 0 0] 71)).alloc (.cells #[.int .i64 2] 3)) w2.heap.size d (.slice none 0 0):=(bO.kept (World.grownBy_alloc _ _ none) (by simp)).kept (World.grownBy_alloc _ _ none) (by simp)
   replace bS:=bS.alloc (.cells #[.int .i64 2] 3)
   rw [World.size_alloc] at bS
   rw [World.size_alloc,World.size_alloc] at bN
   generalize hW0:((w2.alloc (.cells #[.int .i64 d,.slice none 0 0] 26)).alloc (.cells #[.slice (some ⟨b,off,none⟩) 0 0] 71)).alloc (.cells #[.int .i64 2] 3) = W0 at *
   refine wpIn_rangeFunc_ownG rfl (by decide) (gf:=100) (lb:=#[.pointer (some ⟨w2.heap.size + 1,0,none⟩),.pointer (some ⟨w2.heap.size + 1 + 1,0,none⟩)]) rfl trivial (enters_of Try.func100 (by kernel_rfl) rfl)
    (chunk_stops _ (by decide) (w2.heap.size + 1) (w2.heap.size + 1 + 1) (w2.heap.size + 3) w2.heap.size xs.length b (off + 2) _ W0 ⟨by omega,by omega⟩ ⟨by omega,by omega⟩ (by omega) bS.cell bN.cell hp)
    (fun h k=>Kx.trans h k) (kx_b (by omega) (by omega)) (Below.refl _ _) (fun _=>rfl)
    (fun pre W=>(∃ u,LBox W w2.heap.size d u∧W.ownsRow (w2.heap.size + 3) 52 2 u (met xs pre).length (ccells (met xs pre)))∧Kx (w2.heap.size + 3) w2.heap.size W0 W)
    (fun _ _ _=>False)
    (OwnFrom.and (Own.from (lholds_own (w2.heap.size + 3) w2.heap.size d (fun pre=>(met xs pre).length) (fun pre=>ccells (met xs pre))) _) (ownFrom_kx (by omega) (by omega) (by omega)))
    (fun _ _ _ _ _ hs _ _=>hs)
    ⟨⟨_,bO,World.ownsRow_nil _ _ _ _⟩,Kx.refl _ _ _⟩
    (fun x=>{ tmps:=#[.slice ao bs.length cap,undef,.pointer (some ⟨w.heap.size,0,none⟩),.slice (some ⟨b,off,none⟩) (1 + 2 * xs.length) 1,.int .i64 0,.pointer (some ⟨w2.heap.size,0,none⟩),.slice (some ⟨b,off + 2 + 2 * x.1 * 2,none⟩) 2 2,.tuple #[.slice (some ⟨b,off,none⟩) (1 + 2 * xs.length) 1,.int .i64 0],.slice ao bs.length cap,.int .i64 bs.length,.int .i64 q,.string sh,.string ({ data:=#[49] } ++ sh),.slice ao bs.length cap,.tuple #[.slice (some ⟨b,off,none⟩) (1 + 2 * xs.length) 1,.int .i64 0],.slice (some ⟨b,off,none⟩) (1 + 2 * xs.length) 1,.int .i64 0,.int .i64 0,.bool false,undef,.slice (some ⟨b,off,none⟩) (1 + 2 * xs.length) 1,.pointer (some ⟨b,off,none⟩),.pointer (some ⟨b,off,none⟩),.int .u64 d,.int .i64 d,.agg #[.int .i64 d,.slice none 0 0],.slice (some ⟨b,off,none⟩) (1 + 2 * xs.length) 1,.slice (some ⟨b,off,none⟩) 0 0,.func (.func 100) #[] #[.pointer (some ⟨w2.heap.size + 1,0,none⟩),.pointer (some ⟨w2.heap.size + 1 + 1,0,none⟩)],.slice (some ⟨b,off + 2 + 2 * x.1 * 2,none⟩) 2 2,undef,undef,undef,undef,undef,undef,undef,undef,undef,undef,undef,undef,undef,undef,undef,undef],defers:=[] }) ?assign ?body ?done ?stop
   case assign =>
    intro l x W Kc hKc
    gi_wp2
    exact hKc
   case body =>
    rintro l pre x W ⟨⟨u,hv,hrow⟩,hkx⟩ hlt
    have hc:W.cell? ⟨w2.heap.size,1,none⟩ = some u:=cell_blk hv rfl
    exact absurd x.2 (by omega)
   case done =>
    rintro D ys W hD rfl ⟨⟨u,hv,hrow⟩,hkx⟩ hK9
    have e0:W.cell? ⟨w2.heap.size,0,none⟩ = some (.int .i64 d):=cell_blk hv rfl
    have e1:W.cell? ⟨w2.heap.size,1,none⟩ = some u:=cell_blk hv rfl
    have hAW:=((hB0.trans hkx.1).block w.heap.size (by have:=b02.size;have:=heap_lt hA2;omega)).trans hA2
    have e2:W.cell? ⟨w.heap.size,0,none⟩ = some (.int .i64 0):=cell_blk hAW rfl
    have e3:W.cell? ⟨w.heap.size,1,none⟩ = some (.slice none 0 0):=cell_blk hAW rfl
    have e4:∀ k,W.frozen? ⟨w.heap.size,k,none⟩ = false:=fun k=>free_blk hAW
    have hA9:=heap_lt hA2
    rw [met_all] at hrow
    obtain ⟨ua,un,uc,rfl⟩:∃ ua un uc,u = .slice ua un uc:=by
     rcases hrow.2 with ⟨rfl,_⟩ | ⟨g,cap,cur,rfl,_⟩
     ·exact ⟨_,_,_,rfl⟩
     ·exact ⟨_,_,_,rfl⟩
    have hW9:((W.setCell ⟨w.heap.size,0,none⟩ (.int .i64 d)).setCell ⟨w.heap.size,1,none⟩ (.slice ua un uc)).heap[w.heap.size]? = some (.cells #[.int .i64 d,.slice ua un uc] 26 (0,0)):=by rw [blk_setCell (blk_setCell hAW)];rfl
    have hK10:((W.setCell ⟨w.heap.size,0,none⟩ (.int .i64 d)).setCell ⟨w.heap.size,1,none⟩ (.slice ua un uc)).heap[D]? = some (.deferred (some [])):=(KeepsOthers.setCell _ _ _).same D _ ((KeepsOthers.setCell _ _ _).same D _ hK9 rfl) rfl
    have hb9:Below w.heap.size w ((W.setCell ⟨w.heap.size,0,none⟩ (.int .i64 d)).setCell ⟨w.heap.size,1,none⟩ (.slice ua un uc)):=((b02.trans ((hB0.trans hkx.1).mono b02.size)).setCell (p:=⟨w.heap.size,0,none⟩) (Nat.le_refl _) _).setCell (p:=⟨w.heap.size,1,none⟩) (Nat.le_refl _) _
    have hr9:=ownsRow_set (ownsRow_set hrow (B:=w.heap.size) (i:=0) (v':=.int .i64 d) (by omega)) (B:=w.heap.size) (i:=1) (v':=.slice ua un uc) (by omega)
    gi_wp2
    refine ⟨by simp,.inl ⟨_,_,rfl,run_takeDeferred hK10,?_⟩⟩
    exact ⟨_,results_cell1 rfl _ w.heap.size _ _ rfl rfl (range_all (C:=[.int .i64 d,.slice ua un uc]) ((World.putObj_heap_other (by omega)).trans hW9)) Try.rowL Try.sizeL,d,_,xs,rfl,owns_mono (ownsRow_putObj hr9 _ hK10 rfl) (by omega),hback.out,hf0.out,hl,d0,d1,hb9.trans (belowK_b (w:=w) (Nat.le_refl _) _ D _ _ (by omega) hK10 rfl rfl)⟩
   case stop =>
    rintro D c pre W _ _ h _
    exact h.elim
  ·gi_wp2_with (refine ⟨trivial,?_⟩;gi_at_call 90;refine (callsIn_wide.2 (c_chunk _ _ _ _)).mono ?_;rintro e w3 ⟨rfl,rfl⟩)
   have hp:Prs2 (.slice (some ⟨b,off + 2,none⟩) (2 * xs.length) (cap2 - 1)) xs.length b (off + 2):=.inr ⟨cap2 - 1,rfl,by omega,by omega⟩
   have bO:LBox (w2.alloc (.cells #[.int .i64 d,.slice none 0 0] 26)) w2.heap.size d (.slice none 0 0):=heap_alloc_new w2 _
   have bS:=Boxed.new (w2.alloc (.cells #[.int .i64 d,.slice none 0 0] 26)) 71 (.slice (some ⟨b,off + 2,none⟩) (2 * xs.length) (cap2 - 1))
   have bN:=Boxed.new ((w2.alloc (.cells #[.int .i64 d,.slice none 0 0] 26)).alloc (.cells #[.slice (some ⟨b,off + 2,none⟩) (2 * xs.length) (cap2 - 1)] 71)) 3 (.int .i64 2)
   have hsz:(((w2.alloc (.cells #[.int .i64 d,.slice none 0 0] 26)).alloc (.cells #[.slice (some ⟨b,off + 2,none⟩) (2 * xs.length) (cap2 - 1)] 71)).alloc (.cells #[.int .i64 2] 3)).heap.size = w2.heap.size + 3:=by simp
   have hB0:Below w2.heap.size w2 (((w2.alloc (.cells #[.int .i64 d,.slice none 0 0] 26)).alloc (.cells #[.slice (some ⟨b,off + 2,none⟩) (2 * xs.length) (cap2 - 1)] 71)).alloc (.cells #[.int .i64 2] 3)):=(((Below.refl _ w2).alloc (Nat.le_refl _) _).alloc (by simp) _).alloc (by simp;omega) _
   have hpm0:=hpm.below hB0
   replace bO:LBox (((w2.alloc (.cells #[.int .i64 d,.slice none 0 0] 26)).alloc (.cells #[.slice (some ⟨b,off + 2,none⟩) (2 * xs.length) (cap2 - 1)] 71)).alloc (.cells #[.int .i64 2] 3)) w2.heap.size d (.slice none 0 0):=(bO.kept (World.grownBy_alloc _ _ none) (by simp)).kept (World.grownBy_alloc _ _ none) (by simp)
   replace bS:=bS.alloc (.cells #[.int .i64 2] 3)
   rw [World.size_alloc] at bS
   rw [World.size_alloc,World.size_alloc] at bN
   generalize hW0:((w2.alloc (.cells #[.int .i64 d,.slice none 0 0] 26)).alloc (.cells #[.slice (some ⟨b,off + 2,none⟩) (2 * xs.length) (cap2 - 1)] 71)).alloc (.cells #[.int .i64 2] 3) = W0 at *
   refine wpIn_rangeFunc_ownG rfl (by decide) (gf:=100) (lb:=#[.pointer (some ⟨w2.heap.size + 1,0,none⟩),.pointer (some ⟨w2.heap.size + 1 + 1,0,none⟩)]) rfl trivial (enters_of Try.func100 (by kernel_rfl) rfl)
    (chunk_stops _ (by decide) (w2.heap.size + 1) (w2.heap.size + 1 + 1) (w2.heap.size + 3) w2.heap.size xs.length b (off + 2) _ W0 ⟨by omega,by omega⟩ ⟨by omega,by omega⟩ (by omega) bS.cell bN.cell hp)
    (fun h k=>Kx.trans h k) (kx_b (by omega) (by omega)) (Below.refl _ _) (fun _=>rfl)
    (fun pre W=>(∃ u,LBox W w2.heap.size d u∧W.ownsRow (w2.heap.size + 3) 52 2 u (met xs pre).length (ccells (met xs pre)))∧Kx (w2.heap.size + 3) w2.heap.size W0 W)
    (fun _ _ _=>False)
    (OwnFrom.and (Own.from (lholds_own (w2.heap.size + 3) w2.heap.size d (fun pre=>(met xs pre).length) (fun pre=>ccells (met xs pre))) _) (ownFrom_kx (by omega) (by omega) (by omega)))
    (fun _ _ _ _ _ hs _ _=>hs)
    ⟨⟨_,bO,World.ownsRow_nil _ _ _ _⟩,Kx.refl _ _ _⟩
    (fun x=>{ tmps:=#[.slice ao bs.length cap,undef,.pointer (some ⟨w.heap.size,0,none⟩),.slice (some ⟨b,off,none⟩) (1 + 2 * xs.length) cap2,.int .i64 0,.pointer (some ⟨w2.heap.size,0,none⟩),.slice (some ⟨b,off + 2 + 2 * x.1 * 2,none⟩) 2 2,.tuple #[.slice (some ⟨b,off,none⟩) (1 + 2 * xs.length) cap2,.int .i64 0],.slice ao bs.length cap,.int .i64 bs.length,.int .i64 q,.string sh,.string ({ data:=#[49] } ++ sh),.slice ao bs.length cap,.tuple #[.slice (some ⟨b,off,none⟩) (1 + 2 * xs.length) cap2,.int .i64 0],.slice (some ⟨b,off,none⟩) (1 + 2 * xs.length) cap2,.int .i64 0,.int .i64 0,.bool false,undef,.slice (some ⟨b,off,none⟩) (1 + 2 * xs.length) cap2,.pointer (some ⟨b,off,none⟩),.pointer (some ⟨b,off,none⟩),.int .u64 d,.int .i64 d,.agg #[.int .i64 d,.slice none 0 0],.slice (some ⟨b,off,none⟩) (1 + 2 * xs.length) cap2,.slice (some ⟨b,off + 2,none⟩) (2 * xs.length) (cap2 - 1),.func (.func 100) #[] #[.pointer (some ⟨w2.heap.size + 1,0,none⟩),.pointer (some ⟨w2.heap.size + 1 + 1,0,none⟩)],.slice (some ⟨b,off + 2 + 2 * x.1 * 2,none⟩) 2 2,undef,undef,undef,undef,undef,undef,undef,undef,undef,undef,undef,undef,undef,undef,undef,undef],defers:=[] }) ?assign2 ?body2 ?done2 ?stop2
   case assign2 =>
    intro l x W Kc hKc
    gi_wp2
    exact hKc
   case body2 =>
    rintro l pre x W ⟨⟨u,hv,hrow⟩,hkx⟩ hlt
    have hc:W.cell? ⟨w2.heap.size,1,none⟩ = some u:=cell_blk hv rfl
    obtain ⟨p0,p1,p2⟩:=hpm0 x.1 x.2
    have hbb:b < w2.heap.size:=(hpm x.1 x.2).1
    have c1:W.cell? ⟨b,off + 2 + 2 * x.1 * 2,none⟩ = some (.int .u64 xs[x.1].1):=(hkx.cell ⟨by omega,by omega⟩).trans p1
    have c2:W.cell? ⟨b,off + 2 + 2 * x.1 * 2 + 2,none⟩ = some (.int .u64 xs[x.1].2):=(hkx.cell ⟨by omega,by omega⟩).trans p2
    obtain ⟨f1,_,f2,f3⟩:=hf x.1 x.2
    have hm1:met xs (pre ++ [x]) = met xs pre ++ [xs[x.1]]:=by rw [met_one,List.getD_eq_getElem?_getD,List.getElem?_eq_getElem x.2];rfl
    have hml:(met xs pre).length = pre.length:=by simp [met]
    obtain ⟨y1,hy1⟩:∃ y1,y1 = xs[x.1].1:=⟨_,rfl⟩
    obtain ⟨y2,hy2⟩:∃ y2,y2 = xs[x.1].2:=⟨_,rfl⟩
    have hy:xs[x.1] = (y1,y2):=by rw [hy1,hy2]
    rw [← hy1] at c1
    rw [← hy2] at c2 f2 f3
    rw [hy] at hm1
    have hcv:∀ w,(convert 23 3 (.int .u64 y2)).run Try.prog w = .ok (.int .i64 y2) w:=fun w=>by
     simp [go_sem]
     try rw [IntKind.wrap_i64]
     omega
    have hN3:w2.heap.size + 3 ≤ W.heap.size:=by have:=hkx.1.size;omega
    have hbn:b < W.heap.size:=by omega
    generalize hpx:off + 2 + 2 * x.1 * 2 = px at *
    clear hy1 hy2 hpm hpm0 p0 p1 p2 hu hf hq hq' hn
    refine wpIn_block ?_
    have hS:Below W.heap.size W W.drew:=(Below.refl _ W).drew
    have hlo:¬ LetsOut (Exit.inBlock 1 (ownPostG W0.heap.size (Kx (w2.heap.size + 3) w2.heap.size)
     (fun pre W=>(∃ u,LBox W w2.heap.size d u∧W.ownsRow (w2.heap.size + 3) 52 2 u (met xs pre).length (ccells (met xs pre)))∧Kx (w2.heap.size + 3) w2.heap.size W0 W)
     (fun _ _ _=>False) (pre ++ [x]) W)):=fun ⟨_,_,h⟩=>h
    refine wpIn_region_ord [] 13 [(0,true),(1,true),(2,true),(3,true),(4,true),(5,true),(6,true),(7,true),(8,true),(9,true),(10,true),(11,true),(12,false)] (fun w':World=>Below W.heap.size W w') (by kernel_rfl) (by kernel_rfl) (by kernel_rfl) hlo ?_
    refine ord_quietL _ ?_ rfl hS rfl ?_ ?_
    rotate_left
    ·rintro w' hn;go_simp;rfl
    simp only [pL,List.set]
    refine ord_quietL _ ?_ rfl hS rfl ?_ ?_
    rotate_left
    ·rintro w' hn;have g0:w'.cell? ⟨w2.heap.size,1,none⟩ = some u:=(hn.cell (p:=⟨w2.heap.size,1,none⟩) (by show w2.heap.size < _;omega)).trans hc;go_simp;rfl
    simp only [pL,List.set]
    refine ord_quietL _ ?_ rfl hS rfl ?_ ?_
    rotate_left
    ·rintro w' hn;go_simp;rfl
    simp only [pL,List.set]
    refine ord_quietL _ ?_ rfl hS rfl ?_ ?_
    rotate_left
    ·rintro w' hn;go_simp;rfl
    simp only [pL,List.set]
    refine ord_quietL _ ?_ rfl hS rfl ?_ ?_
    rotate_left
    ·rintro w' hn;go_simp;rfl
    simp only [pL,List.set]
    refine ord_quietL _ ?_ rfl hS rfl ?_ ?_
    rotate_left
    ·rintro w' hn;have g0:w'.cell? ⟨b,px,none⟩ = some (.int .u64 y1):=(hn.cell (p:=⟨b,px,none⟩) hbn).trans c1;go_simp;rfl
    simp only [pL,List.set]
    refine ord_quietL _ ?_ rfl hS rfl ?_ ?_
    rotate_left
    ·rintro w' hn;go_simp;rfl
    simp only [pL,List.set]
    refine ord_quietL _ ?_ rfl hS rfl ?_ ?_
    rotate_left
    ·rintro w' hn;go_simp;rfl
    simp only [pL,List.set]
    refine ord_quietL _ ?_ rfl hS rfl ?_ ?_
    rotate_left
    ·rintro w' hn;go_simp;rfl
    simp only [pL,List.set]
    refine ord_quietL _ ?_ rfl hS rfl ?_ ?_
    rotate_left
    ·rintro w' hn;have g0:w'.cell? ⟨b,px + 2,none⟩ = some (.int .u64 y2):=(hn.cell (p:=⟨b,px + 2,none⟩) hbn).trans c2;go_simp;rfl
    simp only [pL,List.set]
    refine ord_quietL _ ?_ rfl hS rfl ?_ ?_
    rotate_left
    ·rintro w' hn;go_simp;rfl
    simp only [pL,List.set]
    refine ord_quietL _ ?_ rfl hS rfl ?_ ?_
    rotate_left
    ·rintro w' hn;go_simp;rfl
    simp only [pL,List.set]
    refine ord_actL _ rfl (fun K1 hK1=>?_)
    go_wp2
    refine hK1 _ _ (((Below.refl _ W).alloc (Nat.le_refl _) _).drew) ?_
    clear hK1 K1
    refine ord_tail ?_
    simp only [List.drop_succ_cons,List.drop_zero]
    have hrA:(W.alloc (.cells #[.int .u64 y1,.int .i64 y2] 52)).drew.ownsRow (w2.heap.size + 3) 52 2 u (met xs pre).length (ccells (met xs pre)):=hrow.alloc _
    have hslA:Sl (W.heap.size + 1) (W.alloc (.cells #[.int .u64 y1,.int .i64 y2] 52)).drew (.slice (some ⟨W.heap.size,0,none⟩) 1 1) 1 [.int .u64 y1,.int .i64 y2] :=
     ⟨_,1,rfl,⟨Nat.le_refl _,by decide⟩,(fun h=>by cases h),fun i c hc=>⟨W.heap.size,0,rfl,Nat.lt_succ_self _,cell_blk (heap_alloc_new W _) (by simpa using hc)⟩⟩
    refine wpList_append_sl _ rfl _ _ 24 rfl (w2.heap.size + 3) 52 i0 _ 2 16 Try.underlying24 hi hz0 hz1 hz2 rfl (by decide) _ _ _ rfl hrA _ _ _ _ rfl hslA rfl (by simp [Value.oneCell']) (by unfold maxLen;omega) (by omega) (by show _ ≤ (W.alloc _).heap.size;simp;omega) ?_
    intro v' w1 hown' hgrow _
    obtain ⟨g',cap',rfl⟩:=ownsRow_succ hown'
    have hgrow2:(W.alloc (.cells #[.int .u64 y1,.int .i64 y2] 52)).grownBy w1 u.ownBlock:=⟨hgrow.os,hgrow.tape,hgrow.output,hgrow.size,hgrow.block⟩
    obtain ⟨hv1,hv2,hr2,hk2,hb2⟩:=appendedL (tmp:=(.cells #[.int .u64 y1,.int .i64 y2] 52)) hv hrow (by omega) hN3 hown' hgrow2
    have hc1:w1.cell? ⟨w2.heap.size,1,none⟩ = some u:=cell_blk hv1 rfl
    have hf1:w1.frozen? ⟨w2.heap.size,1,none⟩ = false:=free_blk hv1
    have fin:Hid (KeepsFrom W0.heap.size W (w1.setCell ⟨w2.heap.size,1,none⟩ (.slice (some ⟨g',0,none⟩) ((met xs pre).length + 1) cap'))∧Kx (w2.heap.size + 3) w2.heap.size W (w1.setCell ⟨w2.heap.size,1,none⟩ (.slice (some ⟨g',0,none⟩) ((met xs pre).length + 1) cap')) ∧
      ((∃ u,LBox (w1.setCell ⟨w2.heap.size,1,none⟩ (.slice (some ⟨g',0,none⟩) ((met xs pre).length + 1) cap')) w2.heap.size d u∧(w1.setCell ⟨w2.heap.size,1,none⟩ (.slice (some ⟨g',0,none⟩) ((met xs pre).length + 1) cap')).ownsRow (w2.heap.size + 3) 52 2 u (met xs (pre ++ [x])).length (ccells (met xs (pre ++ [x]))))∧Kx (w2.heap.size + 3) w2.heap.size W0 (w1.setCell ⟨w2.heap.size,1,none⟩ (.slice (some ⟨g',0,none⟩) ((met xs pre).length + 1) cap')))) :=
     ⟨hk2.from _,hb2,⟨_,hv2,by rw [hm1];simpa [ccells_append,ccells_one,ccell] using hr2⟩,hkx.trans hb2⟩
    clear hrA hslA hown' hgrow hgrow2 hv hv1 hv2 hr2 hk2 hb2 hc hkx hrow
    go_wp2
    rw [hml] at fin
    exact fin.out
   case done2 =>
    rintro D ys W hD rfl ⟨⟨u,hv,hrow⟩,hkx⟩ hK9
    have e0:W.cell? ⟨w2.heap.size,0,none⟩ = some (.int .i64 d):=cell_blk hv rfl
    have e1:W.cell? ⟨w2.heap.size,1,none⟩ = some u:=cell_blk hv rfl
    have hAW:=((hB0.trans hkx.1).block w.heap.size (by have:=b02.size;have:=heap_lt hA2;omega)).trans hA2
    have e2:W.cell? ⟨w.heap.size,0,none⟩ = some (.int .i64 0):=cell_blk hAW rfl
    have e3:W.cell? ⟨w.heap.size,1,none⟩ = some (.slice none 0 0):=cell_blk hAW rfl
    have e4:∀ k,W.frozen? ⟨w.heap.size,k,none⟩ = false:=fun k=>free_blk hAW
    have hA9:=heap_lt hA2
    rw [met_all] at hrow
    obtain ⟨ua,un,uc,rfl⟩:∃ ua un uc,u = .slice ua un uc:=by
     rcases hrow.2 with ⟨rfl,_⟩ | ⟨g,cap,cur,rfl,_⟩
     ·exact ⟨_,_,_,rfl⟩
     ·exact ⟨_,_,_,rfl⟩
    have hW9:((W.setCell ⟨w.heap.size,0,none⟩ (.int .i64 d)).setCell ⟨w.heap.size,1,none⟩ (.slice ua un uc)).heap[w.heap.size]? = some (.cells #[.int .i64 d,.slice ua un uc] 26 (0,0)):=by rw [blk_setCell (blk_setCell hAW)];rfl
    have hK10:((W.setCell ⟨w.heap.size,0,none⟩ (.int .i64 d)).setCell ⟨w.heap.size,1,none⟩ (.slice ua un uc)).heap[D]? = some (.deferred (some [])):=(KeepsOthers.setCell _ _ _).same D _ ((KeepsOthers.setCell _ _ _).same D _ hK9 rfl) rfl
    have hb9:Below w.heap.size w ((W.setCell ⟨w.heap.size,0,none⟩ (.int .i64 d)).setCell ⟨w.heap.size,1,none⟩ (.slice ua un uc)):=((b02.trans ((hB0.trans hkx.1).mono b02.size)).setCell (p:=⟨w.heap.size,0,none⟩) (Nat.le_refl _) _).setCell (p:=⟨w.heap.size,1,none⟩) (Nat.le_refl _) _
    have hr9:=ownsRow_set (ownsRow_set hrow (B:=w.heap.size) (i:=0) (v':=.int .i64 d) (by omega)) (B:=w.heap.size) (i:=1) (v':=.slice ua un uc) (by omega)
    gi_wp2
    refine ⟨by simp,.inl ⟨_,_,rfl,run_takeDeferred hK10,?_⟩⟩
    exact ⟨_,results_cell1 rfl _ w.heap.size _ _ rfl rfl (range_all (C:=[.int .i64 d,.slice ua un uc]) ((World.putObj_heap_other (by omega)).trans hW9)) Try.rowL Try.sizeL,d,_,xs,rfl,owns_mono (ownsRow_putObj hr9 _ hK10 rfl) (by omega),hback.out,hf0.out,hl,d0,d1,hb9.trans (belowK_b (w:=w) (Nat.le_refl _) _ D _ _ (by omega) hK10 rfl rfl)⟩
   case stop2 =>
    rintro D c pre W _ _ h _
    exact h.elim
end Go.Proofs.Ytghlilncdfiojaa
