/-
  Read: linksOf.
-/
import Derived.Test.YtghlilncdfiojaaThKAS
import Derived.Test.YtghlilncdfiojaaLibS
namespace Go.Proofs.Ytghlilncdfiojaa
set_option linter.unusedVariables false
set_option linter.unusedSimpArgs false
set_option maxRecDepth 20000
open Go.RowKit Go.Shelf

attribute [local go_sem] Oper.semAt_some

theorem Prs2.form {v:Value} {m b off:Nat} (h:Prs2 v m b off):∃ a n c,v = .slice a n c:=by
 rcases h with ⟨a,c,rfl,_⟩ | ⟨cap,rfl,_⟩
 ·exact ⟨_,_,_,rfl⟩
 ·exact ⟨_,_,_,rfl⟩

/-- Unpack at the links' bytes. -/
theorem c_unpLnk {K:Nat} {v:Value} {bs:List UInt8} {xs:List Cat} (sh:ByteArray) (hsh:sh.data.toList = repS 56 50 (bs.length / 10)) (h63:bs.length ≤ 1000000) (hf:FitsB 2 xs) (hl:xs.length ≤ 100)
  (hu:unpack (repS 56 50 (bs.length / 10)) bs = some (prF xs)∨(unpack (repS 56 50 (bs.length / 10)) bs = none∧xs = [])) (w:World) (hx:Sl K w v bs.length (bs.map bv)) (hK:K ≤ w.heap.size) :
  Calls Try.prog 75 #[.string sh,v] w fun e w'=>∃ v2 er b off,e = .returned (.tuple #[v2,.int .i64 er])∧Prs2 v2 xs.length b off∧PrM w' b off xs∧Below w.heap.size w w':=by
 have hs:sh.size ≤ maxLen:=by
  have e:=ba_len sh
  rw [hsh,repS_len] at e
  unfold maxLen
  omega
 refine (c_unpack sh K v bs w hs hx hK).mono ?_
 rintro e w' ⟨hb,⟨fs,v2,h1,rfl,h2⟩ | ⟨h1,rfl⟩⟩
 ·rw [hsh] at h1
  rcases hu with hu | ⟨hu,_⟩
  ·rw [hu] at h1
   cases h1
   obtain ⟨b,off,h3,h4⟩:=prs_of hf h2 (by omega)
   exact ⟨_,_,b,off,rfl,h3,h4,hb⟩
  ·rw [hu] at h1
   cases h1
 ·rw [hsh] at h1
  rcases hu with hu | ⟨_,rfl⟩
  ·rw [hu] at h1
   cases h1
  ·exact ⟨_,_,0,0,rfl,.inl ⟨_,_,rfl,rfl⟩,(fun i hi=>by simp at hi),hb⟩

theorem Try.infoLnkF:(Try.prog.info? 50).map (fun i=>(i.zero,i.size,i.bytes)) = some (some (.agg #[.int .u64 0,.int .i64 0]),2,16):=by kernel_rfl

/-- The pairs that a walk has met. -/
def met {m:Nat} (xs:List Cat) (pre:List (Fin m)):List Cat:=pre.map fun i=>xs.getD i.1 (0,0)
theorem met_one {m:Nat} (xs:List Cat) (pre:List (Fin m)) (i:Fin m):met xs (pre ++ [i]) = met xs pre ++ [xs.getD i.1 (0,0)]:=by simp [met]
theorem met_all (xs:List Cat):met xs (List.finRange xs.length) = xs:=by
 unfold met
 refine List.ext_getElem (by simp) fun i h1 h2=>?_
 simp [List.getD_eq_getElem?_getD,List.getElem?_eq_getElem h2]

theorem Kx.of_grown {N O:Nat} {A B:World} {row:Option Nat} (hO:O < N) (h:A.grownBy B row) (hN:N ≤ A.heap.size) (hr:∀ r,row = some r→N ≤ r):Kx N O A B :=
 ⟨(Below.refl O A).grown h (by omega) (fun r e=>by have:=hr r e;omega),fun b hb _=>h.block b (by omega) (fun e=>by have:=hr b e.symm;omega)⟩
theorem ownFrom_kx {β:Type} {N O B:Nat} {w₀:World} (hO:O < N) (hN:N ≤ w₀.heap.size) (hB:N ≤ B):OwnFrom B (fun (_:β) W=>Kx N O w₀ W) :=
 fun _ _ _ _ hs hg hr=>hs.trans (Kx.of_grown hO hg (Nat.le_trans hN hs.1.size) (fun r e=>Nat.le_trans hB (hr r e).1))
theorem kx_b {N O:Nat} {w:World} (hO:O < N) (hN:N ≤ w.heap.size) (W:World) (l:Nat) (o o':Obj) (hl:w.heap.size ≤ l) (h:W.heap[l]? = some o) (_:o.isCells = false) (_:o.isWalk = false):Kx N O W (W.putObj l o') :=
 Kx.of_grown hO (grownBy_putObj' W l o') (by have:=(Array.getElem?_eq_some_iff.1 h).1;omega) (fun r e=>by cases e;omega)
theorem appendedX {W w1:World} {N B:Nat} {t e:TypeId} {size:Nat} {v v':Value} {k m:Nat} {xs ys:List Value} {tmp:Obj}
  (hv:Boxed W B t v) (hte:t ≠ e) (hrow:W.ownsRow N e size v k xs) (hO:B < N) (hN:N ≤ W.heap.size)
  (hown':w1.ownsRow N e size v' m ys) (hgrow:(W.alloc tmp).grownBy w1 v.ownBlock) :
  Boxed w1 B t v∧Boxed (w1.setCell ⟨B,0,none⟩ v') B t v'∧(w1.setCell ⟨B,0,none⟩ v').ownsRow N e size v' m ys∧KeepsOthers W (w1.setCell ⟨B,0,none⟩ v')∧Kx N B W (w1.setCell ⟨B,0,none⟩ v'):=by
 obtain ⟨a1,a2,_,a4,_⟩:=hv.appended hte (owns_mono hrow (Nat.zero_le _)) (Nat.zero_le _) (Nat.zero_le _) (owns_mono hown' (Nat.zero_le _)) hgrow
 refine ⟨a1,a2,hown'.kept (grownBy_setCell' w1 B v') (.inr (a1.not_row hte hown').symm),a4,?_⟩
 have k1:Kx N B W (W.alloc tmp):=Kx.of_grown hO (World.grownBy_alloc W tmp none) hN (fun r e=>by cases e)
 have k2:Kx N B (W.alloc tmp) w1:=Kx.of_grown hO hgrow (Nat.le_trans hN k1.1.size) (fun r ej=>by
  rcases hrow.2 with ⟨rfl,_⟩ | ⟨g,cap,cur,rfl,hb,_,_⟩
  ·simp [Value.ownBlock] at ej
  ·obtain rfl:g = r:=by simpa [Value.ownBlock] using ej
   exact hb)
 exact (k1.trans k2).trans ⟨(Below.refl B w1).setCell (p:=⟨B,0,none⟩) (Nat.le_refl _) v',fun b hb hne=>(grownBy_setCell' w1 B v').block b (by have:=k1.1.size;have:=k2.1.size;omega) (fun e=>hne (Option.some.inj e))⟩

set_option maxRecDepth 100000 in
set_option maxHeartbeats 4000000 in
theorem c_linksOf {K:Nat} {v:Value} {bs:List UInt8} (w:World) (hx:Sl K w v bs.length (bs.map bv)) (hK:K ≤ w.heap.size) (h63:bs.length ≤ 1000000) :
  Calls Try.prog 91 #[v] w fun e w'=>∃ v' xs,e = .returned v'∧w'.ownsRow w.heap.size 50 2 v' xs.length (ccells xs)∧(∀ ls,LkOk ls→ls.length ≤ 16→bs = pairB 2 ls→xs = ls)∧FitsB 2 xs∧xs.length ≤ 100∧Below w.heap.size w w':=by
 obtain ⟨xs,hf,hl,hback,hu⟩:=lnk_ex bs
 have hf0:Hid _:=hf
 have hl0:Hid _:=hl
 have hback:Hid _:=hback
 obtain ⟨i0,hi,hz0,hz1,hz2⟩:=info_parts Try.infoLnkF
 have hrep:∀ w,Hid (Calls Try.prog 87 #[.string { data:=#[56,50] },.int .i64 ((bs.length / 10:Nat):Int)] w fun e w'=>e = .returned (.string ⟨(Lib.repeatL [56,50] (bs.length / 10)).toArray⟩)∧Below w.heap.size w w'):=fun w =>
  c_repeat { data:=#[56,50] } (bs.length / 10) w (by omega) (by show 2 * _ ≤ _;omega)
 have hunp:∀ w1,Below w.heap.size w w1→Hid (Calls Try.prog 75 #[.string ⟨(Lib.repeatL [56,50] (bs.length / 10)).toArray⟩,v] w1 fun e w'=>∃ v2 er b off,e = .returned (.tuple #[v2,.int .i64 er])∧Prs2 v2 xs.length b off∧PrM w' b off xs∧Below w1.heap.size w1 w'):=fun w1 hb =>
  c_unpLnk _ (by simp [repS]) h63 hf hl hu w1 (hx.keep (hb.mono hK)) (Nat.le_trans hK hb.size)
 obtain ⟨ao,cap,rfl,hcap,_⟩:=hx
 have hq:((bs.length:Nat):Int) / 10 = ((bs.length / 10:Nat):Int):=by omega
 have hq':Int.tdiv ((bs.length:Nat):Int) 10 = ((bs.length / 10:Nat):Int):=by
  rw [Int.tdiv_eq_ediv_of_nonneg (by omega)]
  exact hq
 generalize hn:bs.length / 10 = q at *
 refine (callsIn_wide (n:=4)).1 ?_
 refine callsIn_of_wp_marks Try.func91 rfl trivial ?_ rfl
 simp only [Try.ntmps91,List.size_toArray,List.length_cons,List.length_nil,Nat.reduceAdd,Nat.reduceSub,Array.replicate_succ,Array.replicate_zero,List.push_toArray,List.append_toArray,List.nil_append,List.cons_append]
 gi_wp2_with (refine ⟨trivial,?_⟩;gi_at_call 87;refine (callsIn_wide.2 (hrep _).out).mono ?_;rintro e w1 ⟨rfl,b1⟩;refine stop_here ?_)
 unfold Hid
 gi_wp2_with (refine ⟨trivial,?_⟩;gi_at_call 75;refine (callsIn_wide.2 (hunp _ b1).out).mono ?_;rintro e w2 ⟨v2,er,b,off,rfl,hp,hpm,b2⟩;obtain ⟨va,vn,vc,rfl⟩:=hp.form;refine stop_here ?_)
 unfold Hid
 have b02:Below w.heap.size w w2:=b1.trans (b2.mono b1.size)
 clear b1 b2 hunp hrep
 gi_wp2_with (refine ⟨trivial,?_⟩;gi_at_call 90;refine (callsIn_wide.2 (c_chunk va vn vc _)).mono ?_;rintro e w3 ⟨rfl,rfl⟩)
 have bO:=Boxed.new w2 27 (.slice none 0 0)
 have bS:=Boxed.new (w2.alloc (.cells #[.slice none 0 0] 27)) 71 (.slice va vn vc)
 have bN:=Boxed.new ((w2.alloc (.cells #[.slice none 0 0] 27)).alloc (.cells #[.slice va vn vc] 71)) 3 (.int .i64 2)
 have hsz:(((w2.alloc (.cells #[.slice none 0 0] 27)).alloc (.cells #[.slice va vn vc] 71)).alloc (.cells #[.int .i64 2] 3)).heap.size = w2.heap.size + 3:=by simp
 have hB0:Below w2.heap.size w2 (((w2.alloc (.cells #[.slice none 0 0] 27)).alloc (.cells #[.slice va vn vc] 71)).alloc (.cells #[.int .i64 2] 3)):=(((Below.refl _ w2).alloc (Nat.le_refl _) _).alloc (by simp) _).alloc (by simp;omega) _
 have hpm0:=hpm.below hB0
 replace bO:=(bO.alloc (.cells #[.slice va vn vc] 71)).alloc (.cells #[.int .i64 2] 3)
 replace bS:=bS.alloc (.cells #[.int .i64 2] 3)
 rw [World.size_alloc] at bS
 rw [World.size_alloc,World.size_alloc] at bN
 generalize hW0:((w2.alloc (.cells #[.slice none 0 0] 27)).alloc (.cells #[.slice va vn vc] 71)).alloc (.cells #[.int .i64 2] 3) = W0 at *
 refine wpIn_rangeFunc_ownG rfl (by decide) (gf:=100) (lb:=#[.pointer (some ⟨w2.heap.size + 1,0,none⟩),.pointer (some ⟨w2.heap.size + 1 + 1,0,none⟩)]) rfl trivial (enters_of Try.func100 (by kernel_rfl) rfl)
  (chunk_stops _ (by decide) (w2.heap.size + 1) (w2.heap.size + 1 + 1) (w2.heap.size + 3) w2.heap.size xs.length b off _ W0 ⟨by omega,by omega⟩ ⟨by omega,by omega⟩ (by omega) bS.cell bN.cell hp)
  (fun h k=>Kx.trans h k) (kx_b (by omega) (by omega)) (Below.refl _ _) (fun _=>rfl)
  (fun pre W=>(∃ u,Boxed W w2.heap.size 27 u∧W.ownsRow (w2.heap.size + 3) 50 2 u (met xs pre).length (ccells (met xs pre))∧True)∧Kx (w2.heap.size + 3) w2.heap.size W0 W)
  (fun _ _ _=>False)
  (OwnFrom.and (Own.from (holdsRow_own (w2.heap.size + 3) w2.heap.size 27 50 2 (fun pre=>(met xs pre).length) (fun pre=>ccells (met xs pre)) (fun _ _=>True)) _) (ownFrom_kx (by omega) (by omega) (by omega)))
  (fun _ _ _ _ _ hs _ _=>hs)
  ⟨⟨_,bO,World.ownsRow_nil _ _ _ _,trivial⟩,Kx.refl _ _ _⟩
  (fun x=>{ tmps:=#[.slice ao bs.length cap,undef,.slice none 0 0,.slice va vn vc,.int .i64 er,.pointer (some ⟨w2.heap.size,0,none⟩),.slice (some ⟨b,off + 2 * x.1 * 2,none⟩) 2 2,.tuple #[.slice va vn vc,.int .i64 er],.slice ao bs.length cap,.int .i64 bs.length,.int .i64 q,.string { data:=(Lib.repeatL [56,50] q).toArray },.slice ao bs.length cap,.tuple #[.slice va vn vc,.int .i64 er],.slice va vn vc,.int .i64 er,.slice va vn vc,.func (.func 100) #[] #[.pointer (some ⟨w2.heap.size + 1,0,none⟩),.pointer (some ⟨w2.heap.size + 1 + 1,0,none⟩)],.slice (some ⟨b,off + 2 * x.1 * 2,none⟩) 2 2,undef,undef,undef,undef,undef,undef,undef,undef,undef,undef,undef,undef,undef,undef],defers:=[] }) ?assign ?body ?done ?stop
 case assign =>
  intro l x W Kc hKc
  gi_wp2
  exact hKc
 case body =>
  rintro l pre x W ⟨⟨u,hv,hrow,_⟩,hkx⟩ hlt
  have hc:=hv.cell
  obtain ⟨p0,p1,p2⟩:=hpm0 x.1 x.2
  have hbb:b < w2.heap.size:=(hpm x.1 x.2).1
  have c1:W.cell? ⟨b,off + 2 * x.1 * 2,none⟩ = some (.int .u64 xs[x.1].1):=(hkx.cell ⟨by omega,by omega⟩).trans p1
  have c2:W.cell? ⟨b,off + 2 * x.1 * 2 + 2,none⟩ = some (.int .u64 xs[x.1].2):=(hkx.cell ⟨by omega,by omega⟩).trans p2
  obtain ⟨f1,_,f2,f3⟩:=hf x.1 x.2
  have hm1:met xs (pre ++ [x]) = met xs pre ++ [xs[x.1]]:=by rw [met_one,List.getD_eq_getElem?_getD,List.getElem?_eq_getElem x.2];rfl
  have hml:(met xs pre).length = pre.length:=by simp [met]
  obtain ⟨y1,hy1⟩:∃ y1,y1 = xs[x.1].1:=⟨_,rfl⟩
  obtain ⟨y2,hy2⟩:∃ y2,y2 = xs[x.1].2:=⟨_,rfl⟩
  have hy:xs[x.1] = (y1,y2):=by rw [hy1,hy2]
  rw [← hy1] at c1
  rw [← hy2] at c2 f2 f3
  rw [hy] at hm1
  have hcv:∀ w,(convert 23 3 (.int .u64 y2)).run Try.prog w = .ok (.int .i64 y2) w:=fun w=>by
   simp [go_sem]
   try rw [IntKind.wrap_i64]
   omega
  have hN3:w2.heap.size + 3 ≤ W.heap.size:=by have:=hkx.1.size;omega
  have hbn:b < W.heap.size:=by omega
  generalize hpx:off + 2 * x.1 * 2 = px at *
  clear hy1 hy2 hpm hpm0 p0 p1 p2 hu hf hq hq' hn
  refine wpIn_block ?_
  have hS:Below W.heap.size W W.drew:=(Below.refl _ W).drew
  have hlo:¬ LetsOut (Exit.inBlock 1 (ownPostG W0.heap.size (Kx (w2.heap.size + 3) w2.heap.size)
   (fun pre W=>(∃ u,Boxed W w2.heap.size 27 u∧W.ownsRow (w2.heap.size + 3) 50 2 u (met xs pre).length (ccells (met xs pre))∧True)∧Kx (w2.heap.size + 3) w2.heap.size W0 W)
   (fun _ _ _=>False) (pre ++ [x]) W)):=fun ⟨_,_,h⟩=>h
  refine wpIn_region_ord [] 12 [(0,true),(1,true),(2,true),(3,true),(4,true),(5,true),(6,true),(7,true),(8,true),(9,true),(10,true),(11,false)] (fun w':World=>Below W.heap.size W w') (by kernel_rfl) (by kernel_rfl) (by kernel_rfl) hlo ?_
  refine ord_quietL _ ?_ rfl hS rfl ?_ ?_
  rotate_left
  ·rintro w' hn;have g0:w'.cell? ⟨w2.heap.size,0,none⟩ = some u:=(hn.cell (p:=⟨w2.heap.size,0,none⟩) (by show w2.heap.size < _;omega)).trans hc;go_simp;first | rfl | (rw [if_pos (by omega)];done) | (rw [if_pos (by omega)];rfl) | (rw [if_pos (by omega)];go_simp;rfl)
  simp only [pL,List.set]
  refine ord_quietL _ ?_ rfl hS rfl ?_ ?_
  rotate_left
  ·rintro w' hn;go_simp;first | rfl | (rw [if_pos (by omega)];done) | (rw [if_pos (by omega)];rfl) | (rw [if_pos (by omega)];go_simp;rfl)
  simp only [pL,List.set]
  refine ord_quietL _ ?_ rfl hS rfl ?_ ?_
  rotate_left
  ·rintro w' hn;go_simp;first | rfl | (rw [if_pos (by omega)];done) | (rw [if_pos (by omega)];rfl) | (rw [if_pos (by omega)];go_simp;rfl)
  simp only [pL,List.set]
  refine ord_quietL _ ?_ rfl hS rfl ?_ ?_
  rotate_left
  ·rintro w' hn;go_simp;first | rfl | (rw [if_pos (by omega)];done) | (rw [if_pos (by omega)];rfl) | (rw [if_pos (by omega)];go_simp;rfl)
  simp only [pL,List.set]
  refine ord_quietL _ ?_ rfl hS rfl ?_ ?_
  rotate_left
  ·rintro w' hn;have g0:w'.cell? ⟨b,px,none⟩ = some (.int .u64 y1):=(hn.cell (p:=⟨b,px,none⟩) hbn).trans c1;go_simp;first | rfl | (rw [if_pos (by omega)];done) | (rw [if_pos (by omega)];rfl) | (rw [if_pos (by omega)];go_simp;rfl)
  simp only [pL,List.set]
  refine ord_quietL _ ?_ rfl hS rfl ?_ ?_
  rotate_left
  ·rintro w' hn;go_simp;first | rfl | (rw [if_pos (by omega)];done) | (rw [if_pos (by omega)];rfl) | (rw [if_pos (by omega)];go_simp;rfl)
  simp only [pL,List.set]
  refine ord_quietL _ ?_ rfl hS rfl ?_ ?_
  rotate_left
  ·rintro w' hn;go_simp;first | rfl | (rw [if_pos (by omega)];done) | (rw [if_pos (by omega)];rfl) | (rw [if_pos (by omega)];go_simp;rfl)
  simp only [pL,List.set]
  refine ord_quietL _ ?_ rfl hS rfl ?_ ?_
  rotate_left
  ·rintro w' hn;go_simp;first | rfl | (rw [if_pos (by omega)];done) | (rw [if_pos (by omega)];rfl) | (rw [if_pos (by omega)];go_simp;rfl)
  simp only [pL,List.set]
  refine ord_quietL _ ?_ rfl hS rfl ?_ ?_
  rotate_left
  ·rintro w' hn;have g0:w'.cell? ⟨b,px + 2,none⟩ = some (.int .u64 y2):=(hn.cell (p:=⟨b,px + 2,none⟩) hbn).trans c2;go_simp;first | rfl | (rw [if_pos (by omega)];done) | (rw [if_pos (by omega)];rfl) | (rw [if_pos (by omega)];go_simp;rfl)
  simp only [pL,List.set]
  refine ord_quietL _ ?_ rfl hS rfl ?_ ?_
  rotate_left
  ·rintro w' hn;go_simp;first | rfl | (rw [if_pos (by omega)];done) | (rw [if_pos (by omega)];rfl) | (rw [if_pos (by omega)];go_simp;rfl)
  simp only [pL,List.set]
  refine ord_quietL _ ?_ rfl hS rfl ?_ ?_
  rotate_left
  ·rintro w' hn;go_simp;first | rfl | (rw [if_pos (by omega)];done) | (rw [if_pos (by omega)];rfl) | (rw [if_pos (by omega)];go_simp;rfl)
  simp only [pL,List.set]
  refine ord_actL _ rfl (fun K1 hK1=>?_)
  go_wp2
  refine hK1 _ _ (((Below.refl _ W).alloc (Nat.le_refl _) _).drew) ?_
  clear hK1 K1
  refine ord_tail ?_
  simp only [List.drop_succ_cons,List.drop_zero]
  have hrA:(W.alloc (.cells #[.int .u64 y1,.int .i64 y2] 50)).drew.ownsRow (w2.heap.size + 3) 50 2 u (met xs pre).length (ccells (met xs pre)):=hrow.alloc _
  have hslA:Sl (W.heap.size + 1) (W.alloc (.cells #[.int .u64 y1,.int .i64 y2] 50)).drew (.slice (some ⟨W.heap.size,0,none⟩) 1 1) 1 [.int .u64 y1,.int .i64 y2] :=
   ⟨_,1,rfl,⟨Nat.le_refl _,by decide⟩,(fun h=>by cases h),fun i c hc=>⟨W.heap.size,0,rfl,Nat.lt_succ_self _,cell_blk (heap_alloc_new W _) (by simpa using hc)⟩⟩
  refine wpList_append_sl _ rfl _ _ 27 rfl (w2.heap.size + 3) 50 i0 _ 2 16 Try.underlying27 hi hz0 hz1 hz2 rfl (by decide) _ _ _ rfl hrA _ _ _ _ rfl hslA rfl (by simp [Value.oneCell']) (by unfold maxLen;omega) (by omega) (by show _ ≤ (W.alloc _).heap.size;simp;omega) ?_
  intro v' w1 hown' hgrow _
  obtain ⟨g',cap',rfl⟩:=ownsRow_succ hown'
  have hgrow2:(W.alloc (.cells #[.int .u64 y1,.int .i64 y2] 50)).grownBy w1 u.ownBlock:=⟨hgrow.os,hgrow.tape,hgrow.output,hgrow.size,hgrow.block⟩
  obtain ⟨hv1,hv2,hr2,hk2,hb2⟩:=appendedX (tmp:=.cells #[.int .u64 y1,.int .i64 y2] 50) hv (by decide) hrow (by omega) hN3 hown' hgrow2
  have hc1:=hv1.cell
  have hf1:=hv1.frozen
  have fin:Hid (KeepsFrom W0.heap.size W (w1.setCell ⟨w2.heap.size,0,none⟩ (.slice (some ⟨g',0,none⟩) ((met xs pre).length + 1) cap'))∧Kx (w2.heap.size + 3) w2.heap.size W (w1.setCell ⟨w2.heap.size,0,none⟩ (.slice (some ⟨g',0,none⟩) ((met xs pre).length + 1) cap')) ∧
    ((∃ u,Boxed (w1.setCell ⟨w2.heap.size,0,none⟩ (.slice (some ⟨g',0,none⟩) ((met xs pre).length + 1) cap')) w2.heap.size 27 u∧(w1.setCell ⟨w2.heap.size,0,none⟩ (.slice (some ⟨g',0,none⟩) ((met xs pre).length + 1) cap')).ownsRow (w2.heap.size + 3) 50 2 u (met xs (pre ++ [x])).length (ccells (met xs (pre ++ [x])))∧True)∧Kx (w2.heap.size + 3) w2.heap.size W0 (w1.setCell ⟨w2.heap.size,0,none⟩ (.slice (some ⟨g',0,none⟩) ((met xs pre).length + 1) cap')))) :=
   ⟨hk2.from _,hb2,⟨_,hv2,by rw [hm1];simpa [ccells_append,ccells_one,ccell] using hr2,trivial⟩,hkx.trans hb2⟩
  clear hrA hslA hown' hgrow hgrow2 hv hv1 hv2 hr2 hk2 hb2 hc hkx hrow
  go_wp2
  rw [hml] at fin
  exact fin.out
 case done =>
  rintro D ys W hD rfl ⟨⟨u,hv,hrow,_⟩,hkx⟩ hK9
  have hc:=hv.cell
  gi_wp2
  rw [met_all] at hrow
  refine ⟨by simp,.inl ⟨_,_,rfl,run_takeDeferred hK9,?_⟩⟩
  have hbw:Below w.heap.size w W:=b02.trans ((hB0.trans hkx.1).mono b02.size)
  exact ⟨_,results_tmp rfl _ _ _,u,xs,rfl,owns_mono (ownsRow_putObj hrow _ hK9 rfl) (by have:=b02.size;omega),hback.out,hf0.out,hl0.out,hbw.trans (belowK_b (w:=w) (Nat.le_refl _) W D _ _ (by have:=b02.size;omega) hK9 rfl rfl)⟩
 case stop =>
  rintro D c pre W _ _ h _
  exact h.elim
end Go.Proofs.Ytghlilncdfiojaa
