/-
  ThU1, ThU2: in one text.
-/
import Derived.Test.YtghlilncdfiojaaThG1S
import Derived.Test.YtghlilncdfiojaaThY2S
import Derived.Test.YtghlilncdfiojaaThK6S
import Derived.Test.YtghlilncdfiojaaCodecS
namespace Go.Proofs.Ytghlilncdfiojaa
set_option linter.unusedVariables false
set_option linter.unusedSimpArgs false
set_option maxRecDepth 20000
open Go.RowKit

theorem packF_num {b:UInt8} {k v:Nat} {y:List UInt8} (hb:b ≠ 98) (hw:wdt b = some k) (h:packF b ⟨v,[]⟩ = some y):v < 256 ^ k∧y = be k v:=by
 unfold packF at h
 rw [if_neg hb,hw] at h
 simp only at h
 split at h
 ·rename_i hlt
  cases h
  exact ⟨hlt,rfl⟩
 ·cases h

theorem chunk_one {b:UInt8} {k:Nat} (hb:b ≠ 98) (hw:wdt b = some k) {c:List UInt8} (hl:c.length = 8 + k) :
  ∃ x y:Int,unpack [56,b] c = some [nF x,nF y]∧n8 x∧0 ≤ y∧y.toNat < 256 ^ k∧c = be 8 x.toNat ++ be k y.toNat:=by
 have h1:unpF 56 c = some (⟨val (c.take 8),[]⟩,c.drop 8):=by
  unfold unpF
  rw [if_neg (by decide),show wdt 56 = some 8 from rfl]
  simp only
  rw [if_pos (by omega)]
 have h2:unpF b (c.drop 8) = some (⟨val ((c.drop 8).take k),[]⟩,(c.drop 8).drop k):=by
  unfold unpF
  rw [if_neg hb,hw]
  simp only
  rw [if_pos (by rw [List.length_drop];omega)]
 have h3:(c.drop 8).drop k = []:=List.drop_eq_nil_of_le (by rw [List.length_drop];omega)
 obtain ⟨y1,p1,e1,_⟩:=packF_unpF h1
 obtain ⟨y2,p2,e2,_⟩:=packF_unpF h2
 obtain ⟨q1,rfl⟩:=packF_num (k:=8) (by decide) rfl p1
 obtain ⟨q2,rfl⟩:=packF_num hb hw p2
 rw [h3,List.append_nil] at e2
 refine ⟨(val (c.take 8):Int),(val ((c.drop 8).take k):Int),?_,⟨by omega,by have:=q1;omega⟩,by omega,by simpa using q2,?_⟩
 ·unfold unpack
  rw [if_pos (by simp)]
  simp only [unpL,h1,h2,h3]
  rfl
 ·rw [Int.toNat_natCast,Int.toNat_natCast,← e2]
  exact e1

theorem pair_step {kk k:Nat} {ys:List UInt8} {xs:List Cat} (hx:ys.take ((8 + kk) * k) = pairB kk xs) (hf:FitsB kk xs) (hl:xs.length = k) {x y:Int} (hc:(ys.drop ((8 + kk) * k)).take (8 + kk) = be 8 x.toNat ++ be kk y.toNat) (h8:n8 x) (y0:0 ≤ y) (y1:y.toNat < 256 ^ kk) :
  ys.take ((8 + kk) * (k + 1)) = pairB kk (xs ++ [(x,y)])∧FitsB kk (xs ++ [(x,y)])∧(xs ++ [(x,y)]).length = k + 1:=by
 refine ⟨?_,fun i hi=>?_,by simp [hl]⟩
 ·rw [Nat.mul_add,Nat.mul_one,List.take_add,hx,hc]
  unfold pairB
  rw [List.flatMap_append]
  simp
 ·by_cases h:i < xs.length
  ·rw [List.getElem_append_left h]
   exact hf i h
  ·have e:i = xs.length:=by simp at hi;omega
   subst e
   have h9:x.toNat < 256 ^ 8:=by have:=h8.2;have:=h8.1;omega
   have e:(xs ++ [(x,y)])[xs.length] = (x,y):=by simp
   rw [e]
   exact ⟨h8.1,h9,y0,y1⟩

theorem fits_nil (k:Nat):FitsB k []:=fun i hi=>by simp at hi
end Go.Proofs.Ytghlilncdfiojaa

namespace Go.Proofs.Ytghlilncdfiojaa
set_option linter.unusedVariables false
set_option linter.unusedSimpArgs false
set_option maxRecDepth 20000
open Go.RowKit

theorem sl_litT {V:World} {g m T:Nat} {cs:List Value} (h:V.heap[g]? = some (.cells cs.toArray T (0,0))) (hm:m ≤ 1000):Sl V.heap.size V (.slice (some ⟨g,0,none⟩) m m) m cs :=
 ⟨_,m,rfl,⟨Nat.le_refl _,by unfold maxLen;omega⟩,(fun h=>by cases h),fun i c hi=>⟨g,0,rfl,heap_lt h,cell_blk h (by simpa using hi)⟩⟩

theorem owns_base {w:World} {B B' e size n:Nat} {v:Value} {xs:List Value} (h:w.ownsRow B e size v n xs) (hb:B' ≤ B):w.ownsRow B' e size v n xs:=by
 refine ⟨h.1,?_⟩
 rcases h.2 with h2 | ⟨g,cap,cur,h1,h3,r⟩
 ·exact .inl h2
 ·exact .inr ⟨g,cap,cur,h1,Nat.le_trans hb h3,r⟩

theorem run_rem9 (n:Nat) (w:World):(binOp .rem 3 (.int .i64 n) (.int .i64 9)).run Try.prog w = .ok (.int .i64 ((n % 9:Nat):Int)) w:=by
 simp [go_sem]
 exact Int.tmod_eq_emod_of_nonneg (by omega)

/-- Two numbers that bytes tell. -/
theorem unp_two {s bs:List UInt8} {w w':World} {e:Ending} {x y:Int} (h:Unpacked s bs w e w') (hu:unpack s bs = some [nF x,nF y]) (hx:0 ≤ x) (hy:0 ≤ y) :
  ∃ b off cap,e = .returned (.tuple #[.slice (some ⟨b,off,none⟩) 2 cap,.int .i64 0])∧b < w'.heap.size∧2 ≤ cap∧w'.cell? ⟨b,off + 0,none⟩ = some (.int .u64 x)∧w'.cell? ⟨b,off + 2,none⟩ = some (.int .u64 y)∧Nw w w':=by
 obtain ⟨hb,⟨gs,v,h1,rfl,h3⟩ | ⟨h1,_⟩⟩:=h
 ·rw [hu] at h1
  cases h1
  obtain ⟨b,off,cap,rfl,hbl,hc⟩:=fa_form h3 (by simp)
  exact ⟨b,off,cap,rfl,hbl,hc,fa_num h3 0 x rfl hx,fa_num h3 1 y rfl hy,fr_of_below hb⟩
 ·rw [hu] at h1;cases h1

theorem lab_uniq {bs:List UInt8} {d:Int} {xs:List Cat} (hd:∃ c:UInt8,bs[0]? = some c∧(c.toNat:Int) = d) (hp:bs.drop 1 = pairB 1 xs) (hf:FitsB 1 xs) {d':Int} {xs':List Cat} (h:Rgt d' xs') (e:bs = labB d' xs'):d = d'∧xs = xs':=by
 obtain ⟨c,hc,hd⟩:=hd
 have h1:=h.lo
 have h4:=h.hi
 have e1:be 1 d'.toNat = [UInt8.ofNat d'.toNat]:=by simp [be]
 unfold labB at e
 rw [e1] at e
 subst e
 refine ⟨?_,pairB_inj hf (fits_rgt h) ?_⟩
 ·simp only [List.cons_append,List.getElem?_cons_zero,Option.some.injEq] at hc
  rw [← hd,← hc]
  simp
  omega
 ·rw [← hp];simp

/-- What stands ahead of a round. -/
def TxtL (bs:List UInt8) (w:World) (B base n:Nat) (d:Int) (iv:Value) (wr:World):Prop:=∃ (k:Nat) (xs:List Cat) (va:Option Addr) (vc i:Nat),iv = .int .i64 i∧Hid (i = 1 + 9 * k)∧i ≤ n∧Hid (xs.length = k)∧FitsB 1 xs∧(bs.drop 1).take ((8 + 1) * k) = pairB 1 xs∧wr.ownsRow base 52 2 (.slice va k vc) k (ccells xs)∧wr.heap[B]? = some (.cells #[.int .i64 d,.slice va k vc] 26 (0,0))∧wr.heap[w.heap.size]? = some (.cells #[.int .i64 0,.slice none 0 0] 26 (0,0))∧Nw w wr∧Hid (base ≤ wr.heap.size)

/-- What untext answers. -/
def TxtP (bs:List UInt8) (w:World) (e:Ending) (w':World):Prop:=∃ d u xs,e = .returned (.agg #[.int .i64 d,u])∧w'.ownsRow w.heap.size 52 2 u xs.length (ccells xs)∧(∀ d' xs',Rgt d' xs'→bs = labB d' xs'→d = d'∧xs = xs')∧xs.length ≤ 200∧Nw w w'

set_option maxRecDepth 100000 in
set_option maxHeartbeats 6400000 in
theorem c_runtext {K:Nat} {v:Value} {bs:List UInt8} (w:World) (hx:Sl K w v bs.length (bs.map bv)) (hK:K ≤ w.heap.size) (h1k:bs.length ≤ 1024) :
  Calls Try.prog 51 #[v] w (TxtP bs w):=by
 obtain ⟨i4,hi,hz0,hz1,hz2⟩:=info_parts Try.infoLabF
 obtain ⟨W,hW⟩:∃ W,Hid (W = (w.alloc (.cells #[.int .i64 0,.slice none 0 0] 26)).alloc (.cells #[.int .i64 (-1),.slice none 0 0] 26)):=⟨_,rfl⟩
 have nW:Nw w W:=by rw [hW.out];exact nw_alloc (nw_alloc (nw_refl w) _) _
 have hA:W.heap[w.heap.size]? = some (.cells #[.int .i64 0,.slice none 0 0] 26 (0,0)):=by rw [hW.out];exact heap_alloc2_old w _ _
 have hB:W.heap[w.heap.size + 1]? = some (.cells #[.int .i64 (-1),.slice none 0 0] 26 (0,0)):=by rw [hW.out];exact heap_alloc2_new w _ _
 have hAB:Hid (w.heap.size < w.heap.size + 1):=Nat.lt_succ_self _
 obtain ⟨ao,cap,rfl,hcap0,hao,hcs⟩:=hx
 have hx:Hid (Sl K w (.slice ao bs.length cap) bs.length (bs.map bv)):=⟨ao,cap,rfl,hcap0,hao,hcs⟩
 have hcap:=hcap0.1
 clear hao hcs hcap0
 obtain ⟨n,hnl⟩:∃ n,Hid (n = bs.length):=⟨_,rfl⟩
 rw [← hnl.out] at hx hcap h1k ⊢
 replace hK:Hid _:=hK
 have hrem:=run_rem9 n
 by_cases hm:n % 9 = 1
 ·have b1:(((n % 9:Nat):Int) != 1) = false:=by simp [hm]
  have hmod:Hid (n % 9 = 1):=hm
  have hn0:0 < bs.length:=by rw [← hnl.out];omega
  have hxW:Sl K W (.slice ao n cap) n (bs.map bv):=hx.out.keep (nW.below hK.out (fun _ h=>h.elim))
  obtain ⟨bb,bo,rfl,hbb,c0⟩:=sl_bytes_get hxW 0 hn0
  have d0:(0:Int) ≤ (bs[0].toNat:Int):=by omega
  have d1:(bs[0].toNat:Int) < 256:=by have:=bs[0].toNat_lt;omega
  obtain ⟨d,hd,hd0⟩:∃ d:Int,(bs[0].toNat:Int) = d∧Hid (∃ c:UInt8,bs[0]? = some c∧(c.toNat:Int) = d):=⟨_,rfl,bs[0],List.getElem?_eq_getElem hn0,rfl⟩
  rw [hd] at c0 d0 d1
  clear hd hm
  have hcv:∀ w,(convert 5 3 (.int .u8 d)).run Try.prog w = .ok (.int .i64 d) w:=fun w=>by
   simp [go_sem]
   try rw [IntKind.wrap_i64]
   omega
  have c0':W.cell? ⟨bb,bo,none⟩ = some (.int .u8 d):=c0
  have hnp:0 < n:=by rw [hnl.out];exact hn0
  go_enter Try.func51,Try.ntmps51
  go_upto_region 2 with fail
  first | rw [← hW.out] | skip
  clear hW
  generalize hBe:w.heap.size + 1 = B at *
  clear hBe
  have z0:W.cell? ⟨B,0,none⟩ = some (.int .i64 (-1)):=cell_blk hB rfl
  have y0:W.frozen? ⟨B,0,none⟩ = false:=free_blk hB
  obtain ⟨W1,hW1⟩:∃ W1,Hid (W1 = W.setCell ⟨B,0,none⟩ (.int .i64 d)):=⟨_,rfl⟩
  have nW1:Nw w W1:=by rw [hW1.out];exact nW.setCell (p:=⟨B,0,none⟩) (.inr (Nat.le_of_lt hAB.out)) _
  have hB1:W1.heap[B]? = some (.cells #[.int .i64 d,.slice none 0 0] 26 (0,0)):=by rw [hW1.out,blk_setCell hB];rfl
  have hA1:W1.heap[w.heap.size]? = some (.cells #[.int .i64 0,.slice none 0 0] 26 (0,0)):=by rw [hW1.out,Below.heap_setCell _ _ _ _ (by show w.heap.size ≠ B;have:=hAB.out;omega)];exact hA
  go_upto_region 5 with fail
  first | rw [← hW1.out] | skip
  clear hW1 z0 y0 hA hB nW hxW c0 c0' hcv b1
  go_wp2
  obtain ⟨base,hbase⟩:∃ base,Hid (base = W1.heap.size):=⟨_,rfl⟩
  have hBb:Hid (B < base):=by rw [hbase.out];exact heap_lt hB1
  have hb0:Hid (base ≤ W1.heap.size):=by rw [hbase.out];exact Nat.le_refl _
  clear hbase
  generalize ((n:Int) % 9 != 1) = q11
  go_loopw [4] (fun iv wr=>TxtL bs w B base n d iv wr) (fun iv _=>n - (intOf iv).toNat)
  case atStart=>exact ⟨0,[],none,0,1,rfl,rfl,hnp,rfl,fits_nil 1,rfl,World.ownsRow_nil _ _ _ _,hB1,hA1,nW1,hb0⟩
  case round =>
   clear hA1 hB1 nW1 hb0
   obtain ⟨k,xs,va,vc,i,rfl,hi9,hin,hxl,hfit,hpre,hown,hB,hA,nW,hb5⟩:=hrel
   by_cases hlt:i < n
   ·skip
    obtain ⟨ch,hch,hsv0⟩:∃ ch,ch = (bs.drop i).take 9∧True:=⟨_,rfl,trivial⟩
    have hdiv:i + 9 ≤ n:=by have:=hi9.out;have:=hmod.out;omega
    have hchl:ch.length = 9:=by rw [hch,List.length_take,List.length_drop];have:=hnl.out;omega
    obtain ⟨x,y,hu,hx8,y0,y1',hce⟩:=chunk_one (b:=49) (k:=1) (by decide) rfl (c:=ch) hchl
    have y1:y < 256:=by have h9:y.toNat < 256:=y1';omega
    have hstep:Hid _:=pair_step (kk:=1) (ys:=bs.drop 1) hpre hfit hxl.out (x:=x) (y:=y) (by rw [List.drop_drop,show 1 + (8 + 1) * k = i from hi9.out.symm,← hce];exact hch.symm) hx8 y0 y1'
    have hxr:Sl K wr (.slice (some ⟨bb,bo,none⟩) bs.length cap) bs.length (bs.map bv):=by have h9:=hx.out.keep (nW.below hK.out (fun _ h=>h.elim));rw [hnl.out] at h9;exact h9
    obtain ⟨sv,hsv,hsl⟩:=cut_named hxr i 9 (by have:=hnl.out;omega)
    rw [← hch] at hsl
    have hrun:=run_cut (P:=Try.prog) 28 5 Try.underlying28 Try.infoB1 sv hsv hdiv hcap
    have hcu:Hid _:=c_refunpack ⟨#[56,49]⟩ K sv ch wr (by decide) (by rw [hchl];exact hsl) (Nat.le_trans hK.out nW.size)
    have hlt9:Hid (i + 9 ≤ n):=hdiv
    have hk200:k ≤ 200:=by have:=hi9.out;omega
    clear hsl hxr hch hsv0 hce hpre hfit y1' hdiv hsv
    go_upto_region 8 with fail
    go_wp2_with (go_at_call 50;refine Calls.mono hcu.out ?_;rintro e W5 hun;obtain ⟨b,off,cap2,rfl,hbl,hc2,f0,f2,n5⟩:=unp_two hun hu hx8.1 y0;refine stop_here ?_)
    unfold Hid
    clear hcu hrun hu hun hchl
    replace hA:=(n5.block _ (heap_lt hA) (fun h=>h)).trans hA
    replace hB:=(n5.block _ (heap_lt hB) (fun h=>h)).trans hB
    replace hown:=owns_nw hown n5
    replace nW:=nw_trans nW n5
    replace hb5:Hid (base ≤ W5.heap.size):=Nat.le_trans hb5.out n5.size
    clear n5
    go_upto_region 9 with fail
    have hSof:∀ w',Nw W5 w'→(fun w':World=>Nw W5 w'∧w'.heap[B]? = some (.cells #[.int .i64 d,.slice va k vc] 26 (0,0))) w':=fun w' hw=>⟨hw,(hw.block _ (heap_lt hB) (fun h=>h)).trans hB⟩
    have hW0:Nw W5 W5.drew:=Fr.drew (Fr.refl _ W5)
    have hS:=hSof _ hW0
    replace hSof:Hid _:=hSof
    refine wp_region_ord [] 13 [(0,true),(2,true),(6,true),(1,true),(3,true),(7,true),(4,true),(8,true),(5,true),(9,true),(10,true),(11,true),(12,false)] (fun w':World=>Nw W5 w'∧w'.heap[B]? = some (.cells #[.int .i64 d,.slice va k vc] 26 (0,0))) (by kernel_rfl) (by kernel_rfl) ?_
    refine ord_quietL _ ?_ rfl hS rfl ?_ ?_
    rotate_left
    ·rintro w' ⟨hn,rhB⟩;go_simp;rfl
    simp only [pL,List.set]
    refine ord_quietL _ ?_ rfl hS rfl ?_ ?_
    rotate_left
    ·rintro w' ⟨hn,rhB⟩;go_simp;rfl
    simp only [pL,List.set]
    refine ord_quietL _ ?_ rfl hS rfl ?_ ?_
    rotate_left
    ·rintro w' ⟨hn,rhB⟩;go_simp;rfl
    simp only [pL,List.set]
    refine ord_quietL _ ?_ rfl hS rfl ?_ ?_
    rotate_left
    ·rintro w' ⟨hn,rhB⟩;have g0:w'.cell? ⟨B,1,none⟩ = some (.slice va k vc):=cell_blk rhB rfl;go_simp;rfl
    simp only [pL,List.set]
    refine ord_quietL _ ?_ rfl hS rfl ?_ ?_
    rotate_left
    ·rintro w' ⟨hn,rhB⟩;go_simp;rfl
    simp only [pL,List.set]
    refine ord_quietL _ ?_ rfl hS rfl ?_ ?_
    rotate_left
    ·rintro w' ⟨hn,rhB⟩;go_simp;rfl
    simp only [pL,List.set]
    refine ord_quietL _ ?_ rfl hS rfl ?_ ?_
    rotate_left
    ·rintro w' ⟨hn,rhB⟩;go_simp;rfl
    simp only [pL,List.set]
    refine ord_quietL _ ?_ rfl hS rfl ?_ ?_
    rotate_left
    ·rintro w' ⟨hn,rhB⟩;go_simp;rfl
    simp only [pL,List.set]
    refine ord_quietL _ ?_ rfl hS rfl ?_ ?_
    rotate_left
    ·rintro w' ⟨hn,rhB⟩;have g0:w'.cell? ⟨b,off + 0,none⟩ = some (.int .u64 x):=(World.cell?_of_block (w:=W5) (hn.block b hbl (fun h=>h))).trans f0;have g1:w'.cell? ⟨b,off,none⟩ = some (.int .u64 x):=g0;go_simp;rfl
    simp only [pL,List.set]
    refine ord_quietL _ ?_ rfl hS rfl ?_ ?_
    rotate_left
    ·rintro w' ⟨hn,rhB⟩;have g0:w'.cell? ⟨b,off + 2,none⟩ = some (.int .u64 y):=(World.cell?_of_block (w:=W5) (hn.block b hbl (fun h=>h))).trans f2;go_simp;rfl
    simp only [pL,List.set]
    refine ord_quietL _ ?_ rfl hS rfl ?_ ?_
    rotate_left
    ·rintro w' ⟨hn,rhB⟩;have hc:=cv64 y0 (Int.lt_trans y1 (by decide)) w';go_simp;rfl
    simp only [pL,List.set]
    refine ord_quietL _ ?_ rfl hS rfl ?_ ?_
    rotate_left
    ·rintro w' ⟨hn,rhB⟩;go_simp;rfl
    simp only [pL,List.set]
    refine ord_actL _ rfl (fun K1 hK1=>?_)
    go_wp2
    have nB:Nw W5 (W5.alloc (.cells #[.int .u64 x,.int .i64 y] 52)).drew:=Fr.drew (nw_alloc (nw_refl _) _)
    refine hK1 _ _ (hSof.out _ nB) ?_
    clear hK1 K1 hS
    have hS:=hSof.out _ nB
    refine ord_tail ?_
    simp only [List.drop_succ_cons,List.drop_zero]
    have hown9:=owns_nw hown nB
    have hsl:Sl (W5.alloc (.cells #[.int .u64 x,.int .i64 y] 52)).drew.heap.size (W5.alloc (.cells #[.int .u64 x,.int .i64 y] 52)).drew (.slice (some ⟨W5.heap.size,0,none⟩) 1 1) 1 [.int .u64 x,.int .i64 y]:=sl_litT (V:=(W5.alloc (.cells #[.int .u64 x,.int .i64 y] 52)).drew) (heap_alloc_new W5 _) (by omega)
    have hB9:(W5.alloc (.cells #[.int .u64 x,.int .i64 y] 52)).drew.heap[B]? = _:=(nB.block _ (heap_lt hB) (fun h=>h)).trans hB
    have hA9:(W5.alloc (.cells #[.int .u64 x,.int .i64 y] 52)).drew.heap[w.heap.size]? = _:=(nB.block _ (heap_lt hA) (fun h=>h)).trans hA
    have hlb:base ≤ (W5.alloc (.cells #[.int .u64 x,.int .i64 y] 52)).drew.heap.size:=Nat.le_trans hb5.out nB.size
    generalize (W5.alloc (.cells #[.int .u64 x,.int .i64 y] 52)).drew = W6 at *
    go_wp2_with (at_builtin;refine wpList_append_sl _ rfl _ _ 24 rfl base 52 i4 _ 2 16 Try.underlying24 hi hz0 hz1 hz2 rfl (by decide) (.slice va k vc) k _ rfl hown9 _ _ 1 _ rfl hsl rfl ?d1 ?d2 ?d3 ?d4 ?_)
    case d1=>intro z hz;simp at hz;rcases hz with rfl | rfl <;> rfl
    case d2=>unfold maxLen;omega
    case d3=>omega
    case d4=>exact hlb
    intro v9 w9 hownq hgrow hat
    obtain ⟨va9,vc9,hv9⟩:=owns_form hownq
    subst hv9
    have F9:Fr (fun q=>base ≤ q) W5 w9:=Fr.grown (fr_of_nw nB) hgrow (fun q hq=>.inl (hown9.lt q hq).1)
    replace hB9:=(hgrow.block _ (heap_lt hB9) (fun e=>by have:=(hown9.lt _ e.symm).1;have:=hBb.out;omega)).trans hB9
    replace hA9:=(hgrow.block _ (heap_lt hA9) (fun e=>by have:=(hown9.lt _ e.symm).1;have:=hBb.out;have:=hAB.out;omega)).trans hA9
    have z1:w9.cell? ⟨B,1,none⟩ = some (.slice va k vc):=cell_blk hB9 rfl
    have y1:w9.frozen? ⟨B,1,none⟩ = false:=free_blk hB9
    have nxt:Hid (∃ xs',Hid (xs'.length = k + 1)∧FitsB 1 xs'∧(bs.drop 1).take ((8 + 1) * (k + 1)) = pairB 1 xs'∧(w9.setCell ⟨B,1,none⟩ (.slice va9 (k + 1) vc9)).ownsRow base 52 2 (.slice va9 (k + 1) vc9) (k + 1) (ccells xs')):=by
     obtain ⟨p1,p2,p3⟩:=hstep.out
     refine ⟨xs ++ [(x,y)],p3,p2,p1,?_⟩
     rw [ccells_append,ccells_one]
     exact owns_of_block hownq (fun q hq=>by
      have h9:=(hownq.lt q hq).1
      have h8:=hBb.out
      exact Below.heap_setCell _ _ _ _ (by show q ≠ B;omega))
    have hB10:(w9.setCell ⟨B,1,none⟩ (.slice va9 (k + 1) vc9)).heap[B]? = some (.cells #[.int .i64 d,.slice va9 (k + 1) vc9] 26 (0,0)):=by rw [blk_setCell hB9];rfl
    have hA10:(w9.setCell ⟨B,1,none⟩ (.slice va9 (k + 1) vc9)).heap[w.heap.size]? = some (.cells #[.int .i64 0,.slice none 0 0] 26 (0,0)):=(Below.heap_setCell _ _ _ _ (by show w.heap.size ≠ B;have:=hAB.out;omega)).trans hA9
    have nW10:Nw w (w9.setCell ⟨B,1,none⟩ (.slice va9 (k + 1) vc9)):=(Fr.trans nW F9 (fun q hq=>.inr (by have:=hBb.out;have:=hAB.out;omega))).setCell (p:=⟨B,1,none⟩) (.inr (by have:=hAB.out;show w.heap.size ≤ B;omega)) _
    have hx10:Hid (base ≤ (w9.setCell ⟨B,1,none⟩ (.slice va9 (k + 1) vc9)).heap.size):=Nat.le_trans hb5.out (Fr.setCell (p:=⟨B,1,none⟩) (S:=fun q=>base ≤ q∨q = B) (F9.mono (fun q h=>.inl h)) (.inl (.inr rfl)) (.slice va9 (k + 1) vc9)).size
    clear hown hown9 hownq hgrow hat hsl hB9 hA9 hA hB F9 nB hS hSof f0 f2 hlb nW hstep
    go_wp2
    go_roundw
    case rel =>
     obtain ⟨xs',q1,q2,q3,q4⟩:=nxt.out
     exact ⟨k + 1,xs',va9,vc9,i + 9,by go_num,(by have:=hi9.out;unfold Hid;omega),by have:=hlt9.out;omega,q1,q2,q3,q4,hB10,hA10,nW10,hx10⟩
    case measure=>simp [intOf];omega
   ·skip
    have hie:i = n:=by omega
    have huniq:∀ d' xs',Rgt d' xs'→bs = labB d' xs'→d = d'∧xs = xs':=fun d' xs' h e=>by
     have e1:(bs.drop 1).take ((8 + 1) * k) = bs.drop 1:=List.take_of_length_le (by rw [List.length_drop];have:=hnl.out;have:=hi9.out;omega)
     rw [e1] at hpre
     exact lab_uniq hd0.out hpre hfit h e
    have hl200:xs.length ≤ 200:=by have:=hxl.out;have:=hi9.out;omega
    have hle:k = xs.length:=hxl.out.symm
    subst hle
    have fin:Hid (((wr.setCell ⟨w.heap.size,0,none⟩ (.int .i64 d)).setCell ⟨w.heap.size,1,none⟩ (.slice va xs.length vc)).rangeAt w.heap.size 0 [.int .i64 d,.slice va xs.length vc]∧((wr.setCell ⟨w.heap.size,0,none⟩ (.int .i64 d)).setCell ⟨w.heap.size,1,none⟩ (.slice va xs.length vc)).ownsRow w.heap.size 52 2 (.slice va xs.length vc) (xs).length (ccells (xs))∧(∀ d' xs',Rgt d' xs'→bs = labB d' xs'→d = d'∧xs = xs')∧(xs).length ≤ 200∧Nw w ((wr.setCell ⟨w.heap.size,0,none⟩ (.int .i64 d)).setCell ⟨w.heap.size,1,none⟩ (.slice va xs.length vc))) :=
     ⟨range_all (C:=[.int .i64 d,.slice va xs.length vc]) (by rw [blk_setCell (blk_setCell hA)];rfl),(owns_of_block (owns_base hown (by have:=hBb.out;have:=hAB.out;omega)) (fun q hq=>by have h9:=(hown.lt q hq).1;have:=hBb.out;have:=hAB.out;rw [Below.heap_setCell _ _ _ _ (by show q ≠ w.heap.size;omega),Below.heap_setCell _ _ _ _ (by show q ≠ w.heap.size;omega)])),huniq,hl200,(nW.setCell (p:=⟨w.heap.size,0,none⟩) (.inr (Nat.le_refl _)) _).setCell (p:=⟨w.heap.size,1,none⟩) (.inr (Nat.le_refl _)) _⟩
    have r0:wr.cell? ⟨w.heap.size,0,none⟩ = some (.int .i64 0):=cell_blk hA rfl
    have r1:wr.cell? ⟨w.heap.size,1,none⟩ = some (.slice none 0 0):=cell_blk hA rfl
    have rf:∀ k,wr.frozen? ⟨w.heap.size,k,none⟩ = false:=fun k=>free_blk hA
    have b0:wr.cell? ⟨B,0,none⟩ = some (.int .i64 d):=cell_blk hB rfl
    have b1:wr.cell? ⟨B,1,none⟩ = some (.slice va xs.length vc):=cell_blk hB rfl
    clear hown hpre hfit huniq hA hB nW hi9
    go_wp2
    obtain ⟨hrr,f1,f2,f3,f4⟩:=fin.out
    refine bodyPost_ret (results_cell1 rfl _ w.heap.size _ _ rfl rfl hrr Try.rowL Try.sizeL) rfl ?_
    exact ⟨_,_,_,rfl,f1,f2,f3,f4⟩
 ·have b1:(((n % 9:Nat):Int) != 1) = true:=by simp;omega
  have huniq:∀ d' xs',Rgt d' xs'→bs = labB d' xs'→(-1:Int) = d'∧([]:List Cat) = xs':=fun d' xs' h e=>by
   have h9:=congrArg List.length e
   rw [labB_length,← hnl.out] at h9
   omega
  go_enter Try.func51,Try.ntmps51
  go_upto_region 2 with fail
  first | rw [← hW.out] | skip
  clear hW
  generalize hBe:w.heap.size + 1 = B at *
  clear hBe
  have fin:Hid (((W.setCell ⟨w.heap.size,0,none⟩ (.int .i64 (-1))).setCell ⟨w.heap.size,1,none⟩ (.slice none 0 0)).rangeAt w.heap.size 0 [.int .i64 (-1),.slice none 0 0]∧((W.setCell ⟨w.heap.size,0,none⟩ (.int .i64 (-1))).setCell ⟨w.heap.size,1,none⟩ (.slice none 0 0)).ownsRow w.heap.size 52 2 (.slice none 0 0) (([]:List Cat)).length (ccells (([]:List Cat)))∧(∀ d' xs',Rgt d' xs'→bs = labB d' xs'→(-1) = d'∧([]:List Cat) = xs')∧(([]:List Cat)).length ≤ 200∧Nw w ((W.setCell ⟨w.heap.size,0,none⟩ (.int .i64 (-1))).setCell ⟨w.heap.size,1,none⟩ (.slice none 0 0))) :=
   ⟨range_all (C:=[.int .i64 (-1),.slice none 0 0]) (by rw [blk_setCell (blk_setCell hA)];rfl),World.ownsRow_nil _ _ _ _,huniq,(by simp),(nW.setCell (p:=⟨w.heap.size,0,none⟩) (.inr (Nat.le_refl _)) _).setCell (p:=⟨w.heap.size,1,none⟩) (.inr (Nat.le_refl _)) _⟩
  have r0:W.cell? ⟨w.heap.size,0,none⟩ = some (.int .i64 0):=cell_blk hA rfl
  have r1:W.cell? ⟨w.heap.size,1,none⟩ = some (.slice none 0 0):=cell_blk hA rfl
  have rf:∀ k,W.frozen? ⟨w.heap.size,k,none⟩ = false:=fun k=>free_blk hA
  have b0:W.cell? ⟨B,0,none⟩ = some (.int .i64 (-1)):=cell_blk hB rfl
  have b1:W.cell? ⟨B,1,none⟩ = some (.slice none 0 0):=cell_blk hB rfl
  clear hA hB nW huniq
  go_wp2
  obtain ⟨hrr,f1,f2,f3,f4⟩:=fin.out
  refine bodyPost_ret (results_cell1 rfl _ w.heap.size _ _ rfl rfl hrr Try.rowL Try.sizeL) rfl ?_
  exact ⟨_,_,_,rfl,f1,f2,f3,f4⟩
end Go.Proofs.Ytghlilncdfiojaa
