/-
  The document's Read.
-/
import Derived.Deep.DeepCutAuto
import Derived.Deep.CutBlock
import Derived.Test.YtghlilncdfiojaaThUAS
import Derived.Test.YtghlilncdfiojaaThY4S
import Derived.Test.YtghlilncdfiojaaThG7S
namespace Go.Proofs.Ytghlilncdfiojaa
set_option linter.unusedVariables false
set_option linter.unusedSimpArgs false
set_option maxRecDepth 20000
open Go.RowKit

def tlB (k:Nat):ByteArray:=if k = 1 then ⟨#[50,98]⟩ else if k = 2 then ⟨#[98,56,56,56,56,49,49,49]⟩ else if k = 3 then ⟨#[98,56]⟩ else if k = 4 then ⟨#[98]⟩ else if k = 5 then ⟨#[56,56,56,56,56,56,56,56]⟩ else ⟨#[]⟩
theorem tl_cell {w:World} {g:Nat} (h:w.heap[g]? = some (.cells #[.string { data:=#[] },.string { data:=#[50,98] },.string { data:=#[98,56,56,56,56,49,49,49] },.string { data:=#[98,56] },.string { data:=#[98] },.string { data:=#[56,56,56,56,56,56,56,56] },.string { data:=#[] }] 81 (0,0))) {k:Nat} (hk:1 ≤ k∧k ≤ 6):w.cell? ⟨g,k,none⟩ = some (.string (tlB k)):=by
 obtain ⟨h1,h2⟩:=hk
 have e:k = 1∨k = 2∨k = 3∨k = 4∨k = 5∨k = 6:=by omega
 rcases e with rfl | rfl | rfl | rfl | rfl | rfl <;> exact cell_blk h rfl
theorem tl_cat {k:Nat} (hk:1 ≤ k∧k ≤ 6):(({ data:=#[56,49,98,50] }:ByteArray) ++ tlB k) = shB k:=by
 obtain ⟨h1,h2⟩:=hk
 have e:k = 1∨k = 2∨k = 3∨k = 4∨k = 5∨k = 6:=by omega
 rcases e with rfl | rfl | rfl | rfl | rfl | rfl <;> rfl
theorem unp_kind {k kk a:Int} {n:Nat} {bs:List UInt8} {gs:List Fld} (h:unpack (shL k) bs = some (nF a :: nF kk :: gs)) (h1:n1 kk) (hc:∃ c:UInt8,bs[8]? = some c∧c.toNat = n):kk = n:=by
 have h:=(unpack_some h).2
 rw [show shL k = 56 :: 49 :: 98 :: 50 :: tailL k from rfl] at h
 obtain ⟨f1,r1,g1,p1,q1,e1⟩:=unpL_one h
 obtain ⟨f2,r2,g2,p2,q2,e2⟩:=unpL_one q1
 simp only [List.cons.injEq] at e1
 obtain ⟨rfl,rfl⟩:=e1
 simp only [List.cons.injEq] at e2
 obtain ⟨rfl,rfl⟩:=e2
 obtain ⟨y1,s1,t1,_⟩:=packF_unpF p1
 obtain ⟨y2,s2,t2,_⟩:=packF_unpF p2
 obtain ⟨_,rfl⟩:=packF_num (k:=8) (by decide) rfl s1
 obtain ⟨_,rfl⟩:=packF_num (k:=1) (by decide) rfl s2
 obtain ⟨c,hc,hn⟩:=hc
 rw [t1,t2,List.getElem?_append_right (by rw [be_length];omega),be_length] at hc
 simp [be] at hc
 have h0:=h1.1
 have h9:=h1.2
 rw [← hn,← hc]
 simp
 omega
theorem kind16 {t:Th} (h:RightT t):1 ≤ t.kind∧t.kind ≤ 6:=by
 rcases h.parts with ⟨hk,_⟩ | ⟨hk,_⟩ | ⟨hk,_⟩ | ⟨hk,_⟩ | ⟨hk,_⟩ | ⟨hk,_⟩ <;> omega

/-- What stands behind the head's read. -/
def RdC (lb:List UInt8) (V:World) (a k q:Int) (pv:Value) (wc:World):Prop:=∃ (P:Nat) (d:Int) (xs:List Cat) (va:Option Addr) (vc:Nat),pv = .pointer (some ⟨P,0,none⟩)∧wc.heap[P]? = some (.cells (thC ({ zeroT with id:=a,kind:=k,df:=d,cats:=xs,quota:=q }) (.slice va xs.length vc) (.slice none 0 0) (.slice none 0 0) (.slice none 0 0)).toArray 34 (0,0))∧V.heap.size ≤ P∧CSl (fun b=>V.heap.size ≤ b∧b ≠ P) wc (.slice va xs.length vc) xs∧Nw V wc∧xs.length ≤ 200∧(∀ d' xs',Rgt d' xs'→lb = labB d' xs'→d = d'∧xs = xs')
/-- What stands ahead of a round over links. -/
def LnkL (lk:List UInt8) (t1:Th) (VL:Value) (P base n:Nat) (W1:World) (iv:Value) (wr:World):Prop:=∃ (k9:Nat) (ls:List Cat) (ka:Option Addr) (kc i:Nat),iv = .int .i64 i∧Hid (i = 10 * k9)∧i ≤ n∧Hid (ls.length = k9)∧FitsB 2 ls∧lk.take ((8 + 2) * k9) = pairB 2 ls∧wr.ownsRow base 50 2 (.slice ka k9 kc) k9 (ccells ls)∧wr.heap[P]? = some (.cells (thC t1 VL (.slice none 0 0) (.slice ka k9 kc) (.slice none 0 0)).toArray 34 (0,0))∧Fr (fun b=>b = P) W1 wr∧Hid (base ≤ wr.heap.size)
/-- What the part behind the head leaves. -/
def RdD (X:Nat→Prop) (P:Nat) (gs:List Fld) (t:Th) (wc wx:World):Prop:=Fr (fun b=>b = P) wc wx∧∃ t' vL vC vK vD,wx.heap[P]? = some (.cells (thC t' vL vC vK vD).toArray 34 (0,0))∧ThAt X wx t' vL vC vK vD∧SetP gs t t'∧WfT t'∧t'.cats.length ≤ 200∧t'.ccats.length ≤ 200

set_option maxRecDepth 100000 in
set_option maxHeartbeats 6400000 in
theorem c_rread {K:Nat} {v:Value} {bs:List UInt8} (w:World) (hx:Sl K w v bs.length (bs.map bv)) (hK:K ≤ w.heap.size) :
  Calls Try.prog 19 #[v] w fun e w'=>ReadP bs e w'∧Nw w w':=by
 obtain ⟨W,hW⟩:∃ W,Hid (W = w.alloc (.cells (thC zeroT (.slice none 0 0) (.slice none 0 0) (.slice none 0 0) (.slice none 0 0)).toArray 34)):=⟨_,rfl⟩
 have nW:Nw w W:=by rw [hW.out];exact nw_alloc (nw_refl w) _
 have hZ:W.heap[w.heap.size]? = some (.cells (thC zeroT (.slice none 0 0) (.slice none 0 0) (.slice none 0 0) (.slice none 0 0)).toArray 34 (0,0)):=by rw [hW.out];exact heap_alloc_new w _
 have hxW:Sl K W v bs.length (bs.map bv):=hx.keep (nW.below hK (fun _ h=>h.elim))
 obtain ⟨ao,cap,rfl,hcap,-,-⟩:=hx
 have hcm:cap ≤ 9223372036854775807:=hcap.2
 by_cases h8:bs.length ≤ 8
 ·have b8:decide ((bs.length:Int) < 9) = true:=decide_eq_true (by omega)
  have hno:∀ u,RightT u→WfT u→imgO u ≠ some bs:=fun u hu wu e=>by have:=(img_kind hu wu e).1;omega
  generalize bs.length = n at *
  go_enter Try.func19,Try.ntmps19
  go_upto_region 1 with (refine wpList_alloc_agg rfl 34 rfl _ Try.zeroTh ?_)
  rw [← hW.out]
  clear hW
  clear hxW
  go_upto_region 2 with fail
  refine wp_region_list ?_
  simp only [List.toList_toArray,List.append_eq,List.cons_append,List.nil_append]
  refine wpList_build_as rfl 34 _ rfl (thV zeroT (.slice none 0 0) (.slice none 0 0) (.slice none 0 0) (.slice none 0 0)) (thC zeroT (.slice none 0 0) (.slice none 0 0) (.slice none 0 0) (.slice none 0 0)).toArray rfl ?z ?_
  case z =>
   simp only [List.map_nil]
   exact Try.builtZ
  simp only [pL,List.set]
  refine wpList_store_all rfl 34 _ _ rfl w.heap.size rfl (thV zeroT (.slice none 0 0) (.slice none 0 0) (.slice none 0 0) (.slice none 0 0)) rfl (thC zeroT (.slice none 0 0) (.slice none 0 0) (.slice none 0 0) (.slice none 0 0)) rfl (thC zeroT (.slice none 0 0) (.slice none 0 0) (.slice none 0 0) (.slice none 0 0)) 34 hZ rfl (th_one _ _ _ _ _ rfl rfl rfl rfl) Try.sizeT ?_
  go_wp2
  refine bodyPost_ret (results_cell2 rfl _ w.heap.size _ (thV zeroT (.slice none 0 0) (.slice none 0 0) (.slice none 0 0) (.slice none 0 0)) rfl rfl (range_all (setRow_heap _ _ _ _ _ _ hZ)) Try.rowT Try.sizeT) rfl ?_
  exact ⟨.inr ⟨hno,rfl⟩,Fr.setRow nW (.inr (Nat.le_refl _)) _⟩
 ·have b8:decide ((bs.length:Int) < 9) = false:=decide_eq_false (by omega)
  obtain ⟨b,off,rfl,hb,c8⟩:=sl_bytes_get hxW 8 (by omega)
  have hk256:bs[8].toNat < 256:=bs[8].toNat_lt
  obtain ⟨k,hkk,hbk⟩:∃ k:Nat,bs[8].toNat = k∧Hid (∃ c:UInt8,bs[8]? = some c∧c.toNat = k):=⟨_,rfl,bs[8],List.getElem?_eq_getElem (by omega),rfl⟩
  rw [hkk] at c8 hk256
  have hknd:∀ u,RightT u→WfT u→imgO u = some bs→u.kind = (k:Int):=fun u hu wu e=>by
   obtain ⟨_,h8',hk9⟩:=img_kind hu wu e
   omega
  clear hkk
  have hn8:8 < bs.length:=by omega
  by_cases k1:k < 1
  ·have b1:decide ((k:Int) < 1) = true:=decide_eq_true (by omega)
   have hno:∀ u,RightT u→WfT u→imgO u ≠ some bs:=fun u hu wu e=>by have:=hknd u hu wu e;have:=(kind16 hu).1;omega
   generalize bs.length = n at *
   go_enter Try.func19,Try.ntmps19
   go_upto_region 1 with (refine wpList_alloc_agg rfl 34 rfl _ Try.zeroTh ?_)
   rw [← hW.out]
   clear hW
   clear hxW hknd
   go_upto_region 2 with fail
   refine wp_region_list ?_
   simp only [List.toList_toArray,List.append_eq,List.cons_append,List.nil_append]
   refine wpList_build_as rfl 34 _ rfl (thV zeroT (.slice none 0 0) (.slice none 0 0) (.slice none 0 0) (.slice none 0 0)) (thC zeroT (.slice none 0 0) (.slice none 0 0) (.slice none 0 0) (.slice none 0 0)).toArray rfl ?z ?_
   case z =>
    simp only [List.map_nil]
    exact Try.builtZ
   simp only [pL,List.set]
   refine wpList_store_all rfl 34 _ _ rfl w.heap.size rfl (thV zeroT (.slice none 0 0) (.slice none 0 0) (.slice none 0 0) (.slice none 0 0)) rfl (thC zeroT (.slice none 0 0) (.slice none 0 0) (.slice none 0 0) (.slice none 0 0)) rfl (thC zeroT (.slice none 0 0) (.slice none 0 0) (.slice none 0 0) (.slice none 0 0)) 34 hZ rfl (th_one _ _ _ _ _ rfl rfl rfl rfl) Try.sizeT ?_
   go_wp2
   refine bodyPost_ret (results_cell2 rfl _ w.heap.size _ (thV zeroT (.slice none 0 0) (.slice none 0 0) (.slice none 0 0) (.slice none 0 0)) rfl rfl (range_all (setRow_heap _ _ _ _ _ _ hZ)) Try.rowT Try.sizeT) rfl ?_
   exact ⟨.inr ⟨hno,rfl⟩,Fr.setRow nW (.inr (Nat.le_refl _)) _⟩
  ·by_cases k6:6 < k
   ·have b1:decide ((k:Int) < 1) = false:=decide_eq_false (by omega)
    have b6:decide (6 < (k:Int)) = true:=decide_eq_true (by omega)
    have hno:∀ u,RightT u→WfT u→imgO u ≠ some bs:=fun u hu wu e=>by have:=hknd u hu wu e;have:=(kind16 hu).2;omega
    generalize bs.length = n at *
    go_enter Try.func19,Try.ntmps19
    go_upto_region 1 with (refine wpList_alloc_agg rfl 34 rfl _ Try.zeroTh ?_)
    rw [← hW.out]
    clear hW
    clear hxW hknd
    go_upto_region 2 with fail
    refine wp_region_list ?_
    simp only [List.toList_toArray,List.append_eq,List.cons_append,List.nil_append]
    refine wpList_build_as rfl 34 _ rfl (thV zeroT (.slice none 0 0) (.slice none 0 0) (.slice none 0 0) (.slice none 0 0)) (thC zeroT (.slice none 0 0) (.slice none 0 0) (.slice none 0 0) (.slice none 0 0)).toArray rfl ?z ?_
    case z =>
     simp only [List.map_nil]
     exact Try.builtZ
    simp only [pL,List.set]
    refine wpList_store_all rfl 34 _ _ rfl w.heap.size rfl (thV zeroT (.slice none 0 0) (.slice none 0 0) (.slice none 0 0) (.slice none 0 0)) rfl (thC zeroT (.slice none 0 0) (.slice none 0 0) (.slice none 0 0) (.slice none 0 0)) rfl (thC zeroT (.slice none 0 0) (.slice none 0 0) (.slice none 0 0) (.slice none 0 0)) 34 hZ rfl (th_one _ _ _ _ _ rfl rfl rfl rfl) Try.sizeT ?_
    go_wp2
    refine bodyPost_ret (results_cell2 rfl _ w.heap.size _ (thV zeroT (.slice none 0 0) (.slice none 0 0) (.slice none 0 0) (.slice none 0 0)) rfl rfl (range_all (setRow_heap _ _ _ _ _ _ hZ)) Try.rowT Try.sizeT) rfl ?_
    exact ⟨.inr ⟨hno,rfl⟩,Fr.setRow nW (.inr (Nat.le_refl _)) _⟩
   ·have b1:decide ((k:Int) < 1) = false:=decide_eq_false (by omega)
    have b6:decide (6 < (k:Int)) = false:=decide_eq_false (by omega)
    have hkr:1 ≤ k∧k ≤ 6:=⟨by omega,by omega⟩
    obtain ⟨W2,hW2⟩:∃ W2,Hid (W2 = W.alloc (.cells #[.string { data:=#[] },.string { data:=#[50,98] },.string { data:=#[98,56,56,56,56,49,49,49] },.string { data:=#[98,56] },.string { data:=#[98] },.string { data:=#[56,56,56,56,56,56,56,56] },.string { data:=#[] }] 81)):=⟨_,rfl⟩
    have n2:Nw W W2:=by rw [hW2.out];exact nw_alloc (nw_refl _) _
    have hT:W2.heap[W.heap.size]? = some (.cells #[.string { data:=#[] },.string { data:=#[50,98] },.string { data:=#[98,56,56,56,56,49,49,49] },.string { data:=#[98,56] },.string { data:=#[98] },.string { data:=#[56,56,56,56,56,56,56,56] },.string { data:=#[] }] 81 (0,0)):=by rw [hW2.out];exact heap_alloc_new W _
    have ct:=tl_cell hT hkr
    have hadd:(tlB k).size ≤ 100:=by unfold tlB;(repeat (split;decide));decide
    obtain ⟨TB,hTB⟩:∃ TB,TB = tlB k:=⟨_,rfl⟩
    rw [← hTB] at hadd ct
    clear hT
    have hk7:k < 7:=by omega
    have hcu:Calls Try.prog 50 #[.string ({ data:=#[56,49,98,50] } ++ TB),.slice (some ⟨b,off,none⟩) bs.length cap] W2 fun e w'=>Unpacked (shL k) bs W2 e w':=by
     have h9:=c_refunpack (shB k) K _ bs W2 (by have:=shB_size k;unfold maxLen;omega) (hxW.keep (n2.below (Nat.le_trans hK nW.size) (fun _ h=>h.elim))) (Nat.le_trans hK (Nat.le_trans nW.size n2.size))
     rw [shB_list] at h9
     rw [hTB,tl_cat hkr]
     exact h9
    replace hTB:Hid _:=hTB
    replace hcu:Hid (Calls Try.prog 50 #[.string ({ data:=#[56,49,98,50] } ++ TB),.slice (some ⟨b,off,none⟩) bs.length cap] W2 fun e w'=>Unpacked (shL k) bs W2 e w'):=hcu
    have hno:unpack (shL k) bs = none→∀ u,RightT u→WfT u→imgO u ≠ some bs:=fun e9 u hu wu e=>by
     have:=unp_img e
     rw [hknd u hu wu e,e9] at this
     cases this
    replace hno:Hid _:=hno
    have c82:W2.cell? ⟨b,off + 8,none⟩ = some (.int .u8 (k:Int)):=(World.cell?_of_block (w:=W) (n2.block b (Nat.lt_of_lt_of_le hb (Nat.le_trans hK nW.size)) (fun h=>h))).trans c8
    have hxv:Hid (Sl K W (.slice (some ⟨b,off,none⟩) bs.length cap) bs.length (bs.map bv)):=hxW
    have hxn:bs.length = bs.length:=rfl
    generalize hn:bs.length = n at *
    replace hn:Hid _:=hn
    clear hxn
    go_enter Try.func19,Try.ntmps19
    go_upto_region 1 with (refine wpList_alloc_agg rfl 34 rfl _ Try.zeroTh ?_)
    rw [← hW.out]
    clear hW
    clear hxW
    go_upto_region 4 with fail
    first | rw [← hW2.out] | skip
    clear hW2 b1 b6 b8 c8
    cases hu:unpack (shL k) bs with
    | none =>
     go_wp2_with (go_at_call 50;refine Calls.mono hcu.out ?_;rintro e V ⟨qb,h⟩;obtain rfl:=unp_no h hu;refine stop_here ?_)
     unfold Hid
     have nV:Nw w V:=nw_trans (nw_trans nW n2) (fr_of_below (S:=fun _=>False) qb)
     have hZV:=((nw_trans n2 (fr_of_below (S:=fun _=>False) qb)).block _ (heap_lt hZ) (fun h=>h)).trans hZ
     have hnoo:=hno.out hu
     clear hcu qb hZ nW n2 hu hknd ct c82 hadd
     replace hnoo:Hid _:=hnoo
     go_upto_region 6 with fail
     refine wp_region_list ?_
     simp only [List.toList_toArray,List.append_eq,List.cons_append,List.nil_append]
     refine wpList_build_as rfl 34 _ rfl (thV zeroT (.slice none 0 0) (.slice none 0 0) (.slice none 0 0) (.slice none 0 0)) (thC zeroT (.slice none 0 0) (.slice none 0 0) (.slice none 0 0) (.slice none 0 0)).toArray rfl ?z ?_
     case z =>
      simp only [List.map_nil]
      exact Try.builtZ
     simp only [pL,List.set]
     refine wpList_store_all rfl 34 _ _ rfl w.heap.size rfl (thV zeroT (.slice none 0 0) (.slice none 0 0) (.slice none 0 0) (.slice none 0 0)) rfl (thC zeroT (.slice none 0 0) (.slice none 0 0) (.slice none 0 0) (.slice none 0 0)) rfl (thC zeroT (.slice none 0 0) (.slice none 0 0) (.slice none 0 0) (.slice none 0 0)) 34 hZV rfl (th_one _ _ _ _ _ rfl rfl rfl rfl) Try.sizeT ?_
     go_wp2
     refine bodyPost_ret (results_cell2 rfl _ w.heap.size _ (thV zeroT (.slice none 0 0) (.slice none 0 0) (.slice none 0 0) (.slice none 0 0)) rfl rfl (range_all (setRow_heap _ _ _ _ _ _ hZV)) Try.rowT Try.sizeT) rfl ?_
     exact ⟨.inr ⟨hnoo.out,rfl⟩,Fr.setRow nV (.inr (Nat.le_refl _)) _⟩
    | some fs =>
     obtain ⟨a,kk,lb,q,gs,rfl,ha,hk9,hlb,hq,hTl⟩:=unp_shape hu
     obtain rfl:kk = k:=unp_kind hu hk9 hbk.out
     have hun:Hid (unpack (shL k) bs = some (nF a :: nF k :: bF lb :: nF q :: gs)):=hu
     replace ha:Hid _:=ha
     have hq1:=cv64 hq.1 hq.2
     have hk1:=cv64 (x:=(k:Int)) (by omega) (by omega)
     replace hq:Hid _:=hq
     replace hlb:Hid (lb.length ≤ 1024):=hlb
     replace hTl:Hid (TailF (k:Int) gs):=hTl
     replace hknd:Hid _:=hknd
     go_wp2_with (go_at_call 50;refine Calls.mono hcu.out ?_;rintro e V ⟨qb,h⟩;obtain ⟨b2,off2,cap2,n2',rfl,hf,hb2⟩:=unp_yes h hu;refine stop_here ?_)
     unfold Hid
     have nV:Hid (Nw w V):=nw_trans (nw_trans nW n2) (fr_of_below (S:=fun _=>False) qb)
     have nWV:Hid (Nw W V):=nw_trans n2 (fr_of_below (S:=fun _=>False) qb)
     have hKW:Hid (K ≤ W.heap.size):=Nat.le_trans hK nW.size
     replace hZ:=((nw_trans n2 (fr_of_below (S:=fun _=>False) qb)).block _ (heap_lt hZ) (fun h=>h)).trans hZ
     have d0:V.cell? ⟨b2,off2 + 0,none⟩ = some (.int .u64 a):=fa_num hf 0 a rfl ha.out.1
     have d1:V.cell? ⟨b2,off2 + 2,none⟩ = some (.int .u64 k):=fa_num hf 1 k rfl (by omega)
     have d3:V.cell? ⟨b2,off2 + 6,none⟩ = some (.int .u64 q):=fa_num hf 3 q rfl hq.out.1
     obtain ⟨a2,p2,d2,s2⟩:=fa_txt hf 2 lb rfl
     replace d2:V.cell? ⟨b2,off2 + 5,none⟩ = some (.slice a2 lb.length p2):=d2
     replace s2:Hid (Sl V.heap.size V (.slice a2 lb.length p2) lb.length (lb.map bv)):=s2
     obtain ⟨sv,hsv,hsc⟩:=fld_cut hf
     obtain ⟨hc4,hlen4⟩:4 ≤ n2'∧n2' ≤ cap2:=by
      obtain ⟨_,_,e9,h9,_⟩:=hf
      simp only [Value.slice.injEq] at e9
      obtain ⟨_,e9,e8⟩:=e9
      simp only [List.length_cons] at e9 h9
      omega
     replace hsv:Hid (FieldsAt V.heap.size V sv gs):=hsv
     have hbl:=hb2
     clear hcu qb nW n2 hu hf hk9 ct c82 hadd k1 k6 hk256
     go_upto_region 7 with fail
     go_cut [7] (fun pv wc=>RdC lb V a k q pv wc)
     case first =>
      have p0:0 < n2':=by omega
      have p1:(1:Int) < (n2':Int):=by omega
      have p2':(2:Int) < (n2':Int):=by omega
      have p3:(3:Int) < (n2':Int):=by omega
      have hS:Nw V V.drew:=Fr.drew (Fr.refl _ V)
      refine wp_region_fork [] 21 1 ([(0,true),(1,true),(2,true),(3,true),(4,true),(5,true),(6,true),(7,true),(8,true),(9,true),(10,true),(11,true),(12,true),(14,true),(15,true),(16,true),(17,true),(18,true)],[(13,[(19,true),(20,false)]),(20,[(13,false),(19,true)])]) (fun w':World=>Nw V w') _ (by kernel_rfl) (by kernel_rfl) ?_ (fun _ _ h=>h)
      refine fork_in2 (d:=0) ?_
      refine ord_quietL _ ?_ rfl hS rfl ?_ ?_
      rotate_left
      ·rintro w' hn;go_simp;rfl
      simp only [pL,List.set]
      refine ord_quietL _ ?_ rfl hS rfl ?_ ?_
      rotate_left
      ·rintro w' hn;go_simp;rfl
      simp only [pL,List.set]
      refine ord_quietL _ ?_ rfl hS rfl ?_ ?_
      rotate_left
      ·rintro w' hn;go_simp;rfl
      simp only [pL,List.set]
      refine ord_quietL _ ?_ rfl hS rfl ?_ ?_
      rotate_left
      ·rintro w' hn;have g0:w'.cell? ⟨b2,off2 + 0,none⟩ = some (.int .u64 a):=(fr_cell hn hbl (fun h=>h)).trans d0;have g1:w'.cell? ⟨b2,off2,none⟩ = some (.int .u64 a):=(fr_cell hn hbl (fun h=>h)).trans d0;go_simp;rfl
      simp only [pL,List.set]
      refine ord_quietL _ ?_ rfl hS rfl ?_ ?_
      rotate_left
      ·rintro w' hn;go_simp;rfl
      simp only [pL,List.set]
      refine ord_quietL _ ?_ rfl hS rfl ?_ ?_
      rotate_left
      ·rintro w' hn;go_simp;rfl
      simp only [pL,List.set]
      refine ord_quietL _ ?_ rfl hS rfl ?_ ?_
      rotate_left
      ·rintro w' hn;go_simp;rfl
      simp only [pL,List.set]
      refine ord_quietL _ ?_ rfl hS rfl ?_ ?_
      rotate_left
      ·rintro w' hn;have g0:w'.cell? ⟨b2,off2 + 2,none⟩ = some (.int .u64 k):=(fr_cell hn hbl (fun h=>h)).trans d1;have g1:w'.cell? ⟨b2,off2 + 2 + 0,none⟩ = some (.int .u64 k):=(fr_cell hn hbl (fun h=>h)).trans d1;go_simp;rfl
      simp only [pL,List.set]
      refine ord_quietL _ ?_ rfl hS rfl ?_ ?_
      rotate_left
      ·rintro w' hn;go_simp;rfl
      simp only [pL,List.set]
      refine ord_quietL _ ?_ rfl hS rfl ?_ ?_
      rotate_left
      ·rintro w' hn;go_simp;rfl
      simp only [pL,List.set]
      refine ord_quietL _ ?_ rfl hS rfl ?_ ?_
      rotate_left
      ·rintro w' hn;go_simp;rfl
      simp only [pL,List.set]
      refine ord_quietL _ ?_ rfl hS rfl ?_ ?_
      rotate_left
      ·rintro w' hn;go_simp;rfl
      simp only [pL,List.set]
      refine ord_quietL _ ?_ rfl hS rfl ?_ ?_
      rotate_left
      ·rintro w' hn;have g0:w'.cell? ⟨b2,off2 + 5,none⟩ = some (.slice a2 lb.length p2):=(fr_cell hn hbl (fun h=>h)).trans d2;have g1:w'.cell? ⟨b2,off2 + 4 + 1,none⟩ = some (.slice a2 lb.length p2):=(fr_cell hn hbl (fun h=>h)).trans d2;go_simp;rfl
      simp only [pL,List.set]
      refine ord_quietL _ ?_ rfl hS rfl ?_ ?_
      rotate_left
      ·rintro w' hn;go_simp;rfl
      simp only [pL,List.set]
      refine ord_quietL _ ?_ rfl hS rfl ?_ ?_
      rotate_left
      ·rintro w' hn;go_simp;rfl
      simp only [pL,List.set]
      refine ord_quietL _ ?_ rfl hS rfl ?_ ?_
      rotate_left
      ·rintro w' hn;go_simp;rfl
      simp only [pL,List.set]
      refine ord_quietL _ ?_ rfl hS rfl ?_ ?_
      rotate_left
      ·rintro w' hn;have g0:w'.cell? ⟨b2,off2 + 6,none⟩ = some (.int .u64 q):=(fr_cell hn hbl (fun h=>h)).trans d3;go_simp;rfl
      simp only [pL,List.set]
      refine ord_quietL _ ?_ rfl hS rfl ?_ ?_
      rotate_left
      ·rintro w' hn;go_simp;rfl
      simp only [pL,List.set]
      refine fork_two _ _ rfl rfl ?w1 ?w2
      case w1 =>
       as_aux_lemma =>
        intro K1 hK1
        have hcon:Hid _:=c_runtext V.drew (s2.out.keep ((Below.refl _ _).drew)) (by show V.heap.size ≤ V.heap.size;omega) hlb.out
        go_wp2_with (go_at_call 51;refine Calls.mono hcon.out ?_;rintro e wk0 ⟨d,uu,xs,rfl,hown,hback,h200,qb⟩;obtain ⟨va,vc,rfl⟩:=owns_form hown)
        have n1:Nw V wk0:=nw_trans hS qb
        replace hback:Hid _:=hback
        replace h200:Hid _:=h200
        replace hown:Hid (wk0.ownsRow V.drew.heap.size 52 2 (.slice va xs.length vc) xs.length (ccells xs)):=hown
        refine hK1 _ _ n1 ?_
        clear hK1 K1 hcon qb hS
        have hS:=n1
        refine fork_leaf ?_
        refine ord_quietL _ (thV ({ zeroT with id:=a,kind:=k,df:=d,cats:=xs,quota:=q }) (.slice va xs.length vc) (.slice none 0 0) (.slice none 0 0) (.slice none 0 0)) rfl hS rfl ?_ ?_
        ·intro w' hn;refine run_build_quiet 34 _ w' rfl (thC ({ zeroT with id:=a,kind:=k,df:=d,cats:=xs,quota:=q }) (.slice va xs.length vc) (.slice none 0 0) (.slice none 0 0) (.slice none 0 0)).toArray ?_;simp only [List.map_cons,List.map_nil,Act.eval];exact builtTh ({ zeroT with id:=a,kind:=k,df:=d,cats:=xs,quota:=q }) _ _ _ _ rfl
        simp only [pL,List.set]
        refine ord_actL _ rfl (fun K1 hK1=>?_)
        obtain ⟨Y,hY⟩:∃ Y,Hid (Y = wk0.alloc (.cells (thC zeroT (.slice none 0 0) (.slice none 0 0) (.slice none 0 0) (.slice none 0 0)).toArray 34)):=⟨_,rfl⟩
        have hP:Y.heap[wk0.heap.size]? = some (.cells (thC zeroT (.slice none 0 0) (.slice none 0 0) (.slice none 0 0) (.slice none 0 0)).toArray 34 (0,0)):=by rw [hY.out];exact heap_alloc_new wk0 _
        have nY:Nw V Y:=by rw [hY.out];exact nw_alloc n1 _
        have hPge:V.heap.size ≤ wk0.heap.size:=n1.size
        have hY0:Nw wk0 Y:=by rw [hY.out];exact nw_alloc (nw_refl _) _
        have hlab:CSl (fun b=>V.heap.size ≤ b∧b ≠ wk0.heap.size) Y (.slice va xs.length vc) xs:=(csl_of_own hown.out).keep hY0 (fun _ _ _=>id) (fun b hb hlt=>⟨hb,by omega⟩)
        refine wpList_alloc_agg rfl 34 rfl _ Try.zeroTh ?_
        rw [← hY.out]
        go_wp2
        refine hK1 _ _ nY ?_
        clear hK1 K1 hY hY0 hown n1
        refine ord_tail ?_
        simp only [List.drop_succ_cons,List.drop_zero]
        obtain ⟨Y2,hY2⟩:∃ Y2,Hid (Y2 = Y.setRow wk0.heap.size (thC ({ zeroT with id:=a,kind:=k,df:=d,cats:=xs,quota:=q }) (.slice va xs.length vc) (.slice none 0 0) (.slice none 0 0) (.slice none 0 0)).toArray):=⟨_,rfl⟩
        have hP2:Y2.heap[wk0.heap.size]? = some (.cells (thC ({ zeroT with id:=a,kind:=k,df:=d,cats:=xs,quota:=q }) (.slice va xs.length vc) (.slice none 0 0) (.slice none 0 0) (.slice none 0 0)).toArray 34 (0,0)):=by rw [hY2.out];exact setRow_heap _ _ _ _ _ _ hP
        have f2:Fr (fun b=>b = wk0.heap.size) Y Y2:=by rw [hY2.out];exact (Fr.refl (fun b=>b = wk0.heap.size) Y).setRow (.inl rfl) _
        have fin:Hid (RdC lb V a k q (.pointer (some ⟨wk0.heap.size,0,none⟩)) Y2):=⟨wk0.heap.size,d,xs,va,vc,rfl,hP2,hPge,hlab.keep f2 (fun b hb _ e=>hb.2 e) (fun b hb _=>hb),Fr.trans nY f2 (fun b hb=>.inr (by omega)),h200.out,hback.out⟩
        refine wpList_store_all rfl 34 _ _ rfl wk0.heap.size rfl (thV ({ zeroT with id:=a,kind:=k,df:=d,cats:=xs,quota:=q }) (.slice va xs.length vc) (.slice none 0 0) (.slice none 0 0) (.slice none 0 0)) rfl (thC ({ zeroT with id:=a,kind:=k,df:=d,cats:=xs,quota:=q }) (.slice va xs.length vc) (.slice none 0 0) (.slice none 0 0) (.slice none 0 0)) rfl (thC zeroT (.slice none 0 0) (.slice none 0 0) (.slice none 0 0) (.slice none 0 0)) 34 hP rfl (th_one _ _ _ _ _ rfl rfl rfl rfl) Try.sizeT ?_
        rw [← hY2.out]
        clear hP hlab hY2 f2 hS hP2 hPge nY
        go_wp2
        go_meet
        case rel=>exact fin.out
      case w2 =>
       as_aux_lemma =>
        intro K1 hK1
        obtain ⟨Y1,hY⟩:∃ Y1,Hid (Y1 = V.drew.alloc (.cells (thC zeroT (.slice none 0 0) (.slice none 0 0) (.slice none 0 0) (.slice none 0 0)).toArray 34)):=⟨_,rfl⟩
        have hP:Y1.heap[V.heap.size]? = some (.cells (thC zeroT (.slice none 0 0) (.slice none 0 0) (.slice none 0 0) (.slice none 0 0)).toArray 34 (0,0)):=by rw [hY.out];exact heap_alloc_new V.drew _
        have n1:Nw V Y1:=by rw [hY.out];exact nw_alloc hS _
        have hYs:Y1.heap.size = V.heap.size + 1:=by rw [hY.out];simp
        refine wpList_alloc_agg rfl 34 rfl _ Try.zeroTh ?_
        rw [← hY.out]
        go_wp2
        refine hK1 _ _ n1 ?_
        clear hK1 K1 hS hY
        have hS:=n1
        refine fork_leaf ?_
        refine ord_actL _ rfl (fun K1 hK1=>?_)
        have hcon:Hid _:=c_runtext Y1 (s2.out.keep (n1.below (Nat.le_refl _) (fun _ h=>h.elim))) (by omega) hlb.out
        go_wp2_with (go_at_call 51;refine Calls.mono hcon.out ?_;rintro e wk0 ⟨d,uu,xs,rfl,hown,hback,h200,qb⟩;obtain ⟨va,vc,rfl⟩:=owns_form hown)
        have nY:Nw V wk0:=nw_trans n1 qb
        replace hback:Hid _:=hback
        replace h200:Hid _:=h200
        replace hP:=(qb.block _ (heap_lt hP) (fun h=>h)).trans hP
        have hlab:CSl (fun b=>V.heap.size ≤ b∧b ≠ V.heap.size) wk0 (.slice va xs.length vc) xs:=(csl_of_own hown).mono (fun b hb _=>by have h9:Y1.heap.size ≤ b:=hb;constructor <;> omega)
        have hPge:V.heap.size ≤ V.heap.size:=Nat.le_refl _
        refine hK1 _ _ nY ?_
        clear hK1 K1 hcon qb hS hown n1 hYs
        have hS:=nY
        refine ord_quietL _ (thV ({ zeroT with id:=a,kind:=k,df:=d,cats:=xs,quota:=q }) (.slice va xs.length vc) (.slice none 0 0) (.slice none 0 0) (.slice none 0 0)) rfl hS rfl ?_ ?_
        ·intro w' hn;refine run_build_quiet 34 _ w' rfl (thC ({ zeroT with id:=a,kind:=k,df:=d,cats:=xs,quota:=q }) (.slice va xs.length vc) (.slice none 0 0) (.slice none 0 0) (.slice none 0 0)).toArray ?_;simp only [List.map_cons,List.map_nil,Act.eval];exact builtTh ({ zeroT with id:=a,kind:=k,df:=d,cats:=xs,quota:=q }) _ _ _ _ rfl
        simp only [pL,List.set]
        refine ord_tail ?_
        simp only [List.drop_succ_cons,List.drop_zero]
        obtain ⟨Y2,hY2⟩:∃ Y2,Hid (Y2 = wk0.setRow V.heap.size (thC ({ zeroT with id:=a,kind:=k,df:=d,cats:=xs,quota:=q }) (.slice va xs.length vc) (.slice none 0 0) (.slice none 0 0) (.slice none 0 0)).toArray):=⟨_,rfl⟩
        have hP2:Y2.heap[V.heap.size]? = some (.cells (thC ({ zeroT with id:=a,kind:=k,df:=d,cats:=xs,quota:=q }) (.slice va xs.length vc) (.slice none 0 0) (.slice none 0 0) (.slice none 0 0)).toArray 34 (0,0)):=by rw [hY2.out];exact setRow_heap _ _ _ _ _ _ hP
        have f2:Fr (fun b=>b = V.heap.size) wk0 Y2:=by rw [hY2.out];exact (Fr.refl (fun b=>b = V.heap.size) wk0).setRow (.inl rfl) _
        have fin:Hid (RdC lb V a k q (.pointer (some ⟨V.heap.size,0,none⟩)) Y2):=⟨V.heap.size,d,xs,va,vc,rfl,hP2,hPge,hlab.keep f2 (fun b hb _ e=>hb.2 e) (fun b hb _=>hb),Fr.trans nY f2 (fun b hb=>.inr (by omega)),h200.out,hback.out⟩
        refine wpList_store_all rfl 34 _ _ rfl V.heap.size rfl (thV ({ zeroT with id:=a,kind:=k,df:=d,cats:=xs,quota:=q }) (.slice va xs.length vc) (.slice none 0 0) (.slice none 0 0) (.slice none 0 0)) rfl (thC ({ zeroT with id:=a,kind:=k,df:=d,cats:=xs,quota:=q }) (.slice va xs.length vc) (.slice none 0 0) (.slice none 0 0) (.slice none 0 0)) rfl (thC zeroT (.slice none 0 0) (.slice none 0 0) (.slice none 0 0) (.slice none 0 0)) 34 hP rfl (th_one _ _ _ _ _ rfl rfl rfl rfl) Try.sizeT ?_
        rw [← hY2.out]
        clear hP hlab hY2 f2 hS hP2 hPge nY
        go_wp2
        go_meet
        case rel=>exact fin.out
     case rest =>
      obtain ⟨P,d,xs,va,vc,rfl,hP,hPge,hlab,nC,h200,hback⟩:=hcut
      replace hback:Hid _:=hback
      have a1:wc.cell? ⟨P,1,none⟩ = some (.int .i64 (k:Int)):=cell_blk hP rfl
      go_upto_block 0 with fail
      clear a1
      have hVZ:Hid (w.heap.size < V.heap.size):=heap_lt hZ
      generalize wc = wa at *
      go_cut [] (fun wx=>RdD (fun b=>b ≠ P∧b ≠ w.heap.size) P gs ({ zeroT with id:=a,kind:=k,df:=d,cats:=xs,quota:=q }) wa wx)
      case first =>
       have hZa:Hid (wa.heap[w.heap.size]? = _):=(nC.block _ (heap_lt hZ) (fun h=>h)).trans hZ
       have ht0:Hid (ThAt (fun b=>b ≠ P∧b ≠ w.heap.size) wa ({ zeroT with id:=a,kind:=k,df:=d,cats:=xs,quota:=q }) (.slice va xs.length vc) (.slice none 0 0) (.slice none 0 0) (.slice none 0 0)):=⟨hlab.mono (fun b hb _=>⟨hb.2,by have:=hb.1;have:=hVZ.out;omega⟩),csl_nil _ _,csl_nil _ _,bsl_nil _ _⟩
       have hPl:Hid (P < wa.heap.size):=heap_lt hP
       have a1:wa.cell? ⟨P,1,none⟩ = some (.int .i64 (k:Int)):=cell_blk hP rfl
       have hsa:Hid (FieldsAt V.heap.size wa sv gs):=hsv.out.keep (nC.below (Nat.le_refl _) (fun _ h=>h.elim))
       clear hlab nV hZ hbl hb2 d0 d1 d2 d3 hq1 hk1
       rcases hTl.out with ⟨hk,nx,lk,rfl,h1,h2⟩ | ⟨hk,cl,r0,r1,r2,r3,mi,bo,hh,rfl,h1,h2,h3,h4,h5,h6,h7,h8⟩ | ⟨hk,cl,va0,rfl,h1,h2⟩ | ⟨hk,da,rfl,h1⟩ | ⟨hk,xa,xb,xc,xd,xe,xf,xg,xh,rfl,h0,h1,h2,h3,h4,h5,h6,h7⟩ | ⟨k1,k2,k3,k4,k5,rfl⟩
       ·as_aux_lemma =>
         have bk1:((k:Int) == 1) = true:=by simp;omega
         obtain ⟨b3,off3,cap3,hs3,hb3,hc3⟩:=fa_form hsa.out (by simp)
         simp only [List.length_cons,List.length_nil,Nat.reduceAdd] at hs3 hc3
         subst hs3
         obtain ⟨i4,hi,hz0,hz1,hz2⟩:=info_parts Try.infoLnkF
         have c0:wa.cell? ⟨b3,off3 + 0,none⟩ = some (.int .u64 nx):=fa_num hsa.out 0 nx rfl h1.1
         have c0b:wa.cell? ⟨b3,off3,none⟩ = some (.int .u64 nx):=c0
         obtain ⟨a0,p0,x0,s0⟩:=fa_txt hsa.out 1 lk rfl
         have x0a:wa.cell? ⟨b3,off3 + 3,none⟩ = some (.slice a0 lk.length p0):=x0
         clear x0
         have hcv:=cv64 h1.1 h1.2
         have hcap:lk.length ≤ p0:=by obtain ⟨_,_,e9,h9,_⟩:=s0;simp only [Value.slice.injEq] at e9;omega
         have z7:wa.cell? ⟨P,7,none⟩ = some (.int .i64 0):=cell_blk hP rfl
         have y7:wa.frozen? ⟨P,7,none⟩ = false:=free_blk hP
         obtain ⟨W1,hW1⟩:∃ W1,Hid (W1 = (wa.setCell ⟨P,7,none⟩ (.int .i64 nx))):=⟨_,rfl⟩
         have f2:Fr (fun b=>b = P) wa W1:=by rw [hW1.out];exact ((Fr.refl (fun b=>b = P) wa).setCell (p:=⟨P,7,none⟩) (.inl rfl) (.int .i64 nx))
         have hP1:W1.heap[P]? = some (.cells (thC ({ ({ zeroT with id:=a,kind:=k,df:=d,cats:=xs,quota:=q }:Th) with next:=nx }) (.slice va xs.length vc) (.slice none 0 0) (.slice none 0 0) (.slice none 0 0)).toArray 34 (0,0)):=by rw [hW1.out,blk_setCell hP];rfl
         have ht1:Hid (ThAt (fun b=>b ≠ P∧b ≠ w.heap.size) W1 ({ ({ zeroT with id:=a,kind:=k,df:=d,cats:=xs,quota:=q }:Th) with next:=nx }) (.slice va xs.length vc) (.slice none 0 0) (.slice none 0 0) (.slice none 0 0)):=by
          have ht9:=ht0.out.keep f2 (fun b hb _ e=>hb.1 e) (fun b hb _=>hb)
          exact ⟨ht9.l,ht9.c,ht9.k,ht9.d⟩
         have hbl:b3 < wa.heap.size:=by have:=hPl.out;omega
         have hbP:¬ b3 = P:=by omega
         go_upto_region 12 with fail
         first | rw [← hW1.out] | skip
         replace x0a:W1.cell? ⟨b3,off3 + 3,none⟩ = some (.slice a0 lk.length p0):=(fr_cell f2 hbl hbP).trans x0a
         have hx:Hid (Sl V.heap.size W1 (.slice a0 lk.length p0) lk.length (lk.map bv)):=s0.keep (f2.below nC.size (fun b e=>by subst e;exact hPge))
         replace hbl:b3 < W1.heap.size:=by have:=f2.size;omega
         have hVW:Hid (V.heap.size ≤ W1.heap.size):=Nat.le_trans nC.size f2.size
         have fW:Hid (Fr (fun b=>b = P) wa W1):=f2
         obtain ⟨base,hbase⟩:∃ base,Hid (base = W1.heap.size):=⟨_,rfl⟩
         have hPb:Hid (P < base):=by rw [hbase.out];exact heap_lt hP1
         have hb0:Hid (base ≤ W1.heap.size):=by rw [hbase.out];exact Nat.le_refl _
         have hbW:Hid (W1.heap.size ≤ base):=by rw [hbase.out];exact Nat.le_refl _
         have hVb:Hid (w.heap.size < base):=by rw [hbase.out];have:=hVZ.out;have:=hVW.out;unfold Hid;omega
         clear hbase hW1 z7 y7 c0 c0b hcv s0 hP ht0 f2 hsa hZa
         obtain ⟨n9,hnl⟩:∃ n9,Hid (n9 = lk.length):=⟨_,rfl⟩
         rw [← hnl.out] at hx hcap h2 x0a
         replace hk:Hid _:=hk
         clear bk1
         go_wp2
         go_loopw [9] (fun iv wr=>LnkL lk ({ ({ zeroT with id:=a,kind:=k,df:=d,cats:=xs,quota:=q }:Th) with next:=nx }) (.slice va xs.length vc) P base n9 W1 iv wr) (fun iv _=>n9 - (intOf iv).toNat)
         case atStart=>exact ⟨0,[],none,0,0,rfl,rfl,Nat.zero_le _,rfl,fits_nil 2,rfl,World.ownsRow_nil _ _ _ _,hP1,Fr.refl _ _,hb0⟩
         case round =>
          obtain ⟨k9,ls,ka,kc,i,rfl,hi9,hin,hll,hfit,hpre,hown,hP9,f9,hb5⟩:=hrel
          clear hP1 hb0
          by_cases hlt:i + 10 ≤ n9
          ·skip
           obtain ⟨ch,hch,hsv0⟩:∃ ch,ch = (lk.drop i).take 10∧True:=⟨_,rfl,trivial⟩
           have hchl:ch.length = 10:=by rw [hch,List.length_take,List.length_drop];have:=hnl.out;omega
           obtain ⟨x,y,hu,hx8,y0,y1',hce⟩:=chunk_one (b:=50) (k:=2) (by decide) rfl (c:=ch) hchl
           have y1:y < 65536:=by have h9:y.toNat < 65536:=y1';omega
           have hstep:Hid _:=pair_step (kk:=2) (ys:=lk) hpre hfit hll.out (x:=x) (y:=y) (by rw [show (8 + 2) * k9 = i from hi9.out.symm,← hce];exact hch.symm) hx8 y0 y1'
           have hVwr:V.heap.size ≤ wr.heap.size:=Nat.le_trans hVW.out f9.size
           have hxr:Sl V.heap.size wr (.slice a0 lk.length p0) lk.length (lk.map bv):=by have h9:=hx.out.keep (f9.below hVW.out (fun b e=>by subst e;exact hPge));rw [hnl.out] at h9;exact h9
           obtain ⟨sv,hsv,hsl⟩:=cut_named hxr i 10 (by have:=hnl.out;omega)
           rw [← hch] at hsl
           have hrun:=run_cut (P:=Try.prog) 28 5 Try.underlying28 Try.infoB1 sv hsv hlt hcap
           have hcu:Hid _:=c_refunpack ⟨#[56,50]⟩ V.heap.size sv ch wr (by decide) (by rw [hchl];exact hsl) hVwr
           have xa1:wr.cell? ⟨b3,off3 + 3,none⟩ = some (.slice a0 n9 p0):=(fr_cell f9 hbl hbP).trans x0a
           have xa2:wr.cell? ⟨b3,off3 + 2 + 1,none⟩ = some (.slice a0 n9 p0):=xa1
           have hlt9:Hid (i + 10 ≤ n9):=hlt
           have hk200:k9 ≤ 200:=by have:=hi9.out;omega
           clear hsl hxr hch hsv0 hce hpre hfit y1' hsv
           go_upto_region 15 with fail
           go_wp2_with (go_at_call 50;refine Calls.mono hcu.out ?_;rintro e W5 hun;obtain ⟨b5,off5,cap5,rfl,hbl5,hc5,f0,f2,n5⟩:=unp_two hun hu hx8.1 y0;dsimp only;refine stop_here ?_)
           unfold Hid
           clear hcu hrun hu hun hchl xa1 xa2
           replace hP9:=(n5.block _ (heap_lt hP9) (fun h=>h)).trans hP9
           replace hown:=owns_nw hown n5
           replace f9:Fr (fun b=>b = P) W1 W5:=Fr.trans f9 (fr_of_nw (S:=fun b=>b = P) n5) (fun _ h=>.inl h)
           replace hb5:Hid (base ≤ W5.heap.size):=Nat.le_trans hb5.out n5.size
           clear n5 hVwr
           have z8:W5.cell? ⟨P,8,none⟩ = some (.slice ka k9 kc):=cell_blk hP9 rfl
           have hPl5:P < W5.heap.size:=heap_lt hP9
           go_upto_region 16 with fail
           have hS:Nw W5 W5.drew:=Fr.drew (Fr.refl _ W5)
           refine wp_region_ord [] 13 [(0,true),(2,true),(6,true),(1,true),(3,true),(7,true),(4,true),(8,true),(5,true),(9,true),(10,true),(11,true),(12,false)] (fun w':World=>Nw W5 w') (by kernel_rfl) (by kernel_rfl) ?_
           refine ord_quietL _ ?_ rfl hS rfl ?_ ?_
           rotate_left
           ·rintro w' hn;go_simp;rfl
           simp only [pL,List.set]
           refine ord_quietL _ ?_ rfl hS rfl ?_ ?_
           rotate_left
           ·rintro w' hn;go_simp;rfl
           simp only [pL,List.set]
           refine ord_quietL _ ?_ rfl hS rfl ?_ ?_
           rotate_left
           ·rintro w' hn;go_simp;rfl
           simp only [pL,List.set]
           refine ord_quietL _ ?_ rfl hS rfl ?_ ?_
           rotate_left
           ·rintro w' hn;have g8:w'.cell? ⟨P,8,none⟩ = some (.slice ka k9 kc):=(fr_cell hn hPl5 (fun h=>h)).trans z8;go_simp;rfl
           simp only [pL,List.set]
           refine ord_quietL _ ?_ rfl hS rfl ?_ ?_
           rotate_left
           ·rintro w' hn;go_simp;rfl
           simp only [pL,List.set]
           refine ord_quietL _ ?_ rfl hS rfl ?_ ?_
           rotate_left
           ·rintro w' hn;go_simp;rfl
           simp only [pL,List.set]
           refine ord_quietL _ ?_ rfl hS rfl ?_ ?_
           rotate_left
           ·rintro w' hn;go_simp;rfl
           simp only [pL,List.set]
           refine ord_quietL _ ?_ rfl hS rfl ?_ ?_
           rotate_left
           ·rintro w' hn;go_simp;rfl
           simp only [pL,List.set]
           refine ord_quietL _ ?_ rfl hS rfl ?_ ?_
           rotate_left
           ·rintro w' hn;have g3:w'.cell? ⟨b5,off5 + 0,none⟩ = some (.int .u64 x):=(fr_cell hn hbl5 (fun h=>h)).trans f0;have g4:w'.cell? ⟨b5,off5,none⟩ = some (.int .u64 x):=g3;go_simp;rfl
           simp only [pL,List.set]
           refine ord_quietL _ ?_ rfl hS rfl ?_ ?_
           rotate_left
           ·rintro w' hn;have g3:w'.cell? ⟨b5,off5 + 2,none⟩ = some (.int .u64 y):=(fr_cell hn hbl5 (fun h=>h)).trans f2;go_simp;rfl
           simp only [pL,List.set]
           refine ord_quietL _ ?_ rfl hS rfl ?_ ?_
           rotate_left
           ·rintro w' hn;have hc:=cv64 y0 y1 w';go_simp;rfl
           simp only [pL,List.set]
           refine ord_quietL _ ?_ rfl hS rfl ?_ ?_
           rotate_left
           ·rintro w' hn;go_simp;rfl
           simp only [pL,List.set]
           refine ord_actL _ rfl (fun K1 hK1=>?_)
           go_wp2
           have nB:Nw W5 (W5.alloc (.cells #[.int .u64 x,.int .i64 y] 50)).drew:=Fr.drew (nw_alloc (nw_refl _) _)
           refine hK1 _ _ nB ?_
           clear hK1 K1 hS
           refine ord_tail ?_
           simp only [List.drop_succ_cons,List.drop_zero]
           clear z8 f0 f2
           have hown9:=owns_nw hown nB
           have hsl:Sl (W5.alloc (.cells #[.int .u64 x,.int .i64 y] 50)).drew.heap.size (W5.alloc (.cells #[.int .u64 x,.int .i64 y] 50)).drew (.slice (some ⟨W5.heap.size,0,none⟩) 1 1) 1 [.int .u64 x,.int .i64 y]:=sl_litT (V:=(W5.alloc (.cells #[.int .u64 x,.int .i64 y] 50)).drew) (heap_alloc_new W5 _) (by omega)
           have hP10:(W5.alloc (.cells #[.int .u64 x,.int .i64 y] 50)).drew.heap[P]? = _:=(nB.block _ (heap_lt hP9) (fun h=>h)).trans hP9
           have hlb:base ≤ (W5.alloc (.cells #[.int .u64 x,.int .i64 y] 50)).drew.heap.size:=Nat.le_trans hb5.out nB.size
           generalize (W5.alloc (.cells #[.int .u64 x,.int .i64 y] 50)).drew = W6 at *
           go_wp2_with (at_builtin;refine wpList_append_sl _ rfl _ _ 27 rfl base 50 i4 _ 2 16 Try.underlying27 hi hz0 hz1 hz2 rfl (by decide) (.slice ka k9 kc) k9 _ rfl hown9 _ _ 1 _ rfl hsl rfl ?d1 ?d2 ?d3 ?d4 ?_)
           case d1=>intro z hz;simp at hz;rcases hz with rfl | rfl <;> rfl
           case d2=>unfold maxLen;omega
           case d3=>omega
           case d4=>exact hlb
           intro v9 w9 hownq hgrow hat
           obtain ⟨va9,vc9,hv9⟩:=owns_form hownq
           subst hv9
           have F9:Fr (fun q=>base ≤ q) W5 w9:=Fr.grown (fr_of_nw nB) hgrow (fun q hq=>.inl (hown9.lt q hq).1)
           replace hP10:=(hgrow.block _ (heap_lt hP10) (fun e=>by have:=(hown9.lt _ e.symm).1;have:=hPb.out;omega)).trans hP10
           have z1:w9.cell? ⟨P,8,none⟩ = some (.slice ka k9 kc):=cell_blk hP10 rfl
           have y8:w9.frozen? ⟨P,8,none⟩ = false:=free_blk hP10
           have nxt:Hid (∃ xs',Hid (xs'.length = k9 + 1)∧FitsB 2 xs'∧lk.take ((8 + 2) * (k9 + 1)) = pairB 2 xs'∧(w9.setCell ⟨P,8,none⟩ (.slice va9 (k9 + 1) vc9)).ownsRow base 50 2 (.slice va9 (k9 + 1) vc9) (k9 + 1) (ccells xs')):=by
            obtain ⟨q1,q2,q3⟩:=hstep.out
            refine ⟨ls ++ [(x,y)],q3,q2,q1,?_⟩
            rw [ccells_append,ccells_one]
            exact owns_of_block hownq (fun q hq=>by
             have h9:=(hownq.lt q hq).1
             have h8:=hPb.out
             exact Below.heap_setCell _ _ _ _ (by show q ≠ P;omega))
           have hP11:(w9.setCell ⟨P,8,none⟩ (.slice va9 (k9 + 1) vc9)).heap[P]? = some (.cells (thC ({ ({ zeroT with id:=a,kind:=k,df:=d,cats:=xs,quota:=q }:Th) with next:=nx }) (.slice va xs.length vc) (.slice none 0 0) (.slice va9 (k9 + 1) vc9) (.slice none 0 0)).toArray 34 (0,0)):=by rw [blk_setCell hP10];rfl
           have f11:Fr (fun b=>b = P) W1 (w9.setCell ⟨P,8,none⟩ (.slice va9 (k9 + 1) vc9)):=(Fr.trans f9 F9 (fun q hq=>.inr (Nat.le_trans hbW.out hq))).setCell (p:=⟨P,8,none⟩) (.inl rfl) _
           have hx10:Hid (base ≤ (w9.setCell ⟨P,8,none⟩ (.slice va9 (k9 + 1) vc9)).heap.size):=Nat.le_trans hb5.out (Fr.setCell (p:=⟨P,8,none⟩) (S:=fun q=>base ≤ q∨q = P) (F9.mono (fun q h=>.inl h)) (.inl (.inr rfl)) (.slice va9 (k9 + 1) vc9)).size
           clear hown hown9 hownq hgrow hat hsl hP10 hP9 F9 nB f9 hlb hstep hPl5
           go_wp2
           go_roundw
           case rel =>
            obtain ⟨xs',q1,q2,q3,q4⟩:=nxt.out
            exact ⟨k9 + 1,xs',va9,vc9,i + 10,by go_num,(by have:=hi9.out;unfold Hid;omega),hlt9.out,q1,q2,q3,q4,hP11,f11,hx10⟩
           case measure=>have:=hlt9.out;simp [intOf];omega
          ·skip
           have huniq:∀ ls',LkOk ls'→ls'.length ≤ 16→lk = pairB 2 ls'→ls = ls':=fun ls' h16 _ e=>by
            have h9:=congrArg List.length e
            rw [pairB_length,← hnl.out] at h9
            rw [List.take_of_length_le (by rw [← hnl.out];have:=hi9.out;omega)] at hpre
            exact pairB_inj hfit (fits_lk h16) (hpre.symm.trans e)
           have hle:k9 = ls.length:=hll.out.symm
           subst hle
           have fin:Hid (RdD (fun b=>b ≠ P∧b ≠ w.heap.size) P [nF nx,bF lk] ({ zeroT with id:=a,kind:=k,df:=d,cats:=xs,quota:=q }) wa wr):=by
            have ht9:=ht1.out.keep f9 (fun b hb _ e=>hb.1 e) (fun b hb _=>hb)
            have hk9:CSl (fun b=>b ≠ P∧b ≠ w.heap.size) wr (.slice ka ls.length kc) ls:=(csl_of_own hown).mono (fun b hb _=>by have h9:base ≤ b:=hb;have:=hPb.out;have:=hVb.out;exact ⟨by omega,by omega⟩)
            exact ⟨Fr.trans fW.out f9 (fun _ h=>.inl h),{ ({ zeroT with id:=a,kind:=k,df:=d,cats:=xs,quota:=q }:Th) with next:=nx,links:=ls },(.slice va xs.length vc),(.slice none 0 0),(.slice ka ls.length kc),(.slice none 0 0),hP9,⟨ht9.l,ht9.c,hk9,ht9.d⟩,set1 hk.out h1 huniq,⟨wf_zero.r0,wf_zero.r1,wf_zero.r2,wf_zero.r3,wf_zero.value⟩,h200,Nat.zero_le _⟩
           have xa1:wr.cell? ⟨b3,off3 + 3,none⟩ = some (.slice a0 n9 p0):=(fr_cell f9 hbl hbP).trans x0a
           have xa2:wr.cell? ⟨b3,off3 + 2 + 1,none⟩ = some (.slice a0 n9 p0):=xa1
           clear hown hpre hfit huniq hP9 f9 hi9 hll
           go_wp2
           go_meet
           case rel=>exact fin.out
       ·as_aux_lemma =>
         have bk1:((k:Int) == 1) = false:=by simp;omega
         have bk2:((k:Int) == 2) = true:=by simp;omega
         obtain ⟨b3,off3,cap3,rfl,hb3,hc3⟩:=fa_form hsa.out (by simp)
         simp only [List.length_cons,List.length_nil,Nat.reduceAdd] at hc3
         have c1:wa.cell? ⟨b3,off3 + 2,none⟩ = some (.int .u64 r0):=fa_num hsa.out 1 r0 rfl h2.1
         have c2:wa.cell? ⟨b3,off3 + 4,none⟩ = some (.int .u64 r1):=fa_num hsa.out 2 r1 rfl h3.1
         have c3:wa.cell? ⟨b3,off3 + 6,none⟩ = some (.int .u64 r2):=fa_num hsa.out 3 r2 rfl h4.1
         have c4:wa.cell? ⟨b3,off3 + 8,none⟩ = some (.int .u64 r3):=fa_num hsa.out 4 r3 rfl h5.1
         have c5:wa.cell? ⟨b3,off3 + 10,none⟩ = some (.int .u64 mi):=fa_num hsa.out 5 mi rfl h6.1
         have c6:wa.cell? ⟨b3,off3 + 12,none⟩ = some (.int .u64 bo):=fa_num hsa.out 6 bo rfl h7.1
         have c7:wa.cell? ⟨b3,off3 + 14,none⟩ = some (.int .u64 hh):=fa_num hsa.out 7 hh rfl h8.1
         obtain ⟨a0,p0,x0,s0⟩:=fa_txt hsa.out 0 cl rfl
         have x0a:wa.cell? ⟨b3,off3 + 1,none⟩ = some (.slice a0 cl.length p0):=x0
         have x0b:wa.cell? ⟨b3,off3 + 0 + 1,none⟩ = some (.slice a0 cl.length p0):=x0
         have hcon:Hid _:=c_runtext wa s0 nC.size h1
         unfold TxtP at hcon
         go_upto_region 18 with fail
         go_wp2_with (go_at_call 51;refine Calls.mono hcon.out ?_;rintro e wk0 ⟨d9,uu,ys,rfl,hown,hbk9,h29,qb⟩;obtain ⟨ya,yc,rfl⟩:=owns_form hown;dsimp only;refine stop_here ?_)
         unfold Hid
         clear hcon a1 x0 x0a x0b s0
         have hb9:b3 < wa.heap.size:=by have:=hPl.out;omega
         have hqs:=qb.size
         replace hP:=(qb.block _ hPl.out (fun h=>h)).trans hP
         have z4:wk0.cell? ⟨P,4,none⟩ = some (.int .i64 0):=cell_blk hP rfl
         have y4:wk0.frozen? ⟨P,4,none⟩ = false:=free_blk hP
         have z5:wk0.cell? ⟨P,5,none⟩ = some (.slice none 0 0):=cell_blk hP rfl
         have y5:wk0.frozen? ⟨P,5,none⟩ = false:=free_blk hP
         obtain ⟨W1,hW1⟩:∃ W1,Hid (W1 = ((wk0.setCell ⟨P,4,none⟩ (.int .i64 d9)).setCell ⟨P,5,none⟩ (.slice ya ys.length yc))):=⟨_,rfl⟩
         have f2:Fr (fun b=>b = P) wk0 W1:=by rw [hW1.out];exact (((Fr.refl (fun b=>b = P) wk0).setCell (p:=⟨P,4,none⟩) (.inl rfl) (.int .i64 d9)).setCell (p:=⟨P,5,none⟩) (.inl rfl) (.slice ya ys.length yc))
         have hP1:W1.heap[P]? = some (.cells (thC ({ ({ zeroT with id:=a,kind:=k,df:=d,cats:=xs,quota:=q }:Th) with cdf:=d9,ccats:=ys }) (.slice va xs.length vc) (.slice ya ys.length yc) (.slice none 0 0) (.slice none 0 0)).toArray 34 (0,0)):=by rw [hW1.out,blk_setCell (blk_setCell hP)];rfl
         have ht1:Hid (ThAt (fun b=>b ≠ P∧b ≠ w.heap.size) W1 ({ ({ zeroT with id:=a,kind:=k,df:=d,cats:=xs,quota:=q }:Th) with cdf:=d9,ccats:=ys }) (.slice va xs.length vc) (.slice ya ys.length yc) (.slice none 0 0) (.slice none 0 0)):=by
          have ht9:=(ht0.out.nw qb).keep f2 (fun b hb _ e=>hb.1 e) (fun b hb _=>hb)
          exact ⟨ht9.l,(csl_of_own hown).keep f2 (fun b hb _ e=>by have h9:wa.heap.size ≤ b:=hb;have:=hPl.out;omega) (fun b hb _=>by have h9:wa.heap.size ≤ b:=hb;have:=hPl.out;have:=hVZ.out;exact ⟨by omega,by omega⟩),ht9.k,ht9.d⟩
         have fW:Hid (Fr (fun b=>b = P) wa W1):=Fr.trans (fr_of_nw qb) f2 (fun _ h=>.inl h)
         go_upto_region 19 with fail
         first | rw [← hW1.out] | skip
         clear hW1 z4 y4 z5 y5 hown hP ht0
         replace c1:W1.cell? ⟨b3,off3 + 2,none⟩ = some (.int .u64 r0):=(fr_cell f2 (by omega) (by omega)).trans ((fr_cell qb hb9 (fun h=>h)).trans c1)
         replace c2:W1.cell? ⟨b3,off3 + 4,none⟩ = some (.int .u64 r1):=(fr_cell f2 (by omega) (by omega)).trans ((fr_cell qb hb9 (fun h=>h)).trans c2)
         replace c3:W1.cell? ⟨b3,off3 + 6,none⟩ = some (.int .u64 r2):=(fr_cell f2 (by omega) (by omega)).trans ((fr_cell qb hb9 (fun h=>h)).trans c3)
         replace c4:W1.cell? ⟨b3,off3 + 8,none⟩ = some (.int .u64 r3):=(fr_cell f2 (by omega) (by omega)).trans ((fr_cell qb hb9 (fun h=>h)).trans c4)
         replace c5:W1.cell? ⟨b3,off3 + 10,none⟩ = some (.int .u64 mi):=(fr_cell f2 (by omega) (by omega)).trans ((fr_cell qb hb9 (fun h=>h)).trans c5)
         replace c6:W1.cell? ⟨b3,off3 + 12,none⟩ = some (.int .u64 bo):=(fr_cell f2 (by omega) (by omega)).trans ((fr_cell qb hb9 (fun h=>h)).trans c6)
         replace c7:W1.cell? ⟨b3,off3 + 14,none⟩ = some (.int .u64 hh):=(fr_cell f2 (by omega) (by omega)).trans ((fr_cell qb hb9 (fun h=>h)).trans c7)
         have hbl:b3 < W1.heap.size:=by have:=f2.size;omega
         have hbP:¬ b3 = P:=by omega
         replace hk:Hid _:=hk
         replace hbk9:Hid _:=hbk9
         clear hsa hZa f2 qb hb9 bk1 bk2
         go_wp2
         go_loopw [12] (fun kv wr=>Fr (fun b=>b = P) W1 wr∧((kv = .int .i64 0∧wr.heap[P]? = some (.cells (thC ({ ({ zeroT with id:=a,kind:=k,df:=d,cats:=xs,quota:=q }:Th) with cdf:=d9,ccats:=ys }) (.slice va xs.length vc) (.slice ya ys.length yc) (.slice none 0 0) (.slice none 0 0)).toArray 34 (0,0)))∨(kv = .int .i64 1∧wr.heap[P]? = some (.cells (thC ({ ({ zeroT with id:=a,kind:=k,df:=d,cats:=xs,quota:=q }:Th) with cdf:=d9,ccats:=ys,r0:=r0 }) (.slice va xs.length vc) (.slice ya ys.length yc) (.slice none 0 0) (.slice none 0 0)).toArray 34 (0,0)))∨(kv = .int .i64 2∧wr.heap[P]? = some (.cells (thC ({ ({ zeroT with id:=a,kind:=k,df:=d,cats:=xs,quota:=q }:Th) with cdf:=d9,ccats:=ys,r0:=r0,r1:=r1 }) (.slice va xs.length vc) (.slice ya ys.length yc) (.slice none 0 0) (.slice none 0 0)).toArray 34 (0,0)))∨(kv = .int .i64 3∧wr.heap[P]? = some (.cells (thC ({ ({ zeroT with id:=a,kind:=k,df:=d,cats:=xs,quota:=q }:Th) with cdf:=d9,ccats:=ys,r0:=r0,r1:=r1,r2:=r2 }) (.slice va xs.length vc) (.slice ya ys.length yc) (.slice none 0 0) (.slice none 0 0)).toArray 34 (0,0)))∨(kv = .int .i64 4∧wr.heap[P]? = some (.cells (thC ({ ({ zeroT with id:=a,kind:=k,df:=d,cats:=xs,quota:=q }:Th) with cdf:=d9,ccats:=ys,r0:=r0,r1:=r1,r2:=r2,r3:=r3 }) (.slice va xs.length vc) (.slice ya ys.length yc) (.slice none 0 0) (.slice none 0 0)).toArray 34 (0,0))))) (fun kv _=>4 - (intOf kv).toNat)
         case atStart=>exact ⟨Fr.refl _ _,.inl ⟨rfl,hP1⟩⟩
         case round =>
          obtain ⟨hfr,hrel⟩:=hrel
          clear hP1
          have hblr:b3 < wr.heap.size:=by have:=hfr.size;omega
          rcases hrel with ⟨rfl,hA⟩ | ⟨rfl,hA⟩ | ⟨rfl,hA⟩ | ⟨rfl,hA⟩ | ⟨rfl,hA⟩
          ·have e0:wr.cell? ⟨b3,off3 + 2,none⟩ = some (.int .u64 r0):=(fr_cell hfr hbl hbP).trans c1
           have z0:wr.cell? ⟨P,10,none⟩ = some (.int .u64 0):=cell_blk hA rfl
           have y0:wr.frozen? ⟨P,10,none⟩ = false:=free_blk hA
           have fin:Hid (Fr (fun b=>b = P) W1 (wr.setCell ⟨P,10,none⟩ (.int .u64 r0))∧(wr.setCell ⟨P,10,none⟩ (.int .u64 r0)).heap[P]? = some (.cells (thC ({ ({ zeroT with id:=a,kind:=k,df:=d,cats:=xs,quota:=q }:Th) with cdf:=d9,ccats:=ys,r0:=r0 }) (.slice va xs.length vc) (.slice ya ys.length yc) (.slice none 0 0) (.slice none 0 0)).toArray 34 (0,0))):=⟨Fr.trans hfr ((Fr.refl (fun b=>b = P) wr).setCell (p:=⟨P,10,none⟩) (.inl rfl) (.int .u64 r0)) (fun _ h=>.inl h),by rw [show (wr.setCell ⟨P,10,none⟩ (.int .u64 r0)).heap[P]? = _ from (blk_setCell hA)];rfl⟩
           clear hA hfr
           go_wp2
           go_roundw
           case rel=>exact ⟨fin.out.1,.inr (.inl ⟨rfl,fin.out.2⟩)⟩
           case measure=>simp [intOf]
          ·have e0:wr.cell? ⟨b3,off3 + 4,none⟩ = some (.int .u64 r1):=(fr_cell hfr hbl hbP).trans c2
           have z0:wr.cell? ⟨P,11,none⟩ = some (.int .u64 0):=cell_blk hA rfl
           have y0:wr.frozen? ⟨P,11,none⟩ = false:=free_blk hA
           have fin:Hid (Fr (fun b=>b = P) W1 (wr.setCell ⟨P,11,none⟩ (.int .u64 r1))∧(wr.setCell ⟨P,11,none⟩ (.int .u64 r1)).heap[P]? = some (.cells (thC ({ ({ zeroT with id:=a,kind:=k,df:=d,cats:=xs,quota:=q }:Th) with cdf:=d9,ccats:=ys,r0:=r0,r1:=r1 }) (.slice va xs.length vc) (.slice ya ys.length yc) (.slice none 0 0) (.slice none 0 0)).toArray 34 (0,0))):=⟨Fr.trans hfr ((Fr.refl (fun b=>b = P) wr).setCell (p:=⟨P,11,none⟩) (.inl rfl) (.int .u64 r1)) (fun _ h=>.inl h),by rw [show (wr.setCell ⟨P,11,none⟩ (.int .u64 r1)).heap[P]? = _ from (blk_setCell hA)];rfl⟩
           clear hA hfr
           go_wp2
           go_roundw
           case rel=>exact ⟨fin.out.1,.inr (.inr (.inl ⟨rfl,fin.out.2⟩))⟩
           case measure=>simp [intOf]
          ·have e0:wr.cell? ⟨b3,off3 + 6,none⟩ = some (.int .u64 r2):=(fr_cell hfr hbl hbP).trans c3
           have z0:wr.cell? ⟨P,12,none⟩ = some (.int .u64 0):=cell_blk hA rfl
           have y0:wr.frozen? ⟨P,12,none⟩ = false:=free_blk hA
           have fin:Hid (Fr (fun b=>b = P) W1 (wr.setCell ⟨P,12,none⟩ (.int .u64 r2))∧(wr.setCell ⟨P,12,none⟩ (.int .u64 r2)).heap[P]? = some (.cells (thC ({ ({ zeroT with id:=a,kind:=k,df:=d,cats:=xs,quota:=q }:Th) with cdf:=d9,ccats:=ys,r0:=r0,r1:=r1,r2:=r2 }) (.slice va xs.length vc) (.slice ya ys.length yc) (.slice none 0 0) (.slice none 0 0)).toArray 34 (0,0))):=⟨Fr.trans hfr ((Fr.refl (fun b=>b = P) wr).setCell (p:=⟨P,12,none⟩) (.inl rfl) (.int .u64 r2)) (fun _ h=>.inl h),by rw [show (wr.setCell ⟨P,12,none⟩ (.int .u64 r2)).heap[P]? = _ from (blk_setCell hA)];rfl⟩
           clear hA hfr
           go_wp2
           go_roundw
           case rel=>exact ⟨fin.out.1,.inr (.inr (.inr (.inl ⟨rfl,fin.out.2⟩)))⟩
           case measure=>simp [intOf]
          ·have e0:wr.cell? ⟨b3,off3 + 8,none⟩ = some (.int .u64 r3):=(fr_cell hfr hbl hbP).trans c4
           have z0:wr.cell? ⟨P,13,none⟩ = some (.int .u64 0):=cell_blk hA rfl
           have y0:wr.frozen? ⟨P,13,none⟩ = false:=free_blk hA
           have fin:Hid (Fr (fun b=>b = P) W1 (wr.setCell ⟨P,13,none⟩ (.int .u64 r3))∧(wr.setCell ⟨P,13,none⟩ (.int .u64 r3)).heap[P]? = some (.cells (thC ({ ({ zeroT with id:=a,kind:=k,df:=d,cats:=xs,quota:=q }:Th) with cdf:=d9,ccats:=ys,r0:=r0,r1:=r1,r2:=r2,r3:=r3 }) (.slice va xs.length vc) (.slice ya ys.length yc) (.slice none 0 0) (.slice none 0 0)).toArray 34 (0,0))):=⟨Fr.trans hfr ((Fr.refl (fun b=>b = P) wr).setCell (p:=⟨P,13,none⟩) (.inl rfl) (.int .u64 r3)) (fun _ h=>.inl h),by rw [show (wr.setCell ⟨P,13,none⟩ (.int .u64 r3)).heap[P]? = _ from (blk_setCell hA)];rfl⟩
           clear hA hfr
           go_wp2
           go_roundw
           case rel=>exact ⟨fin.out.1,.inr (.inr (.inr (.inr (⟨rfl,fin.out.2⟩))))⟩
           case measure=>simp [intOf]
          ·have e5:wr.cell? ⟨b3,off3 + 10,none⟩ = some (.int .u64 mi):=(fr_cell hfr hbl hbP).trans c5
           have e6:wr.cell? ⟨b3,off3 + 12,none⟩ = some (.int .u64 bo):=(fr_cell hfr hbl hbP).trans c6
           have e7:wr.cell? ⟨b3,off3 + 14,none⟩ = some (.int .u64 hh):=(fr_cell hfr hbl hbP).trans c7
           have hcm:=cv64 h6.1 (Int.lt_trans h6.2 (by decide))
           have hcb:=cv64 h7.1 (Int.lt_trans h7.2 (by decide))
           go_upto_region 23 with fail
           have z14:wr.cell? ⟨P,14,none⟩ = some (.int .i64 0):=cell_blk hA rfl
           have y14:wr.frozen? ⟨P,14,none⟩ = false:=free_blk hA
           obtain ⟨wm,hWn⟩:∃ wm,Hid (wm = wr.setCell ⟨P,14,none⟩ (.int .i64 mi)):=⟨_,rfl⟩
           have fm:Fr (fun b=>b = P) wr wm:=by rw [hWn.out];exact (Fr.refl (fun b=>b = P) wr).setCell (p:=⟨P,14,none⟩) (.inl rfl) _
           have hA9:wm.heap[P]? = some (.cells (thC ({ ({ zeroT with id:=a,kind:=k,df:=d,cats:=xs,quota:=q }:Th) with cdf:=d9,ccats:=ys,r0:=r0,r1:=r1,r2:=r2,r3:=r3,minted:=mi }) (.slice va xs.length vc) (.slice ya ys.length yc) (.slice none 0 0) (.slice none 0 0)).toArray 34 (0,0)):=by rw [hWn.out,blk_setCell hA];rfl
           go_upto_region 24 with fail
           first | rw [← hWn.out] | skip
           clear hWn z14 y14 hA
           have hA:=hA9
           clear hA9
           replace e6:wm.cell? ⟨b3,off3 + 12,none⟩ = some (.int .u64 bo):=(fr_cell fm hblr hbP).trans e6
           replace e7:wm.cell? ⟨b3,off3 + 14,none⟩ = some (.int .u64 hh):=(fr_cell fm hblr hbP).trans e7
           replace hblr:b3 < wm.heap.size:=by have:=fm.size;omega
           replace hfr:=Fr.trans hfr fm (fun _ h=>.inl h)
           clear fm
           clear hcm e5
           have z15:wm.cell? ⟨P,15,none⟩ = some (.int .i64 0):=cell_blk hA rfl
           have y15:wm.frozen? ⟨P,15,none⟩ = false:=free_blk hA
           obtain ⟨wb,hWn⟩:∃ wb,Hid (wb = wm.setCell ⟨P,15,none⟩ (.int .i64 bo)):=⟨_,rfl⟩
           have fm:Fr (fun b=>b = P) wm wb:=by rw [hWn.out];exact (Fr.refl (fun b=>b = P) wm).setCell (p:=⟨P,15,none⟩) (.inl rfl) _
           have hA9:wb.heap[P]? = some (.cells (thC ({ ({ zeroT with id:=a,kind:=k,df:=d,cats:=xs,quota:=q }:Th) with cdf:=d9,ccats:=ys,r0:=r0,r1:=r1,r2:=r2,r3:=r3,minted:=mi,boot:=bo }) (.slice va xs.length vc) (.slice ya ys.length yc) (.slice none 0 0) (.slice none 0 0)).toArray 34 (0,0)):=by rw [hWn.out,blk_setCell hA];rfl
           go_upto_region 25 with fail
           first | rw [← hWn.out] | skip
           clear hWn z15 y15 hA
           have hA:=hA9
           clear hA9
           replace e7:wb.cell? ⟨b3,off3 + 14,none⟩ = some (.int .u64 hh):=(fr_cell fm hblr hbP).trans e7
           replace hblr:b3 < wb.heap.size:=by have:=fm.size;omega
           replace hfr:=Fr.trans hfr fm (fun _ h=>.inl h)
           clear fm
           clear hcb e6
           have z16:wb.cell? ⟨P,16,none⟩ = some (.bool false):=cell_blk hA rfl
           have y16:wb.frozen? ⟨P,16,none⟩ = false:=free_blk hA
           have fin:Hid (RdD (fun b=>b ≠ P∧b ≠ w.heap.size) P [bF cl,nF r0,nF r1,nF r2,nF r3,nF mi,nF bo,nF hh] ({ zeroT with id:=a,kind:=k,df:=d,cats:=xs,quota:=q }) wa (wb.setCell ⟨P,16,none⟩ (.bool (hh == 1)))):=by
            have f3:Fr (fun b=>b = P) W1 (wb.setCell ⟨P,16,none⟩ (.bool (hh == 1))):=hfr.setCell (p:=⟨P,16,none⟩) (.inl rfl) _
            have ht9:=ht1.out.keep f3 (fun b hb _ e=>hb.1 e) (fun b hb _=>hb)
            refine ⟨Fr.trans fW.out f3 (fun _ h=>.inl h),{ ({ zeroT with id:=a,kind:=k,df:=d,cats:=xs,quota:=q }:Th) with cdf:=d9,ccats:=ys,r0:=r0,r1:=r1,r2:=r2,r3:=r3,minted:=mi,boot:=bo,halted:=hh == 1 },(.slice va xs.length vc),(.slice ya ys.length yc),(.slice none 0 0),(.slice none 0 0),?_,⟨ht9.l,ht9.c,ht9.k,ht9.d⟩,set2 hk.out h2 h3 h4 h5 h6 h7 h8 hbk9.out,⟨h2,h3,h4,h5,wf_zero.value⟩,h200,h29⟩
            rw [blk_setCell hA];rfl
           clear hA hfr
           go_wp2
           go_meet
           case rel=>exact fin.out
       ·as_aux_lemma =>
         have bk1:((k:Int) == 1) = false:=by simp;omega
         have bk2:((k:Int) == 2) = false:=by simp;omega
         have bk3:((k:Int) == 3) = true:=by simp;omega
         obtain ⟨b3,off3,cap3,rfl,hb3,hc3⟩:=fa_form hsa.out (by simp)
         simp only [List.length_cons,List.length_nil,Nat.reduceAdd] at hc3
         have c1:wa.cell? ⟨b3,off3 + 2,none⟩ = some (.int .u64 va0):=fa_num hsa.out 1 va0 rfl h2.1
         obtain ⟨a0,p0,x0,s0⟩:=fa_txt hsa.out 0 cl rfl
         have x0a:wa.cell? ⟨b3,off3 + 1,none⟩ = some (.slice a0 cl.length p0):=x0
         have x0b:wa.cell? ⟨b3,off3 + 0 + 1,none⟩ = some (.slice a0 cl.length p0):=x0
         have hcon:Hid _:=c_runtext wa s0 nC.size h1
         unfold TxtP at hcon
         go_upto_region 27 with fail
         go_wp2_with (go_at_call 51;refine Calls.mono hcon.out ?_;rintro e wk0 ⟨d9,uu,ys,rfl,hown,hbk9,h29,qb⟩;obtain ⟨ya,yc,rfl⟩:=owns_form hown;dsimp only;refine stop_here ?_)
         unfold Hid
         clear hcon a1 x0 x0a x0b s0
         have hb9:b3 < wa.heap.size:=by have:=hPl.out;omega
         have hqs:=qb.size
         replace hP:=(qb.block _ hPl.out (fun h=>h)).trans hP
         have z4:wk0.cell? ⟨P,4,none⟩ = some (.int .i64 0):=cell_blk hP rfl
         have y4:wk0.frozen? ⟨P,4,none⟩ = false:=free_blk hP
         have z5:wk0.cell? ⟨P,5,none⟩ = some (.slice none 0 0):=cell_blk hP rfl
         have y5:wk0.frozen? ⟨P,5,none⟩ = false:=free_blk hP
         obtain ⟨W1,hW1⟩:∃ W1,Hid (W1 = ((wk0.setCell ⟨P,4,none⟩ (.int .i64 d9)).setCell ⟨P,5,none⟩ (.slice ya ys.length yc))):=⟨_,rfl⟩
         have f2:Fr (fun b=>b = P) wk0 W1:=by rw [hW1.out];exact (((Fr.refl (fun b=>b = P) wk0).setCell (p:=⟨P,4,none⟩) (.inl rfl) (.int .i64 d9)).setCell (p:=⟨P,5,none⟩) (.inl rfl) (.slice ya ys.length yc))
         have hP1:W1.heap[P]? = some (.cells (thC ({ ({ zeroT with id:=a,kind:=k,df:=d,cats:=xs,quota:=q }:Th) with cdf:=d9,ccats:=ys }) (.slice va xs.length vc) (.slice ya ys.length yc) (.slice none 0 0) (.slice none 0 0)).toArray 34 (0,0)):=by rw [hW1.out,blk_setCell (blk_setCell hP)];rfl
         have ht1:Hid (ThAt (fun b=>b ≠ P∧b ≠ w.heap.size) W1 ({ ({ zeroT with id:=a,kind:=k,df:=d,cats:=xs,quota:=q }:Th) with cdf:=d9,ccats:=ys }) (.slice va xs.length vc) (.slice ya ys.length yc) (.slice none 0 0) (.slice none 0 0)):=by
          have ht9:=(ht0.out.nw qb).keep f2 (fun b hb _ e=>hb.1 e) (fun b hb _=>hb)
          exact ⟨ht9.l,(csl_of_own hown).keep f2 (fun b hb _ e=>by have h9:wa.heap.size ≤ b:=hb;have:=hPl.out;omega) (fun b hb _=>by have h9:wa.heap.size ≤ b:=hb;have:=hPl.out;have:=hVZ.out;exact ⟨by omega,by omega⟩),ht9.k,ht9.d⟩
         have fW:Hid (Fr (fun b=>b = P) wa W1):=Fr.trans (fr_of_nw qb) f2 (fun _ h=>.inl h)
         go_upto_region 28 with fail
         first | rw [← hW1.out] | skip
         clear hW1 z4 y4 z5 y5 hown hP ht0
         replace c1:W1.cell? ⟨b3,off3 + 2,none⟩ = some (.int .u64 va0):=(fr_cell f2 (by omega) (by omega)).trans ((fr_cell qb hb9 (fun h=>h)).trans c1)
         have c1b:W1.cell? ⟨b3,off3 + 2 + 0,none⟩ = some (.int .u64 va0):=c1
         have z17:W1.cell? ⟨P,17,none⟩ = some (.int .u64 0):=cell_blk hP1 rfl
         have y17:W1.frozen? ⟨P,17,none⟩ = false:=free_blk hP1
         have fin:Hid (RdD (fun b=>b ≠ P∧b ≠ w.heap.size) P [bF cl,nF va0] ({ zeroT with id:=a,kind:=k,df:=d,cats:=xs,quota:=q }) wa (W1.setCell ⟨P,17,none⟩ (.int .u64 va0))):=by
          have f3:Fr (fun b=>b = P) W1 (W1.setCell ⟨P,17,none⟩ (.int .u64 va0)):=(Fr.refl (fun b=>b = P) W1).setCell (p:=⟨P,17,none⟩) (.inl rfl) _
          have ht9:=ht1.out.keep f3 (fun b hb _ e=>hb.1 e) (fun b hb _=>hb)
          refine ⟨Fr.trans fW.out f3 (fun _ h=>.inl h),{ ({ zeroT with id:=a,kind:=k,df:=d,cats:=xs,quota:=q }:Th) with cdf:=d9,ccats:=ys,value:=va0 },(.slice va xs.length vc),(.slice ya ys.length yc),(.slice none 0 0),(.slice none 0 0),?_,⟨ht9.l,ht9.c,ht9.k,ht9.d⟩,set3 hk h2 hbk9,⟨wf_zero.r0,wf_zero.r1,wf_zero.r2,wf_zero.r3,h2⟩,h200,h29⟩
          rw [blk_setCell hP1];rfl
         clear hP1 ht1 hk hsa hZa f2 qb hbk9
         go_wp2
         go_meet
         case rel=>exact fin.out
       ·as_aux_lemma =>
         have bk1:((k:Int) == 1) = false:=by simp;omega
         have bk2:((k:Int) == 2) = false:=by simp;omega
         have bk3:((k:Int) == 3) = false:=by simp;omega
         have bk4:((k:Int) == 4) = true:=by simp;omega
         obtain ⟨b3,off3,cap3,rfl,hb3,hc3⟩:=fa_form hsa.out (by simp)
         simp only [List.length_cons,List.length_nil,Nat.reduceAdd] at hc3
         obtain ⟨a0,p0,x0,s0⟩:=fa_txt hsa.out 0 da rfl
         have x0a:wa.cell? ⟨b3,off3 + 1,none⟩ = some (.slice a0 da.length p0):=x0
         have x0b:wa.cell? ⟨b3,off3 + 0 + 1,none⟩ = some (.slice a0 da.length p0):=x0
         have y9:wa.frozen? ⟨P,9,none⟩ = false:=free_blk hP
         have z9:wa.cell? ⟨P,9,none⟩ = some (.slice none 0 0):=cell_blk hP rfl
         have fin:Hid (RdD (fun b=>b ≠ P∧b ≠ w.heap.size) P [bF da] ({ zeroT with id:=a,kind:=k,df:=d,cats:=xs,quota:=q }) wa (wa.setCell ⟨P,9,none⟩ (.slice a0 da.length p0))):=by
          have f2:Fr (fun b=>b = P) wa (wa.setCell ⟨P,9,none⟩ (.slice a0 da.length p0)):=((Fr.refl (fun b=>b = P) wa).setCell (p:=⟨P,9,none⟩) (.inl rfl) (.slice a0 da.length p0))
          have ht9:=ht0.out.keep f2 (fun b hb _ e=>hb.1 e) (fun b hb _=>hb)
          have hk9:BSl (fun b=>b ≠ P∧b ≠ w.heap.size) (wa.setCell ⟨P,9,none⟩ (.slice a0 da.length p0)) (.slice a0 da.length p0) da:=((bsl_not (bsl_of_sl s0) hZa.out).mono (fun b hb _=>⟨by have:=hb.1;omega,hb.2⟩)).keep f2 (fun b hb _ e=>hb.1 e) (fun b hb _=>hb)
          refine ⟨f2,{ ({ zeroT with id:=a,kind:=k,df:=d,cats:=xs,quota:=q }:Th) with data:=da },_,_,_,_,?_,⟨ht9.l,ht9.c,ht9.k,hk9⟩,set4 hk,⟨wf_zero.r0,wf_zero.r1,wf_zero.r2,wf_zero.r3,wf_zero.value⟩,h200,Nat.zero_le _⟩
          rw [blk_setCell hP];rfl
         clear hP ht0 hk hsa s0 x0 hZa
         go_wp2
         go_meet
         case rel=>exact fin.out
       ·as_aux_lemma =>
         have bk1:((k:Int) == 1) = false:=by simp;omega
         have bk2:((k:Int) == 2) = false:=by simp;omega
         have bk3:((k:Int) == 3) = false:=by simp;omega
         have bk4:((k:Int) == 4) = false:=by simp;omega
         have bk5:((k:Int) == 5) = true:=by simp;omega
         obtain ⟨b3,off3,cap3,rfl,hb3,hc3⟩:=fa_form hsa.out (by simp)
         simp only [List.length_cons,List.length_nil,Nat.reduceAdd] at hc3
         have c0:wa.cell? ⟨b3,off3 + 0,none⟩ = some (.int .u64 xa):=fa_num hsa.out 0 xa rfl h0.1
         have c1:wa.cell? ⟨b3,off3 + 2,none⟩ = some (.int .u64 xb):=fa_num hsa.out 1 xb rfl h1.1
         have c2:wa.cell? ⟨b3,off3 + 4,none⟩ = some (.int .u64 xc):=fa_num hsa.out 2 xc rfl h2.1
         have c3:wa.cell? ⟨b3,off3 + 6,none⟩ = some (.int .u64 xd):=fa_num hsa.out 3 xd rfl h3.1
         have c4:wa.cell? ⟨b3,off3 + 8,none⟩ = some (.int .u64 xe):=fa_num hsa.out 4 xe rfl h4.1
         have c5:wa.cell? ⟨b3,off3 + 10,none⟩ = some (.int .u64 xf):=fa_num hsa.out 5 xf rfl h5.1
         have c6:wa.cell? ⟨b3,off3 + 12,none⟩ = some (.int .u64 xg):=fa_num hsa.out 6 xg rfl h6.1
         have c7:wa.cell? ⟨b3,off3 + 14,none⟩ = some (.int .u64 xh):=fa_num hsa.out 7 xh rfl h7.1
         have hbl:b3 < wa.heap.size:=by have:=hPl.out;omega
         have hbP:¬ b3 = P:=by omega
         replace hk:Hid _:=hk
         clear hsa hZa
         go_upto_region 32 with fail
         clear a1 bk1 bk2 bk3 bk4 bk5
         go_wp2
         go_loopw [13] (fun kv wr=>Fr (fun b=>b = P) wa wr∧((kv = .int .i64 0∧wr.heap[P]? = some (.cells (thC ({ zeroT with id:=a,kind:=k,df:=d,cats:=xs,quota:=q }) (.slice va xs.length vc) (.slice none 0 0) (.slice none 0 0) (.slice none 0 0)).toArray 34 (0,0)))∨(kv = .int .i64 1∧wr.heap[P]? = some (.cells (thC ({ ({ zeroT with id:=a,kind:=k,df:=d,cats:=xs,quota:=q }:Th) with s0:=xa,s1:=xb }) (.slice va xs.length vc) (.slice none 0 0) (.slice none 0 0) (.slice none 0 0)).toArray 34 (0,0)))∨(kv = .int .i64 2∧wr.heap[P]? = some (.cells (thC ({ ({ zeroT with id:=a,kind:=k,df:=d,cats:=xs,quota:=q }:Th) with s0:=xa,s1:=xb,s2:=xc,s3:=xd }) (.slice va xs.length vc) (.slice none 0 0) (.slice none 0 0) (.slice none 0 0)).toArray 34 (0,0)))∨(kv = .int .i64 3∧wr.heap[P]? = some (.cells (thC ({ ({ zeroT with id:=a,kind:=k,df:=d,cats:=xs,quota:=q }:Th) with s0:=xa,s1:=xb,s2:=xc,s3:=xd,s4:=xe,s5:=xf }) (.slice va xs.length vc) (.slice none 0 0) (.slice none 0 0) (.slice none 0 0)).toArray 34 (0,0)))∨(kv = .int .i64 4∧wr.heap[P]? = some (.cells (thC ({ ({ zeroT with id:=a,kind:=k,df:=d,cats:=xs,quota:=q }:Th) with s0:=xa,s1:=xb,s2:=xc,s3:=xd,s4:=xe,s5:=xf,s6:=xg,s7:=xh }) (.slice va xs.length vc) (.slice none 0 0) (.slice none 0 0) (.slice none 0 0)).toArray 34 (0,0))))) (fun kv _=>4 - (intOf kv).toNat)
         case atStart=>exact ⟨Fr.refl _ _,.inl ⟨rfl,hP⟩⟩
         case round =>
          obtain ⟨hfr,hrel⟩:=hrel
          clear hP
          have hblr:b3 < wr.heap.size:=by have:=hfr.size;omega
          rcases hrel with ⟨rfl,hA⟩ | ⟨rfl,hA⟩ | ⟨rfl,hA⟩ | ⟨rfl,hA⟩ | ⟨rfl,hA⟩
          ·have e0:wr.cell? ⟨b3,off3 + 0,none⟩ = some (.int .u64 xa):=(fr_cell hfr hbl hbP).trans c0
           have e1:wr.cell? ⟨b3,off3 + 2,none⟩ = some (.int .u64 xb):=(fr_cell hfr hbl hbP).trans c1
           go_upto_region 35 with fail
           have hS:Fr (fun b=>b = P) wr wr.drew:=Fr.drew (Fr.refl _ wr)
           refine wp_region_ord [] 17 [(0,true),(1,true),(2,true),(7,true),(8,true),(15,true),(3,true),(9,true),(4,true),(10,true),(5,true),(11,true),(6,true),(12,true),(13,true),(14,true),(16,true)] (fun w':World=>Fr (fun b=>b = P) wr w') (by kernel_rfl) (by kernel_rfl) ?_
           refine ord_quietL _ ?_ rfl hS rfl ?_ ?_
           rotate_left
           ·rintro w' hn;go_simp;rfl
           simp only [pL,List.set]
           refine ord_quietL _ ?_ rfl hS rfl ?_ ?_
           rotate_left
           ·rintro w' hn;go_simp;rfl
           simp only [pL,List.set]
           refine ord_quietL _ ?_ rfl hS rfl ?_ ?_
           rotate_left
           ·rintro w' hn;go_simp;rfl
           simp only [pL,List.set]
           refine ord_quietL _ ?_ rfl hS rfl ?_ ?_
           rotate_left
           ·rintro w' hn;go_simp;rfl
           simp only [pL,List.set]
           refine ord_quietL _ ?_ rfl hS rfl ?_ ?_
           rotate_left
           ·rintro w' hn;go_simp;rfl
           simp only [pL,List.set]
           refine ord_quietL _ ?_ rfl hS rfl ?_ ?_
           rotate_left
           ·rintro w' hn;go_simp;rfl
           simp only [pL,List.set]
           refine ord_quietL _ ?_ rfl hS rfl ?_ ?_
           rotate_left
           ·rintro w' hn;go_simp;exact congrArg (Value.int IntKind.i64) (show IntKind.i64.wrap 0 = 0 from by decide)
           simp only [pL,List.set]
           refine ord_quietL _ ?_ rfl hS rfl ?_ ?_
           rotate_left
           ·rintro w' hn;go_simp;exact congrArg (Value.int IntKind.i64) (show IntKind.i64.wrap 0 = 0 from by decide)
           simp only [pL,List.set]
           refine ord_quietL _ ?_ rfl hS rfl ?_ ?_
           rotate_left
           ·rintro w' hn;go_simp;rfl
           simp only [pL,List.set]
           refine ord_quietL _ ?_ rfl hS rfl ?_ ?_
           rotate_left
           ·rintro w' hn;go_simp;exact congrArg (Value.int IntKind.i64) (show IntKind.i64.wrap 1 = 1 from by decide)
           simp only [pL,List.set]
           refine ord_quietL _ ?_ rfl hS rfl ?_ ?_
           rotate_left
           ·rintro w' hn;go_simp;rfl
           simp only [pL,List.set]
           refine ord_quietL _ ?_ rfl hS rfl ?_ ?_
           rotate_left
           ·rintro w' hn;go_simp;rfl
           simp only [pL,List.set]
           refine ord_quietL _ ?_ rfl hS rfl ?_ ?_
           rotate_left
           ·rintro w' hn;have g0:w'.cell? ⟨b3,off3 + 0,none⟩ = some (.int .u64 xa):=(fr_cell hn hblr hbP).trans e0;have g1:w'.cell? ⟨b3,off3,none⟩ = some (.int .u64 xa):=(fr_cell hn hblr hbP).trans e0;go_simp;rfl
           simp only [pL,List.set]
           refine ord_quietL _ ?_ rfl hS rfl ?_ ?_
           rotate_left
           ·rintro w' hn;go_simp;rfl
           simp only [pL,List.set]
           refine ord_quietL _ ?_ rfl hS rfl ?_ ?_
           rotate_left
           ·rintro w' hn;have g0:w'.cell? ⟨b3,off3 + 2,none⟩ = some (.int .u64 xb):=(fr_cell hn hblr hbP).trans e1;go_simp;rfl
           simp only [pL,List.set]
           refine ord_quietL _ ?_ rfl hS rfl ?_ ?_
           rotate_left
           ·rintro w' hn;go_simp;rfl
           simp only [pL,List.set]
           refine ord_quietL _ ?_ rfl hS rfl ?_ ?_
           rotate_left
           ·rintro w' hn;go_simp;rfl
           simp only [pL,List.set]
           refine ord_tail ?_
           simp only [List.drop_succ_cons,List.drop_zero]
           have hA9:wr.drew.heap[P]? = some (.cells (thC ({ zeroT with id:=a,kind:=k,df:=d,cats:=xs,quota:=q }) (.slice va xs.length vc) (.slice none 0 0) (.slice none 0 0) (.slice none 0 0)).toArray 34 (0,0)):=hA
           clear hA
           generalize wr.drew = wd at *
           have z0:wd.cell? ⟨P,18,none⟩ = some (.int .u64 0):=cell_blk hA9 rfl
           have y0:wd.frozen? ⟨P,18,none⟩ = false:=free_blk hA9
           have z1:wd.cell? ⟨P,19,none⟩ = some (.int .u64 0):=cell_blk hA9 rfl
           have y1:wd.frozen? ⟨P,19,none⟩ = false:=free_blk hA9
           have fin:Hid (Fr (fun b=>b = P) wa ((wd.setCell ⟨P,18,none⟩ (.int .u64 xa)).setCell ⟨P,19,none⟩ (.int .u64 xb))∧((wd.setCell ⟨P,18,none⟩ (.int .u64 xa)).setCell ⟨P,19,none⟩ (.int .u64 xb)).heap[P]? = some (.cells (thC ({ ({ zeroT with id:=a,kind:=k,df:=d,cats:=xs,quota:=q }:Th) with s0:=xa,s1:=xb }) (.slice va xs.length vc) (.slice none 0 0) (.slice none 0 0) (.slice none 0 0)).toArray 34 (0,0))):=⟨Fr.trans hfr ((hS.setCell (p:=⟨P,18,none⟩) (.inl rfl) (.int .u64 xa)).setCell (p:=⟨P,19,none⟩) (.inl rfl) (.int .u64 xb)) (fun _ h=>.inl h),by rw [show ((wd.setCell ⟨P,18,none⟩ (.int .u64 xa)).setCell ⟨P,19,none⟩ (.int .u64 xb)).heap[P]? = _ from (blk_setCell (blk_setCell hA9))];rfl⟩
           clear hS hA9 hfr e0 e1
           go_wp2
           go_roundw
           case rel=>exact ⟨fin.out.1,.inr (.inl ⟨rfl,fin.out.2⟩)⟩
           case measure=>simp [intOf]
          ·have e0:wr.cell? ⟨b3,off3 + 4,none⟩ = some (.int .u64 xc):=(fr_cell hfr hbl hbP).trans c2
           have e1:wr.cell? ⟨b3,off3 + 6,none⟩ = some (.int .u64 xd):=(fr_cell hfr hbl hbP).trans c3
           go_upto_region 35 with fail
           have hS:Fr (fun b=>b = P) wr wr.drew:=Fr.drew (Fr.refl _ wr)
           refine wp_region_ord [] 17 [(0,true),(1,true),(2,true),(7,true),(8,true),(15,true),(3,true),(9,true),(4,true),(10,true),(5,true),(11,true),(6,true),(12,true),(13,true),(14,true),(16,true)] (fun w':World=>Fr (fun b=>b = P) wr w') (by kernel_rfl) (by kernel_rfl) ?_
           refine ord_quietL _ ?_ rfl hS rfl ?_ ?_
           rotate_left
           ·rintro w' hn;go_simp;rfl
           simp only [pL,List.set]
           refine ord_quietL _ ?_ rfl hS rfl ?_ ?_
           rotate_left
           ·rintro w' hn;go_simp;rfl
           simp only [pL,List.set]
           refine ord_quietL _ ?_ rfl hS rfl ?_ ?_
           rotate_left
           ·rintro w' hn;go_simp;rfl
           simp only [pL,List.set]
           refine ord_quietL _ ?_ rfl hS rfl ?_ ?_
           rotate_left
           ·rintro w' hn;go_simp;rfl
           simp only [pL,List.set]
           refine ord_quietL _ ?_ rfl hS rfl ?_ ?_
           rotate_left
           ·rintro w' hn;go_simp;rfl
           simp only [pL,List.set]
           refine ord_quietL _ ?_ rfl hS rfl ?_ ?_
           rotate_left
           ·rintro w' hn;go_simp;rfl
           simp only [pL,List.set]
           refine ord_quietL _ ?_ rfl hS rfl ?_ ?_
           rotate_left
           ·rintro w' hn;go_simp;exact congrArg (Value.int IntKind.i64) (show IntKind.i64.wrap 2 = 2 from by decide)
           simp only [pL,List.set]
           refine ord_quietL _ ?_ rfl hS rfl ?_ ?_
           rotate_left
           ·rintro w' hn;go_simp;exact congrArg (Value.int IntKind.i64) (show IntKind.i64.wrap 2 = 2 from by decide)
           simp only [pL,List.set]
           refine ord_quietL _ ?_ rfl hS rfl ?_ ?_
           rotate_left
           ·rintro w' hn;go_simp;rfl
           simp only [pL,List.set]
           refine ord_quietL _ ?_ rfl hS rfl ?_ ?_
           rotate_left
           ·rintro w' hn;go_simp;exact congrArg (Value.int IntKind.i64) (show IntKind.i64.wrap 3 = 3 from by decide)
           simp only [pL,List.set]
           refine ord_quietL _ ?_ rfl hS rfl ?_ ?_
           rotate_left
           ·rintro w' hn;go_simp;rfl
           simp only [pL,List.set]
           refine ord_quietL _ ?_ rfl hS rfl ?_ ?_
           rotate_left
           ·rintro w' hn;go_simp;rfl
           simp only [pL,List.set]
           refine ord_quietL _ ?_ rfl hS rfl ?_ ?_
           rotate_left
           ·rintro w' hn;have g0:w'.cell? ⟨b3,off3 + 4,none⟩ = some (.int .u64 xc):=(fr_cell hn hblr hbP).trans e0;go_simp;rfl
           simp only [pL,List.set]
           refine ord_quietL _ ?_ rfl hS rfl ?_ ?_
           rotate_left
           ·rintro w' hn;go_simp;rfl
           simp only [pL,List.set]
           refine ord_quietL _ ?_ rfl hS rfl ?_ ?_
           rotate_left
           ·rintro w' hn;have g0:w'.cell? ⟨b3,off3 + 6,none⟩ = some (.int .u64 xd):=(fr_cell hn hblr hbP).trans e1;go_simp;rfl
           simp only [pL,List.set]
           refine ord_quietL _ ?_ rfl hS rfl ?_ ?_
           rotate_left
           ·rintro w' hn;go_simp;rfl
           simp only [pL,List.set]
           refine ord_quietL _ ?_ rfl hS rfl ?_ ?_
           rotate_left
           ·rintro w' hn;go_simp;rfl
           simp only [pL,List.set]
           refine ord_tail ?_
           simp only [List.drop_succ_cons,List.drop_zero]
           have hA9:wr.drew.heap[P]? = some (.cells (thC ({ ({ zeroT with id:=a,kind:=k,df:=d,cats:=xs,quota:=q }:Th) with s0:=xa,s1:=xb }) (.slice va xs.length vc) (.slice none 0 0) (.slice none 0 0) (.slice none 0 0)).toArray 34 (0,0)):=hA
           clear hA
           generalize wr.drew = wd at *
           have z0:wd.cell? ⟨P,20,none⟩ = some (.int .u64 0):=cell_blk hA9 rfl
           have y0:wd.frozen? ⟨P,20,none⟩ = false:=free_blk hA9
           have z1:wd.cell? ⟨P,21,none⟩ = some (.int .u64 0):=cell_blk hA9 rfl
           have y1:wd.frozen? ⟨P,21,none⟩ = false:=free_blk hA9
           have fin:Hid (Fr (fun b=>b = P) wa ((wd.setCell ⟨P,20,none⟩ (.int .u64 xc)).setCell ⟨P,21,none⟩ (.int .u64 xd))∧((wd.setCell ⟨P,20,none⟩ (.int .u64 xc)).setCell ⟨P,21,none⟩ (.int .u64 xd)).heap[P]? = some (.cells (thC ({ ({ zeroT with id:=a,kind:=k,df:=d,cats:=xs,quota:=q }:Th) with s0:=xa,s1:=xb,s2:=xc,s3:=xd }) (.slice va xs.length vc) (.slice none 0 0) (.slice none 0 0) (.slice none 0 0)).toArray 34 (0,0))):=⟨Fr.trans hfr ((hS.setCell (p:=⟨P,20,none⟩) (.inl rfl) (.int .u64 xc)).setCell (p:=⟨P,21,none⟩) (.inl rfl) (.int .u64 xd)) (fun _ h=>.inl h),by rw [show ((wd.setCell ⟨P,20,none⟩ (.int .u64 xc)).setCell ⟨P,21,none⟩ (.int .u64 xd)).heap[P]? = _ from (blk_setCell (blk_setCell hA9))];rfl⟩
           clear hS hA9 hfr e0 e1
           go_wp2
           go_roundw
           case rel=>exact ⟨fin.out.1,.inr (.inr (.inl ⟨rfl,fin.out.2⟩))⟩
           case measure=>simp [intOf]
          ·have e0:wr.cell? ⟨b3,off3 + 8,none⟩ = some (.int .u64 xe):=(fr_cell hfr hbl hbP).trans c4
           have e1:wr.cell? ⟨b3,off3 + 10,none⟩ = some (.int .u64 xf):=(fr_cell hfr hbl hbP).trans c5
           go_upto_region 35 with fail
           have hS:Fr (fun b=>b = P) wr wr.drew:=Fr.drew (Fr.refl _ wr)
           refine wp_region_ord [] 17 [(0,true),(1,true),(2,true),(7,true),(8,true),(15,true),(3,true),(9,true),(4,true),(10,true),(5,true),(11,true),(6,true),(12,true),(13,true),(14,true),(16,true)] (fun w':World=>Fr (fun b=>b = P) wr w') (by kernel_rfl) (by kernel_rfl) ?_
           refine ord_quietL _ ?_ rfl hS rfl ?_ ?_
           rotate_left
           ·rintro w' hn;go_simp;rfl
           simp only [pL,List.set]
           refine ord_quietL _ ?_ rfl hS rfl ?_ ?_
           rotate_left
           ·rintro w' hn;go_simp;rfl
           simp only [pL,List.set]
           refine ord_quietL _ ?_ rfl hS rfl ?_ ?_
           rotate_left
           ·rintro w' hn;go_simp;rfl
           simp only [pL,List.set]
           refine ord_quietL _ ?_ rfl hS rfl ?_ ?_
           rotate_left
           ·rintro w' hn;go_simp;rfl
           simp only [pL,List.set]
           refine ord_quietL _ ?_ rfl hS rfl ?_ ?_
           rotate_left
           ·rintro w' hn;go_simp;rfl
           simp only [pL,List.set]
           refine ord_quietL _ ?_ rfl hS rfl ?_ ?_
           rotate_left
           ·rintro w' hn;go_simp;rfl
           simp only [pL,List.set]
           refine ord_quietL _ ?_ rfl hS rfl ?_ ?_
           rotate_left
           ·rintro w' hn;go_simp;exact congrArg (Value.int IntKind.i64) (show IntKind.i64.wrap 4 = 4 from by decide)
           simp only [pL,List.set]
           refine ord_quietL _ ?_ rfl hS rfl ?_ ?_
           rotate_left
           ·rintro w' hn;go_simp;exact congrArg (Value.int IntKind.i64) (show IntKind.i64.wrap 4 = 4 from by decide)
           simp only [pL,List.set]
           refine ord_quietL _ ?_ rfl hS rfl ?_ ?_
           rotate_left
           ·rintro w' hn;go_simp;rfl
           simp only [pL,List.set]
           refine ord_quietL _ ?_ rfl hS rfl ?_ ?_
           rotate_left
           ·rintro w' hn;go_simp;exact congrArg (Value.int IntKind.i64) (show IntKind.i64.wrap 5 = 5 from by decide)
           simp only [pL,List.set]
           refine ord_quietL _ ?_ rfl hS rfl ?_ ?_
           rotate_left
           ·rintro w' hn;go_simp;rfl
           simp only [pL,List.set]
           refine ord_quietL _ ?_ rfl hS rfl ?_ ?_
           rotate_left
           ·rintro w' hn;go_simp;rfl
           simp only [pL,List.set]
           refine ord_quietL _ ?_ rfl hS rfl ?_ ?_
           rotate_left
           ·rintro w' hn;have g0:w'.cell? ⟨b3,off3 + 8,none⟩ = some (.int .u64 xe):=(fr_cell hn hblr hbP).trans e0;go_simp;rfl
           simp only [pL,List.set]
           refine ord_quietL _ ?_ rfl hS rfl ?_ ?_
           rotate_left
           ·rintro w' hn;go_simp;rfl
           simp only [pL,List.set]
           refine ord_quietL _ ?_ rfl hS rfl ?_ ?_
           rotate_left
           ·rintro w' hn;have g0:w'.cell? ⟨b3,off3 + 10,none⟩ = some (.int .u64 xf):=(fr_cell hn hblr hbP).trans e1;go_simp;rfl
           simp only [pL,List.set]
           refine ord_quietL _ ?_ rfl hS rfl ?_ ?_
           rotate_left
           ·rintro w' hn;go_simp;rfl
           simp only [pL,List.set]
           refine ord_quietL _ ?_ rfl hS rfl ?_ ?_
           rotate_left
           ·rintro w' hn;go_simp;rfl
           simp only [pL,List.set]
           refine ord_tail ?_
           simp only [List.drop_succ_cons,List.drop_zero]
           have hA9:wr.drew.heap[P]? = some (.cells (thC ({ ({ zeroT with id:=a,kind:=k,df:=d,cats:=xs,quota:=q }:Th) with s0:=xa,s1:=xb,s2:=xc,s3:=xd }) (.slice va xs.length vc) (.slice none 0 0) (.slice none 0 0) (.slice none 0 0)).toArray 34 (0,0)):=hA
           clear hA
           generalize wr.drew = wd at *
           have z0:wd.cell? ⟨P,22,none⟩ = some (.int .u64 0):=cell_blk hA9 rfl
           have y0:wd.frozen? ⟨P,22,none⟩ = false:=free_blk hA9
           have z1:wd.cell? ⟨P,23,none⟩ = some (.int .u64 0):=cell_blk hA9 rfl
           have y1:wd.frozen? ⟨P,23,none⟩ = false:=free_blk hA9
           have fin:Hid (Fr (fun b=>b = P) wa ((wd.setCell ⟨P,22,none⟩ (.int .u64 xe)).setCell ⟨P,23,none⟩ (.int .u64 xf))∧((wd.setCell ⟨P,22,none⟩ (.int .u64 xe)).setCell ⟨P,23,none⟩ (.int .u64 xf)).heap[P]? = some (.cells (thC ({ ({ zeroT with id:=a,kind:=k,df:=d,cats:=xs,quota:=q }:Th) with s0:=xa,s1:=xb,s2:=xc,s3:=xd,s4:=xe,s5:=xf }) (.slice va xs.length vc) (.slice none 0 0) (.slice none 0 0) (.slice none 0 0)).toArray 34 (0,0))):=⟨Fr.trans hfr ((hS.setCell (p:=⟨P,22,none⟩) (.inl rfl) (.int .u64 xe)).setCell (p:=⟨P,23,none⟩) (.inl rfl) (.int .u64 xf)) (fun _ h=>.inl h),by rw [show ((wd.setCell ⟨P,22,none⟩ (.int .u64 xe)).setCell ⟨P,23,none⟩ (.int .u64 xf)).heap[P]? = _ from (blk_setCell (blk_setCell hA9))];rfl⟩
           clear hS hA9 hfr e0 e1
           go_wp2
           go_roundw
           case rel=>exact ⟨fin.out.1,.inr (.inr (.inr (.inl ⟨rfl,fin.out.2⟩)))⟩
           case measure=>simp [intOf]
          ·have e0:wr.cell? ⟨b3,off3 + 12,none⟩ = some (.int .u64 xg):=(fr_cell hfr hbl hbP).trans c6
           have e1:wr.cell? ⟨b3,off3 + 14,none⟩ = some (.int .u64 xh):=(fr_cell hfr hbl hbP).trans c7
           go_upto_region 35 with fail
           have hS:Fr (fun b=>b = P) wr wr.drew:=Fr.drew (Fr.refl _ wr)
           refine wp_region_ord [] 17 [(0,true),(1,true),(2,true),(7,true),(8,true),(15,true),(3,true),(9,true),(4,true),(10,true),(5,true),(11,true),(6,true),(12,true),(13,true),(14,true),(16,true)] (fun w':World=>Fr (fun b=>b = P) wr w') (by kernel_rfl) (by kernel_rfl) ?_
           refine ord_quietL _ ?_ rfl hS rfl ?_ ?_
           rotate_left
           ·rintro w' hn;go_simp;rfl
           simp only [pL,List.set]
           refine ord_quietL _ ?_ rfl hS rfl ?_ ?_
           rotate_left
           ·rintro w' hn;go_simp;rfl
           simp only [pL,List.set]
           refine ord_quietL _ ?_ rfl hS rfl ?_ ?_
           rotate_left
           ·rintro w' hn;go_simp;rfl
           simp only [pL,List.set]
           refine ord_quietL _ ?_ rfl hS rfl ?_ ?_
           rotate_left
           ·rintro w' hn;go_simp;rfl
           simp only [pL,List.set]
           refine ord_quietL _ ?_ rfl hS rfl ?_ ?_
           rotate_left
           ·rintro w' hn;go_simp;rfl
           simp only [pL,List.set]
           refine ord_quietL _ ?_ rfl hS rfl ?_ ?_
           rotate_left
           ·rintro w' hn;go_simp;rfl
           simp only [pL,List.set]
           refine ord_quietL _ ?_ rfl hS rfl ?_ ?_
           rotate_left
           ·rintro w' hn;go_simp;exact congrArg (Value.int IntKind.i64) (show IntKind.i64.wrap 6 = 6 from by decide)
           simp only [pL,List.set]
           refine ord_quietL _ ?_ rfl hS rfl ?_ ?_
           rotate_left
           ·rintro w' hn;go_simp;exact congrArg (Value.int IntKind.i64) (show IntKind.i64.wrap 6 = 6 from by decide)
           simp only [pL,List.set]
           refine ord_quietL _ ?_ rfl hS rfl ?_ ?_
           rotate_left
           ·rintro w' hn;go_simp;rfl
           simp only [pL,List.set]
           refine ord_quietL _ ?_ rfl hS rfl ?_ ?_
           rotate_left
           ·rintro w' hn;go_simp;exact congrArg (Value.int IntKind.i64) (show IntKind.i64.wrap 7 = 7 from by decide)
           simp only [pL,List.set]
           refine ord_quietL _ ?_ rfl hS rfl ?_ ?_
           rotate_left
           ·rintro w' hn;go_simp;rfl
           simp only [pL,List.set]
           refine ord_quietL _ ?_ rfl hS rfl ?_ ?_
           rotate_left
           ·rintro w' hn;go_simp;rfl
           simp only [pL,List.set]
           refine ord_quietL _ ?_ rfl hS rfl ?_ ?_
           rotate_left
           ·rintro w' hn;have g0:w'.cell? ⟨b3,off3 + 12,none⟩ = some (.int .u64 xg):=(fr_cell hn hblr hbP).trans e0;go_simp;rfl
           simp only [pL,List.set]
           refine ord_quietL _ ?_ rfl hS rfl ?_ ?_
           rotate_left
           ·rintro w' hn;go_simp;rfl
           simp only [pL,List.set]
           refine ord_quietL _ ?_ rfl hS rfl ?_ ?_
           rotate_left
           ·rintro w' hn;have g0:w'.cell? ⟨b3,off3 + 14,none⟩ = some (.int .u64 xh):=(fr_cell hn hblr hbP).trans e1;go_simp;rfl
           simp only [pL,List.set]
           refine ord_quietL _ ?_ rfl hS rfl ?_ ?_
           rotate_left
           ·rintro w' hn;go_simp;rfl
           simp only [pL,List.set]
           refine ord_quietL _ ?_ rfl hS rfl ?_ ?_
           rotate_left
           ·rintro w' hn;go_simp;rfl
           simp only [pL,List.set]
           refine ord_tail ?_
           simp only [List.drop_succ_cons,List.drop_zero]
           have hA9:wr.drew.heap[P]? = some (.cells (thC ({ ({ zeroT with id:=a,kind:=k,df:=d,cats:=xs,quota:=q }:Th) with s0:=xa,s1:=xb,s2:=xc,s3:=xd,s4:=xe,s5:=xf }) (.slice va xs.length vc) (.slice none 0 0) (.slice none 0 0) (.slice none 0 0)).toArray 34 (0,0)):=hA
           clear hA
           generalize wr.drew = wd at *
           have z0:wd.cell? ⟨P,24,none⟩ = some (.int .u64 0):=cell_blk hA9 rfl
           have y0:wd.frozen? ⟨P,24,none⟩ = false:=free_blk hA9
           have z1:wd.cell? ⟨P,25,none⟩ = some (.int .u64 0):=cell_blk hA9 rfl
           have y1:wd.frozen? ⟨P,25,none⟩ = false:=free_blk hA9
           have fin:Hid (Fr (fun b=>b = P) wa ((wd.setCell ⟨P,24,none⟩ (.int .u64 xg)).setCell ⟨P,25,none⟩ (.int .u64 xh))∧((wd.setCell ⟨P,24,none⟩ (.int .u64 xg)).setCell ⟨P,25,none⟩ (.int .u64 xh)).heap[P]? = some (.cells (thC ({ ({ zeroT with id:=a,kind:=k,df:=d,cats:=xs,quota:=q }:Th) with s0:=xa,s1:=xb,s2:=xc,s3:=xd,s4:=xe,s5:=xf,s6:=xg,s7:=xh }) (.slice va xs.length vc) (.slice none 0 0) (.slice none 0 0) (.slice none 0 0)).toArray 34 (0,0))):=⟨Fr.trans hfr ((hS.setCell (p:=⟨P,24,none⟩) (.inl rfl) (.int .u64 xg)).setCell (p:=⟨P,25,none⟩) (.inl rfl) (.int .u64 xh)) (fun _ h=>.inl h),by rw [show ((wd.setCell ⟨P,24,none⟩ (.int .u64 xg)).setCell ⟨P,25,none⟩ (.int .u64 xh)).heap[P]? = _ from (blk_setCell (blk_setCell hA9))];rfl⟩
           clear hS hA9 hfr e0 e1
           go_wp2
           go_roundw
           case rel=>exact ⟨fin.out.1,.inr (.inr (.inr (.inr (⟨rfl,fin.out.2⟩))))⟩
           case measure=>simp [intOf]
          ·have ht9:=ht0.out.keep hfr (fun b hb _ e=>hb.1 e) (fun b hb _=>hb)
           have fin:Hid (RdD (fun b=>b ≠ P∧b ≠ w.heap.size) P [nF xa,nF xb,nF xc,nF xd,nF xe,nF xf,nF xg,nF xh] ({ zeroT with id:=a,kind:=k,df:=d,cats:=xs,quota:=q }) wa wr):=⟨hfr,{ ({ zeroT with id:=a,kind:=k,df:=d,cats:=xs,quota:=q }:Th) with s0:=xa,s1:=xb,s2:=xc,s3:=xd,s4:=xe,s5:=xf,s6:=xg,s7:=xh },(.slice va xs.length vc),(.slice none 0 0),(.slice none 0 0),(.slice none 0 0),hA,⟨ht9.l,ht9.c,ht9.k,ht9.d⟩,set5 hk.out h0 h1 h2 h3 h4 h5 h6 h7,⟨wf_zero.r0,wf_zero.r1,wf_zero.r2,wf_zero.r3,wf_zero.value⟩,h200,Nat.zero_le _⟩
           clear hA hfr ht9
           go_wp2
           go_meet
           case rel=>exact fin.out
       ·as_aux_lemma =>
         have bk1:((k:Int) == 1) = false:=by simp;omega
         have bk2:((k:Int) == 2) = false:=by simp;omega
         have bk3:((k:Int) == 3) = false:=by simp;omega
         have bk4:((k:Int) == 4) = false:=by simp;omega
         have bk5:((k:Int) == 5) = false:=by simp;omega
         have fin:Hid (RdD (fun b=>b ≠ P∧b ≠ w.heap.size) P [] ({ zeroT with id:=a,kind:=k,df:=d,cats:=xs,quota:=q }) wa wa):=⟨Fr.refl _ wa,_,_,_,_,_,hP,ht0.out,set6 k1 k2 k3 k4 k5,⟨wf_zero.r0,wf_zero.r1,wf_zero.r2,wf_zero.r3,wf_zero.value⟩,h200,Nat.zero_le _⟩
         clear hP ht0 k1 k2 k3 k4 k5
         go_wp2
         go_meet
         case rel=>exact fin.out
      case rest =>
       obtain ⟨f3,t9,vL,vC,vK,vD,hP3,ht3,hsp,hwf3,hcats,hcc3⟩:=hcut
       as_aux_lemma =>
        obtain ⟨g1,e1,rfl,_⟩:=ht3.l.form
        obtain ⟨g2,e2,rfl,_⟩:=ht3.c.form
        obtain ⟨g3,e3,rfl,_⟩:=ht3.k.form
        obtain ⟨g4,e4,rfl,_⟩:=ht3.d.form
        have nCX:Nw V wc:=Fr.trans nC f3 (fun q hq=>.inr (by omega))
        replace hZ:=(nCX.block _ (heap_lt hZ) (fun h=>h)).trans hZ
        have nX:Nw w wc:=nw_trans nV.out nCX
        have nWX:Hid (Nw W wc):=nw_trans nWV.out nCX
        have hguess:Hid (∀ u,RightT u→WfT u→imgO u = some bs→t9 = u):=fun u hu wu eu=>guess_only hun.out ha.out hq.out (by obtain ⟨c,hc1,hc2⟩:=hbk.out;obtain ⟨h9,h8⟩:=List.getElem?_eq_some_iff.1 hc1;exact ⟨h9,by rw [h8];omega⟩) hback.out hsp hu wu eu
        have hr2:=range_all hP3
        have hci:Hid _:=c_rimage wc ht3 hwf3 (by omega) (by omega)
        replace hwf3:Hid _:=hwf3
        clear hsp hcats hcc3 f3 nC nCX hPge hP
        by_cases hr:RightT t9
        ·obtain ⟨y,hy,-⟩:=img_some hr hwf3.out
         replace hr:Hid (RightT t9):=hr
         replace hy:Hid (imgO t9 = some y):=hy
         go_upto_region 36 with fail
         go_wp2_with (first | (refine wpList_load_as rfl 34 _ rfl (P) 0 rfl (thV t9 (.slice g1 t9.cats.length e1) (.slice g2 t9.ccats.length e2) (.slice g3 t9.links.length e3) (.slice g4 t9.data.length e4)) _ rfl hr2 Try.rowT Try.sizeT ?_) | (go_at_call 17;refine Calls.mono hci.out ?_;rintro e V2 ⟨hip,n3⟩;obtain ⟨p1,p2,p3,rfl,hbs⟩:=img_yes hip hr.out hy.out;refine stop_here ?_))
         unfold Hid
         clear hci hr2
         replace hZ:=(n3.block _ (heap_lt hZ) (fun h=>h)).trans hZ
         replace hP3:=(n3.block _ (heap_lt hP3) (fun h=>h)).trans hP3
         replace ht3:=ht3.nw n3
         have nV2:Nw w V2:=nw_trans nX n3
         have nV3:Nw W V2:=nw_trans nWX.out n3
         have hxs:Sl K V2 (.slice (some ⟨b,off,none⟩) bs.length cap) bs.length (bs.map bv):=by rw [hn.out];exact hxv.out.keep (nV3.below hKW.out (fun _ h=>h.elim))
         have s1:=run_string_sl (P:=Try.prog) 28 5 9 Try.underlying28 Try.underlying5 Try.underlying9 hbs.sl
         have s2b:=run_string_sl (P:=Try.prog) 28 5 9 Try.underlying28 Try.underlying5 Try.underlying9 hxs
         rw [hn.out] at s2b
         clear hbs hxs hip n3 nV3
         by_cases hyb:y = bs
         ·have hne:(y != bs) = false:=by simp [hyb]
          have heq:(y == bs) = true:=by simp [hyb]
          replace hyb:Hid _:=hyb
          have hr3:=range_all hP3
          have fin:Hid (ReadP bs (.returned (.tuple #[(thV t9 (.slice g1 t9.cats.length e1) (.slice g2 t9.ccats.length e2) (.slice g3 t9.links.length e3) (.slice g4 t9.data.length e4)),.int .i64 0])) (V2.setRow w.heap.size (thC t9 (.slice g1 t9.cats.length e1) (.slice g2 t9.ccats.length e2) (.slice g3 t9.links.length e3) (.slice g4 t9.data.length e4)).toArray)∧Nw w (V2.setRow w.heap.size (thC t9 (.slice g1 t9.cats.length e1) (.slice g2 t9.ccats.length e2) (.slice g3 t9.links.length e3) (.slice g4 t9.data.length e4)).toArray)):=by
           have fz:Fr (fun b=>b = w.heap.size) V2 (V2.setRow w.heap.size (thC t9 (.slice g1 t9.cats.length e1) (.slice g2 t9.ccats.length e2) (.slice g3 t9.links.length e3) (.slice g4 t9.data.length e4)).toArray):=(Fr.refl (fun b=>b = w.heap.size) V2).setRow (.inl rfl) _
           refine ⟨.inl ⟨t9,_,_,_,_,hr.out,hwf3.out,by rw [hy.out,hyb.out],rfl,?_⟩,Fr.setRow nV2 (.inr (Nat.le_refl _)) _⟩
           exact ht3.keep fz (fun b hb _ e=>hb.2 e) (fun b _ hb=>Nat.lt_of_lt_of_le hb fz.size)
          clear ht3
          go_upto_region 39 with fail
          go_wp2_with (refine wpList_load_as rfl 34 _ rfl (P) 0 rfl (thV t9 (.slice g1 t9.cats.length e1) (.slice g2 t9.ccats.length e2) (.slice g3 t9.links.length e3) (.slice g4 t9.data.length e4)) _ rfl hr3 Try.rowT Try.sizeT ?_;refine stop_here ?_)
          unfold Hid
          refine wpList_store_all rfl 34 _ _ rfl w.heap.size rfl (thV t9 (.slice g1 t9.cats.length e1) (.slice g2 t9.ccats.length e2) (.slice g3 t9.links.length e3) (.slice g4 t9.data.length e4)) rfl (thC t9 (.slice g1 t9.cats.length e1) (.slice g2 t9.ccats.length e2) (.slice g3 t9.links.length e3) (.slice g4 t9.data.length e4)) rfl (thC zeroT (.slice none 0 0) (.slice none 0 0) (.slice none 0 0) (.slice none 0 0)) 34 hZ rfl (th_one _ _ _ _ _ rfl rfl rfl rfl) Try.sizeT ?_
          go_wp2
          refine bodyPost_ret (results_cell2 rfl _ w.heap.size _ (thV t9 (.slice g1 t9.cats.length e1) (.slice g2 t9.ccats.length e2) (.slice g3 t9.links.length e3) (.slice g4 t9.data.length e4)) rfl rfl (range_all (setRow_heap _ _ _ _ _ _ hZ)) Try.rowT Try.sizeT) rfl ?_
          exact fin.out
         ·have hne:(y != bs) = true:=by simp [hyb]
          have heq:(y == bs) = false:=by simp [hyb]
          have hnone:Hid (∀ u,RightT u→WfT u→imgO u ≠ some bs):=fun u hu wu e=>by
           have h9:=hguess.out u hu wu e
           subst h9
           exact hyb (Option.some.inj (hy.out.symm.trans e))
          clear hP3 ht3
          go_upto_region 38 with fail
          refine wp_region_list ?_
          simp only [List.toList_toArray,List.append_eq,List.cons_append,List.nil_append]
          refine wpList_build_as rfl 34 _ rfl (thV zeroT (.slice none 0 0) (.slice none 0 0) (.slice none 0 0) (.slice none 0 0)) (thC zeroT (.slice none 0 0) (.slice none 0 0) (.slice none 0 0) (.slice none 0 0)).toArray rfl ?z ?_
          case z =>
           simp only [List.map_nil]
           exact Try.builtZ
          simp only [pL,List.set]
          refine wpList_store_all rfl 34 _ _ rfl w.heap.size rfl (thV zeroT (.slice none 0 0) (.slice none 0 0) (.slice none 0 0) (.slice none 0 0)) rfl (thC zeroT (.slice none 0 0) (.slice none 0 0) (.slice none 0 0) (.slice none 0 0)) rfl (thC zeroT (.slice none 0 0) (.slice none 0 0) (.slice none 0 0) (.slice none 0 0)) 34 hZ rfl (th_one _ _ _ _ _ rfl rfl rfl rfl) Try.sizeT ?_
          go_wp2
          refine bodyPost_ret (results_cell2 rfl _ w.heap.size _ (thV zeroT (.slice none 0 0) (.slice none 0 0) (.slice none 0 0) (.slice none 0 0)) rfl rfl (range_all (setRow_heap _ _ _ _ _ _ hZ)) Try.rowT Try.sizeT) rfl ?_
          exact ⟨.inr ⟨hnone.out,rfl⟩,Fr.setRow nV2 (.inr (Nat.le_refl _)) _⟩
        ·have hnone:Hid (∀ u,RightT u→WfT u→imgO u ≠ some bs):=fun u hu wu e=>by
          have h9:=hguess.out u hu wu e
          subst h9
          exact hr hu
         go_upto_region 36 with fail
         go_wp2_with (first | (refine wpList_load_as rfl 34 _ rfl (P) 0 rfl (thV t9 (.slice g1 t9.cats.length e1) (.slice g2 t9.ccats.length e2) (.slice g3 t9.links.length e3) (.slice g4 t9.data.length e4)) _ rfl hr2 Try.rowT Try.sizeT ?_) | (go_at_call 17;refine Calls.mono hci.out ?_;rintro e V2 ⟨hip,n3⟩;obtain rfl:=img_no hip hr;refine stop_here ?_))
         unfold Hid
         clear hci hr2
         replace hZ:=(n3.block _ (heap_lt hZ) (fun h=>h)).trans hZ
         replace hP3:=(n3.block _ (heap_lt hP3) (fun h=>h)).trans hP3
         replace ht3:=ht3.nw n3
         have nV2:Nw w V2:=nw_trans nX n3
         have nV3:Nw W V2:=nw_trans nWX.out n3
         clear hP3 ht3 hip n3 nV3
         go_upto_region 38 with fail
         refine wp_region_list ?_
         simp only [List.toList_toArray,List.append_eq,List.cons_append,List.nil_append]
         refine wpList_build_as rfl 34 _ rfl (thV zeroT (.slice none 0 0) (.slice none 0 0) (.slice none 0 0) (.slice none 0 0)) (thC zeroT (.slice none 0 0) (.slice none 0 0) (.slice none 0 0) (.slice none 0 0)).toArray rfl ?z ?_
         case z =>
          simp only [List.map_nil]
          exact Try.builtZ
         simp only [pL,List.set]
         refine wpList_store_all rfl 34 _ _ rfl w.heap.size rfl (thV zeroT (.slice none 0 0) (.slice none 0 0) (.slice none 0 0) (.slice none 0 0)) rfl (thC zeroT (.slice none 0 0) (.slice none 0 0) (.slice none 0 0) (.slice none 0 0)) rfl (thC zeroT (.slice none 0 0) (.slice none 0 0) (.slice none 0 0) (.slice none 0 0)) 34 hZ rfl (th_one _ _ _ _ _ rfl rfl rfl rfl) Try.sizeT ?_
         go_wp2
         refine bodyPost_ret (results_cell2 rfl _ w.heap.size _ (thV zeroT (.slice none 0 0) (.slice none 0 0) (.slice none 0 0) (.slice none 0 0)) rfl rfl (range_all (setRow_heap _ _ _ _ _ _ hZ)) Try.rowT Try.sizeT) rfl ?_
         exact ⟨.inr ⟨hnone.out,rfl⟩,Fr.setRow nV2 (.inr (Nat.le_refl _)) _⟩
end Go.Proofs.Ytghlilncdfiojaa
