/-
  Read: setParts as a whole, guessed.
-/
import Derived.Test.YtghlilncdfiojaaThG5S
import Derived.Test.YtghlilncdfiojaaThI6S
import Derived.Test.YtghlilncdfiojaaLibS
namespace Go.Proofs.Ytghlilncdfiojaa
set_option linter.unusedVariables false
set_option linter.unusedSimpArgs false
set_option maxRecDepth 20000
open Go.RowKit

theorem Try.builtZ:Try.prog.built 34 [] = some (thC zeroT (.slice none 0 0) (.slice none 0 0) (.slice none 0 0) (.slice none 0 0)).toArray:=by kernel_rfl

theorem zero_no8 {i:Nat} {v:Value} (h:(thC zeroT (.slice none 0 0) (.slice none 0 0) (.slice none 0 0) (.slice none 0 0)).toArray[i]? = some v) (x:UInt8):v ≠ bv x:=by
 have hm:v ∈ (thC zeroT (.slice none 0 0) (.slice none 0 0) (.slice none 0 0) (.slice none 0 0)):=List.mem_of_getElem? (by simpa using h)
 simp only [thC,zeroT,List.mem_cons,List.not_mem_nil,or_false] at hm
 intro e
 subst e
 simp [bv] at hm

theorem bsl_not {X:Nat→Prop} {w:World} {v:Value} {bs:List UInt8} {Z:Nat} (h:BSl X w v bs) (hz:w.heap[Z]? = some (.cells (thC zeroT (.slice none 0 0) (.slice none 0 0) (.slice none 0 0) (.slice none 0 0)).toArray 34 (0,0))):BSl (fun b=>X b∧b ≠ Z) w v bs:=by
 obtain ⟨ao,cap,hv,hc,hn,hcs⟩:=h
 refine ⟨ao,cap,hv,hc,hn,fun i c hi=>?_⟩
 obtain ⟨b,off,h1,h2,h3⟩:=hcs i c hi
 refine ⟨b,off,h1,⟨h2,fun e=>?_⟩,h3⟩
 subst e
 rw [cell_of_row w b (off + i) _ _ (0,0) hz] at h3
 rw [List.getElem?_map] at hi
 cases hb:bs[i]? with
 | none=>rw [hb] at hi;cases hi
 | some x=>rw [hb] at hi;cases hi;exact zero_no8 h3 x rfl

theorem c_set {X:Nat→Prop} {K P:Nat} {t:Th} {uL uC uK uD fv:Value} {gs:List Fld} (w:World) (hA:w.heap[P]? = some (.cells (thC t uL uC uK uD).toArray 34 (0,0))) (ht:ThAt X w t uL uC uK uD) (hf:FieldsAt K w fv gs) (hKP:K ≤ P) (hT:TailF t.kind gs)
  (hX0:¬ X P) (hX1:∀ b,w.heap.size ≤ b→X b) (hX2:∀ v bs,BSl (fun b=>b < K) w v bs→BSl X w v bs) (hwf:WfT t) (hcc:t.ccats.length ≤ 100) :
  Calls Try.prog 77 #[.pointer (some ⟨P,0,none⟩),fv] w (SetR X P gs t w):=by
 rcases hT with ⟨hk,nx,lk,rfl,h1,h2⟩ | ⟨hk,cl,r0,r1,r2,r3,mi,bo,hh,rfl,h1,h2,h3,h4,h5,h6,h7,h8⟩ | ⟨hk,cl,va,rfl,h1,h2⟩ | ⟨hk,da,rfl,h1⟩ | ⟨hk,a,b,c,d,e,f,g,h,rfl,h1,h2,h3,h4,h5,h6,h7,h8⟩ | ⟨k1,k2,k3,k4,k5,rfl⟩
 ·exact c_set1 w hA ht hf hKP hk h1 h2 hX0 hX1 hX2 hwf hcc
 ·exact c_set2 w hA ht hf hKP hk h1 h2 h3 h4 h5 h6 h7 h8 hX0 hX1 hX2 hwf hcc
 ·exact c_set3 w hA ht hf hKP hk h2 h1 hX0 hX1 hX2 hwf hcc
 ·exact c_set4 w hA ht hf hKP hk h1 hX0 hX1 hX2 hwf hcc
 ·exact c_set5 w hA ht hf hKP hk h1 h2 h3 h4 h5 h6 h7 h8 hX0 hX1 hX2 hwf hcc
 ·exact c_set6 w hA ht k1 k2 k3 k4 k5 hwf hcc

/-- What guessed answers. -/
def GueP (bs:List UInt8) (Z0:Nat) (e:Ending) (w':World):Prop:=∃ t vL vC vK vD,e = .returned (thV t vL vC vK vD)∧ThAt (fun b=>b < w'.heap.size∧b ≠ Z0) w' t vL vC vK vD∧WfT t∧t.cats.length ≤ 100∧t.ccats.length ≤ 100∧∀ u,RightT u→WfT u→imgO u = some bs→t = u

theorem fld_cut {K:Nat} {w:World} {ao:Option Addr} {n cap:Nat} {f0 f1 f2 f3:Fld} {gs:List Fld} (h:FieldsAt K w (.slice ao n cap) (f0 :: f1 :: f2 :: f3 :: gs)) :
  ∃ sv,FieldsAt K w sv gs∧∀ w,(Instr.sliceAt 71 (.slice ao n cap) (some (.int .i64 4)) none none).run Try.prog w = .ok sv w:=by
 obtain ⟨ao',cap',hv,hc,hn,hcs⟩:=h
 simp only [Value.slice.injEq] at hv
 obtain ⟨rfl,rfl,rfl⟩:=hv
 simp only [List.length_cons] at hc
 refine ⟨sliced ao 4 (gs.length + 1 + 1 + 1 + 1) cap 2,⟨if cap = 4 then ao else ao.map (·.add (4 * 2)),cap - 4,by show Value.slice _ _ _ = _;congr 1,by omega,?_,fun i f hi=>?_⟩,fun w=>?_⟩
 ·intro h0
  split at h0
  ·omega
  ·have:ao = none:=by simpa using h0
   have:=hn this
   omega
 ·obtain ⟨b,off,bvv,ha,hbk,h1,h2,h3⟩:=hcs (i + 4) f (by simpa using hi)
  have hlt:i < gs.length:=(List.getElem?_eq_some_iff.1 hi).1
  refine ⟨b,off + 4 * 2,bvv,?_,hbk,?_,?_,h3⟩
  ·rw [if_neg (by omega),ha];simp [add_plain]
  ·rw [show off + 4 * 2 + i * 2 = off + (i + 4) * 2 by omega];exact h1
  ·rw [show off + 4 * 2 + i * 2 + 1 = off + (i + 4) * 2 + 1 by omega];exact h2
 ·simp only [List.length_cons]
  obtain ⟨i4,hi,_,hi1,_⟩:=info_parts3 Try.infoFd
  have he:Try.prog.elem 71 = 74:=by simp [Program.elem,Try.underlying71]
  rw [run_sliceAt_slice w 71 _ _ _ _ (by rw [he];exact Try.underlying71),run_slice_l w 71 ao (gs.length + 1 + 1 + 1 + 1) cap (by rw [he];exact Try.underlying71) .i64 _ (by omega) (by omega),he]
  simp [sizeOf,typeInfo,hi,hi1,Result.andThen,sliced]

theorem unp_no {s bs:List UInt8} {w':World} {e:Ending} (h:(∃ fs v,unpack s bs = some fs∧e = .returned (.tuple #[v,.int .i64 0])∧FieldsAt w'.heap.size w' v fs)∨(unpack s bs = none∧e = .returned (.tuple #[.slice none 0 0,.int .i64 21]))) (hu:unpack s bs = none):e = .returned (.tuple #[.slice none 0 0,.int .i64 21]):=by
 rcases h with ⟨_,_,h1,_⟩ | ⟨_,h2⟩
 ·rw [hu] at h1;cases h1
 ·exact h2
theorem unp_yes {s bs:List UInt8} {w':World} {e:Ending} {f:Fld} {fs:List Fld} (h:(∃ fs v,unpack s bs = some fs∧e = .returned (.tuple #[v,.int .i64 0])∧FieldsAt w'.heap.size w' v fs)∨(unpack s bs = none∧e = .returned (.tuple #[.slice none 0 0,.int .i64 21]))) (hu:unpack s bs = some (f :: fs)) :
  ∃ b off cap n,e = .returned (.tuple #[.slice (some ⟨b,off,none⟩) n cap,.int .i64 0])∧FieldsAt w'.heap.size w' (.slice (some ⟨b,off,none⟩) n cap) (f :: fs)∧b < w'.heap.size:=by
 rcases h with ⟨gs,v,h1,rfl,h3⟩ | ⟨h1,_⟩
 ·rw [hu] at h1
  cases h1
  obtain ⟨b,off,cap,rfl,hb,_⟩:=fa_form h3 (by simp)
  exact ⟨b,off,cap,_,rfl,h3,hb⟩
 ·rw [hu] at h1;cases h1

set_option maxRecDepth 100000 in
set_option maxHeartbeats 6400000 in
theorem c_guessed {K Z0:Nat} {v:Value} {bs:List UInt8} (w:World) (hZ0w:w.heap[Z0]? = some (.cells (thC zeroT (.slice none 0 0) (.slice none 0 0) (.slice none 0 0) (.slice none 0 0)).toArray 34 (0,0))) (hx:Sl K w v bs.length (bs.map bv)) (hK:K ≤ w.heap.size) :
  Calls Try.prog 49 #[v] w fun e w'=>GueP bs Z0 e w'∧Nw w w':=by
 obtain ⟨W,hW⟩:∃ W,Hid (W = w.alloc (.cells (thC zeroT (.slice none 0 0) (.slice none 0 0) (.slice none 0 0) (.slice none 0 0)).toArray 34)):=⟨_,rfl⟩
 have nW:Nw w W:=by rw [hW.out];exact nw_alloc (nw_refl w) _
 have hZ0:W.heap[Z0]? = some (.cells (thC zeroT (.slice none 0 0) (.slice none 0 0) (.slice none 0 0) (.slice none 0 0)).toArray 34 (0,0)):=(nW.block _ (heap_lt hZ0w) (fun h=>h)).trans hZ0w
 have hz0l:Hid (Z0 < w.heap.size):=heap_lt hZ0w
 clear hZ0w
 have hZ:W.heap[w.heap.size]? = some (.cells (thC zeroT (.slice none 0 0) (.slice none 0 0) (.slice none 0 0) (.slice none 0 0)).toArray 34 (0,0)):=by rw [hW.out];exact heap_alloc_new w _
 have hxW:Sl K W v bs.length (bs.map bv):=hx.keep (nW.below hK (fun _ h=>h.elim))
 obtain ⟨ao,cap,rfl,hcap,hao,_⟩:=hx
 have hcm:cap ≤ 9223372036854775807:=hcap.2
 by_cases h8:bs.length ≤ 8
 ·have b8:decide ((bs.length:Int) ≤ 8) = true:=decide_eq_true (by omega)
  have hno:∀ u,RightT u→WfT u→imgO u = some bs→zeroT = u:=fun u hu wu e=>by have:=(img_kind hu wu e).1;omega
  generalize bs.length = n at *
  go_enter Try.func49,Try.ntmps49
  go_upto_region 1 with (refine wpList_alloc_agg rfl 34 rfl _ Try.zeroTh ?_)
  rw [← hW.out]
  clear hW hxW
  go_upto_region 2 with fail
  refine wp_region_list ?_
  simp only [List.toList_toArray,List.append_eq,List.cons_append,List.nil_append]
  refine wpList_build_as rfl 34 _ rfl (thV zeroT (.slice none 0 0) (.slice none 0 0) (.slice none 0 0) (.slice none 0 0)) (thC zeroT (.slice none 0 0) (.slice none 0 0) (.slice none 0 0) (.slice none 0 0)).toArray rfl ?z ?_
  case z =>
   simp only [List.map_nil]
   exact Try.builtZ
  simp only [pL,List.set]
  refine wpList_store_all rfl 34 _ _ rfl w.heap.size rfl (thV zeroT (.slice none 0 0) (.slice none 0 0) (.slice none 0 0) (.slice none 0 0)) rfl (thC zeroT (.slice none 0 0) (.slice none 0 0) (.slice none 0 0) (.slice none 0 0)) rfl (thC zeroT (.slice none 0 0) (.slice none 0 0) (.slice none 0 0) (.slice none 0 0)) 34 hZ rfl (th_one _ _ _ _ _ rfl rfl rfl rfl) Try.sizeT ?_
  go_wp2
  refine bodyPost_ret (results_cell1 rfl _ w.heap.size _ (thV zeroT (.slice none 0 0) (.slice none 0 0) (.slice none 0 0) (.slice none 0 0)) rfl rfl (range_all (setRow_heap _ _ _ _ _ _ hZ)) Try.rowT Try.sizeT) rfl ?_
  exact ⟨⟨zeroT,_,_,_,_,rfl,⟨csl_nil _ _,csl_nil _ _,csl_nil _ _,bsl_nil _ _⟩,wf_zero,Nat.zero_le _,Nat.zero_le _,hno⟩,Fr.setRow nW (.inr (Nat.le_refl _)) _⟩
 ·have b8:decide ((bs.length:Int) ≤ 8) = false:=decide_eq_false (by omega)
  obtain ⟨b,off,rfl,hb,c8⟩:=sl_bytes_get hxW 8 (by omega)
  have hk0:(0:Int) ≤ (bs[8].toNat:Int):=by omega
  have hk1:(bs[8].toNat:Int) < 256:=by have:=bs[8].toNat_lt;omega
  generalize hkk:(bs[8].toNat:Int) = k at c8 hk0 hk1
  have hbk:Hid (∃ h:8 < bs.length,(bs[8].toNat:Int) = k):=⟨by omega,hkk⟩
  clear hkk
  have hcv:∀ w,(convert 5 3 (.int .u8 k)).run Try.prog w = .ok (.int .i64 k) w:=fun w=>by
   simp [go_sem]
   try rw [IntKind.wrap_i64]
   omega
  have hunp:∀ w1,Nw W w1→Calls Try.prog 75 #[.string (shB k),.slice (some ⟨b,off,none⟩) bs.length cap] w1 fun e w'=>Unpacked (shL k) bs w1 e w':=fun w1 n1=>by
   have:=c_unpack (shB k) K _ bs w1 (by have:=shB_size k;unfold maxLen;omega) (hxW.keep (n1.below (Nat.le_trans hK nW.size) (fun _ h=>h.elim))) (Nat.le_trans hK (Nat.le_trans nW.size n1.size))
   rw [shB_list] at this
   exact this
  replace hunp:Hid _:=hunp
  have hno:unpack (shL k) bs = none→∀ u,RightT u→WfT u→imgO u = some bs→zeroT = u:=fun e9 u hu wu e=>by
   obtain ⟨_,_,hk9⟩:=img_kind hu wu e
   obtain ⟨_,hk8⟩:=hbk.out
   have:=unp_img e
   rw [show u.kind = k by omega,e9] at this
   cases this
  replace hno:Hid _:=hno
  have hn8:8 < bs.length:=by omega
  clear hxW hcap hao h8
  generalize hn:bs.length = n at b8 hunp hn8 ⊢
  replace hn:Hid _:=hn
  go_enter Try.func49,Try.ntmps49
  go_upto_region 1 with (refine wpList_alloc_agg rfl 34 rfl _ Try.zeroTh ?_)
  rw [← hW.out]
  clear hW
  go_wp2_with (go_at_call 42;refine (c_shape k _).mono ?_;rintro e w1 ⟨rfl,n1⟩;refine stop_here ?_)
  unfold Hid
  clear b8 c8 hcv
  have hcon:Hid _:=hunp.out w1 n1
  cases hu:unpack (shL k) bs with
  | none =>
   go_wp2_with (go_at_call 75;refine Calls.mono hcon.out ?_;rintro e V ⟨qb,h⟩;obtain rfl:=unp_no h hu;refine stop_here ?_)
   unfold Hid
   have nV:Nw w V:=nw_trans (nw_trans nW n1) (fr_of_below (S:=fun _=>False) qb)
   have hZV:=((nw_trans n1 (fr_of_below (S:=fun _=>False) qb)).block _ (heap_lt hZ) (fun h=>h)).trans hZ
   have hnoo:=hno.out hu
   clear hcon qb hunp hZ nW n1 hu
   replace hnoo:Hid _:=hnoo
   go_upto_region 6 with fail
   refine wp_region_list ?_
   simp only [List.toList_toArray,List.append_eq,List.cons_append,List.nil_append]
   refine wpList_build_as rfl 34 _ rfl (thV zeroT (.slice none 0 0) (.slice none 0 0) (.slice none 0 0) (.slice none 0 0)) (thC zeroT (.slice none 0 0) (.slice none 0 0) (.slice none 0 0) (.slice none 0 0)).toArray rfl ?z ?_
   case z =>
    simp only [List.map_nil]
    exact Try.builtZ
   simp only [pL,List.set]
   refine wpList_store_all rfl 34 _ _ rfl w.heap.size rfl (thV zeroT (.slice none 0 0) (.slice none 0 0) (.slice none 0 0) (.slice none 0 0)) rfl (thC zeroT (.slice none 0 0) (.slice none 0 0) (.slice none 0 0) (.slice none 0 0)) rfl (thC zeroT (.slice none 0 0) (.slice none 0 0) (.slice none 0 0) (.slice none 0 0)) 34 hZV rfl (th_one _ _ _ _ _ rfl rfl rfl rfl) Try.sizeT ?_
   go_wp2
   refine bodyPost_ret (results_cell1 rfl _ w.heap.size _ (thV zeroT (.slice none 0 0) (.slice none 0 0) (.slice none 0 0) (.slice none 0 0)) rfl rfl (range_all (setRow_heap _ _ _ _ _ _ hZV)) Try.rowT Try.sizeT) rfl ?_
   exact ⟨⟨zeroT,_,_,_,_,rfl,⟨csl_nil _ _,csl_nil _ _,csl_nil _ _,bsl_nil _ _⟩,wf_zero,Nat.zero_le _,Nat.zero_le _,hnoo.out⟩,Fr.setRow nV (.inr (Nat.le_refl _)) _⟩
  | some fs =>
   obtain ⟨a,kk,lb,q,gs,rfl,ha,hk9,hlb,hq,hTl⟩:=unp_shape hu
   have hun:Hid (unpack (shL k) bs = some (nF a :: nF kk :: bF lb :: nF q :: gs)):=hu
   replace ha:Hid _:=ha
   have hq1:=cv64 hq.1 hq.2
   replace hq:Hid _:=hq
   replace hlb:Hid (lb.length ≤ 1000000):=by unfold Hid;omega
   have hTl:Hid (TailF (({ zeroT with kind:=k }:Th)).kind gs):=hTl
   go_wp2_with (go_at_call 75;refine Calls.mono hcon.out ?_;rintro e V ⟨qb,h⟩;obtain ⟨b2,off2,cap2,n2,rfl,hf,hb2⟩:=unp_yes h hu;refine stop_here ?_)
   unfold Hid
   have nV:Hid (Nw w V):=nw_trans (nw_trans nW n1) (fr_of_below (S:=fun _=>False) qb)
   replace hZ:=((nw_trans n1 (fr_of_below (S:=fun _=>False) qb)).block _ (heap_lt hZ) (fun h=>h)).trans hZ
   replace hZ0:=((nw_trans n1 (fr_of_below (S:=fun _=>False) qb)).block _ (heap_lt hZ0) (fun h=>h)).trans hZ0
   have d0:V.cell? ⟨b2,off2 + 0,none⟩ = some (.int .u64 a):=fa_num hf 0 a rfl ha.out.1
   have d3:V.cell? ⟨b2,off2 + 6,none⟩ = some (.int .u64 q):=fa_num hf 3 q rfl hq.out.1
   obtain ⟨a2,p2,d2,s2⟩:=fa_txt hf 2 lb rfl
   replace d2:V.cell? ⟨b2,off2 + 5,none⟩ = some (.slice a2 lb.length p2):=d2
   replace s2:Hid (Sl V.heap.size V (.slice a2 lb.length p2) lb.length (lb.map bv)):=s2
   obtain ⟨sv,hsv,hcut⟩:=fld_cut hf
   obtain ⟨hc4,hlen4⟩:4 ≤ n2∧n2 ≤ cap2:=by
    obtain ⟨_,_,e9,h9,_⟩:=hf
    simp only [Value.slice.injEq] at e9
    obtain ⟨_,e9,e8⟩:=e9
    simp only [List.length_cons] at e9 h9
    omega
   replace hsv:Hid (FieldsAt V.heap.size V sv gs):=hsv
   have hbl:=hb2
   clear hcon qb hunp nW n1 hu hf hk9
   go_upto_region 7 with fail
   have hS:Nw V V.drew:=Fr.drew (Fr.refl _ V)
   refine wp_region_fork [] 17 1 ([(0,true),(1,true),(2,true),(3,true),(4,true),(5,true),(6,true),(7,true),(8,true),(10,true),(11,true),(12,true),(13,true),(14,true)],[(9,[(15,true),(16,false)]),(16,[(9,false),(15,true)])]) (fun w':World=>Nw V w') _ (by kernel_rfl) (by kernel_rfl) ?_ (fun _ _ h=>h)
   refine fork_in2 (d:=0) ?_
   refine ord_quietL _ ?_ rfl hS rfl ?_ ?_
   rotate_left
   ·rintro w' hn;go_simp;first | rfl | (rw [if_pos (by omega)];done) | (rw [if_pos (by omega)];rfl) | (rw [if_pos (by omega)];go_simp;rfl)
   simp only [pL,List.set]
   refine ord_quietL _ ?_ rfl hS rfl ?_ ?_
   rotate_left
   ·rintro w' hn;go_simp;first | rfl | (rw [if_pos (by omega)];done) | (rw [if_pos (by omega)];rfl) | (rw [if_pos (by omega)];go_simp;rfl)
   simp only [pL,List.set]
   refine ord_quietL _ ?_ rfl hS rfl ?_ ?_
   rotate_left
   ·rintro w' hn;go_simp;first | rfl | (rw [if_pos (by omega)];done) | (rw [if_pos (by omega)];rfl) | (rw [if_pos (by omega)];go_simp;rfl)
   simp only [pL,List.set]
   refine ord_quietL _ ?_ rfl hS rfl ?_ ?_
   rotate_left
   ·rintro w' hn;have g0:w'.cell? ⟨b2,off2 + 0,none⟩ = some (.int .u64 a):=(fr_cell hn hbl (fun h=>h)).trans d0;have g1:w'.cell? ⟨b2,off2,none⟩ = some (.int .u64 a):=(fr_cell hn hbl (fun h=>h)).trans d0;go_simp;first | rfl | (rw [if_pos (by omega)];done) | (rw [if_pos (by omega)];rfl) | (rw [if_pos (by omega)];go_simp;rfl)
   simp only [pL,List.set]
   refine ord_quietL _ ?_ rfl hS rfl ?_ ?_
   rotate_left
   ·rintro w' hn;go_simp;first | rfl | (rw [if_pos (by omega)];done) | (rw [if_pos (by omega)];rfl) | (rw [if_pos (by omega)];go_simp;rfl)
   simp only [pL,List.set]
   refine ord_quietL _ ?_ rfl hS rfl ?_ ?_
   rotate_left
   ·rintro w' hn;go_simp;first | rfl | (rw [if_pos (by omega)];done) | (rw [if_pos (by omega)];rfl) | (rw [if_pos (by omega)];go_simp;rfl)
   simp only [pL,List.set]
   refine ord_quietL _ ?_ rfl hS rfl ?_ ?_
   rotate_left
   ·rintro w' hn;go_simp;first | rfl | (rw [if_pos (by omega)];done) | (rw [if_pos (by omega)];rfl) | (rw [if_pos (by omega)];go_simp;rfl)
   simp only [pL,List.set]
   refine ord_quietL _ ?_ rfl hS rfl ?_ ?_
   rotate_left
   ·rintro w' hn;go_simp;first | rfl | (rw [if_pos (by omega)];done) | (rw [if_pos (by omega)];rfl) | (rw [if_pos (by omega)];go_simp;rfl)
   simp only [pL,List.set]
   refine ord_quietL _ ?_ rfl hS rfl ?_ ?_
   rotate_left
   ·rintro w' hn;have g0:w'.cell? ⟨b2,off2 + 5,none⟩ = some (.slice a2 lb.length p2):=(fr_cell hn hbl (fun h=>h)).trans d2;have g1:w'.cell? ⟨b2,off2 + 4 + 1,none⟩ = some (.slice a2 lb.length p2):=(fr_cell hn hbl (fun h=>h)).trans d2;go_simp;first | rfl | (rw [if_pos (by omega)];done) | (rw [if_pos (by omega)];rfl) | (rw [if_pos (by omega)];go_simp;rfl)
   simp only [pL,List.set]
   refine ord_quietL _ ?_ rfl hS rfl ?_ ?_
   rotate_left
   ·rintro w' hn;go_simp;first | rfl | (rw [if_pos (by omega)];done) | (rw [if_pos (by omega)];rfl) | (rw [if_pos (by omega)];go_simp;rfl)
   simp only [pL,List.set]
   refine ord_quietL _ ?_ rfl hS rfl ?_ ?_
   rotate_left
   ·rintro w' hn;go_simp;first | rfl | (rw [if_pos (by omega)];done) | (rw [if_pos (by omega)];rfl) | (rw [if_pos (by omega)];go_simp;rfl)
   simp only [pL,List.set]
   refine ord_quietL _ ?_ rfl hS rfl ?_ ?_
   rotate_left
   ·rintro w' hn;go_simp;first | rfl | (rw [if_pos (by omega)];done) | (rw [if_pos (by omega)];rfl) | (rw [if_pos (by omega)];go_simp;rfl)
   simp only [pL,List.set]
   refine ord_quietL _ ?_ rfl hS rfl ?_ ?_
   rotate_left
   ·rintro w' hn;have g0:w'.cell? ⟨b2,off2 + 6,none⟩ = some (.int .u64 q):=(fr_cell hn hbl (fun h=>h)).trans d3;go_simp;first | rfl | (rw [if_pos (by omega)];done) | (rw [if_pos (by omega)];rfl) | (rw [if_pos (by omega)];go_simp;rfl)
   simp only [pL,List.set]
   refine ord_quietL _ ?_ rfl hS rfl ?_ ?_
   rotate_left
   ·rintro w' hn;go_simp;first | rfl | (rw [if_pos (by omega)];done) | (rw [if_pos (by omega)];rfl) | (rw [if_pos (by omega)];go_simp;rfl)
   simp only [pL,List.set]
   refine fork_two _ _ rfl rfl ?w1 ?w2
   case w1 =>
    intro K1 hK1
    have hcon:Hid _:=c_labelOf V.drew (s2.out.keep ((Below.refl _ _).drew)) (by show V.heap.size ≤ V.heap.size;omega) hlb.out
    go_wp2_with (go_at_call 76;refine Calls.mono hcon.out ?_;rintro e wk0 ⟨d,uu,xs,rfl,hown,hback,hfit,h100,d0n,d1n,qb⟩;obtain ⟨va,vc,rfl⟩:=owns_form hown)
    have n1:Nw V wk0:=nw_trans hS (fr_of_below (S:=fun _=>False) qb)
    replace hback:Hid _:=hback
    replace h100:Hid _:=h100
    replace hown:Hid (wk0.ownsRow V.drew.heap.size 52 2 (.slice va xs.length vc) xs.length (ccells xs)):=hown
    refine hK1 _ _ n1 ?_
    clear hK1 K1 hcon qb hS
    have hS:=n1
    refine fork_leaf ?_
    refine ord_quietL _ (thV ({ zeroT with id:=a,kind:=k,df:=d,cats:=xs,quota:=q }) (.slice va xs.length vc) (.slice none 0 0) (.slice none 0 0) (.slice none 0 0)) rfl hS rfl ?_ ?_
    ·intro w' hn;refine run_build_quiet 34 _ w' rfl (thC ({ zeroT with id:=a,kind:=k,df:=d,cats:=xs,quota:=q }) (.slice va xs.length vc) (.slice none 0 0) (.slice none 0 0) (.slice none 0 0)).toArray ?_;simp only [List.map_cons,List.map_nil,Act.eval];exact builtTh ({ zeroT with id:=a,kind:=k,df:=d,cats:=xs,quota:=q }) _ _ _ _ rfl
    simp only [pL,List.set]
    refine ord_actL _ rfl (fun K1 hK1=>?_)
    obtain ⟨Y,hY⟩:∃ Y,Hid (Y = wk0.alloc (.cells (thC zeroT (.slice none 0 0) (.slice none 0 0) (.slice none 0 0) (.slice none 0 0)).toArray 34)):=⟨_,rfl⟩
    have hP:Y.heap[wk0.heap.size]? = some (.cells (thC zeroT (.slice none 0 0) (.slice none 0 0) (.slice none 0 0) (.slice none 0 0)).toArray 34 (0,0)):=by rw [hY.out];exact heap_alloc_new wk0 _
    have nY:Nw V Y:=by rw [hY.out];exact nw_alloc n1 _
    have hPge:V.heap.size ≤ wk0.heap.size:=n1.size
    have hY0:Nw wk0 Y:=by rw [hY.out];exact nw_alloc (nw_refl _) _
    have hlab:CSl (fun b=>V.heap.size ≤ b∧b ≠ wk0.heap.size) Y (.slice va xs.length vc) xs:=(csl_of_own hown.out).keep hY0 (fun _ _ _=>id) (fun b hb hlt=>⟨hb,by omega⟩)
    refine wpList_alloc_agg rfl 34 rfl _ Try.zeroTh ?_
    rw [← hY.out]
    go_wp2
    refine hK1 _ _ nY ?_
    clear hK1 K1 hY hY0 hown n1
    refine ord_tail ?_
    simp only [List.drop_succ_cons,List.drop_zero]
    obtain ⟨Y2,hY2⟩:∃ Y2,Hid (Y2 = Y.setRow wk0.heap.size (thC ({ zeroT with id:=a,kind:=k,df:=d,cats:=xs,quota:=q }) (.slice va xs.length vc) (.slice none 0 0) (.slice none 0 0) (.slice none 0 0)).toArray):=⟨_,rfl⟩
    have hP2:Hid (Y2.heap[wk0.heap.size]? = some (.cells (thC ({ zeroT with id:=a,kind:=k,df:=d,cats:=xs,quota:=q }) (.slice va xs.length vc) (.slice none 0 0) (.slice none 0 0) (.slice none 0 0)).toArray 34 (0,0))):=by unfold Hid;rw [hY2.out];exact setRow_heap _ _ _ _ _ _ hP
    have f2:Hid (Fr (fun b=>b = wk0.heap.size) Y Y2):=by unfold Hid;rw [hY2.out];exact (Fr.refl (fun b=>b = wk0.heap.size) Y).setRow (.inl rfl) _
    have nY2:Hid (Nw V Y2):=Fr.trans nY f2.out (fun b hb=>.inr (by omega))
    have hZ2:Hid (Y2.heap[w.heap.size]? = some (.cells (thC zeroT (.slice none 0 0) (.slice none 0 0) (.slice none 0 0) (.slice none 0 0)).toArray 34 (0,0))):=(nY2.out.block _ (heap_lt hZ) (fun h=>h)).trans hZ
    have hZ02:Hid (Y2.heap[Z0]? = some (.cells (thC zeroT (.slice none 0 0) (.slice none 0 0) (.slice none 0 0) (.slice none 0 0)).toArray 34 (0,0))):=(nY2.out.block _ (heap_lt hZ0) (fun h=>h)).trans hZ0
    have hlz:Z0 < w.heap.size:=hz0l.out
    have hPZ:Hid (¬ wk0.heap.size = w.heap.size):=by unfold Hid;have:=heap_lt hZ;omega
    have hX:Hid (∀ v bs,BSl (fun b=>b < V.heap.size) Y2 v bs→BSl (fun b=>b ≠ wk0.heap.size∧b ≠ w.heap.size∧b ≠ Z0) Y2 v bs):=fun v bs hv=>(bsl_not (bsl_not hv hZ2.out) hZ02.out).mono (fun b hb _=>⟨by have:=hb.1.1;omega,hb.1.2,hb.2⟩)
    have ht2:Hid (ThAt (fun b=>b ≠ wk0.heap.size∧b ≠ w.heap.size∧b ≠ Z0) Y2 ({ zeroT with id:=a,kind:=k,df:=d,cats:=xs,quota:=q }) (.slice va xs.length vc) (.slice none 0 0) (.slice none 0 0) (.slice none 0 0)):=⟨hlab.keep f2.out (fun b hb _ e=>hb.2 e) (fun b hb _=>⟨hb.2,by have:=hb.1;have:=heap_lt hZ;omega,by have:=hb.1;have:=heap_lt hZ;omega⟩),csl_nil _ _,csl_nil _ _,bsl_nil _ _⟩
    have hset:Hid _:=c_set (X:=fun b=>b ≠ wk0.heap.size∧b ≠ w.heap.size∧b ≠ Z0) (K:=V.heap.size) (P:=wk0.heap.size) (t:={ zeroT with id:=a,kind:=k,df:=d,cats:=xs,quota:=q }) Y2 hP2.out ht2.out (hsv.out.keep (nY2.out.below (Nat.le_refl _) (fun _ h=>h.elim))) hPge hTl.out (fun h=>h.1 rfl) (fun b hb=>⟨by have:=heap_lt hP2.out;omega,by have:=heap_lt hZ2.out;omega,by have:=heap_lt hZ2.out;omega⟩) hX.out ⟨wf_zero.r0,wf_zero.r1,wf_zero.r2,wf_zero.r3,wf_zero.value⟩ (Nat.zero_le _)
    refine wpList_store_all rfl 34 _ _ rfl wk0.heap.size rfl (thV ({ zeroT with id:=a,kind:=k,df:=d,cats:=xs,quota:=q }) (.slice va xs.length vc) (.slice none 0 0) (.slice none 0 0) (.slice none 0 0)) rfl (thC ({ zeroT with id:=a,kind:=k,df:=d,cats:=xs,quota:=q }) (.slice va xs.length vc) (.slice none 0 0) (.slice none 0 0) (.slice none 0 0)) rfl (thC zeroT (.slice none 0 0) (.slice none 0 0) (.slice none 0 0) (.slice none 0 0)) 34 hP rfl (th_one _ _ _ _ _ rfl rfl rfl rfl) Try.sizeT ?_
    rw [← hY2.out]
    clear hP hlab ht2 hX hY2 f2 hS
    go_upto_region 8 with fail
    go_wp2_with (go_at_call 77;refine Calls.mono hset.out ?_;rintro e Y3 ⟨rfl,f3,t9,vL,vC,vK,vD,hP3,ht3,hsp,hwf3,hcats,hcc3⟩;refine stop_here ?_)
    unfold Hid
    clear hset
    obtain ⟨g1,e1,rfl,_⟩:=ht3.l.form
    obtain ⟨g2,e2,rfl,_⟩:=ht3.c.form
    obtain ⟨g3,e3,rfl,_⟩:=ht3.k.form
    obtain ⟨g4,e4,rfl,_⟩:=ht3.d.form
    have hZ3:=(f3.block _ (heap_lt hZ2.out) (fun e=>hPZ.out e.symm)).trans hZ2.out
    skip
    have hr3:Y3.rangeAt wk0.heap.size 0 _:=range_all hP3
    have fin:Hid (GueP bs Z0 (.returned (thV t9 (.slice g1 t9.cats.length e1) (.slice g2 t9.ccats.length e2) (.slice g3 t9.links.length e3) (.slice g4 t9.data.length e4))) (Y3.setRow w.heap.size (thC t9 (.slice g1 t9.cats.length e1) (.slice g2 t9.ccats.length e2) (.slice g3 t9.links.length e3) (.slice g4 t9.data.length e4)).toArray)∧Nw w (Y3.setRow w.heap.size (thC t9 (.slice g1 t9.cats.length e1) (.slice g2 t9.ccats.length e2) (.slice g3 t9.links.length e3) (.slice g4 t9.data.length e4)).toArray)):=by
     have fz:Fr (fun b=>b = w.heap.size) Y3 (Y3.setRow w.heap.size (thC t9 (.slice g1 t9.cats.length e1) (.slice g2 t9.ccats.length e2) (.slice g3 t9.links.length e3) (.slice g4 t9.data.length e4)).toArray):=(Fr.refl (fun b=>b = w.heap.size) Y3).setRow (.inl rfl) _
     refine ⟨⟨t9,_,_,_,_,rfl,ht3.keep fz (fun b hb _ e=>hb.2.1 e) (fun b hx hb=>⟨Nat.lt_of_lt_of_le hb fz.size,hx.2.2⟩),hwf3,by rw [hcats];exact h100.out,hcc3,fun u hu wu eu=>guess_only hun.out ha.out hq.out hbk.out hback.out hsp hu wu eu⟩,?_⟩
     have nV3:Nw V Y3:=Fr.trans nY2.out f3 (fun b hb=>.inr (by omega))
     exact Fr.trans (nw_trans nV.out nV3) fz (fun b hb=>.inr (by omega))
    clear f3 ht3 hsp hwf3 hcats hcc3 nY2 hPge nY
    go_wp2_with (refine wpList_load_as rfl 34 _ rfl (wk0.heap.size) 0 rfl (thV t9 (.slice g1 t9.cats.length e1) (.slice g2 t9.ccats.length e2) (.slice g3 t9.links.length e3) (.slice g4 t9.data.length e4)) _ rfl hr3 Try.rowT Try.sizeT ?_;refine stop_here ?_)
    unfold Hid
    refine wpList_store_all rfl 34 _ _ rfl w.heap.size rfl (thV t9 (.slice g1 t9.cats.length e1) (.slice g2 t9.ccats.length e2) (.slice g3 t9.links.length e3) (.slice g4 t9.data.length e4)) rfl (thC t9 (.slice g1 t9.cats.length e1) (.slice g2 t9.ccats.length e2) (.slice g3 t9.links.length e3) (.slice g4 t9.data.length e4)) rfl (thC zeroT (.slice none 0 0) (.slice none 0 0) (.slice none 0 0) (.slice none 0 0)) 34 hZ3 rfl (th_one _ _ _ _ _ rfl rfl rfl rfl) Try.sizeT ?_
    go_wp2
    refine bodyPost_ret (results_cell1 rfl _ w.heap.size _ (thV t9 (.slice g1 t9.cats.length e1) (.slice g2 t9.ccats.length e2) (.slice g3 t9.links.length e3) (.slice g4 t9.data.length e4)) rfl rfl (range_all (setRow_heap _ _ _ _ _ _ hZ3)) Try.rowT Try.sizeT) rfl ?_
    exact fin.out
   case w2 =>
    intro K1 hK1
    obtain ⟨Y1,hY⟩:∃ Y1,Hid (Y1 = V.drew.alloc (.cells (thC zeroT (.slice none 0 0) (.slice none 0 0) (.slice none 0 0) (.slice none 0 0)).toArray 34)):=⟨_,rfl⟩
    have hP:Y1.heap[V.heap.size]? = some (.cells (thC zeroT (.slice none 0 0) (.slice none 0 0) (.slice none 0 0) (.slice none 0 0)).toArray 34 (0,0)):=by rw [hY.out];exact heap_alloc_new V.drew _
    have n1:Nw V Y1:=by rw [hY.out];exact nw_alloc hS _
    have hYs:Y1.heap.size = V.heap.size + 1:=by rw [hY.out];simp
    refine wpList_alloc_agg rfl 34 rfl _ Try.zeroTh ?_
    rw [← hY.out]
    go_wp2
    refine hK1 _ _ n1 ?_
    clear hK1 K1 hS hY
    have hS:=n1
    refine fork_leaf ?_
    refine ord_actL _ rfl (fun K1 hK1=>?_)
    have hcon:Hid _:=c_labelOf Y1 (s2.out.keep (n1.below (Nat.le_refl _) (fun _ h=>h.elim))) (by omega) hlb.out
    go_wp2_with (go_at_call 76;refine Calls.mono hcon.out ?_;rintro e wk0 ⟨d,uu,xs,rfl,hown,hback,hfit,h100,d0n,d1n,qb⟩;obtain ⟨va,vc,rfl⟩:=owns_form hown)
    have nY:Nw V wk0:=nw_trans n1 (fr_of_below (S:=fun _=>False) qb)
    replace hback:Hid _:=hback
    replace h100:Hid _:=h100
    replace hP:=(qb.block _ (heap_lt hP)).trans hP
    have hlab:CSl (fun b=>V.heap.size ≤ b∧b ≠ V.heap.size) wk0 (.slice va xs.length vc) xs:=(csl_of_own hown).mono (fun b hb _=>by have h9:Y1.heap.size ≤ b:=hb;constructor <;> omega)
    have hPge:V.heap.size ≤ V.heap.size:=Nat.le_refl _
    refine hK1 _ _ nY ?_
    clear hK1 K1 hcon qb hS hown n1 hYs
    have hS:=nY
    refine ord_quietL _ (thV ({ zeroT with id:=a,kind:=k,df:=d,cats:=xs,quota:=q }) (.slice va xs.length vc) (.slice none 0 0) (.slice none 0 0) (.slice none 0 0)) rfl hS rfl ?_ ?_
    ·intro w' hn;refine run_build_quiet 34 _ w' rfl (thC ({ zeroT with id:=a,kind:=k,df:=d,cats:=xs,quota:=q }) (.slice va xs.length vc) (.slice none 0 0) (.slice none 0 0) (.slice none 0 0)).toArray ?_;simp only [List.map_cons,List.map_nil,Act.eval];exact builtTh ({ zeroT with id:=a,kind:=k,df:=d,cats:=xs,quota:=q }) _ _ _ _ rfl
    simp only [pL,List.set]
    refine ord_tail ?_
    simp only [List.drop_succ_cons,List.drop_zero]
    obtain ⟨Y2,hY2⟩:∃ Y2,Hid (Y2 = wk0.setRow V.heap.size (thC ({ zeroT with id:=a,kind:=k,df:=d,cats:=xs,quota:=q }) (.slice va xs.length vc) (.slice none 0 0) (.slice none 0 0) (.slice none 0 0)).toArray):=⟨_,rfl⟩
    have hP2:Hid (Y2.heap[V.heap.size]? = some (.cells (thC ({ zeroT with id:=a,kind:=k,df:=d,cats:=xs,quota:=q }) (.slice va xs.length vc) (.slice none 0 0) (.slice none 0 0) (.slice none 0 0)).toArray 34 (0,0))):=by unfold Hid;rw [hY2.out];exact setRow_heap _ _ _ _ _ _ hP
    have f2:Hid (Fr (fun b=>b = V.heap.size) wk0 Y2):=by unfold Hid;rw [hY2.out];exact (Fr.refl (fun b=>b = V.heap.size) wk0).setRow (.inl rfl) _
    have nY2:Hid (Nw V Y2):=Fr.trans nY f2.out (fun b hb=>.inr (by omega))
    have hZ2:Hid (Y2.heap[w.heap.size]? = some (.cells (thC zeroT (.slice none 0 0) (.slice none 0 0) (.slice none 0 0) (.slice none 0 0)).toArray 34 (0,0))):=(nY2.out.block _ (heap_lt hZ) (fun h=>h)).trans hZ
    have hZ02:Hid (Y2.heap[Z0]? = some (.cells (thC zeroT (.slice none 0 0) (.slice none 0 0) (.slice none 0 0) (.slice none 0 0)).toArray 34 (0,0))):=(nY2.out.block _ (heap_lt hZ0) (fun h=>h)).trans hZ0
    have hlz:Z0 < w.heap.size:=hz0l.out
    have hPZ:Hid (¬ V.heap.size = w.heap.size):=by unfold Hid;have:=heap_lt hZ;omega
    have hX:Hid (∀ v bs,BSl (fun b=>b < V.heap.size) Y2 v bs→BSl (fun b=>b ≠ V.heap.size∧b ≠ w.heap.size∧b ≠ Z0) Y2 v bs):=fun v bs hv=>(bsl_not (bsl_not hv hZ2.out) hZ02.out).mono (fun b hb _=>⟨by have:=hb.1.1;omega,hb.1.2,hb.2⟩)
    have ht2:Hid (ThAt (fun b=>b ≠ V.heap.size∧b ≠ w.heap.size∧b ≠ Z0) Y2 ({ zeroT with id:=a,kind:=k,df:=d,cats:=xs,quota:=q }) (.slice va xs.length vc) (.slice none 0 0) (.slice none 0 0) (.slice none 0 0)):=⟨hlab.keep f2.out (fun b hb _ e=>hb.2 e) (fun b hb _=>⟨hb.2,by have:=hb.1;have:=heap_lt hZ;omega,by have:=hb.1;have:=heap_lt hZ;omega⟩),csl_nil _ _,csl_nil _ _,bsl_nil _ _⟩
    have hset:Hid _:=c_set (X:=fun b=>b ≠ V.heap.size∧b ≠ w.heap.size∧b ≠ Z0) (K:=V.heap.size) (P:=V.heap.size) (t:={ zeroT with id:=a,kind:=k,df:=d,cats:=xs,quota:=q }) Y2 hP2.out ht2.out (hsv.out.keep (nY2.out.below (Nat.le_refl _) (fun _ h=>h.elim))) hPge hTl.out (fun h=>h.1 rfl) (fun b hb=>⟨by have:=heap_lt hP2.out;omega,by have:=heap_lt hZ2.out;omega,by have:=heap_lt hZ2.out;omega⟩) hX.out ⟨wf_zero.r0,wf_zero.r1,wf_zero.r2,wf_zero.r3,wf_zero.value⟩ (Nat.zero_le _)
    refine wpList_store_all rfl 34 _ _ rfl V.heap.size rfl (thV ({ zeroT with id:=a,kind:=k,df:=d,cats:=xs,quota:=q }) (.slice va xs.length vc) (.slice none 0 0) (.slice none 0 0) (.slice none 0 0)) rfl (thC ({ zeroT with id:=a,kind:=k,df:=d,cats:=xs,quota:=q }) (.slice va xs.length vc) (.slice none 0 0) (.slice none 0 0) (.slice none 0 0)) rfl (thC zeroT (.slice none 0 0) (.slice none 0 0) (.slice none 0 0) (.slice none 0 0)) 34 hP rfl (th_one _ _ _ _ _ rfl rfl rfl rfl) Try.sizeT ?_
    rw [← hY2.out]
    clear hP hlab ht2 hX hY2 f2 hS
    go_upto_region 8 with fail
    go_wp2_with (go_at_call 77;refine Calls.mono hset.out ?_;rintro e Y3 ⟨rfl,f3,t9,vL,vC,vK,vD,hP3,ht3,hsp,hwf3,hcats,hcc3⟩;refine stop_here ?_)
    unfold Hid
    clear hset
    obtain ⟨g1,e1,rfl,_⟩:=ht3.l.form
    obtain ⟨g2,e2,rfl,_⟩:=ht3.c.form
    obtain ⟨g3,e3,rfl,_⟩:=ht3.k.form
    obtain ⟨g4,e4,rfl,_⟩:=ht3.d.form
    have hZ3:=(f3.block _ (heap_lt hZ2.out) (fun e=>hPZ.out e.symm)).trans hZ2.out
    skip
    have hr3:Y3.rangeAt V.heap.size 0 _:=range_all hP3
    have fin:Hid (GueP bs Z0 (.returned (thV t9 (.slice g1 t9.cats.length e1) (.slice g2 t9.ccats.length e2) (.slice g3 t9.links.length e3) (.slice g4 t9.data.length e4))) (Y3.setRow w.heap.size (thC t9 (.slice g1 t9.cats.length e1) (.slice g2 t9.ccats.length e2) (.slice g3 t9.links.length e3) (.slice g4 t9.data.length e4)).toArray)∧Nw w (Y3.setRow w.heap.size (thC t9 (.slice g1 t9.cats.length e1) (.slice g2 t9.ccats.length e2) (.slice g3 t9.links.length e3) (.slice g4 t9.data.length e4)).toArray)):=by
     have fz:Fr (fun b=>b = w.heap.size) Y3 (Y3.setRow w.heap.size (thC t9 (.slice g1 t9.cats.length e1) (.slice g2 t9.ccats.length e2) (.slice g3 t9.links.length e3) (.slice g4 t9.data.length e4)).toArray):=(Fr.refl (fun b=>b = w.heap.size) Y3).setRow (.inl rfl) _
     refine ⟨⟨t9,_,_,_,_,rfl,ht3.keep fz (fun b hb _ e=>hb.2.1 e) (fun b hx hb=>⟨Nat.lt_of_lt_of_le hb fz.size,hx.2.2⟩),hwf3,by rw [hcats];exact h100.out,hcc3,fun u hu wu eu=>guess_only hun.out ha.out hq.out hbk.out hback.out hsp hu wu eu⟩,?_⟩
     have nV3:Nw V Y3:=Fr.trans nY2.out f3 (fun b hb=>.inr (by omega))
     exact Fr.trans (nw_trans nV.out nV3) fz (fun b hb=>.inr (by omega))
    clear f3 ht3 hsp hwf3 hcats hcc3 nY2 hPge nY
    go_wp2_with (refine wpList_load_as rfl 34 _ rfl (V.heap.size) 0 rfl (thV t9 (.slice g1 t9.cats.length e1) (.slice g2 t9.ccats.length e2) (.slice g3 t9.links.length e3) (.slice g4 t9.data.length e4)) _ rfl hr3 Try.rowT Try.sizeT ?_;refine stop_here ?_)
    unfold Hid
    refine wpList_store_all rfl 34 _ _ rfl w.heap.size rfl (thV t9 (.slice g1 t9.cats.length e1) (.slice g2 t9.ccats.length e2) (.slice g3 t9.links.length e3) (.slice g4 t9.data.length e4)) rfl (thC t9 (.slice g1 t9.cats.length e1) (.slice g2 t9.ccats.length e2) (.slice g3 t9.links.length e3) (.slice g4 t9.data.length e4)) rfl (thC zeroT (.slice none 0 0) (.slice none 0 0) (.slice none 0 0) (.slice none 0 0)) 34 hZ3 rfl (th_one _ _ _ _ _ rfl rfl rfl rfl) Try.sizeT ?_
    go_wp2
    refine bodyPost_ret (results_cell1 rfl _ w.heap.size _ (thV t9 (.slice g1 t9.cats.length e1) (.slice g2 t9.ccats.length e2) (.slice g3 t9.links.length e3) (.slice g4 t9.data.length e4)) rfl rfl (range_all (setRow_heap _ _ _ _ _ _ hZ3)) Try.rowT Try.sizeT) rfl ?_
    exact fin.out
end Go.Proofs.Ytghlilncdfiojaa
