/-
  Read: setParts.
-/
import Derived.Test.YtghlilncdfiojaaThG1S
import Derived.Test.YtghlilncdfiojaaThK6S
import Derived.Test.YtghlilncdfiojaaThC2S
namespace Go.Proofs.Ytghlilncdfiojaa
set_option linter.unusedVariables false
set_option linter.unusedSimpArgs false
set_option maxRecDepth 20000
open Go.RowKit

theorem fr_cell {S:Nat→Prop} {w w':World} (h:Fr S w w') {b i:Nat} (hb:b < w.heap.size) (hS:¬ S b):w'.cell? ⟨b,i,none⟩ = w.cell? ⟨b,i,none⟩:=World.cell?_of_block (w:=w) (h.block b hb hS)

theorem fa_form {K:Nat} {w:World} {v:Value} {gs:List Fld} (h:FieldsAt K w v gs) (hg:0 < gs.length):∃ b off cap,v = .slice (some ⟨b,off,none⟩) gs.length cap∧b < K∧gs.length ≤ cap:=by
 obtain ⟨ao,cap,rfl,hc,_,hcs⟩:=h
 obtain ⟨b,off,_,rfl,hb,_⟩:=hcs 0 gs[0] (by simp)
 exact ⟨b,off,cap,rfl,hb,hc⟩
theorem fa_num {K b off n cap:Nat} {w:World} {gs:List Fld} (h:FieldsAt K w (.slice (some ⟨b,off,none⟩) n cap) gs) (i:Nat) (x:Int) (hi:gs[i]? = some (nF x)) (hx:0 ≤ x):w.cell? ⟨b,off + i * 2,none⟩ = some (.int .u64 x):=by
 obtain ⟨ao,cap,e,hc,_,hcs⟩:=h
 cases e
 obtain ⟨b',off',_,e1,_,c0,_⟩:=hcs i _ hi
 cases e1
 rw [c0]
 show some (Value.int .u64 ((x.toNat:Nat):Int)) = _
 rw [Int.toNat_of_nonneg hx]
theorem fa_txt {K b off n cap:Nat} {w:World} {gs:List Fld} (h:FieldsAt K w (.slice (some ⟨b,off,none⟩) n cap) gs) (i:Nat) (l:List UInt8) (hi:gs[i]? = some (bF l)):∃ a c,w.cell? ⟨b,off + i * 2 + 1,none⟩ = some (.slice a l.length c)∧Sl K w (.slice a l.length c) l.length (l.map bv):=by
 obtain ⟨ao,cap,e,hc,_,hcs⟩:=h
 cases e
 obtain ⟨b',off',v,e1,_,_,c1,s1,_⟩:=hcs i _ hi
 cases e1
 obtain ⟨a,c,rfl,h9⟩:=s1
 exact ⟨a,c,c1,⟨a,c,rfl,h9⟩⟩

/-- What setParts leaves. -/
def SetR (X:Nat→Prop) (P:Nat) (gs:List Fld) (t:Th) (w:World) (e:Ending) (w':World):Prop :=
 e = .returned (.tuple #[])∧Fr (fun b=>b = P) w w'∧∃ t' vL vC vK vD,w'.heap[P]? = some (.cells (thC t' vL vC vK vD).toArray 34 (0,0))∧ThAt X w' t' vL vC vK vD∧SetP gs t t'∧WfT t'∧t'.cats = t.cats∧t'.ccats.length ≤ 100

theorem cv64 {x:Int} (h0:0 ≤ x) (h1:x < 65536) (w:World):(convert 23 3 (.int .u64 x)).run Try.prog w = .ok (.int .i64 x) w:=by
 simp [go_sem]
 try rw [IntKind.wrap_i64]
 omega

set_option maxRecDepth 100000 in
set_option maxHeartbeats 3200000 in
theorem c_set1 {X:Nat→Prop} {K P:Nat} {t:Th} {uL uC uK uD fv:Value} {nx:Int} {lk:List UInt8} (w:World) (hA:w.heap[P]? = some (.cells (thC t uL uC uK uD).toArray 34 (0,0))) (ht:ThAt X w t uL uC uK uD) (hf:FieldsAt K w fv [nF nx,bF lk]) (hKP:K ≤ P) (hk:t.kind = 1) (hn:n2 nx) (hl:lk.length ≤ 1024)
  (hX0:¬ X P) (hX1:∀ b,w.heap.size ≤ b→X b) (hX2:∀ v bs,BSl (fun b=>b < K) w v bs→BSl X w v bs) (hwf:WfT t) (hcc:t.ccats.length ≤ 100) :
  Calls Try.prog 77 #[.pointer (some ⟨P,0,none⟩),fv] w (SetR X P [nF nx,bF lk] t w):=by
 have bk1:(t.kind == 1) = true:=by simp [hk]
 obtain ⟨b,off,cap,rfl,hb,hcap⟩:=fa_form hf (by simp)
 have c0:w.cell? ⟨b,off + 0,none⟩ = some (.int .u64 nx):=fa_num hf 0 nx rfl hn.1
 obtain ⟨a1,p1,x1,s1⟩:=fa_txt hf 1 lk rfl
 replace x1:w.cell? ⟨b,off + 3,none⟩ = some (.slice a1 lk.length p1):=x1
 have hPl:=heap_lt hA
 have hbl:b < w.heap.size:=by omega
 have hbP:¬ b = P:=by omega
 have a1:w.cell? ⟨P,1,none⟩ = some (.int .i64 t.kind):=cell_blk hA rfl
 simp only [List.length_cons,List.length_nil,Nat.reduceAdd] at hcap ⊢
 replace hk:Hid _:=hk
 clear hf
 have hcv:=cv64 hn.1 hn.2
 go_enter Try.func77,Try.ntmps77
 go_upto_region 2 with fail
 clear a1 bk1
 replace ht:=ht.nw (Fr.drew (Fr.refl _ w):Nw w w.drew)
 have hS:Fr (fun b=>b = P) w w.drew:=Fr.drew (Fr.refl _ w)
 refine wp_region_ord [] 17 [(0,true),(1,true),(2,true),(7,true),(3,true),(8,true),(4,true),(9,true),(5,true),(10,true),(6,true),(11,false),(12,true),(13,true),(14,false),(15,true),(16,true)] (fun w':World=>Fr (fun b=>b = P) w w') (by kernel_rfl) (by kernel_rfl) ?_
 refine ord_quietL _ ?_ rfl hS rfl ?_ ?_
 rotate_left
 ·rintro w' hn;go_simp;first | rfl | (rw [if_pos (by omega)];done) | (rw [if_pos (by omega)];rfl) | (rw [if_pos (by omega)];go_simp;rfl)
 simp only [pL,List.set]
 refine ord_quietL _ ?_ rfl hS rfl ?_ ?_
 rotate_left
 ·rintro w' hn;go_simp;first | rfl | (rw [if_pos (by omega)];done) | (rw [if_pos (by omega)];rfl) | (rw [if_pos (by omega)];go_simp;rfl)
 simp only [pL,List.set]
 refine ord_quietL _ ?_ rfl hS rfl ?_ ?_
 rotate_left
 ·rintro w' hn;go_simp;first | rfl | (rw [if_pos (by omega)];done) | (rw [if_pos (by omega)];rfl) | (rw [if_pos (by omega)];go_simp;rfl)
 simp only [pL,List.set]
 refine ord_quietL _ ?_ rfl hS rfl ?_ ?_
 rotate_left
 ·rintro w' hn;go_simp;first | rfl | (rw [if_pos (by omega)];done) | (rw [if_pos (by omega)];rfl) | (rw [if_pos (by omega)];go_simp;rfl)
 simp only [pL,List.set]
 refine ord_quietL _ ?_ rfl hS rfl ?_ ?_
 rotate_left
 ·rintro w' hn;go_simp;first | rfl | (rw [if_pos (by omega)];done) | (rw [if_pos (by omega)];rfl) | (rw [if_pos (by omega)];go_simp;rfl)
 simp only [pL,List.set]
 refine ord_quietL _ ?_ rfl hS rfl ?_ ?_
 rotate_left
 ·rintro w' hn;go_simp;first | rfl | (rw [if_pos (by omega)];done) | (rw [if_pos (by omega)];rfl) | (rw [if_pos (by omega)];go_simp;rfl)
 simp only [pL,List.set]
 refine ord_quietL _ ?_ rfl hS rfl ?_ ?_
 rotate_left
 ·rintro w' hn;go_simp;first | rfl | (rw [if_pos (by omega)];done) | (rw [if_pos (by omega)];rfl) | (rw [if_pos (by omega)];go_simp;rfl)
 simp only [pL,List.set]
 refine ord_quietL _ ?_ rfl hS rfl ?_ ?_
 rotate_left
 ·rintro w' hn;go_simp;first | rfl | (rw [if_pos (by omega)];done) | (rw [if_pos (by omega)];rfl) | (rw [if_pos (by omega)];go_simp;rfl)
 simp only [pL,List.set]
 refine ord_quietL _ ?_ rfl hS rfl ?_ ?_
 rotate_left
 ·rintro w' hn;have g0:w'.cell? ⟨b,off + 0,none⟩ = some (.int .u64 nx):=(fr_cell hn hbl hbP).trans c0;have g1:w'.cell? ⟨b,off,none⟩ = some (.int .u64 nx):=(fr_cell hn hbl hbP).trans c0;go_simp;first | rfl | (rw [if_pos (by omega)];done) | (rw [if_pos (by omega)];rfl) | (rw [if_pos (by omega)];go_simp;rfl)
 simp only [pL,List.set]
 refine ord_quietL _ ?_ rfl hS rfl ?_ ?_
 rotate_left
 ·rintro w' hn;have g0:w'.cell? ⟨b,off + 3,none⟩ = some (.slice a1 lk.length p1):=(fr_cell hn hbl hbP).trans x1;have g1:w'.cell? ⟨b,off + 2 + 1,none⟩ = some (.slice a1 lk.length p1):=(fr_cell hn hbl hbP).trans x1;go_simp;first | rfl | (rw [if_pos (by omega)];done) | (rw [if_pos (by omega)];rfl) | (rw [if_pos (by omega)];go_simp;rfl)
 simp only [pL,List.set]
 refine ord_quietL _ ?_ rfl hS rfl ?_ ?_
 rotate_left
 ·rintro w' hn;go_simp;first | rfl | (rw [if_pos (by omega)];done) | (rw [if_pos (by omega)];rfl) | (rw [if_pos (by omega)];go_simp;rfl)
 simp only [pL,List.set]
 refine ord_actL _ rfl (fun K1 hK1=>?_)
 have hcon:Hid _:=c_linksOf w.drew (s1.keep ((Below.refl _ w).drew)) (by show K ≤ w.heap.size;omega) (by omega)
 go_wp2_with (go_at_call 91;refine Calls.mono hcon.out ?_;rintro e wk0 ⟨vK,xs,rfl,hown,hback,hfit,h100,qb⟩)
 obtain ⟨va,vc,rfl⟩:=owns_form hown
 have hS1:Fr (fun b=>b = P) w wk0:=Fr.trans hS (fr_of_below (S:=fun _=>False) qb) (fun _ h=>h.elim)
 replace hA:wk0.heap[P]? = _:=(qb.block P hPl).trans hA
 replace ht:=ht.nw (fr_of_below (S:=fun _=>False) qb)
 refine hK1 _ _ hS1 ?_
 clear hK1 K1 hcon qb hS
 have hS:=hS1
 clear hS1
 refine ord_quietL _ ?_ rfl hS rfl ?_ ?_
 rotate_left
 ·rintro w' hn;go_simp;first | rfl | (rw [if_pos (by omega)];done) | (rw [if_pos (by omega)];rfl) | (rw [if_pos (by omega)];go_simp;rfl)
 simp only [pL,List.set]
 refine ord_quietL _ ?_ rfl hS rfl ?_ ?_
 rotate_left
 ·rintro w' hn;go_simp;first | rfl | (rw [if_pos (by omega)];done) | (rw [if_pos (by omega)];rfl) | (rw [if_pos (by omega)];go_simp;rfl)
 simp only [pL,List.set]
 refine ord_actL _ rfl (fun K1 hK1=>?_)
 have z7:wk0.cell? ⟨P,7,none⟩ = some (.int .i64 t.next):=cell_blk hA rfl
 have y7:wk0.frozen? ⟨P,7,none⟩ = false:=free_blk hA
 go_wp2
 have hA2:=blk_setCell (i:=7) (v:=.int .i64 nx) hA
 have hS1:=hS.setCell (p:=⟨P,7,none⟩) (.inl rfl) (.int .i64 nx)
 refine hK1 _ _ hS1 ?_
 clear hK1 K1 hS z7 y7
 have hS:=hS1
 clear hS1
 refine ord_quietL _ ?_ rfl hS rfl ?_ ?_
 rotate_left
 ·rintro w' hn;go_simp;first | rfl | (rw [if_pos (by omega)];done) | (rw [if_pos (by omega)];rfl) | (rw [if_pos (by omega)];go_simp;rfl)
 simp only [pL,List.set]
 refine ord_quietL _ ?_ rfl hS rfl ?_ ?_
 rotate_left
 ·rintro w' hn;go_simp;first | rfl | (rw [if_pos (by omega)];done) | (rw [if_pos (by omega)];rfl) | (rw [if_pos (by omega)];go_simp;rfl)
 simp only [pL,List.set]
 refine ord_tail ?_
 simp only [List.drop_succ_cons,List.drop_zero]
 have z8:(wk0.setCell ⟨P,7,none⟩ (.int .i64 nx)).cell? ⟨P,8,none⟩ = some uK:=cell_blk hA2 rfl
 have y8:(wk0.setCell ⟨P,7,none⟩ (.int .i64 nx)).frozen? ⟨P,8,none⟩ = false:=free_blk hA2
 have fin:Hid (SetR X P [nF nx,bF lk] t w (.returned (.tuple #[])) ((wk0.setCell ⟨P,7,none⟩ (.int .i64 nx)).setCell ⟨P,8,none⟩ (.slice va xs.length vc))):=by
  have hS9:=hS.setCell (p:=⟨P,8,none⟩) (.inl rfl) (.slice va xs.length vc)
  have f2:Fr (fun b=>b = P) wk0 ((wk0.setCell ⟨P,7,none⟩ (.int .i64 nx)).setCell ⟨P,8,none⟩ (.slice va xs.length vc)):=((Fr.refl (fun b=>b = P) wk0).setCell (p:=⟨P,7,none⟩) (.inl rfl) _).setCell (p:=⟨P,8,none⟩) (.inl rfl) _
  have hXP:∀ b,X b→b < wk0.heap.size→¬ b = P:=fun b hb _ e=>hX0 (e ▸ hb)
  have ht9:=ht.keep f2 hXP (fun _ h _=>h)
  have hk9:CSl X ((wk0.setCell ⟨P,7,none⟩ (.int .i64 nx)).setCell ⟨P,8,none⟩ (.slice va xs.length vc)) (.slice va xs.length vc) xs:=(csl_of_own hown).keep f2 (fun b hb _ e=>by have h9:w.heap.size ≤ b:=hb;omega) (fun b hb _=>hX1 b hb)
  refine ⟨rfl,hS9,{ t with next:=nx,links:=xs },uL,uC,.slice va xs.length vc,uD,?_,⟨ht9.l,ht9.c,hk9,ht9.d⟩,set1 hk.out hn hback,⟨hwf.r0,hwf.r1,hwf.r2,hwf.r3,hwf.value⟩,rfl,hcc⟩
  rw [blk_setCell (blk_setCell hA)];rfl
 clear hback hown hfit h100 ht hS hA hA2 hX0 hX1 hX2 hwf hcc
 go_wp2
 go_end0
 exact fin.out
end Go.Proofs.Ytghlilncdfiojaa
