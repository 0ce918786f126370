/-
  The document's Image: the fields' row, devices.
-/
import Derived.Test.YtghlilncdfiojaaThY1S
namespace Go.Proofs.Ytghlilncdfiojaa
set_option linter.unusedVariables false
set_option linter.unusedSimpArgs false
set_option maxRecDepth 20000
open Go.RowKit

theorem cvu {x:Int} (h0:0 ≤ x) (h1:x ≤ 281474976710655) (w:World):(convert 3 23 (.int .i64 x)).run Try.prog w = .ok (.int .u64 x) w:=by
 simp [go_sem]
 simp [IntKind.wrap,IntKind.signed,IntKind.bits]
 omega

/-- A row of fields that grows. -/
def LAt (base:Nat) (w:World) (v:Value) (n:Nat) (fs:List Fld):Prop:=∃ cs,w.ownsRow base 74 2 v n cs∧n = fs.length∧FldX (fun b=>b < w.heap.size∧v.ownBlock ≠ some b) w fs cs
theorem LAt.nw {base:Nat} {w w':World} {v:Value} {n:Nat} {fs:List Fld} (h:LAt base w v n fs) (hn:Nw w w'):LAt base w' v n fs:=by
 obtain ⟨cs,h1,h2,h3⟩:=h
 exact ⟨cs,owns_nw h1 hn,h2,h3.keep (fun b hb=>⟨⟨Nat.lt_of_lt_of_le hb.1 hn.size,hb.2⟩,hn.block b hb.1 (fun h=>h)⟩)⟩
theorem LAt.at {base:Nat} {w:World} {v:Value} {n:Nat} {fs:List Fld} (h:LAt base w v n fs):FieldsAt w.heap.size w v fs:=by
 obtain ⟨cs,h1,h2,h3⟩:=h
 subst h2
 exact fieldsAt_of_own h1 h3 (fun b hb=>hb.1)
theorem LAt.form {base:Nat} {w:World} {v:Value} {n:Nat} {fs:List Fld} (h:LAt base w v n fs):∃ a c,v = .slice a n c:=by
 obtain ⟨cs,h1,_⟩:=h
 exact owns_form h1

theorem sl_litF {w V:World} {g m:Nat} {cs:List Value} (h:V.heap[g]? = some (.cells cs.toArray 74 (0,0))) (hm:m ≤ 1000):Sl V.heap.size V (.slice (some ⟨g,0,none⟩) m m) m cs :=
 ⟨_,m,rfl,⟨Nat.le_refl _,by unfold maxLen;omega⟩,(fun h=>by cases h),fun i c hi=>⟨g,0,rfl,heap_lt h,cell_blk h (by simpa using hi)⟩⟩

/-- What an append of fields onto the row leaves. -/
theorem LAt.app {base:Nat} {w w':World} {v v':Value} {n m:Nat} {fs gs:List Fld} {cs news:List Value} (ho:w.ownsRow base 74 2 v n cs) (hn:n = fs.length) (hx:FldX (fun b=>b < w.heap.size∧v.ownBlock ≠ some b) w fs cs) (hg:FldX (fun b=>b < w.heap.size∧v.ownBlock ≠ some b) w gs news) (hm:m = gs.length)
  (h':w'.ownsRow base 74 2 v' (n + m) (cs ++ news)) (hgr:w.grownBy w' v.ownBlock) (hat:v'.ownBlock = v.ownBlock∨v'.ownBlock = some w.heap.size):LAt base w' v' (n + m) (fs ++ gs):=by
 refine ⟨_,h',by rw [List.length_append];omega,(fldx_append hx hg).keep (fun b hb=>⟨⟨Nat.lt_of_lt_of_le hb.1 hgr.size,?_⟩,hgr.block b hb.1 (fun e=>hb.2 e.symm)⟩)⟩
 rcases hat with e | e
 ·rw [e];exact hb.2
 ·rw [e];intro e2;have:=Option.some.inj e2;omega

theorem c_packR (sh:ByteArray) {v:Value} {fs:List Fld} {y:List UInt8} (w:World) (h:FieldsAt w.heap.size w v fs) (hp:pack sh.data.toList fs = some y) (hs:sh.size ≤ 200) :
  Calls Try.prog 48 #[.string sh,v] w fun e w'=>∃ u,e = .returned (.tuple #[u,.int .i64 0])∧BSl (fun b=>b < w'.heap.size) w' u y∧Nw w w':=by
 have hl:fs.length ≤ maxLen:=by have:=(pack_some hp).2.1;have h2:sh.data.toList.length = sh.size:=Array.length_toList;unfold maxLen;omega
 refine (c_refpack sh w.heap.size v fs w (by unfold maxLen;omega) hl h (Nat.le_refl _)).mono (fun e w' h9=>?_)
 obtain ⟨hb,⟨ys,u,h1,h2,h3⟩ | ⟨h1,h2⟩⟩:=h9
 ·rw [hp] at h1;cases h1
  exact ⟨u,h2,h3,fr_of_below hb⟩
 ·rw [hp] at h1;cases h1

set_option maxRecDepth 100000 in
set_option maxHeartbeats 6400000 in
theorem c_ri6 {X:Nat→Prop} {t:Th} {uL uC uK uD:Value} (w:World) (h:ThAt X w t uL uC uK uD) (hwf:WfT t) (hr:RightT t) (l2:t.ccats.length ≤ 8796093022208) (hk:t.kind = 6) :
  Calls Try.prog 17 #[(thV t uL uC uK uD)] w fun e w'=>ImgP t e w'∧Nw w w':=by
 obtain ⟨i4,hj,hj0,hj1,hj2⟩:=info_parts3 Try.infoFd
 have bk1:(t.kind == 1) = false:=by simp [hk]
 have bk2:(t.kind == 2) = false:=by simp [hk]
 have bk3:(t.kind == 3) = false:=by simp [hk]
 have bk4:(t.kind == 4) = false:=by simp [hk]
 have bk5:(t.kind == 5) = false:=by simp [hk]
 have bk6:(t.kind == 6) = true:=by simp [hk]
 have i0:0 ≤ t.id:=by have:=hr.id.1;omega
 have i1:t.id ≤ 281474976710655:=hr.id.2
 obtain ⟨q0',q1⟩:=quota_of hr.parts
 have q0:0 ≤ t.quota:=by omega
 have k0:0 ≤ t.kind:=by omega
 have k6:t.kind ≤ 6:=by omega
 have l6:=hr.rgt.len
 clear q0'
 replace hr:Hid (RightT t):=hr
 replace hk:Hid (t.kind = 6):=hk
 obtain ⟨W,hW⟩:∃ W,Hid (W = w.alloc (.cells (thC t uL uC uK uD).toArray 34)):=⟨_,rfl⟩
 have nW:Nw w W:=by rw [hW.out];exact nw_alloc (nw_refl w) _
 have hA:W.heap[w.heap.size]? = some (.cells (thC t uL uC uK uD).toArray 34 (0,0)):=by rw [hW.out];exact heap_alloc_new w _
 have ht:=(h.mono (X':=fun b=>b < w.heap.size) (fun b _ hb=>hb)).nw nW
 clear h
 have hWl:Hid (w.heap.size < W.heap.size):=heap_lt hA
 have hcq:Hid _:=c_rtright W ht hwf (by omega) l2
 unfold AnsP at hcq
 have hrA:=range_all hA
 go_enter Try.func17,Try.ntmps17
 go_upto_region 1 with (refine wpList_box_agg rfl 34 _ rfl (thV t uL uC uK uD) _ rfl rfl ?_)
 rw [← hW.out]
 clear hW
 go_wp2_with (first | (refine wpList_load_as rfl 34 _ rfl (w.heap.size) 0 rfl (thV t uL uC uK uD) _ rfl hrA Try.rowT Try.sizeT ?_) | (go_at_call 12;refine Calls.mono hcq.out ?_;rintro e W1 ⟨r1,rfl,q,n1⟩;obtain rfl:=q.2 hr.out;refine stop_here ?_))
 unfold Hid
 clear hcq hrA q
 replace hA:=(n1.block _ (heap_lt hA) (fun h=>h)).trans hA
 replace ht:=ht.nw n1
 have nW1s:Hid (W.heap.size ≤ W1.heap.size):=n1.size
 replace nW:=nw_trans nW n1
 clear n1
 go_upto_region 4 with fail
 have hSof:∀ w',Nw W1 w'→(fun w':World=>Nw W1 w'∧w'.heap[w.heap.size]? = some (.cells (thC t uL uC uK uD).toArray 34 (0,0))) w':=fun w' hw=>⟨hw,(hw.block _ (heap_lt hA) (fun h=>h)).trans hA⟩
 have hW0:Nw W1 W1.drew:=Fr.drew (Fr.refl _ W1)
 have hS:=hSof _ hW0
 replace ht:=ht.nw hW0
 replace hSof:Hid _:=hSof
 refine wp_region_ord [] 15 [(0,true),(3,true),(7,true),(11,true),(1,true),(4,true),(8,true),(12,true),(2,true),(5,true),(13,true),(6,true),(14,true),(9,false),(10,true)] (fun w':World=>Nw W1 w'∧w'.heap[w.heap.size]? = some (.cells (thC t uL uC uK uD).toArray 34 (0,0))) (by kernel_rfl) (by kernel_rfl) ?_
 refine ord_quietL _ ?_ rfl hS rfl ?_ ?_
 rotate_left
 ·rintro w' ⟨hn,rhA⟩;go_simp;rfl
 simp only [pL,List.set]
 refine ord_quietL _ ?_ rfl hS rfl ?_ ?_
 rotate_left
 ·rintro w' ⟨hn,rhA⟩;go_simp;rfl
 simp only [pL,List.set]
 refine ord_quietL _ ?_ rfl hS rfl ?_ ?_
 rotate_left
 ·rintro w' ⟨hn,rhA⟩;go_simp;rfl
 simp only [pL,List.set]
 refine ord_quietL _ ?_ rfl hS rfl ?_ ?_
 rotate_left
 ·rintro w' ⟨hn,rhA⟩;go_simp;rfl
 simp only [pL,List.set]
 refine ord_quietL _ ?_ rfl hS rfl ?_ ?_
 rotate_left
 ·rintro w' ⟨hn,rhA⟩;have g0:w'.cell? ⟨w.heap.size,0,none⟩ = some (.int .u64 t.id):=cell_blk rhA rfl;go_simp;rfl
 simp only [pL,List.set]
 refine ord_quietL _ ?_ rfl hS rfl ?_ ?_
 rotate_left
 ·rintro w' ⟨hn,rhA⟩;have g0:w'.cell? ⟨w.heap.size,1,none⟩ = some (.int .i64 t.kind):=cell_blk rhA rfl;go_simp;rfl
 simp only [pL,List.set]
 refine ord_quietL _ ?_ rfl hS rfl ?_ ?_
 rotate_left
 ·rintro w' ⟨hn,rhA⟩;have g0:w'.cell? ⟨w.heap.size,2,none⟩ = some (.int .i64 t.df):=cell_blk rhA rfl;have g1:w'.cell? ⟨w.heap.size,3,none⟩ = some (uL):=cell_blk rhA rfl;go_simp;rfl
 simp only [pL,List.set]
 refine ord_quietL _ ?_ rfl hS rfl ?_ ?_
 rotate_left
 ·rintro w' ⟨hn,rhA⟩;have g0:w'.cell? ⟨w.heap.size,6,none⟩ = some (.int .i64 t.quota):=cell_blk rhA rfl;go_simp;rfl
 simp only [pL,List.set]
 refine ord_quietL _ ?_ rfl hS rfl ?_ ?_
 rotate_left
 ·rintro w' ⟨hn,rhA⟩;go_simp;rfl
 simp only [pL,List.set]
 refine ord_quietL _ ?_ rfl hS rfl ?_ ?_
 rotate_left
 ·rintro w' ⟨hn,rhA⟩;have hc:=cvu (x:=t.kind) (by omega) (by omega) w';go_simp;rfl
 simp only [pL,List.set]
 refine ord_quietL _ ?_ rfl hS rfl ?_ ?_
 rotate_left
 ·rintro w' ⟨hn,rhA⟩;have hc:=cvu (x:=t.quota) (by omega) (by omega) w';go_simp;rfl
 simp only [pL,List.set]
 refine ord_quietL _ ?_ rfl hS rfl ?_ ?_
 rotate_left
 ·rintro w' ⟨hn,rhA⟩;go_simp;rfl
 simp only [pL,List.set]
 refine ord_quietL _ ?_ rfl hS rfl ?_ ?_
 rotate_left
 ·rintro w' ⟨hn,rhA⟩;go_simp;rfl
 simp only [pL,List.set]
 refine ord_actL _ rfl (fun K1 hK1=>?_)
 have hcon:Hid _:=c_rtext W1.drew ht.l hr.out.rgt
 unfold labV at hcon
 go_wp2_with (go_at_call 46;refine Calls.mono hcon.out ?_;rintro e wk0 ⟨u,rfl,hu,qn⟩)
 have m0:=nw_trans hW0 qn
 replace ht:=ht.nw qn
 obtain ⟨ua,uc,hu0,-⟩:=hu.form
 subst hu0
 generalize hun:(labB t.df t.cats).length = un at *
 replace hun:Hid _:=hun
 refine hK1 _ _ (hSof.out _ m0) ?_
 clear hK1 K1 hcon qn hS hW0
 have hS:=hSof.out _ m0
 refine ord_quietL _ ?_ rfl hS rfl ?_ ?_
 rotate_left
 ·rintro w' ⟨hn,rhA⟩;go_simp;rfl
 simp only [pL,List.set]
 refine ord_tail ?_
 simp only [List.drop_succ_cons,List.drop_zero]
 obtain ⟨V,hV⟩:∃ V,Hid (V = wk0.alloc (.cells #[.int .u64 t.id,.slice none 0 0,.int .u64 t.kind,.slice none 0 0,.int .u64 0,.slice ua un uc,.int .u64 t.quota,.slice none 0 0] 74)):=⟨_,rfl⟩
 have nV0:Nw wk0 V:=by rw [hV.out];exact nw_alloc (nw_refl _) _
 have hla:LAt wk0.heap.size V (.slice (some ⟨wk0.heap.size,0,none⟩) 4 4) 4 (headF t):=by
  refine ⟨[.int .u64 t.id,.slice none 0 0,.int .u64 t.kind,.slice none 0 0,.int .u64 0,.slice ua un uc,.int .u64 t.quota,.slice none 0 0],⟨rfl,.inr ⟨wk0.heap.size,4,_,rfl,Nat.le_refl _,by rw [hV.out];exact heap_alloc_new wk0 _,Nat.le_refl _,by decide,rfl,by simp⟩⟩,rfl,?_⟩
  have hub:BSl (fun b=>b < V.heap.size∧(Value.slice (some ⟨wk0.heap.size,0,none⟩) 4 4).ownBlock ≠ some b) V (.slice ua un uc) (labB t.df t.cats):=hu.keep nV0 (fun _ _ _ h=>h) (fun b hb hlt=>⟨by have:=nV0.size;omega,fun e=>by simp [Value.ownBlock] at e;omega⟩)
  have g:=fldx_num (fldx_bytes (fldx_num (fldx_num (fldx_zero (fun b=>b < V.heap.size∧(Value.slice (some ⟨wk0.heap.size,0,none⟩) 4 4).ownBlock ≠ some b) V) t.id i0 (by omega)) t.kind k0 (by omega)) ua un uc (labB t.df t.cats) hub (by rw [labB_length];omega)) t.quota q0 (by omega)
  simpa [headF] using g
 have nV:Nw W1 V:=nw_trans m0 nV0
 replace hA:=(nV.block _ (heap_lt hA) (fun h=>h)).trans hA
 replace ht:=ht.nw nV0
 replace nW:=nw_trans nW nV
 have hbs:W.heap.size ≤ wk0.heap.size:=Nat.le_trans nW1s.out m0.size
 have hbw:Hid (w.heap.size < wk0.heap.size):=by have:=hWl.out;unfold Hid;omega
 have hbl:Hid (wk0.heap.size ≤ V.heap.size):=nV0.size
 clear hbs
 clear hSof hS hu nV0
 go_upto_region 5 with fail
 first | rw [← hV.out] | skip
 clear hV
 clear nV m0
 generalize wk0.heap.size = base at *
 have a1:V.cell? ⟨w.heap.size,1,none⟩ = some (.int .i64 t.kind):=cell_blk hA rfl
 obtain ⟨y,hy,-⟩:=img_some hr.out hwf
 have hfs:flds t = headF t:=by have hk:=hk.out;simp [flds,partF,hk,show ¬ (6:Int) = 1 by decide]
 have hfa:=hla.at
 rw [← hfs] at hfa
 have hcp:Hid _:=c_packR (shB t.kind) V hfa (by rw [shB_list];exact hy) (shB_size _)
 have hsh:shB t.kind = { data:=#[56,49,98,50] }:=by have hk:=hk.out;simp [shB,hk]
 rw [hsh] at hcp
 replace hy:Hid (imgO t = some y):=hy
 clear hfa hsh hfs
 go_upto_region 42 with fail
 go_wp2_with (first | (go_at_call 48;refine Calls.mono hcp.out ?_;rintro e Vp ⟨u9,rfl,hi9,n9⟩;refine stop_here ?_))
 unfold Hid
 clear hcp
 have fin:Hid (ImgP t (.returned (.tuple #[u9,.int .i64 0])) Vp∧Nw w Vp):=⟨.inl ⟨hr.out,u9,y,hy.out,rfl,hi9⟩,nw_trans nW n9⟩
 clear hi9 n9
 go_wp2
 go_ret2
 exact fin.out

set_option maxRecDepth 100000 in
set_option maxHeartbeats 6400000 in
theorem c_ri4 {X:Nat→Prop} {t:Th} {uL uC uK uD:Value} (w:World) (h:ThAt X w t uL uC uK uD) (hwf:WfT t) (hr:RightT t) (l2:t.ccats.length ≤ 8796093022208) (hk:t.kind = 4) :
  Calls Try.prog 17 #[(thV t uL uC uK uD)] w fun e w'=>ImgP t e w'∧Nw w w':=by
 obtain ⟨i4,hj,hj0,hj1,hj2⟩:=info_parts3 Try.infoFd
 have bk1:(t.kind == 1) = false:=by simp [hk]
 have bk2:(t.kind == 2) = false:=by simp [hk]
 have bk3:(t.kind == 3) = false:=by simp [hk]
 have bk4:(t.kind == 4) = true:=by simp [hk]
 have bk5:(t.kind == 5) = false:=by simp [hk]
 have bk6:(t.kind == 6) = false:=by simp [hk]
 have i0:0 ≤ t.id:=by have:=hr.id.1;omega
 have i1:t.id ≤ 281474976710655:=hr.id.2
 obtain ⟨q0',q1⟩:=quota_of hr.parts
 have q0:0 ≤ t.quota:=by omega
 have k0:0 ≤ t.kind:=by omega
 have k6:t.kind ≤ 6:=by omega
 have l6:=hr.rgt.len
 clear q0'
 replace hr:Hid (RightT t):=hr
 replace hk:Hid (t.kind = 4):=hk
 obtain ⟨W,hW⟩:∃ W,Hid (W = w.alloc (.cells (thC t uL uC uK uD).toArray 34)):=⟨_,rfl⟩
 have nW:Nw w W:=by rw [hW.out];exact nw_alloc (nw_refl w) _
 have hA:W.heap[w.heap.size]? = some (.cells (thC t uL uC uK uD).toArray 34 (0,0)):=by rw [hW.out];exact heap_alloc_new w _
 have ht:=(h.mono (X':=fun b=>b < w.heap.size) (fun b _ hb=>hb)).nw nW
 clear h
 have hWl:Hid (w.heap.size < W.heap.size):=heap_lt hA
 have hcq:Hid _:=c_rtright W ht hwf (by omega) l2
 unfold AnsP at hcq
 have hrA:=range_all hA
 go_enter Try.func17,Try.ntmps17
 go_upto_region 1 with (refine wpList_box_agg rfl 34 _ rfl (thV t uL uC uK uD) _ rfl rfl ?_)
 rw [← hW.out]
 clear hW
 go_wp2_with (first | (refine wpList_load_as rfl 34 _ rfl (w.heap.size) 0 rfl (thV t uL uC uK uD) _ rfl hrA Try.rowT Try.sizeT ?_) | (go_at_call 12;refine Calls.mono hcq.out ?_;rintro e W1 ⟨r1,rfl,q,n1⟩;obtain rfl:=q.2 hr.out;refine stop_here ?_))
 unfold Hid
 clear hcq hrA q
 replace hA:=(n1.block _ (heap_lt hA) (fun h=>h)).trans hA
 replace ht:=ht.nw n1
 have nW1s:Hid (W.heap.size ≤ W1.heap.size):=n1.size
 replace nW:=nw_trans nW n1
 clear n1
 go_upto_region 4 with fail
 have hSof:∀ w',Nw W1 w'→(fun w':World=>Nw W1 w'∧w'.heap[w.heap.size]? = some (.cells (thC t uL uC uK uD).toArray 34 (0,0))) w':=fun w' hw=>⟨hw,(hw.block _ (heap_lt hA) (fun h=>h)).trans hA⟩
 have hW0:Nw W1 W1.drew:=Fr.drew (Fr.refl _ W1)
 have hS:=hSof _ hW0
 replace ht:=ht.nw hW0
 replace hSof:Hid _:=hSof
 refine wp_region_ord [] 15 [(0,true),(3,true),(7,true),(11,true),(1,true),(4,true),(8,true),(12,true),(2,true),(5,true),(13,true),(6,true),(14,true),(9,false),(10,true)] (fun w':World=>Nw W1 w'∧w'.heap[w.heap.size]? = some (.cells (thC t uL uC uK uD).toArray 34 (0,0))) (by kernel_rfl) (by kernel_rfl) ?_
 refine ord_quietL _ ?_ rfl hS rfl ?_ ?_
 rotate_left
 ·rintro w' ⟨hn,rhA⟩;go_simp;rfl
 simp only [pL,List.set]
 refine ord_quietL _ ?_ rfl hS rfl ?_ ?_
 rotate_left
 ·rintro w' ⟨hn,rhA⟩;go_simp;rfl
 simp only [pL,List.set]
 refine ord_quietL _ ?_ rfl hS rfl ?_ ?_
 rotate_left
 ·rintro w' ⟨hn,rhA⟩;go_simp;rfl
 simp only [pL,List.set]
 refine ord_quietL _ ?_ rfl hS rfl ?_ ?_
 rotate_left
 ·rintro w' ⟨hn,rhA⟩;go_simp;rfl
 simp only [pL,List.set]
 refine ord_quietL _ ?_ rfl hS rfl ?_ ?_
 rotate_left
 ·rintro w' ⟨hn,rhA⟩;have g0:w'.cell? ⟨w.heap.size,0,none⟩ = some (.int .u64 t.id):=cell_blk rhA rfl;go_simp;rfl
 simp only [pL,List.set]
 refine ord_quietL _ ?_ rfl hS rfl ?_ ?_
 rotate_left
 ·rintro w' ⟨hn,rhA⟩;have g0:w'.cell? ⟨w.heap.size,1,none⟩ = some (.int .i64 t.kind):=cell_blk rhA rfl;go_simp;rfl
 simp only [pL,List.set]
 refine ord_quietL _ ?_ rfl hS rfl ?_ ?_
 rotate_left
 ·rintro w' ⟨hn,rhA⟩;have g0:w'.cell? ⟨w.heap.size,2,none⟩ = some (.int .i64 t.df):=cell_blk rhA rfl;have g1:w'.cell? ⟨w.heap.size,3,none⟩ = some (uL):=cell_blk rhA rfl;go_simp;rfl
 simp only [pL,List.set]
 refine ord_quietL _ ?_ rfl hS rfl ?_ ?_
 rotate_left
 ·rintro w' ⟨hn,rhA⟩;have g0:w'.cell? ⟨w.heap.size,6,none⟩ = some (.int .i64 t.quota):=cell_blk rhA rfl;go_simp;rfl
 simp only [pL,List.set]
 refine ord_quietL _ ?_ rfl hS rfl ?_ ?_
 rotate_left
 ·rintro w' ⟨hn,rhA⟩;go_simp;rfl
 simp only [pL,List.set]
 refine ord_quietL _ ?_ rfl hS rfl ?_ ?_
 rotate_left
 ·rintro w' ⟨hn,rhA⟩;have hc:=cvu (x:=t.kind) (by omega) (by omega) w';go_simp;rfl
 simp only [pL,List.set]
 refine ord_quietL _ ?_ rfl hS rfl ?_ ?_
 rotate_left
 ·rintro w' ⟨hn,rhA⟩;have hc:=cvu (x:=t.quota) (by omega) (by omega) w';go_simp;rfl
 simp only [pL,List.set]
 refine ord_quietL _ ?_ rfl hS rfl ?_ ?_
 rotate_left
 ·rintro w' ⟨hn,rhA⟩;go_simp;rfl
 simp only [pL,List.set]
 refine ord_quietL _ ?_ rfl hS rfl ?_ ?_
 rotate_left
 ·rintro w' ⟨hn,rhA⟩;go_simp;rfl
 simp only [pL,List.set]
 refine ord_actL _ rfl (fun K1 hK1=>?_)
 have hcon:Hid _:=c_rtext W1.drew ht.l hr.out.rgt
 unfold labV at hcon
 go_wp2_with (go_at_call 46;refine Calls.mono hcon.out ?_;rintro e wk0 ⟨u,rfl,hu,qn⟩)
 have m0:=nw_trans hW0 qn
 replace ht:=ht.nw qn
 obtain ⟨ua,uc,hu0,-⟩:=hu.form
 subst hu0
 generalize hun:(labB t.df t.cats).length = un at *
 replace hun:Hid _:=hun
 refine hK1 _ _ (hSof.out _ m0) ?_
 clear hK1 K1 hcon qn hS hW0
 have hS:=hSof.out _ m0
 refine ord_quietL _ ?_ rfl hS rfl ?_ ?_
 rotate_left
 ·rintro w' ⟨hn,rhA⟩;go_simp;rfl
 simp only [pL,List.set]
 refine ord_tail ?_
 simp only [List.drop_succ_cons,List.drop_zero]
 obtain ⟨V,hV⟩:∃ V,Hid (V = wk0.alloc (.cells #[.int .u64 t.id,.slice none 0 0,.int .u64 t.kind,.slice none 0 0,.int .u64 0,.slice ua un uc,.int .u64 t.quota,.slice none 0 0] 74)):=⟨_,rfl⟩
 have nV0:Nw wk0 V:=by rw [hV.out];exact nw_alloc (nw_refl _) _
 have hla:LAt wk0.heap.size V (.slice (some ⟨wk0.heap.size,0,none⟩) 4 4) 4 (headF t):=by
  refine ⟨[.int .u64 t.id,.slice none 0 0,.int .u64 t.kind,.slice none 0 0,.int .u64 0,.slice ua un uc,.int .u64 t.quota,.slice none 0 0],⟨rfl,.inr ⟨wk0.heap.size,4,_,rfl,Nat.le_refl _,by rw [hV.out];exact heap_alloc_new wk0 _,Nat.le_refl _,by decide,rfl,by simp⟩⟩,rfl,?_⟩
  have hub:BSl (fun b=>b < V.heap.size∧(Value.slice (some ⟨wk0.heap.size,0,none⟩) 4 4).ownBlock ≠ some b) V (.slice ua un uc) (labB t.df t.cats):=hu.keep nV0 (fun _ _ _ h=>h) (fun b hb hlt=>⟨by have:=nV0.size;omega,fun e=>by simp [Value.ownBlock] at e;omega⟩)
  have g:=fldx_num (fldx_bytes (fldx_num (fldx_num (fldx_zero (fun b=>b < V.heap.size∧(Value.slice (some ⟨wk0.heap.size,0,none⟩) 4 4).ownBlock ≠ some b) V) t.id i0 (by omega)) t.kind k0 (by omega)) ua un uc (labB t.df t.cats) hub (by rw [labB_length];omega)) t.quota q0 (by omega)
  simpa [headF] using g
 have nV:Nw W1 V:=nw_trans m0 nV0
 replace hA:=(nV.block _ (heap_lt hA) (fun h=>h)).trans hA
 replace ht:=ht.nw nV0
 replace nW:=nw_trans nW nV
 have hbs:W.heap.size ≤ wk0.heap.size:=Nat.le_trans nW1s.out m0.size
 have hbw:Hid (w.heap.size < wk0.heap.size):=by have:=hWl.out;unfold Hid;omega
 have hbl:Hid (wk0.heap.size ≤ V.heap.size):=nV0.size
 clear hbs
 clear hSof hS hu nV0
 go_upto_region 5 with fail
 first | rw [← hV.out] | skip
 clear hV
 clear nV m0
 generalize wk0.heap.size = base at *
 have a1:V.cell? ⟨w.heap.size,1,none⟩ = some (.int .i64 t.kind):=cell_blk hA rfl
 obtain ⟨da,dc,hfD,-⟩:∃ a c,uD = .slice a t.data.length c∧True:=by obtain ⟨a,c,e,_⟩:=ht.d.form;exact ⟨a,c,e,trivial⟩
 have hd128:t.data.length ≤ 128:=((kd4 hk.out).1 hr.out.parts).hi
 obtain ⟨nn,hnn⟩:∃ n,Hid (t.data.length = n):=⟨_,rfl⟩
 rw [hnn.out] at hfD hd128
 have a9:V.cell? ⟨w.heap.size,9,none⟩ = some uD:=cell_blk hA rfl
 have hdl:BSl (fun b=>b < w.heap.size) V uD t.data:=ht.d
 rw [hfD] at a9 hdl
 replace hfD:Hid _:=hfD
 go_upto_region 34 with fail
 have nZ9:Nw V (V.alloc (.cells #[.int .u64 0,.slice da nn dc] 74)):=nw_alloc (nw_refl _) _
 obtain ⟨cs9,hown9,hnl9,hfx9⟩:=hla.nw nZ9
 have hsl9:Sl (V.alloc (.cells #[.int .u64 0,.slice da nn dc] 74)).heap.size (V.alloc (.cells #[.int .u64 0,.slice da nn dc] 74)) (.slice (some ⟨V.heap.size,0,none⟩) 1 1) 1 [.int .u64 0,.slice da nn dc]:=sl_litF (w:=V) (heap_alloc_new V _) (by omega)
 have hgx9:FldX (fun b=>b < (V.alloc (.cells #[.int .u64 0,.slice da nn dc] 74)).heap.size∧((.slice (some ⟨base,0,none⟩) 4 4):Value).ownBlock ≠ some b) (V.alloc (.cells #[.int .u64 0,.slice da nn dc] 74)) [bF t.data] [.int .u64 0,.slice da nn dc]:=by
  have g:=fldx_bytes (fldx_zero (fun b=>b < (V.alloc (.cells #[.int .u64 0,.slice da nn dc] 74)).heap.size∧((.slice (some ⟨base,0,none⟩) 4 4):Value).ownBlock ≠ some b) (V.alloc (.cells #[.int .u64 0,.slice da nn dc] 74))) da nn dc t.data ((hdl.nw nZ9).mono (fun b hb hlt=>⟨hlt,fun e=>by have h9:b < w.heap.size:=hb;have:=hbw.out;have:=(hown9.lt b e).1;omega⟩)) (by rw [hnn.out];omega)
  simpa using g
 have hbz9:base ≤ (V.alloc (.cells #[.int .u64 0,.slice da nn dc] 74)).heap.size:=Nat.le_trans (by have:=hbl.out;omega) nZ9.size
 replace hgx9:Hid _:=hgx9
 replace hfx9:Hid _:=hfx9
 replace hnl9:Hid _:=hnl9
 go_wp2_with (at_builtin;refine wpList_append_sl _ rfl _ _ 71 rfl base 74 i4 _ 2 32 Try.underlying71 hj hj0 hj1 hj2 rfl (by decide) (.slice (some ⟨base,0,none⟩) 4 4) 4 _ rfl hown9 _ _ 1 _ rfl hsl9 rfl ?d1 ?d2 ?d3 ?d4 ?_)
 case d1=>intro z hz;simp at hz;rcases hz with rfl | rfl <;> rfl
 case d2=>unfold maxLen;omega
 case d3=>omega
 case d4=>exact hbz9
 intro v9 w9 hownq9 hgrow9 hat9
 have l9:LAt base w9 v9 (4 + 1) (headF t ++ [bF t.data]):=LAt.app hown9 hnl9.out hfx9.out hgx9.out rfl hownq9 hgrow9 (by rw [World.size_alloc];exact hat9)
 have F9:Fr (fun q=>base ≤ q) V w9:=Fr.grown (fr_of_nw nZ9) hgrow9 (fun q hq=>.inl (hown9.lt q hq).1)
 obtain ⟨va9,vc9,hv9⟩:=owns_form hownq9
 subst hv9
 replace hA:=(F9.block _ (heap_lt hA) (fun e=>by have:=hbw.out;omega)).trans hA
 replace ht:=ht.keep F9 (fun b hb _ e=>by have h9:b < w.heap.size:=hb;have:=hbw.out;omega) (fun b hb _=>hb)
 replace nW:Nw w w9:=Fr.trans nW F9 (fun q hq=>.inr (by have:=hbw.out;omega))
 replace hbl:Hid (base ≤ w9.heap.size):=Nat.le_trans hbl.out F9.size
 clear hown9 hnl9 hfx9 hgx9 hsl9 hbz9 hownq9 hgrow9 hat9 nZ9 F9
 replace hnn:Hid _:=hnn
 obtain ⟨y,hy,-⟩:=img_some hr.out hwf
 have hfs:flds t = headF t ++ [bF t.data]:=by have hk:=hk.out;simp [flds,partF,hk,show ¬ (4:Int) = 1 by decide]
 have hfa:=l9.at
 rw [← hfs] at hfa
 have hcp:Hid _:=c_packR (shB t.kind) w9 hfa (by rw [shB_list];exact hy) (shB_size _)
 have hsh:shB t.kind = { data:=#[56,49,98,50,98] }:=by have hk:=hk.out;simp [shB,hk]
 rw [hsh] at hcp
 replace hy:Hid (imgO t = some y):=hy
 clear hfa hsh hfs
 go_upto_region 42 with fail
 go_wp2_with (first | (go_at_call 48;refine Calls.mono hcp.out ?_;rintro e Vp ⟨u9,rfl,hi9,n9⟩;refine stop_here ?_))
 unfold Hid
 clear hcp
 have fin:Hid (ImgP t (.returned (.tuple #[u9,.int .i64 0])) Vp∧Nw w Vp):=⟨.inl ⟨hr.out,u9,y,hy.out,rfl,hi9⟩,nw_trans nW n9⟩
 clear hi9 n9
 go_wp2
 go_ret2
 exact fin.out

set_option maxRecDepth 100000 in
set_option maxHeartbeats 6400000 in
theorem c_ri3 {X:Nat→Prop} {t:Th} {uL uC uK uD:Value} (w:World) (h:ThAt X w t uL uC uK uD) (hwf:WfT t) (hr:RightT t) (l2:t.ccats.length ≤ 8796093022208) (hk:t.kind = 3) :
  Calls Try.prog 17 #[(thV t uL uC uK uD)] w fun e w'=>ImgP t e w'∧Nw w w':=by
 obtain ⟨i4,hj,hj0,hj1,hj2⟩:=info_parts3 Try.infoFd
 have bk1:(t.kind == 1) = false:=by simp [hk]
 have bk2:(t.kind == 2) = false:=by simp [hk]
 have bk3:(t.kind == 3) = true:=by simp [hk]
 have bk4:(t.kind == 4) = false:=by simp [hk]
 have bk5:(t.kind == 5) = false:=by simp [hk]
 have bk6:(t.kind == 6) = false:=by simp [hk]
 have i0:0 ≤ t.id:=by have:=hr.id.1;omega
 have i1:t.id ≤ 281474976710655:=hr.id.2
 obtain ⟨q0',q1⟩:=quota_of hr.parts
 have q0:0 ≤ t.quota:=by omega
 have k0:0 ≤ t.kind:=by omega
 have k6:t.kind ≤ 6:=by omega
 have l6:=hr.rgt.len
 clear q0'
 replace hr:Hid (RightT t):=hr
 replace hk:Hid (t.kind = 3):=hk
 obtain ⟨W,hW⟩:∃ W,Hid (W = w.alloc (.cells (thC t uL uC uK uD).toArray 34)):=⟨_,rfl⟩
 have nW:Nw w W:=by rw [hW.out];exact nw_alloc (nw_refl w) _
 have hA:W.heap[w.heap.size]? = some (.cells (thC t uL uC uK uD).toArray 34 (0,0)):=by rw [hW.out];exact heap_alloc_new w _
 have ht:=(h.mono (X':=fun b=>b < w.heap.size) (fun b _ hb=>hb)).nw nW
 clear h
 have hWl:Hid (w.heap.size < W.heap.size):=heap_lt hA
 have hcq:Hid _:=c_rtright W ht hwf (by omega) l2
 unfold AnsP at hcq
 have hrA:=range_all hA
 go_enter Try.func17,Try.ntmps17
 go_upto_region 1 with (refine wpList_box_agg rfl 34 _ rfl (thV t uL uC uK uD) _ rfl rfl ?_)
 rw [← hW.out]
 clear hW
 go_wp2_with (first | (refine wpList_load_as rfl 34 _ rfl (w.heap.size) 0 rfl (thV t uL uC uK uD) _ rfl hrA Try.rowT Try.sizeT ?_) | (go_at_call 12;refine Calls.mono hcq.out ?_;rintro e W1 ⟨r1,rfl,q,n1⟩;obtain rfl:=q.2 hr.out;refine stop_here ?_))
 unfold Hid
 clear hcq hrA q
 replace hA:=(n1.block _ (heap_lt hA) (fun h=>h)).trans hA
 replace ht:=ht.nw n1
 have nW1s:Hid (W.heap.size ≤ W1.heap.size):=n1.size
 replace nW:=nw_trans nW n1
 clear n1
 go_upto_region 4 with fail
 have hSof:∀ w',Nw W1 w'→(fun w':World=>Nw W1 w'∧w'.heap[w.heap.size]? = some (.cells (thC t uL uC uK uD).toArray 34 (0,0))) w':=fun w' hw=>⟨hw,(hw.block _ (heap_lt hA) (fun h=>h)).trans hA⟩
 have hW0:Nw W1 W1.drew:=Fr.drew (Fr.refl _ W1)
 have hS:=hSof _ hW0
 replace ht:=ht.nw hW0
 replace hSof:Hid _:=hSof
 refine wp_region_ord [] 15 [(0,true),(3,true),(7,true),(11,true),(1,true),(4,true),(8,true),(12,true),(2,true),(5,true),(13,true),(6,true),(14,true),(9,false),(10,true)] (fun w':World=>Nw W1 w'∧w'.heap[w.heap.size]? = some (.cells (thC t uL uC uK uD).toArray 34 (0,0))) (by kernel_rfl) (by kernel_rfl) ?_
 refine ord_quietL _ ?_ rfl hS rfl ?_ ?_
 rotate_left
 ·rintro w' ⟨hn,rhA⟩;go_simp;rfl
 simp only [pL,List.set]
 refine ord_quietL _ ?_ rfl hS rfl ?_ ?_
 rotate_left
 ·rintro w' ⟨hn,rhA⟩;go_simp;rfl
 simp only [pL,List.set]
 refine ord_quietL _ ?_ rfl hS rfl ?_ ?_
 rotate_left
 ·rintro w' ⟨hn,rhA⟩;go_simp;rfl
 simp only [pL,List.set]
 refine ord_quietL _ ?_ rfl hS rfl ?_ ?_
 rotate_left
 ·rintro w' ⟨hn,rhA⟩;go_simp;rfl
 simp only [pL,List.set]
 refine ord_quietL _ ?_ rfl hS rfl ?_ ?_
 rotate_left
 ·rintro w' ⟨hn,rhA⟩;have g0:w'.cell? ⟨w.heap.size,0,none⟩ = some (.int .u64 t.id):=cell_blk rhA rfl;go_simp;rfl
 simp only [pL,List.set]
 refine ord_quietL _ ?_ rfl hS rfl ?_ ?_
 rotate_left
 ·rintro w' ⟨hn,rhA⟩;have g0:w'.cell? ⟨w.heap.size,1,none⟩ = some (.int .i64 t.kind):=cell_blk rhA rfl;go_simp;rfl
 simp only [pL,List.set]
 refine ord_quietL _ ?_ rfl hS rfl ?_ ?_
 rotate_left
 ·rintro w' ⟨hn,rhA⟩;have g0:w'.cell? ⟨w.heap.size,2,none⟩ = some (.int .i64 t.df):=cell_blk rhA rfl;have g1:w'.cell? ⟨w.heap.size,3,none⟩ = some (uL):=cell_blk rhA rfl;go_simp;rfl
 simp only [pL,List.set]
 refine ord_quietL _ ?_ rfl hS rfl ?_ ?_
 rotate_left
 ·rintro w' ⟨hn,rhA⟩;have g0:w'.cell? ⟨w.heap.size,6,none⟩ = some (.int .i64 t.quota):=cell_blk rhA rfl;go_simp;rfl
 simp only [pL,List.set]
 refine ord_quietL _ ?_ rfl hS rfl ?_ ?_
 rotate_left
 ·rintro w' ⟨hn,rhA⟩;go_simp;rfl
 simp only [pL,List.set]
 refine ord_quietL _ ?_ rfl hS rfl ?_ ?_
 rotate_left
 ·rintro w' ⟨hn,rhA⟩;have hc:=cvu (x:=t.kind) (by omega) (by omega) w';go_simp;rfl
 simp only [pL,List.set]
 refine ord_quietL _ ?_ rfl hS rfl ?_ ?_
 rotate_left
 ·rintro w' ⟨hn,rhA⟩;have hc:=cvu (x:=t.quota) (by omega) (by omega) w';go_simp;rfl
 simp only [pL,List.set]
 refine ord_quietL _ ?_ rfl hS rfl ?_ ?_
 rotate_left
 ·rintro w' ⟨hn,rhA⟩;go_simp;rfl
 simp only [pL,List.set]
 refine ord_quietL _ ?_ rfl hS rfl ?_ ?_
 rotate_left
 ·rintro w' ⟨hn,rhA⟩;go_simp;rfl
 simp only [pL,List.set]
 refine ord_actL _ rfl (fun K1 hK1=>?_)
 have hcon:Hid _:=c_rtext W1.drew ht.l hr.out.rgt
 unfold labV at hcon
 go_wp2_with (go_at_call 46;refine Calls.mono hcon.out ?_;rintro e wk0 ⟨u,rfl,hu,qn⟩)
 have m0:=nw_trans hW0 qn
 replace ht:=ht.nw qn
 obtain ⟨ua,uc,hu0,-⟩:=hu.form
 subst hu0
 generalize hun:(labB t.df t.cats).length = un at *
 replace hun:Hid _:=hun
 refine hK1 _ _ (hSof.out _ m0) ?_
 clear hK1 K1 hcon qn hS hW0
 have hS:=hSof.out _ m0
 refine ord_quietL _ ?_ rfl hS rfl ?_ ?_
 rotate_left
 ·rintro w' ⟨hn,rhA⟩;go_simp;rfl
 simp only [pL,List.set]
 refine ord_tail ?_
 simp only [List.drop_succ_cons,List.drop_zero]
 obtain ⟨V,hV⟩:∃ V,Hid (V = wk0.alloc (.cells #[.int .u64 t.id,.slice none 0 0,.int .u64 t.kind,.slice none 0 0,.int .u64 0,.slice ua un uc,.int .u64 t.quota,.slice none 0 0] 74)):=⟨_,rfl⟩
 have nV0:Nw wk0 V:=by rw [hV.out];exact nw_alloc (nw_refl _) _
 have hla:LAt wk0.heap.size V (.slice (some ⟨wk0.heap.size,0,none⟩) 4 4) 4 (headF t):=by
  refine ⟨[.int .u64 t.id,.slice none 0 0,.int .u64 t.kind,.slice none 0 0,.int .u64 0,.slice ua un uc,.int .u64 t.quota,.slice none 0 0],⟨rfl,.inr ⟨wk0.heap.size,4,_,rfl,Nat.le_refl _,by rw [hV.out];exact heap_alloc_new wk0 _,Nat.le_refl _,by decide,rfl,by simp⟩⟩,rfl,?_⟩
  have hub:BSl (fun b=>b < V.heap.size∧(Value.slice (some ⟨wk0.heap.size,0,none⟩) 4 4).ownBlock ≠ some b) V (.slice ua un uc) (labB t.df t.cats):=hu.keep nV0 (fun _ _ _ h=>h) (fun b hb hlt=>⟨by have:=nV0.size;omega,fun e=>by simp [Value.ownBlock] at e;omega⟩)
  have g:=fldx_num (fldx_bytes (fldx_num (fldx_num (fldx_zero (fun b=>b < V.heap.size∧(Value.slice (some ⟨wk0.heap.size,0,none⟩) 4 4).ownBlock ≠ some b) V) t.id i0 (by omega)) t.kind k0 (by omega)) ua un uc (labB t.df t.cats) hub (by rw [labB_length];omega)) t.quota q0 (by omega)
  simpa [headF] using g
 have nV:Nw W1 V:=nw_trans m0 nV0
 replace hA:=(nV.block _ (heap_lt hA) (fun h=>h)).trans hA
 replace ht:=ht.nw nV0
 replace nW:=nw_trans nW nV
 have hbs:W.heap.size ≤ wk0.heap.size:=Nat.le_trans nW1s.out m0.size
 have hbw:Hid (w.heap.size < wk0.heap.size):=by have:=hWl.out;unfold Hid;omega
 have hbl:Hid (wk0.heap.size ≤ V.heap.size):=nV0.size
 clear hbs
 clear hSof hS hu nV0
 go_upto_region 5 with fail
 first | rw [← hV.out] | skip
 clear hV
 clear nV m0
 generalize wk0.heap.size = base at *
 have a1:V.cell? ⟨w.heap.size,1,none⟩ = some (.int .i64 t.kind):=cell_blk hA rfl
 have lcc:=len_cc hr.out
 go_upto_region 31 with fail
 clear a1
 have hSof:∀ w',Nw V w'→(fun w':World=>Nw V w'∧w'.heap[w.heap.size]? = some (.cells (thC t uL uC uK uD).toArray 34 (0,0))) w':=fun w' hw=>⟨hw,(hw.block _ (heap_lt hA) (fun h=>h)).trans hA⟩
 have hW0:Nw V V.drew:=Fr.drew (Fr.refl _ V)
 have hS:=hSof _ hW0
 replace ht:=ht.nw hW0
 replace hSof:Hid _:=hSof
 refine wp_region_ord [] 9 [(0,true),(1,true),(5,true),(2,true),(6,true),(7,true),(3,false),(4,true),(8,false)] (fun w':World=>Nw V w'∧w'.heap[w.heap.size]? = some (.cells (thC t uL uC uK uD).toArray 34 (0,0))) (by kernel_rfl) (by kernel_rfl) ?_
 refine ord_quietL _ ?_ rfl hS rfl ?_ ?_
 rotate_left
 ·rintro w' ⟨hn,rhA⟩;go_simp;rfl
 simp only [pL,List.set]
 refine ord_quietL _ ?_ rfl hS rfl ?_ ?_
 rotate_left
 ·rintro w' ⟨hn,rhA⟩;go_simp;rfl
 simp only [pL,List.set]
 refine ord_quietL _ ?_ rfl hS rfl ?_ ?_
 rotate_left
 ·rintro w' ⟨hn,rhA⟩;go_simp;rfl
 simp only [pL,List.set]
 refine ord_quietL _ ?_ rfl hS rfl ?_ ?_
 rotate_left
 ·rintro w' ⟨hn,rhA⟩;have g0:w'.cell? ⟨w.heap.size,4,none⟩ = some (.int .i64 t.cdf):=cell_blk rhA rfl;have g1:w'.cell? ⟨w.heap.size,5,none⟩ = some (uC):=cell_blk rhA rfl;go_simp;rfl
 simp only [pL,List.set]
 refine ord_quietL _ ?_ rfl hS rfl ?_ ?_
 rotate_left
 ·rintro w' ⟨hn,rhA⟩;have g0:w'.cell? ⟨w.heap.size,17,none⟩ = some (.int .u64 t.value):=cell_blk rhA rfl;go_simp;rfl
 simp only [pL,List.set]
 refine ord_quietL _ ?_ rfl hS rfl ?_ ?_
 rotate_left
 ·rintro w' ⟨hn,rhA⟩;go_simp;rfl
 simp only [pL,List.set]
 refine ord_actL _ rfl (fun K1 hK1=>?_)
 have hcon:Hid _:=c_rtext V.drew ht.c ((kd3 hk.out).1 hr.out.parts).rgt
 unfold labV at hcon
 go_wp2_with (go_at_call 46;refine Calls.mono hcon.out ?_;rintro e wk0 ⟨u,rfl,hu,qn⟩)
 have m0:=nw_trans hW0 qn
 replace ht:=ht.nw qn
 obtain ⟨ca,cc,hu0,-⟩:=hu.form
 subst hu0
 generalize hcn:(labB t.cdf t.ccats).length = cn at *
 replace hcn:Hid _:=hcn
 have m0k:Hid (Nw V wk0):=m0
 refine hK1 _ _ (hSof.out _ m0) ?_
 clear hK1 K1 hcon qn hS hW0
 have hS:=hSof.out _ m0
 refine ord_quietL _ ?_ rfl hS rfl ?_ ?_
 rotate_left
 ·rintro w' ⟨hn,rhA⟩;go_simp;rfl
 simp only [pL,List.set]
 refine ord_actL _ rfl (fun K1 hK1=>?_)
 go_wp2
 have nB:=nw_alloc m0 (.cells #[.int .u64 0,.slice ca cn cc,.int .u64 t.value,.slice none 0 0] 74)
 have lV:Hid (V.heap.size ≤ wk0.heap.size):=m0.size
 refine hK1 _ _ (hSof.out _ nB) ?_
 clear hK1 K1 hS
 have hS:=hSof.out _ nB
 refine ord_tail ?_
 simp only [List.drop_succ_cons,List.drop_zero]
 have hlw:LAt base wk0 (.slice (some ⟨base,0,none⟩) 4 4) 4 (headF t):=hla.nw m0k.out
 clear hS hSof nB
 replace hA:=(m0k.out.block _ (heap_lt hA) (fun h=>h)).trans hA
 replace nW:=nw_trans nW m0k.out
 replace hbl:Hid (base ≤ wk0.heap.size):=Nat.le_trans hbl.out m0k.out.size
 have hu9:=hu
 obtain ⟨_,hown0,_,_⟩:=hla
 have nZ9:Nw wk0 (wk0.alloc (.cells #[.int .u64 0,.slice ca cn cc,.int .u64 t.value,.slice none 0 0] 74)):=nw_alloc (nw_refl _) _
 obtain ⟨cs9,hown9,hnl9,hfx9⟩:=hlw.nw nZ9
 have hsl9:Sl (wk0.alloc (.cells #[.int .u64 0,.slice ca cn cc,.int .u64 t.value,.slice none 0 0] 74)).heap.size (wk0.alloc (.cells #[.int .u64 0,.slice ca cn cc,.int .u64 t.value,.slice none 0 0] 74)) (.slice (some ⟨wk0.heap.size,0,none⟩) 2 2) 2 [.int .u64 0,.slice ca cn cc,.int .u64 t.value,.slice none 0 0]:=sl_litF (w:=wk0) (heap_alloc_new wk0 _) (by omega)
 have hgx9:FldX (fun b=>b < (wk0.alloc (.cells #[.int .u64 0,.slice ca cn cc,.int .u64 t.value,.slice none 0 0] 74)).heap.size∧((.slice (some ⟨base,0,none⟩) 4 4):Value).ownBlock ≠ some b) (wk0.alloc (.cells #[.int .u64 0,.slice ca cn cc,.int .u64 t.value,.slice none 0 0] 74)) [bF (labB t.cdf t.ccats),nF t.value] [.int .u64 0,.slice ca cn cc,.int .u64 t.value,.slice none 0 0]:=by
  have g:=fldx_num (fldx_bytes (fldx_zero (fun b=>b < (wk0.alloc (.cells #[.int .u64 0,.slice ca cn cc,.int .u64 t.value,.slice none 0 0] 74)).heap.size∧((.slice (some ⟨base,0,none⟩) 4 4):Value).ownBlock ≠ some b) (wk0.alloc (.cells #[.int .u64 0,.slice ca cn cc,.int .u64 t.value,.slice none 0 0] 74))) ca cn cc (labB t.cdf t.ccats) ((hu9.nw nZ9).mono (fun b hb hlt=>⟨hlt,fun e=>by have h9:V.heap.size ≤ b:=hb;have:=(hown0.lt b e).2;omega⟩)) (by rw [labB_length];omega)) t.value hwf.value.1 hwf.value.2
  simpa using g
 have hbz9:base ≤ (wk0.alloc (.cells #[.int .u64 0,.slice ca cn cc,.int .u64 t.value,.slice none 0 0] 74)).heap.size:=Nat.le_trans (by have:=hbl.out;omega) nZ9.size
 replace hgx9:Hid _:=hgx9
 replace hfx9:Hid _:=hfx9
 replace hnl9:Hid _:=hnl9
 go_wp2_with (at_builtin;refine wpList_append_sl _ rfl _ _ 71 rfl base 74 i4 _ 2 32 Try.underlying71 hj hj0 hj1 hj2 rfl (by decide) (.slice (some ⟨base,0,none⟩) 4 4) 4 _ rfl hown9 _ _ 2 _ rfl hsl9 rfl ?d1 ?d2 ?d3 ?d4 ?_)
 case d1=>intro z hz;simp at hz;rcases hz with rfl | rfl | rfl | rfl <;> rfl
 case d2=>unfold maxLen;omega
 case d3=>omega
 case d4=>exact hbz9
 intro v9 w9 hownq9 hgrow9 hat9
 have l9:LAt base w9 v9 (4 + 2) (headF t ++ [bF (labB t.cdf t.ccats),nF t.value]):=LAt.app hown9 hnl9.out hfx9.out hgx9.out rfl hownq9 hgrow9 (by rw [World.size_alloc];exact hat9)
 have F9:Fr (fun q=>base ≤ q) wk0 w9:=Fr.grown (fr_of_nw nZ9) hgrow9 (fun q hq=>.inl (hown9.lt q hq).1)
 obtain ⟨va9,vc9,hv9⟩:=owns_form hownq9
 subst hv9
 replace hA:=(F9.block _ (heap_lt hA) (fun e=>by have:=hbw.out;omega)).trans hA
 replace ht:=ht.keep F9 (fun b hb _ e=>by have h9:b < w.heap.size:=hb;have:=hbw.out;omega) (fun b hb _=>hb)
 replace nW:Nw w w9:=Fr.trans nW F9 (fun q hq=>.inr (by have:=hbw.out;omega))
 replace hbl:Hid (base ≤ w9.heap.size):=Nat.le_trans hbl.out F9.size
 clear hown9 hnl9 hfx9 hgx9 hsl9 hbz9 hownq9 hgrow9 hat9 nZ9 F9
 obtain ⟨y,hy,-⟩:=img_some hr.out hwf
 have hfs:flds t = headF t ++ [bF (labB t.cdf t.ccats),nF t.value]:=by have hk:=hk.out;simp [flds,partF,hk,show ¬ (3:Int) = 1 by decide]
 have hfa:=l9.at
 rw [← hfs] at hfa
 have hcp:Hid _:=c_packR (shB t.kind) w9 hfa (by rw [shB_list];exact hy) (shB_size _)
 have hsh:shB t.kind = { data:=#[56,49,98,50,98,56] }:=by have hk:=hk.out;simp [shB,hk]
 rw [hsh] at hcp
 replace hy:Hid (imgO t = some y):=hy
 clear hfa hsh hfs
 go_upto_region 42 with fail
 go_wp2_with (first | (go_at_call 48;refine Calls.mono hcp.out ?_;rintro e Vp ⟨u9,rfl,hi9,n9⟩;refine stop_here ?_))
 unfold Hid
 clear hcp
 have fin:Hid (ImgP t (.returned (.tuple #[u9,.int .i64 0])) Vp∧Nw w Vp):=⟨.inl ⟨hr.out,u9,y,hy.out,rfl,hi9⟩,nw_trans nW n9⟩
 clear hi9 n9
 go_wp2
 go_ret2
 exact fin.out

end Go.Proofs.Ytghlilncdfiojaa
