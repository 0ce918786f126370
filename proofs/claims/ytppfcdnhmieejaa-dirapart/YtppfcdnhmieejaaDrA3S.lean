/-
  A directory without links; which directories can be; the chapter's example.
-/
import Derived.Test.YtppfcdnhmieejaaDrR2S
import Derived.Test.YtppfcdnhmieejaaThX7S
namespace Go.Proofs.Ytppfcdnhmieejaa
set_option linter.unusedVariables false
set_option linter.unusedSimpArgs false
set_option maxRecDepth 20000
open Go.RowKit

def smallT (id q : Int) : Th := { zeroT with id := id, kind := 1, df := 2, quota := q }

theorem small_dir {id q n : Int} (h1 : idOk id) (h2 : btw 1 q 48) (h3 : btw 0 n 63) : DirT { smallT id q with next := n } := by
  refine ⟨rfl, h1, ?_, .inr (.inr ⟨by show (2 : Int) ≠ 0; decide, fun i h => by simp [smallT, zeroT] at h⟩), rfl, .inl ⟨rfl, h3, h2, Nat.zero_le _, ⟨fun i h => by simp [smallT, zeroT] at h, fun i h => by simp [smallT, zeroT] at h⟩, ?_⟩⟩
  · exact ⟨by show (1 : Int) ≤ 2; decide, by show (2 : Int) ≤ 4; decide, by show 0 ≤ 6; decide, ⟨List.Pairwise.nil, fun c hc => (List.not_mem_nil hc).elim⟩, fun i h => (Nat.not_lt_zero i h).elim⟩
  · show 1 + sumL [] ≤ q
    unfold btw at h2
    simp [sumL]
    omega

theorem small_right {id q n : Int} (h : DirT { smallT id q with next := n }) : idOk id ∧ btw 1 q 48 ∧ btw 0 n 63 := ⟨h.right.id, h.ok.quota, h.ok.next⟩
theorem small_at (X : Nat → Prop) (w : World) (id q : Int) : ThAt X w (smallT id q) (.slice none 0 0) (.slice none 0 0) (.slice none 0 0) (.slice none 0 0) := ⟨csl_nil _ _, csl_nil _ _, csl_nil _ _, bsl_nil _ _⟩
theorem z64 : (0 : Int) ≤ 0 ∧ (0 : Int) < 18446744073709551616 := by decide
theorem small_wf {id q n : Int} : WfT { smallT id q with next := n } := ⟨z64, z64, z64, z64, z64⟩
theorem dir_wf {t : Th} (h : DirT t) : WfT t := by
  have hb := h.bare
  have e0 : t.r0 = 0 := by rw [hb]; rfl
  have e1 : t.r1 = 0 := by rw [hb]; rfl
  have e2 : t.r2 = 0 := by rw [hb]; rfl
  have e3 : t.r3 = 0 := by rw [hb]; rfl
  have e4 : t.value = 0 := by rw [hb]; rfl
  refine ⟨?_, ?_, ?_, ?_, ?_⟩
  · rw [e0]; decide
  · rw [e1]; decide
  · rw [e2]; decide
  · rw [e3]; decide
  · rw [e4]; decide

def exT : Th := { smallT 1 4 with next := 1, links := [(65, 3)] }
theorem ex_dir0 : DirT (smallT 1 4) := small_dir (n := 0) ⟨by decide, by decide⟩ ⟨by decide, by decide⟩ ⟨by decide, by decide⟩
theorem ex_born : bornT (smallT 1 4) 3 = (exT, 65, 0) := rfl
theorem ex_dir : DirT exT := by
  have := (born_right (q := 3) ex_dir0 rfl).1
  exact this
theorem ex_born2 : bornT exT 1 = (exT, 0, 121) := rfl
theorem ex_used : usedL exT.links = 4 := rfl
theorem ex_has : hasB exT.links 65 = true := rfl

set_option maxRecDepth 100000 in
set_option maxHeartbeats 3200000 in
theorem c_small (id q : Int) (w : World) : Calls Try.prog 25 #[.int .u64 id, .int .i64 q] w fun e w' => e = .returned (thV (smallT id q) (.slice none 0 0) (.slice none 0 0) (.slice none 0 0) (.slice none 0 0)) ∧ Nw w w' := by
  obtain ⟨W, hW⟩ : ∃ W, Hid (W = w.alloc (.cells (thC zeroT (.slice none 0 0) (.slice none 0 0) (.slice none 0 0) (.slice none 0 0)).toArray 34)) := ⟨_, rfl⟩
  have nW : Nw w W := by rw [hW.out]; exact nw_alloc (nw_refl w) _
  have hB0 : W.heap[w.heap.size]? = some (.cells (thC zeroT (.slice none 0 0) (.slice none 0 0) (.slice none 0 0) (.slice none 0 0)).toArray 34 (0, 0)) := by rw [hW.out]; exact heap_alloc_new w _
  go_enter Try.func25, Try.ntmps25
  go_upto_region 1 with ((refine wpList_alloc_agg rfl 34 rfl _ Try.zeroTh ?_; rw [← hW.out]))
  clear hW
  refine wp_region_list ?_
  simp only [List.toList_toArray, List.append_eq, List.cons_append, List.nil_append]
  refine nd_quiet ?_ rfl ?_ ?_
  rotate_left
  · go_simp; rfl
  simp only [Act.put, List.setIfInBounds_toArray, List.set_cons_zero, List.set_cons_succ]
  refine wpList_build_as rfl 26 _ rfl (.agg #[.int .i64 2, .slice none 0 0]) #[.int .i64 2, .slice none 0 0] rfl ?z0 ?_
  case z0 =>
    simp only [List.map_cons, List.map_nil, Act.eval]
    kernel_rfl
  simp only [Act.put, List.setIfInBounds_toArray, List.set_cons_zero, List.set_cons_succ]
  refine nd_quiet ?_ rfl ?_ ?_
  rotate_left
  · go_simp; rfl
  simp only [Act.put, List.setIfInBounds_toArray, List.set_cons_zero, List.set_cons_succ]
  refine wpList_build_as rfl 34 _ rfl (thV (smallT id q) (.slice none 0 0) (.slice none 0 0) (.slice none 0 0) (.slice none 0 0)) (thC (smallT id q) (.slice none 0 0) (.slice none 0 0) (.slice none 0 0) (.slice none 0 0)).toArray rfl ?z ?_
  case z =>
    simp only [List.map_cons, List.map_nil, Act.eval]
    exact builtTh (smallT id q) _ _ _ _ rfl
  simp only [Act.put, List.setIfInBounds_toArray, List.set_cons_zero, List.set_cons_succ]
  obtain ⟨W1, hV⟩ : ∃ V, Hid (V = W.setRow (w.heap.size) (thC (smallT id q) (.slice none 0 0) (.slice none 0 0) (.slice none 0 0) (.slice none 0 0)).toArray) := ⟨_, rfl⟩
  have fV : Fr (fun k => k = w.heap.size) W W1 := by rw [hV.out]; exact (Fr.refl (fun k => k = w.heap.size) W).setRow (.inl rfl) _
  have hnew : W1.heap[w.heap.size]? = some (.cells (thC (smallT id q) (.slice none 0 0) (.slice none 0 0) (.slice none 0 0) (.slice none 0 0)).toArray 34 (0, 0)) := by rw [hV.out]; exact setRow_heap _ _ _ _ _ _ hB0
  refine wpList_store_all rfl 34 _ _ rfl (w.heap.size) rfl (thV (smallT id q) (.slice none 0 0) (.slice none 0 0) (.slice none 0 0) (.slice none 0 0)) rfl (thC (smallT id q) (.slice none 0 0) (.slice none 0 0) (.slice none 0 0) (.slice none 0 0)) rfl (thC zeroT (.slice none 0 0) (.slice none 0 0) (.slice none 0 0) (.slice none 0 0)) 34 hB0 rfl (th_one _ _ _ _ _ rfl rfl rfl rfl) Try.sizeT ?_
  rw [← hV.out]
  clear hV
  replace hB0 := hnew
  clear hnew
  replace nW : Nw w W1 := Fr.trans nW fV (fun k hk => .inr (by omega))
  go_wp2
  refine bodyPost_ret (results_cell1 rfl _ (w.heap.size) _ (thV (smallT id q) (.slice none 0 0) (.slice none 0 0) (.slice none 0 0) (.slice none 0 0)) rfl rfl (range_all hB0) Try.rowT Try.sizeT) rfl ?_
  exact ⟨rfl, nW⟩

set_option maxRecDepth 100000 in
set_option maxHeartbeats 3200000 in
theorem c_directory {X : Nat → Prop} {t : Th} {uL uC uK uD : Value} (w : World) (h : ThAt X w t uL uC uK uD) (hwf : WfT t) (l1 : t.cats.length ≤ 8796093022208) (l2 : t.ccats.length ≤ 8796093022208) :
    Calls Try.prog 10 #[thV t uL uC uK uD] w (AnsP (DirT t) w) := by
  obtain ⟨W, hW⟩ : ∃ W, Hid (W = w.alloc (.cells (thC t uL uC uK uD).toArray 34)) := ⟨_, rfl⟩
  have nW : Nw w W := by rw [hW.out]; exact nw_alloc (nw_refl w) _
  have hB0 : W.heap[w.heap.size]? = some (.cells (thC t uL uC uK uD).toArray 34 (0, 0)) := by rw [hW.out]; exact heap_alloc_new w _
  have ht := h.nw nW
  clear h
  have a1 : W.cell? ⟨w.heap.size, 1, none⟩ = some (.int .i64 t.kind) := cell_blk hB0 rfl
  by_cases hk : t.kind = 1
  · have hb : (t.kind == 1) = true := by simp [hk]
    have hfin : Hid (∀ r : Bool, (r = true ↔ RightT t) → (r = true ↔ DirT t)) := fun r h => ⟨fun h1 => ⟨hk, h.1 h1⟩, fun h1 => h.2 h1.right⟩
    clear hk
    go_enter Try.func10, Try.ntmps10
    go_upto_region 1 with ((refine wpList_box_agg rfl 34 _ rfl (thV t uL uC uK uD) _ rfl rfl ?_))
    rw [← hW.out]
    clear hW
    have hcon : Hid _ := c_rtright W ht hwf l1 l2
    unfold AnsP at hcon
    have hr0 := range_all hB0
    go_wp2_with (first | (refine wpList_load_as rfl 34 _ rfl (w.heap.size) 0 rfl (thV t uL uC uK uD) _ rfl hr0 Try.rowT Try.sizeT ?_) | (go_at_call 26; refine Calls.mono hcon.out ?_; rintro e W1 ⟨r, rfl, hr, n1⟩; refine stop_here ?_))
    unfold Hid
    clear hcon hr0 a1
    replace hB0 := (n1.block _ (heap_lt hB0) (fun h => h)).trans hB0
    replace ht := ht.nw n1
    replace nW := nw_trans nW n1
    have hr2 := hfin.out r hr
    replace hr2 : Hid _ := hr2
    clear hr hfin hB0 ht
    go_wp2
    go_ret
    exact ⟨r, rfl, hr2.out, nW⟩
  · have hb : (t.kind == 1) = false := by simp [hk]
    have hno : Hid (¬ DirT t) := fun h => hk h.kind
    clear hk
    go_enter Try.func10, Try.ntmps10
    go_upto_region 1 with ((refine wpList_box_agg rfl 34 _ rfl (thV t uL uC uK uD) _ rfl rfl ?_))
    rw [← hW.out]
    clear hW
    clear ht hB0
    go_wp2
    go_ret
    exact ans_no hno.out nW

set_option maxRecDepth 100000 in
set_option maxHeartbeats 6400000 in
theorem c_alive (w : World) : Calls Try.prog 9 #[] w fun e w' => e = .returned (.bool true) ∧ Nw w w' := by
  have nW : Nw w w := nw_refl w
  go_enter Try.func9, Try.ntmps9
  have hcon : Hid _ := c_small 1 4 w
  go_wp2_with ((go_at_call 25; refine Calls.mono hcon.out ?_; rintro e W1 ⟨rfl, n1⟩; refine stop_here ?_))
  unfold Hid
  clear hcon
  replace nW := nw_trans nW n1
  have hq1 : Hid _ := c_born 3 W1 (small_at (fun _ => False) W1 1 4) ex_dir0 (by decide) (by decide)
  rw [ex_born] at hq1
  have hcon : Hid _ := hq1.out
  unfold BoP at hcon
  go_wp2_with ((go_at_call 20; refine Calls.mono hcon.out ?_; rintro e W2 ⟨u1, u2, u3, u4, rfl, hc, n2⟩; refine stop_here ?_))
  unfold Hid
  clear hcon  hq1
  replace nW := nw_trans nW n2
  have hws := nW.size
  obtain ⟨Y1, hY⟩ : ∃ Y, Hid (Y = W2.alloc (.cells (thC zeroT (.slice none 0 0) (.slice none 0 0) (.slice none 0 0) (.slice none 0 0)).toArray 34)) := ⟨_, rfl⟩
  have nY : Nw W2 Y1 := by rw [hY.out]; exact nw_alloc (nw_refl _) _
  have hV1 : Y1.heap[W2.heap.size]? = some (.cells (thC zeroT (.slice none 0 0) (.slice none 0 0) (.slice none 0 0) (.slice none 0 0)).toArray 34 (0, 0)) := by rw [hY.out]; exact heap_alloc_new _ _
  go_wp2_with (refine wpList_alloc_agg rfl 34 rfl _ Try.zeroTh ?_; rw [← hY.out]; refine stop_here ?_)
  unfold Hid
  clear hY
  replace hc := (hc.mono (X' := fun b => b < W2.heap.size) (fun b _ hb => hb)).nw nY
  replace nW := nw_trans nW nY
  have hnl : w.heap.size ≤ W2.heap.size := hws
  clear nY
  generalize W2.heap.size = A1 at *
  obtain ⟨W3, hV⟩ : ∃ V, Hid (V = Y1.setRow (A1) (thC exT u1 u2 u3 u4).toArray) := ⟨_, rfl⟩
  have fV : Fr (fun k => k = A1) Y1 W3 := by rw [hV.out]; exact (Fr.refl (fun k => k = A1) Y1).setRow (.inl rfl) _
  have hnew : W3.heap[A1]? = some (.cells (thC exT u1 u2 u3 u4).toArray 34 (0, 0)) := by rw [hV.out]; exact setRow_heap _ _ _ _ _ _ hV1
  refine wpList_store_all rfl 34 _ _ rfl (A1) rfl (thV exT u1 u2 u3 u4) rfl (thC exT u1 u2 u3 u4) rfl (thC zeroT (.slice none 0 0) (.slice none 0 0) (.slice none 0 0) (.slice none 0 0)) 34 hV1 rfl (hc.one) Try.sizeT ?_
  rw [← hV.out]
  clear hV
  replace hV1 := hnew
  clear hnew
  replace hc := hc.keep (X' := fun b => b < A1) fV (fun b hb _ e => by have hb2 : b < A1 := hb; have e2 : b = A1 := e; omega) (fun b hb _ => hb)
  replace nW : Nw w W3 := Fr.trans nW fV (fun k hk => .inr (by have hk2 : k = A1 := hk; omega))
  clear fV hnl 
  clear hws
  go_upto_region 2 with fail
  have hq1 : Hid _ := c_born 1 W3 hc ex_dir (by decide) (by decide)
  rw [ex_born2] at hq1
  have hcon : Hid _ := hq1.out
  unfold BoP at hcon
  have hr0 := range_all hV1
  go_wp2_with (first | (refine wpList_load_as rfl 34 _ rfl (A1) 0 rfl (thV exT u1 u2 u3 u4) _ rfl hr0 Try.rowT Try.sizeT ?_) | (go_at_call 20; refine Calls.mono hcon.out ?_; rintro e W4 ⟨v1, v2, v3, v4, rfl, hd, n4⟩; refine stop_here ?_))
  unfold Hid
  clear hcon hr0 hq1
  replace hV1 := (n4.block _ (heap_lt hV1) (fun h => h)).trans hV1
  replace hc := hc.nw n4
  replace nW := nw_trans nW n4
  have hws := nW.size
  obtain ⟨Y2, hY⟩ : ∃ Y, Hid (Y = W4.alloc (.cells (thC zeroT (.slice none 0 0) (.slice none 0 0) (.slice none 0 0) (.slice none 0 0)).toArray 34)) := ⟨_, rfl⟩
  have nY : Nw W4 Y2 := by rw [hY.out]; exact nw_alloc (nw_refl _) _
  have hV2 : Y2.heap[W4.heap.size]? = some (.cells (thC zeroT (.slice none 0 0) (.slice none 0 0) (.slice none 0 0) (.slice none 0 0)).toArray 34 (0, 0)) := by rw [hY.out]; exact heap_alloc_new _ _
  go_wp2_with (refine wpList_alloc_agg rfl 34 rfl _ Try.zeroTh ?_; rw [← hY.out]; refine stop_here ?_)
  unfold Hid
  clear hY
  replace hd := (hd.mono (X' := fun b => b < W4.heap.size) (fun b _ hb => hb)).nw nY
  have hlhV1 := heap_lt hV1
  replace hV1 := (nY.block _ (heap_lt hV1) (fun h => h)).trans hV1
  replace hc := (hc.mono (X' := fun b => b < W4.heap.size) (fun b _ hb => hb)).nw nY
  replace nW := nw_trans nW nY
  have hnl : w.heap.size ≤ W4.heap.size := hws
  clear nY
  generalize W4.heap.size = A2 at *
  obtain ⟨W5, hV⟩ : ∃ V, Hid (V = Y2.setRow (A2) (thC exT v1 v2 v3 v4).toArray) := ⟨_, rfl⟩
  have fV : Fr (fun k => k = A2) Y2 W5 := by rw [hV.out]; exact (Fr.refl (fun k => k = A2) Y2).setRow (.inl rfl) _
  have hnew : W5.heap[A2]? = some (.cells (thC exT v1 v2 v3 v4).toArray 34 (0, 0)) := by rw [hV.out]; exact setRow_heap _ _ _ _ _ _ hV2
  refine wpList_store_all rfl 34 _ _ rfl (A2) rfl (thV exT v1 v2 v3 v4) rfl (thC exT v1 v2 v3 v4) rfl (thC zeroT (.slice none 0 0) (.slice none 0 0) (.slice none 0 0) (.slice none 0 0)) 34 hV2 rfl (hd.one) Try.sizeT ?_
  rw [← hV.out]
  clear hV
  replace hV1 := (fV.block _ (heap_lt hV1) (by show ¬ _ = _; omega)).trans hV1
  replace hV2 := hnew
  clear hnew
  replace hc := hc.keep (X' := fun b => b < A2) fV (fun b hb _ e => by have hb2 : b < A2 := hb; have e2 : b = A2 := e; omega) (fun b hb _ => hb)
  replace hd := hd.keep (X' := fun b => b < A2) fV (fun b hb _ e => by have hb2 : b < A2 := hb; have e2 : b = A2 := e; omega) (fun b hb _ => hb)
  replace nW : Nw w W5 := Fr.trans nW fV (fun k hk => .inr (by have hk2 : k = A2 := hk; omega))
  clear fV hnl hlhV1
  clear hws hd
  go_upto_region 3 with fail
  have hq1 : Hid _ := c_used W5 hc ex_dir.ok.lk (by decide)
  rw [ex_used] at hq1
  have hcon : Hid _ := hq1.out
  have hr0 := range_all hV1
  go_wp2_with (first | (refine wpList_load_as rfl 34 _ rfl (A1) 0 rfl (thV exT u1 u2 u3 u4) _ rfl hr0 Try.rowT Try.sizeT ?_) | (go_at_call 13; refine Calls.mono hcon.out ?_; rintro e W6 ⟨rfl, n6⟩; refine stop_here ?_))
  unfold Hid
  clear hcon hr0 hq1
  replace hV1 := (n6.block _ (heap_lt hV1) (fun h => h)).trans hV1
  replace hV2 := (n6.block _ (heap_lt hV2) (fun h => h)).trans hV2
  replace hc := hc.nw n6
  replace nW := nw_trans nW n6
  have hq1 : Hid _ := c_has 65 W6 hc ex_dir.ok.lk (by decide)
  rw [ex_has] at hq1
  have hcon : Hid _ := hq1.out
  have hr0 := range_all hV1
  go_wp2_with (first | (refine wpList_load_as rfl 34 _ rfl (A1) 0 rfl (thV exT u1 u2 u3 u4) _ rfl hr0 Try.rowT Try.sizeT ?_) | (go_at_call 15; refine Calls.mono hcon.out ?_; rintro e W7 ⟨rfl, n7⟩; refine stop_here ?_))
  unfold Hid
  clear hcon hr0 hq1
  replace hV1 := (n7.block _ (heap_lt hV1) (fun h => h)).trans hV1
  replace hV2 := (n7.block _ (heap_lt hV2) (fun h => h)).trans hV2
  replace hc := hc.nw n7
  replace nW := nw_trans nW n7
  clear hc
  go_wp2
  go_ret
  exact ⟨rfl, nW⟩
end Go.Proofs.Ytppfcdnhmieejaa
