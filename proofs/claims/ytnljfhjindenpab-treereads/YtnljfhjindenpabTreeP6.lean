/-
  Package tree: branchOf.
-/
import Derived.Test.YtnljfhjindenpabTreeP5
namespace Go.Proofs.Ytnljfhjindenpab
set_option linter.unusedVariables false
set_option linter.unusedSimpArgs false
set_option maxRecDepth 20000
open Go.RowKit

abbrev okX (is : List Int) (xs : List Bx) (j : Nat) : Prop := is.getD j 0 = ((xs.getD (xs.length - 1 - j) (0, 0, 0)).1 : Int) ∧ (xs.getD (xs.length - 1 - j) (0, 0, 0)).2.1 = (xs.getD 0 (0, 0, 0)).2.1
def hX (xs : List Bx) (j : Nat) : Int := if j = 0 then 0 else ((xs.getD 0 (0, 0, 0)).2.1 : Int) + 1

theorem Try.rowBr : (Try.prog.underlying 119).map TypeDesc.isRow = some true := by kernel_rfl
theorem Try.sizeBr : (Try.prog.info? 119).map (·.size) = some 3 := by kernel_rfl
theorem sizeBr (x y : Int) (p : Value) : (Try.prog.info? 119).map (·.size) = some ([.int .i64 x, .int .i64 y, p] : List Value).length := Try.sizeBr

theorem ret_cell3 {w wr : World} {a0 a1 a2 : Value} (h : Nw w wr) {g : Nat} (hg : w.heap.size ≤ g) (hb : wr.heap[g]? = some (.cells #[a0, a1, a2] 119 (0, 0))) (x y : Int) (z : Value) :
    (((wr.setCell ⟨g, 0, none⟩ (.int .i64 x)).setCell ⟨g, 1, none⟩ (.int .i64 y)).setCell ⟨g, 2, none⟩ z).heap[g]? = some (.cells #[.int .i64 x, .int .i64 y, z] 119 (0, 0)) ∧
    Nw w (((wr.setCell ⟨g, 0, none⟩ (.int .i64 x)).setCell ⟨g, 1, none⟩ (.int .i64 y)).setCell ⟨g, 2, none⟩ z) := by
  refine ⟨?_, Fr.setCell (Fr.setCell (Fr.setCell h (p := ⟨g, 0, none⟩) (.inr hg) _) (p := ⟨g, 1, none⟩) (.inr hg) _) (p := ⟨g, 2, none⟩) (.inr hg) _⟩
  rw [blk_setCell (blk_setCell (blk_setCell hb))]
  rfl

def BrPost (num : Nat) (ks : List Int) (es : List Ext) (is : List Int) (xs : List Bx) (e : Ending) (w' : World) : Prop :=
  ((∀ j, j < is.length → okX is xs j) → ∃ g kv vv sv, e = .returned (.tuple #[.agg #[.int .i64 num, .int .i64 (hX xs is.length), .pointer (some ⟨g, 0, none⟩)], .bool true]) ∧ Nd w' g kv vv sv ∧ Slp (TX w') w' kv ks.length (ks.map kcell) ∧ Slp (TX w') w' vv es.length (ecells es) ∧ Slp (TX w') w' sv (xs.reverse.map (·.2.2)).length ((xs.reverse.map (·.2.2)).map pcell)) ∧
      ((¬ ∀ j, j < is.length → okX is xs j) → e = .returned (.tuple #[.agg #[.int .i64 0, .int .i64 0, .pointer none], .bool false]))

set_option maxHeartbeats 6400000 in
theorem c_branchOf {x : Tv} {ks : List Int} {es : List Ext} {is : List Int} {v : Value} {xs : List Bx} {num : Nat} (w : World) (h : Ct (fun _ => True) w x (ks, es, is)) (hv : Bs w v xs) (hl : xs.length = is.length) (hkl : ks.length ≤ 7) (hel : es.length ≤ 7) (hil : is.length ≤ 8) (hh : ∀ x ∈ xs, x.2.1 ≤ 1000000) (hnum : num ≤ 1000000) :
    Calls Try.prog 74 #[.int .i64 num, nodeV x, v] w fun e w' => Nw w w' ∧ BrPost num ks es is xs e w' := by
  obtain ⟨i0, hj, hj0, hj1, hj2⟩ := info_parts3 Try.infoP
  obtain ⟨x0, x1, x2⟩ := x
  obtain ⟨hk, he, hs⟩ := h
  simp only at hk he hs
  have hK : Ks w x0 ks := hk.hs
  have hE : Vs w x1 es := he.hs
  have hI : Hs w x2 is.length (is.map icell) := hs.hs
  clear hk he hs
  obtain ⟨ak, ck, rfl, hk1, hk2⟩ := Hs.form hK
  obtain ⟨ae, ce, rfl, he1, he2⟩ := Hs.form hE
  obtain ⟨ai, ci, rfl, hi1, hi2⟩ := Hs.form hI
  obtain ⟨av, cv, rfl, hv1, hv2⟩ := Hs.form hv
  have hcK : Hid (∀ w', Nw w w' → Calls Try.prog 71 #[.slice ak ks.length ck] w' fun e w2 => ∃ u, e = .returned u ∧ w2.ownsRow w'.heap.size 27 1 u ks.length (ks.map kcell) ∧ Nw w' w2) := fun w' hw => c_cloneK w' (Hs.nw hK hw) (by omega)
  have hcE : Hid (∀ w', Nw w w' → Calls Try.prog 72 #[.slice ae es.length ce] w' fun e w2 => ∃ u, e = .returned u ∧ w2.ownsRow w'.heap.size 58 2 u es.length (ecells es) ∧ Nw w' w2) := fun w' hw => c_cloneE w' (Hs.nw hE hw) (by omega)
  replace hI : Hid (Hs w (.slice ai is.length ci) is.length (is.map icell)) := hI
  replace hv : Hid (Bs w (.slice av xs.length cv) xs) := hv
  clear hK hE
  replace hl : Hid (xs.length = is.length) := hl
  have hxl8 : xs.length ≤ 8 := by rw [hl.out]; exact hil
  replace hh : Hid (∀ x ∈ xs, x.2.1 ≤ 1000000) := hh
  unfold nodeV
  go_enter Try.func74, Try.ntmps74
  go_upto_region 1 with fail
  have hn1 : Nw w ((w.alloc (.cells #[.slice ak ks.length ck, .slice ae es.length ce, .slice ai is.length ci] 92)).alloc (.cells #[.int .i64 0, .int .i64 0, .pointer none] 119)) := nw_alloc (nw_alloc (nw_refl w) _) _
  have hB0 : Hid (((w.alloc (.cells #[.slice ak ks.length ck, .slice ae es.length ce, .slice ai is.length ci] 92)).alloc (.cells #[.int .i64 0, .int .i64 0, .pointer none] 119)).heap[w.heap.size]? = some (.cells #[.slice ak ks.length ck, .slice ae es.length ce, .slice ai is.length ci] 92 (0, 0))) := (nw_alloc (nw_refl _) _).blk (heap_alloc_new w _)
  have hB1 : Hid (((w.alloc (.cells #[.slice ak ks.length ck, .slice ae es.length ce, .slice ai is.length ci] 92)).alloc (.cells #[.int .i64 0, .int .i64 0, .pointer none] 119)).heap[w.heap.size + 1]? = some (.cells #[.int .i64 0, .int .i64 0, .pointer none] 119 (0, 0))) := heap_two w _ _
  generalize (w.alloc (.cells #[.slice ak ks.length ck, .slice ae es.length ce, .slice ai is.length ci] 92)).alloc (.cells #[.int .i64 0, .int .i64 0, .pointer none] 119) = w1 at *
  have hsz1 : w.heap.size + 1 < w1.heap.size := heap_lt hB1.out
  have hSof : ∀ w' : World, Nw w1 w' → (fun w' : World => Nw w1 w' ∧ w'.cell? ⟨w.heap.size, 0, none⟩ = some (.slice ak ks.length ck) ∧ w'.cell? ⟨w.heap.size, 1, none⟩ = some (.slice ae es.length ce)) w' := fun w' hw => ⟨hw, cell_blk (hw.blk hB0.out) rfl, cell_blk (hw.blk hB0.out) rfl⟩
  have hS := hSof _ (nw_drew (nw_refl w1))
  refine wp_region_plan [] 11 [(0, []), (1, []), (2, []), (4, []), (5, []), (0, [(3, []), (6, [3]), (7, [3, 6]), (8, [7]), (9, [8]), (10, [])])] (fun w' : World => Nw w1 w' ∧ w'.cell? ⟨w.heap.size, 0, none⟩ = some (.slice ak ks.length ck) ∧ w'.cell? ⟨w.heap.size, 1, none⟩ = some (.slice ae es.length ce)) (by kernel_rfl) (by kernel_rfl) ?_
  refine plan_quiet _ ?_ rfl hS rfl ?_ ?_
  rotate_left
  · rintro w' ⟨hS1, hC0, hC1⟩; go_simp; first | rfl | (rw [if_pos (by omega)]; done) | (rw [if_pos (by omega)]; rfl) | (rw [if_pos (by omega)]; go_simp; rfl)
  simp only [Act.put, List.setIfInBounds_toArray, List.set_cons_zero, List.set_cons_succ]
  refine plan_quiet _ ?_ rfl hS rfl ?_ ?_
  rotate_left
  · rintro w' ⟨hS1, hC0, hC1⟩; go_simp; first | rfl | (rw [if_pos (by omega)]; done) | (rw [if_pos (by omega)]; rfl) | (rw [if_pos (by omega)]; go_simp; rfl)
  simp only [Act.put, List.setIfInBounds_toArray, List.set_cons_zero, List.set_cons_succ]
  refine plan_quiet _ ?_ rfl hS rfl ?_ ?_
  rotate_left
  · rintro w' ⟨hS1, hC0, hC1⟩; go_simp; first | rfl | (rw [if_pos (by omega)]; done) | (rw [if_pos (by omega)]; rfl) | (rw [if_pos (by omega)]; go_simp; rfl)
  simp only [Act.put, List.setIfInBounds_toArray, List.set_cons_zero, List.set_cons_succ]
  refine plan_quiet _ ?_ rfl hS rfl ?_ ?_
  rotate_left
  · rintro w' ⟨hS1, hC0, hC1⟩; go_simp; first | rfl | (rw [if_pos (by omega)]; done) | (rw [if_pos (by omega)]; rfl) | (rw [if_pos (by omega)]; go_simp; rfl)
  simp only [Act.put, List.setIfInBounds_toArray, List.set_cons_zero, List.set_cons_succ]
  refine plan_quiet _ ?_ rfl hS rfl ?_ ?_
  rotate_left
  · rintro w' ⟨hS1, hC0, hC1⟩; go_simp; first | rfl | (rw [if_pos (by omega)]; done) | (rw [if_pos (by omega)]; rfl) | (rw [if_pos (by omega)]; go_simp; rfl)
  simp only [Act.put, List.setIfInBounds_toArray, List.set_cons_zero, List.set_cons_succ]
  refine plan_group (fun | 3 => 15 | 6 => 18 | 7 => 19 | 8 => 20 | 9 => 21 | 10 => 8 | _ => 0) (fun | 3 => fun v w => w.ownsRow w1.heap.size 27 1 v ks.length (ks.map kcell) | 6 => fun v w => w.ownsRow w1.heap.size 58 2 v es.length (ecells es) | 7 => fun v w => ∃ kv vv, v = .agg #[kv, vv, .slice none 0 0] ∧ w.ownsRow w1.heap.size 27 1 kv ks.length (ks.map kcell) ∧ w.ownsRow w1.heap.size 58 2 vv es.length (ecells es) | 8 => fun v w => ∃ g kv vv, v = .pointer (some ⟨g, 0, none⟩) ∧ w1.heap.size ≤ g ∧ Nd w g kv vv (.slice none 0 0) ∧ w.ownsRow w1.heap.size 27 1 kv ks.length (ks.map kcell) ∧ w.ownsRow w1.heap.size 58 2 vv es.length (ecells es) | 9 => fun v w => ∃ g kv vv, v = .agg #[.int .i64 num, .int .i64 0, .pointer (some ⟨g, 0, none⟩)] ∧ w1.heap.size ≤ g ∧ Nd w g kv vv (.slice none 0 0) ∧ w.ownsRow w1.heap.size 27 1 kv ks.length (ks.map kcell) ∧ w.ownsRow w1.heap.size 58 2 vv es.length (ecells es) | 10 => fun v w => ∃ g, v = .pointer (some ⟨g, 0, none⟩) ∧ w1.heap.size ≤ g ∧ w.heap[g]? = some (.cells #[.int .i64 0, .int .i64 0, .pointer none] 119 (0, 0)) | _ => fun _ _ => True) Nw (by decide) (by decide) (by decide) (fun w1 w2 h1 h2 => hSof _ (nw_trans h1.1 h2)) ?FG hS ?steps ?fin
  case FG =>
    intro p hp v wa wb h1 h2
    have ho : ∀ {e s n : Nat} {v : Value} {xs : List Value}, wa.ownsRow w1.heap.size e s v n xs → wb.ownsRow w1.heap.size e s v n xs := fun h => owns_of_block h (fun k hk => h2.block k (h.lt k hk).2 id)
    simp only [List.mem_cons, List.not_mem_nil, or_false] at hp
    rcases hp with rfl | rfl | rfl | rfl | rfl | rfl
    · exact ho h1
    · exact ho h1
    · obtain ⟨kv, vv, e, a, b⟩ := h1
      exact ⟨kv, vv, e, ho a, ho b⟩
    · obtain ⟨g, kv, vv, e, a, b, c, d⟩ := h1
      exact ⟨g, kv, vv, e, a, h2.blk b, ho c, ho d⟩
    · obtain ⟨g, kv, vv, e, a, b, c, d⟩ := h1
      exact ⟨g, kv, vv, e, a, h2.blk b, ho c, ho d⟩
    · obtain ⟨g, e, a, b⟩ := h1
      exact ⟨g, e, a, h2.blk b⟩
  case steps =>
    intro p hp y w2 hS2 hd
    have hw2 : w1.heap.size ≤ w2.heap.size := hS2.1.size
    simp only [List.mem_cons, List.not_mem_nil, or_false] at hp
    rcases hp with rfl | rfl | rfl | rfl | rfl | rfl
    · refine ⟨_, rfl, fun K hK => ?_⟩
      simp only [putAll, Act.put, List.setIfInBounds_toArray, List.set_cons_zero, List.set_cons_succ] at hK ⊢
      have h7 := hcK.out w2 (nw_trans hn1 hS2.1)
      clear hd hS
      go_wp2_with (go_at_call 71; refine h7.mono ?_; rintro e w3 ⟨u, rfl, hu, hn⟩; refine stop_here ?_)
      unfold Hid
      go_wp2
      exact hK _ _ hn (owns_base hu hw2)
    · refine ⟨_, rfl, fun K hK => ?_⟩
      simp only [putAll, Act.put, List.setIfInBounds_toArray, List.set_cons_zero, List.set_cons_succ] at hK ⊢
      have h7 := hcE.out w2 (nw_trans hn1 hS2.1)
      clear hd hS
      go_wp2_with (go_at_call 72; refine h7.mono ?_; rintro e w3 ⟨u, rfl, hu, hn⟩; refine stop_here ?_)
      unfold Hid
      go_wp2
      exact hK _ _ hn (owns_base hu hw2)
    · refine ⟨_, rfl, fun K hK => ?_⟩
      simp only [putAll, Act.put, List.setIfInBounds_toArray, List.set_cons_zero, List.set_cons_succ] at hK ⊢
      have d3 : w2.ownsRow w1.heap.size 27 1 (y 3) ks.length (ks.map kcell) := hd 3 (by simp)
      have d6 : w2.ownsRow w1.heap.size 58 2 (y 6) es.length (ecells es) := hd 6 (by simp)
      obtain ⟨a3, c3, e3⟩ := owns_form d3
      obtain ⟨a6, c6, e6⟩ := owns_form d6
      rw [e3] at d3
      rw [e6] at d6
      replace hK := fun v w' h1 h2 => hK v w' h1 h2
      rw [e3, e6] at hK ⊢
      replace d3 : Hid _ := d3
      replace d6 : Hid _ := d6
      clear hd hS e3 e6
      go_wp2
      exact hK _ _ (nw_refl _) ⟨_, _, rfl, d3.out, d6.out⟩
    · refine ⟨_, rfl, fun K hK => ?_⟩
      simp only [putAll, Act.put, List.setIfInBounds_toArray, List.set_cons_zero, List.set_cons_succ] at hK ⊢
      obtain ⟨kv, vv, e7, d3, d6⟩ := hd 7 (by simp)
      obtain ⟨a3, c3, rfl⟩ := owns_form d3
      obtain ⟨a6, c6, rfl⟩ := owns_form d6
      rw [e7] at hK ⊢
      replace d3 : Hid (w2.ownsRow w1.heap.size 27 1 (.slice a3 ks.length c3) ks.length (ks.map kcell)) := d3
      replace d6 : Hid (w2.ownsRow w1.heap.size 58 2 (.slice a6 es.length c6) es.length (ecells es)) := d6
      clear hd hS e7
      go_wp2
      refine hK _ _ (nw_alloc (nw_refl w2) _) ⟨_, _, _, rfl, hw2, heap_alloc_new w2 _, d3.out.alloc _, d6.out.alloc _⟩
    · refine ⟨_, rfl, fun K hK => ?_⟩
      simp only [putAll, Act.put, List.setIfInBounds_toArray, List.set_cons_zero, List.set_cons_succ] at hK ⊢
      obtain ⟨g, kv, vv, e8, d1, d2, d3, d4⟩ := hd 8 (by simp)
      rw [e8] at hK ⊢
      replace d2 : Hid (Nd w2 g kv vv (.slice none 0 0)) := d2
      replace d3 : Hid (w2.ownsRow w1.heap.size 27 1 kv ks.length (ks.map kcell)) := d3
      replace d4 : Hid (w2.ownsRow w1.heap.size 58 2 vv es.length (ecells es)) := d4
      clear hd hS e8
      go_wp2
      exact hK _ _ (nw_refl _) ⟨_, _, _, rfl, d1, d2.out, d3.out, d4.out⟩
    · refine ⟨_, rfl, fun K hK => ?_⟩
      simp only [putAll, Act.put, List.setIfInBounds_toArray, List.set_cons_zero, List.set_cons_succ] at hK ⊢
      clear hd hS
      go_wp2
      refine hK _ _ (nw_alloc (nw_refl w2) _) ⟨_, rfl, hw2, heap_alloc_new w2 _⟩
  case fin =>
    intro y w2 hS2 hF
    obtain ⟨g, kv, vv, ey9, lg, hnd, rk, re⟩ := hF (9, [8]) (by simp)
    obtain ⟨g', ey10, lb, hbb⟩ := hF (10, []) (by simp)
    clear hF hS
    simp only [putAll, Act.put, List.setIfInBounds_toArray, List.set_cons_zero, List.set_cons_succ]
    rw [ey9, ey10]
    have hgg : g ≠ g' := fun e => by
      rw [← e] at hbb
      unfold Nd at hnd
      rw [hnd] at hbb
      simp only [Option.some.injEq, Obj.cells.injEq] at hbb
      exact absurd hbb.2.1 (by decide)
    have hBI : Hid (BI w1 (((w2.setCell ⟨g', 0, none⟩ (.int .i64 num)).setCell ⟨g', 1, none⟩ (.int .i64 0)).setCell ⟨g', 2, none⟩ (.pointer (some ⟨g, 0, none⟩))) g' g num 0 ks es kv vv (.slice none 0 0) []) := by
      have hf : Fr (fun k => k = g') w2 (((w2.setCell ⟨g', 0, none⟩ (.int .i64 num)).setCell ⟨g', 1, none⟩ (.int .i64 0)).setCell ⟨g', 2, none⟩ (.pointer (some ⟨g, 0, none⟩))) := Fr.setCell (Fr.setCell (Fr.setCell (Fr.refl (fun k => k = g') w2) (p := ⟨g', 0, none⟩) (.inl rfl) _) (p := ⟨g', 1, none⟩) (.inl rfl) _) (p := ⟨g', 2, none⟩) (.inl rfl) _
      refine ⟨Fr.trans hS2.1 hf (fun k hk => .inr (by rw [hk]; exact lb)), ?_, (hf.block g (heap_lt hnd) hgg).trans hnd, owns_of_block rk (fun k hk => hf.block k (rk.lt k hk).2 (fun e => row_ne rk hbb (by decide) (e ▸ hk))), owns_of_block re (fun k hk => hf.block k (re.lt k hk).2 (fun e => row_ne re hbb (by decide) (e ▸ hk))), World.ownsRow_nil _ _ _ _, lb, lg⟩
      rw [blk_setCell (blk_setCell (blk_setCell hbb))]
      rfl
    have z0 : w2.cell? ⟨g', 0, none⟩ = some (.int .i64 0) := cell_blk hbb rfl
    have z1 : w2.cell? ⟨g', 1, none⟩ = some (.int .i64 0) := cell_blk hbb rfl
    have z2 : w2.cell? ⟨g', 2, none⟩ = some (.pointer none) := cell_blk hbb rfl
    have zf : ∀ i, w2.frozen? ⟨g', i, none⟩ = false := fun i => free_blk hbb
    clear ey9 ey10
    refine plan_tail ?_
    simp only [List.drop_succ_cons, List.drop_zero]
    go_upto_region 2 with fail
    generalize ((w2.setCell ⟨g', 0, none⟩ (.int .i64 num)).setCell ⟨g', 1, none⟩ (.int .i64 0)).setCell ⟨g', 2, none⟩ (.pointer (some ⟨g, 0, none⟩)) = w4 at *
    clear z0 z1 z2 zf hbb hnd rk re hS2 hgg
    have hx0 := cell_blk (i := 2) (hBI.out.nw.blk hB0.out) rfl
    go_wp2
    clear hx0
    go_loopw [25] (fun i wr => ∃ (j : Nat) (sv : Value), i = .int .i64 j ∧ j ≤ is.length ∧ Hid (∀ j', j' < j → okX is xs j') ∧ Hid (BI w1 wr g' g num (hX xs j) ks es kv vv sv ((xs.reverse.take j).map (·.2.2)))) (fun i _ => is.length - (intOf i).toNat)
    case atStart => exact ⟨0, _, rfl, Nat.zero_le _, fun j' hj' => by omega, hBI.out⟩
    case round =>
      clear hBI
      obtain ⟨j, sv, rfl, hjl, hok, hBI⟩ := hrel
      have hnw : Nw w1 wr := hBI.out.nw
      have hNw : Nw w wr := nw_trans hn1 hnw
      by_cases hlt : j < is.length
      · obtain ⟨q1, o1, rfl, e0⟩ := Hs.get (hI.out.nw hNw) (i := j) (c := icell is[j]) (by simp [hlt])
        unfold icell at e0
        obtain ⟨m, hm⟩ : ∃ m, m = xs.length - 1 - j := ⟨_, rfl⟩
        have hmx : m < xs.length := by have := hl.out; omega
        have hsub : (xs.length : Int) - 1 - (j : Int) = (m : Int) := by have := hl.out; omega
        have h0x : 0 < xs.length := by omega
        obtain ⟨qa, oa, rfl, a0, a1, a2⟩ := Bs.get (Hs.nw hv.out hNw) hmx
        obtain ⟨qb, ob, eb, _, b1, _⟩ := Bs.get (Hs.nw hv.out hNw) h0x
        simp only [Option.some.injEq, Addr.mk.injEq, and_true] at eb
        obtain ⟨rfl, rfl⟩ := eb
        rw [Nat.zero_mul, Nat.add_zero] at b1
        have hokJ : Hid (okX is xs j ↔ (is[j] = (xs[m].1 : Int) ∧ xs[m].2.1 = xs[0].2.1)) := by
          unfold Hid okX
          rw [← hm, List.getD_eq_getElem?_getD, List.getElem?_eq_getElem hlt, List.getD_eq_getElem?_getD, List.getElem?_eq_getElem hmx, List.getD_eq_getElem?_getD, List.getElem?_eq_getElem h0x]
          exact Iff.rfl
        have hhm : xs[m].2.1 ≤ 1000000 := hh.out _ (List.getElem_mem hmx)
        have hhX : Hid (hX xs (j + 1) = (xs[0].2.1 : Int) + 1) := by
          unfold Hid hX
          rw [if_neg (by omega), List.getD_eq_getElem?_getD, List.getElem?_eq_getElem h0x]
          rfl
        have hps : Hid ((xs.reverse.take (j + 1)).map (·.2.2) = (xs.reverse.take j).map (·.2.2) ++ [xs[m].2.2]) := by
          unfold Hid
          rw [List.take_succ_eq_append_getElem (by simp; omega), List.map_append]
          simp only [List.map_cons, List.map_nil, List.getElem_reverse, hm]
        replace hm : Hid (m = xs.length - 1 - j) := hm
        generalize xs[m].1 = nm at *
        generalize xs[m].2.1 = hgm at *
        generalize xs[m].2.2 = pm at *
        generalize xs[0].2.1 = hg0 at *
        generalize is[j] = kid at *
        go_upto_region 6 with fail
        have hn5 : Nw wr (wr.alloc (.cells #[.int .i64 nm, .int .i64 hgm, .pointer (some ⟨pm, 0, none⟩)] 119)) := nw_alloc (nw_refl wr) _
        have hB5 : Hid ((wr.alloc (.cells #[.int .i64 nm, .int .i64 hgm, .pointer (some ⟨pm, 0, none⟩)] 119)).heap[wr.heap.size]? = some (.cells #[.int .i64 nm, .int .i64 hgm, .pointer (some ⟨pm, 0, none⟩)] 119 (0, 0))) := heap_alloc_new wr _
        have hlt5 : Hid (g' < wr.heap.size) := heap_lt hBI.out.bb
        generalize wr.alloc (.cells #[.int .i64 nm, .int .i64 hgm, .pointer (some ⟨pm, 0, none⟩)] 119) = w5 at *
        have k0 : w5.cell? ⟨wr.heap.size, 0, none⟩ = some (.int .i64 nm) := cell_blk hB5.out rfl
        have k1 : w5.cell? ⟨wr.heap.size, 1, none⟩ = some (.int .i64 hgm) := cell_blk hB5.out rfl
        have k2 : w5.cell? ⟨wr.heap.size, 2, none⟩ = some (.pointer (some ⟨pm, 0, none⟩)) := cell_blk hB5.out rfl
        replace b1 := hn5.cell b1
        have hBI5 : Hid (BI w1 w5 g' g num (hX xs j) ks es kv vv sv ((xs.reverse.take j).map (·.2.2))) := hBI.out.stay hn5
        clear hBI a0 a1 a2 e0 hcK hcE
        by_cases hA : kid = (nm : Int)
        case neg =>
          have hbad : Hid (¬ okX is xs j) := by unfold Hid; rw [hokJ.out]; exact fun h9 => hA h9.1
          have hb : ((nm : Int) != kid) = true := by simp; omega
          clear hokJ hA hhX hps hok
          go_quiet (fail)
          have r6 := (nw_trans hBI5.out.nw (nw_drewN nq w5)).blk hB1.out
          have y0 : (w5.drewN nq).cell? ⟨w.heap.size + 1, 0, none⟩ = some (.int .i64 0) := cell_blk r6 rfl
          have y1 : (w5.drewN nq).cell? ⟨w.heap.size + 1, 1, none⟩ = some (.int .i64 0) := cell_blk r6 rfl
          have y2 : (w5.drewN nq).cell? ⟨w.heap.size + 1, 2, none⟩ = some (.pointer none) := cell_blk r6 rfl
          have yf : ∀ i, (w5.drewN nq).frozen? ⟨w.heap.size + 1, i, none⟩ = false := fun i => free_blk r6
          have hNw6 : Nw w (w5.drewN nq) := nw_trans hn1 (nw_trans hBI5.out.nw (nw_drewN nq w5))
          have hrt := ret_cell3 hNw6 (g := w.heap.size + 1) (by omega) r6 0 0 (.pointer none)
          replace r6 : Hid _ := r6
          clear k0 k1 k2 b1
          go_wp2
          refine bodyPost_ret (results_cell2 rfl _ (w.heap.size + 1) _ _ rfl rfl (range_all hrt.1) Try.rowBr (sizeBr _ _ _)) rfl ?_
          exact ⟨hrt.2, fun hall => absurd (hall j hlt) hbad.out, fun _ => rfl⟩
        subst hA
        by_cases hC : hgm = hg0
        case neg =>
          have hbad : Hid (¬ okX is xs j) := by unfold Hid; rw [hokJ.out]; exact fun h9 => hC h9.2
          have hb : ((hgm : Int) != (hg0 : Int)) = true := by simp; omega
          clear hokJ hC hhX hps hok
          go_quiet (fail)
          have r6 := (nw_trans hBI5.out.nw (nw_drewN nq w5)).blk hB1.out
          have y0 : (w5.drewN nq).cell? ⟨w.heap.size + 1, 0, none⟩ = some (.int .i64 0) := cell_blk r6 rfl
          have y1 : (w5.drewN nq).cell? ⟨w.heap.size + 1, 1, none⟩ = some (.int .i64 0) := cell_blk r6 rfl
          have y2 : (w5.drewN nq).cell? ⟨w.heap.size + 1, 2, none⟩ = some (.pointer none) := cell_blk r6 rfl
          have yf : ∀ i, (w5.drewN nq).frozen? ⟨w.heap.size + 1, i, none⟩ = false := fun i => free_blk r6
          have hNw6 : Nw w (w5.drewN nq) := nw_trans hn1 (nw_trans hBI5.out.nw (nw_drewN nq w5))
          have hrt := ret_cell3 hNw6 (g := w.heap.size + 1) (by omega) r6 0 0 (.pointer none)
          replace r6 : Hid _ := r6
          clear k0 k1 k2 b1
          go_wp2
          refine bodyPost_ret (results_cell2 rfl _ (w.heap.size + 1) _ _ rfl rfl (range_all hrt.1) Try.rowBr (sizeBr _ _ _)) rfl ?_
          exact ⟨hrt.2, fun hall => absurd (hall j hlt) hbad.out, fun _ => rfl⟩
        subst hC
        have hok2 : Hid (∀ j', j' < j + 1 → okX is xs j') := fun j' hj' => by
          by_cases h9 : j' = j
          · subst h9; exact hokJ.out.2 ⟨rfl, rfl⟩
          · exact hok.out j' (by omega)
        clear hok hokJ
        go_quiet (fail)
        have hn6 : Nw wr (w5.drewN nq) := nw_trans hn5 (nw_drewN nq w5)
        have hB6 : Hid ((w5.drewN nq).heap[wr.heap.size]? = some (.cells #[.int .i64 nm, .int .i64 hgm, .pointer (some ⟨pm, 0, none⟩)] 119 (0, 0))) := (nw_drewN nq w5).blk hB5.out
        have hBI6 : Hid (BI w1 (w5.drewN nq) g' g num (hX xs j) ks es kv vv sv ((xs.reverse.take j).map (·.2.2))) := hBI5.out.stay (nw_drewN nq w5)
        clear k0 k1 k2 b1 hBI5 hB5 hn5
        generalize w5.drewN nq = w6 at *
        have k1 : w6.cell? ⟨wr.heap.size, 1, none⟩ = some (.int .i64 hgm) := cell_blk hB6.out rfl
        have t1 : w6.cell? ⟨g', 1, none⟩ = some (.int .i64 (hX xs j)) := cell_blk hBI6.out.bb rfl
        have tf : ∀ i, w6.frozen? ⟨g', i, none⟩ = false := fun i => free_blk hBI6.out.bb
        generalize hX xs j = hxj at *
        go_upto_region 9 with fail
        have hBI7 : Hid (BI w1 (w6.setCell ⟨g', 1, none⟩ (.int .i64 ((hgm : Int) + 1))) g' g num ((hgm : Int) + 1) ks es kv vv sv ((xs.reverse.take j).map (·.2.2))) := hBI6.out.height _
        have hB7 : Hid ((w6.setCell ⟨g', 1, none⟩ (.int .i64 ((hgm : Int) + 1))).heap[wr.heap.size]? = some (.cells #[.int .i64 nm, .int .i64 hgm, .pointer (some ⟨pm, 0, none⟩)] 119 (0, 0))) := by
          have hf : Fr (fun k => k = g') w6 (w6.setCell ⟨g', 1, none⟩ (.int .i64 ((hgm : Int) + 1))) := (Fr.refl (fun k => k = g') w6).setCell (p := ⟨g', 1, none⟩) (.inl rfl) _
          exact (hf.block wr.heap.size (heap_lt hB6.out) (fun e => by have := hlt5.out; omega)).trans hB6.out
        clear k1 t1 tf hBI6 hB6
        generalize w6.setCell ⟨g', 1, none⟩ (.int .i64 ((hgm : Int) + 1)) = w7 at *
        have hpl : Hid (((xs.reverse.take j).map (·.2.2)).length = j) := by unfold Hid; simp; have := hl.out; omega
        generalize (xs.reverse.take j).map (·.2.2) = ps at *
        obtain ⟨sa, sc, rfl⟩ := owns_form hBI7.out.rp
        have hBId : BI w1 w7.drew g' g num ((hgm : Int) + 1) ks es kv vv (.slice sa ps.length sc) ps := hBI7.out.stay (nw_drew (nw_refl w7))
        have hBd : w7.drew.heap[wr.heap.size]? = some (.cells #[.int .i64 nm, .int .i64 hgm, .pointer (some ⟨pm, 0, none⟩)] 119 (0, 0)) := hB7.out
        have hSof : Hid (∀ w' : World, w'.heap[g']? = w7.drew.heap[g']? → w'.heap[g]? = w7.drew.heap[g]? → w'.heap[wr.heap.size]? = w7.drew.heap[wr.heap.size]? → (fun w' : World => w'.cell? ⟨g', 2, none⟩ = some (.pointer (some ⟨g, 0, none⟩)) ∧ w'.cell? ⟨g, 2, none⟩ = some (.slice sa ps.length sc) ∧ w'.cell? ⟨wr.heap.size, 2, none⟩ = some (.pointer (some ⟨pm, 0, none⟩))) w') := fun w' h1 h2 h3 => ⟨cell_blk (h1.trans hBId.bb) rfl, cell_blk (h2.trans hBId.nd) rfl, cell_blk (h3.trans hBd) rfl⟩
        have hS := hSof.out w7.drew rfl rfl rfl
        have hrA := hBId.rp.alloc (.cells #[.pointer (some ⟨pm, 0, none⟩)] 78)
        have hsz7 : w1.heap.size ≤ w7.heap.size := hBI7.out.nw.size
        have hSA : Hid ((fun w' : World => w'.cell? ⟨g', 2, none⟩ = some (.pointer (some ⟨g, 0, none⟩)) ∧ w'.cell? ⟨g, 2, none⟩ = some (.slice sa ps.length sc) ∧ w'.cell? ⟨wr.heap.size, 2, none⟩ = some (.pointer (some ⟨pm, 0, none⟩))) (w7.drew.alloc (.cells #[.pointer (some ⟨pm, 0, none⟩)] 78))) := hSof.out _ (((nw_alloc (nw_refl w7.drew) _).blk hBId.bb).trans hBId.bb.symm) (((nw_alloc (nw_refl w7.drew) _).blk hBId.nd).trans hBId.nd.symm) (((nw_alloc (nw_refl w7.drew) _).blk hBd).trans hBd.symm)
        have hfin : Hid (∀ v9 w9, w9.ownsRow w1.heap.size 78 1 v9 (ps.length + 1) (ps.map pcell ++ [pcell pm]) → (w7.drew.alloc (.cells #[.pointer (some ⟨pm, 0, none⟩)] 78)).grownBy w9 (Value.ownBlock (.slice sa ps.length sc)) → BI w1 (w9.setCell ⟨g, 2, none⟩ v9) g' g num ((hgm : Int) + 1) ks es kv vv v9 (ps ++ [pm]) ∧ w9.heap[g']? = w7.drew.heap[g']? ∧ w9.heap[g]? = w7.drew.heap[g]? ∧ w9.heap[wr.heap.size]? = w7.drew.heap[wr.heap.size]?) := fun v9 w9 h1 h2 => by
          obtain ⟨p1, p2, p3, p4⟩ := BI.kid (q := pm) hBId h2 h1
          refine ⟨p1, p2, p3, ?_⟩
          have hf : Fr (fun k => Value.ownBlock (.slice sa ps.length sc) = some k) w7.drew w9 := Fr.grown (Fr.alloc (Fr.refl _ w7.drew) _) h2 (fun k hk => .inl hk)
          exact hf.block _ (heap_lt hBd) (row_ne hBId.rp hBd (by decide))
        have hgfr : Hid (∀ w9 : World, w9.heap[g]? = w7.drew.heap[g]? → ∀ i, w9.frozen? ⟨g, i, none⟩ = false) := fun w9 h1 i => free_blk (h1.trans hBId.nd)
        have hpl8 : ps.length ≤ 8 := by rw [hpl.out]; omega
        clear hBI7 hB7 hBId hBd
        generalize ps.map pcell = pcs at *
        generalize ps.length = pl at *
        refine wp_region_ord [] 13 [(0, true), (1, true), (2, true), (3, true), (4, true), (5, true), (6, true), (7, true), (8, true), (9, false), (10, false), (11, true), (12, true)] (fun w' : World => w'.cell? ⟨g', 2, none⟩ = some (.pointer (some ⟨g, 0, none⟩)) ∧ w'.cell? ⟨g, 2, none⟩ = some (.slice sa pl sc) ∧ w'.cell? ⟨wr.heap.size, 2, none⟩ = some (.pointer (some ⟨pm, 0, none⟩))) (by kernel_rfl) (by kernel_rfl) ?_
        refine ord_quietL _ ?_ rfl hS rfl ?_ ?_
        rotate_left
        · rintro w' ⟨hS1, hS2, hS3⟩; go_simp; first | rfl | (rw [if_pos (by omega)]; done) | (rw [if_pos (by omega)]; rfl) | (rw [if_pos (by omega)]; go_simp; rfl)
        simp only [Act.put, List.setIfInBounds_toArray, List.set_cons_zero, List.set_cons_succ]
        refine ord_quietL _ ?_ rfl hS rfl ?_ ?_
        rotate_left
        · rintro w' ⟨hS1, hS2, hS3⟩; go_simp; first | rfl | (rw [if_pos (by omega)]; done) | (rw [if_pos (by omega)]; rfl) | (rw [if_pos (by omega)]; go_simp; rfl)
        simp only [Act.put, List.setIfInBounds_toArray, List.set_cons_zero, List.set_cons_succ]
        refine ord_quietL _ ?_ rfl hS rfl ?_ ?_
        rotate_left
        · rintro w' ⟨hS1, hS2, hS3⟩; go_simp; first | rfl | (rw [if_pos (by omega)]; done) | (rw [if_pos (by omega)]; rfl) | (rw [if_pos (by omega)]; go_simp; rfl)
        simp only [Act.put, List.setIfInBounds_toArray, List.set_cons_zero, List.set_cons_succ]
        refine ord_quietL _ ?_ rfl hS rfl ?_ ?_
        rotate_left
        · rintro w' ⟨hS1, hS2, hS3⟩; go_simp; first | rfl | (rw [if_pos (by omega)]; done) | (rw [if_pos (by omega)]; rfl) | (rw [if_pos (by omega)]; go_simp; rfl)
        simp only [Act.put, List.setIfInBounds_toArray, List.set_cons_zero, List.set_cons_succ]
        refine ord_quietL _ ?_ rfl hS rfl ?_ ?_
        rotate_left
        · rintro w' ⟨hS1, hS2, hS3⟩; go_simp; first | rfl | (rw [if_pos (by omega)]; done) | (rw [if_pos (by omega)]; rfl) | (rw [if_pos (by omega)]; go_simp; rfl)
        simp only [Act.put, List.setIfInBounds_toArray, List.set_cons_zero, List.set_cons_succ]
        refine ord_quietL _ ?_ rfl hS rfl ?_ ?_
        rotate_left
        · rintro w' ⟨hS1, hS2, hS3⟩; go_simp; first | rfl | (rw [if_pos (by omega)]; done) | (rw [if_pos (by omega)]; rfl) | (rw [if_pos (by omega)]; go_simp; rfl)
        simp only [Act.put, List.setIfInBounds_toArray, List.set_cons_zero, List.set_cons_succ]
        refine ord_quietL _ ?_ rfl hS rfl ?_ ?_
        rotate_left
        · rintro w' ⟨hS1, hS2, hS3⟩; go_simp; first | rfl | (rw [if_pos (by omega)]; done) | (rw [if_pos (by omega)]; rfl) | (rw [if_pos (by omega)]; go_simp; rfl)
        simp only [Act.put, List.setIfInBounds_toArray, List.set_cons_zero, List.set_cons_succ]
        refine ord_quietL _ ?_ rfl hS rfl ?_ ?_
        rotate_left
        · rintro w' ⟨hS1, hS2, hS3⟩; go_simp; first | rfl | (rw [if_pos (by omega)]; done) | (rw [if_pos (by omega)]; rfl) | (rw [if_pos (by omega)]; go_simp; rfl)
        simp only [Act.put, List.setIfInBounds_toArray, List.set_cons_zero, List.set_cons_succ]
        refine ord_quietL _ ?_ rfl hS rfl ?_ ?_
        rotate_left
        · rintro w' ⟨hS1, hS2, hS3⟩; go_simp; first | rfl | (rw [if_pos (by omega)]; done) | (rw [if_pos (by omega)]; rfl) | (rw [if_pos (by omega)]; go_simp; rfl)
        simp only [Act.put, List.setIfInBounds_toArray, List.set_cons_zero, List.set_cons_succ]
        refine ord_actL _ rfl (fun K1 hK1 => ?_)
        go_wp2
        refine hK1 _ _ hSA.out ?_
        clear hK1 K1 hS hSA
        refine ord_actL _ rfl (fun K1 hK1 => ?_)
        go_wp2_with (at_builtin; refine wpList_append_sl _ rfl _ _ 93 rfl w1.heap.size 78 i0 _ 1 8 Try.underlying93 hj hj0 hj1 hj2 rfl (by decide) _ _ _ rfl hrA _ _ 1 _ rfl (sl_lit w7.drew _ 78 1 (by omega)) rfl ?k1 ?k2 ?k3 ?k4 ?_)
        case k1 => first | (intro u hu; simp at hu; subst hu; rfl) | simp [Value.oneCell']
        case k2 => unfold maxLen; omega
        case k3 => omega
        case k4 => first | omega | (simp; omega)
        intro v9 w9 hown9 hgrow9 hat9
        obtain ⟨hB9, p1, p2, p3⟩ := hfin.out v9 w9 hown9 hgrow9
        have hf9 := hgfr.out w9 p2
        obtain ⟨oa9, oc9, rfl⟩ := owns_form hown9
        replace hB9 : Hid _ := hB9
        clear hfin hown9 hgrow9 hat9 hrA hgfr
        have hS := hSof.out w9 p1 p2 p3
        clear hSof p1 p2 p3
        go_wp2
        refine hK1 _ _ hS ?_
        clear hK1 K1
        refine ord_quietL _ ?_ rfl hS rfl ?_ ?_
        rotate_left
        · rintro w' ⟨hS1, hS2, hS3⟩; go_simp; first | rfl | (rw [if_pos (by omega)]; done) | (rw [if_pos (by omega)]; rfl) | (rw [if_pos (by omega)]; go_simp; rfl)
        simp only [Act.put, List.setIfInBounds_toArray, List.set_cons_zero, List.set_cons_succ]
        refine ord_quietL _ ?_ rfl hS rfl ?_ ?_
        rotate_left
        · rintro w' ⟨hS1, hS2, hS3⟩; go_simp; first | rfl | (rw [if_pos (by omega)]; done) | (rw [if_pos (by omega)]; rfl) | (rw [if_pos (by omega)]; go_simp; rfl)
        simp only [Act.put, List.setIfInBounds_toArray, List.set_cons_zero, List.set_cons_succ]
        refine ord_tail ?_
        simp only [List.drop_succ_cons, List.drop_zero]
        obtain ⟨s1, s2, s3⟩ := hS
        go_wp2
        go_roundw
        case rel => exact ⟨j + 1, _, by go_num, by omega, hok2.out, by rw [hhX.out, hps.out]; exact hB9.out⟩
        case measure => simp [intOf]; omega
      · have hjl' : j = is.length := by omega
        subst hjl'
        have hb := hBI.out.bb
        have z0 : wr.cell? ⟨g', 0, none⟩ = some (.int .i64 num) := cell_blk hb rfl
        have z1 : wr.cell? ⟨g', 1, none⟩ = some (.int .i64 (hX xs is.length)) := cell_blk hb rfl
        have z2 : wr.cell? ⟨g', 2, none⟩ = some (.pointer (some ⟨g, 0, none⟩)) := cell_blk hb rfl
        have r6 := hnw.blk hB1.out
        have y0 : wr.cell? ⟨w.heap.size + 1, 0, none⟩ = some (.int .i64 0) := cell_blk r6 rfl
        have y1 : wr.cell? ⟨w.heap.size + 1, 1, none⟩ = some (.int .i64 0) := cell_blk r6 rfl
        have y2 : wr.cell? ⟨w.heap.size + 1, 2, none⟩ = some (.pointer none) := cell_blk r6 rfl
        have yf : ∀ i, wr.frozen? ⟨w.heap.size + 1, i, none⟩ = false := fun i => free_blk r6
        have hrt := ret_cell3 hNw (g := w.heap.size + 1) (by omega) r6 num (hX xs is.length) (.pointer (some ⟨g, 0, none⟩))
        replace r6 : Hid _ := r6
        replace hb : Hid _ := hb
        have hfinal : Hid (∃ kv' vv' sv', Nd (((wr.setCell ⟨w.heap.size + 1, 0, none⟩ (.int .i64 num)).setCell ⟨w.heap.size + 1, 1, none⟩ (.int .i64 (hX xs is.length))).setCell ⟨w.heap.size + 1, 2, none⟩ (.pointer (some ⟨g, 0, none⟩))) g kv' vv' sv' ∧ Slp (TX (((wr.setCell ⟨w.heap.size + 1, 0, none⟩ (.int .i64 num)).setCell ⟨w.heap.size + 1, 1, none⟩ (.int .i64 (hX xs is.length))).setCell ⟨w.heap.size + 1, 2, none⟩ (.pointer (some ⟨g, 0, none⟩)))) (((wr.setCell ⟨w.heap.size + 1, 0, none⟩ (.int .i64 num)).setCell ⟨w.heap.size + 1, 1, none⟩ (.int .i64 (hX xs is.length))).setCell ⟨w.heap.size + 1, 2, none⟩ (.pointer (some ⟨g, 0, none⟩))) kv' ks.length (ks.map kcell) ∧ Slp (TX (((wr.setCell ⟨w.heap.size + 1, 0, none⟩ (.int .i64 num)).setCell ⟨w.heap.size + 1, 1, none⟩ (.int .i64 (hX xs is.length))).setCell ⟨w.heap.size + 1, 2, none⟩ (.pointer (some ⟨g, 0, none⟩)))) (((wr.setCell ⟨w.heap.size + 1, 0, none⟩ (.int .i64 num)).setCell ⟨w.heap.size + 1, 1, none⟩ (.int .i64 (hX xs is.length))).setCell ⟨w.heap.size + 1, 2, none⟩ (.pointer (some ⟨g, 0, none⟩))) vv' es.length (ecells es) ∧ Slp (TX (((wr.setCell ⟨w.heap.size + 1, 0, none⟩ (.int .i64 num)).setCell ⟨w.heap.size + 1, 1, none⟩ (.int .i64 (hX xs is.length))).setCell ⟨w.heap.size + 1, 2, none⟩ (.pointer (some ⟨g, 0, none⟩)))) (((wr.setCell ⟨w.heap.size + 1, 0, none⟩ (.int .i64 num)).setCell ⟨w.heap.size + 1, 1, none⟩ (.int .i64 (hX xs is.length))).setCell ⟨w.heap.size + 1, 2, none⟩ (.pointer (some ⟨g, 0, none⟩))) sv' (xs.reverse.map (·.2.2)).length ((xs.reverse.map (·.2.2)).map pcell)) := by
          have hf : Fr (fun k => k = w.heap.size + 1) wr (((wr.setCell ⟨w.heap.size + 1, 0, none⟩ (.int .i64 num)).setCell ⟨w.heap.size + 1, 1, none⟩ (.int .i64 (hX xs is.length))).setCell ⟨w.heap.size + 1, 2, none⟩ (.pointer (some ⟨g, 0, none⟩))) := Fr.setCell (Fr.setCell (Fr.setCell (Fr.refl (fun k => k = w.heap.size + 1) wr) (p := ⟨w.heap.size + 1, 0, none⟩) (.inl rfl) _) (p := ⟨w.heap.size + 1, 1, none⟩) (.inl rfl) _) (p := ⟨w.heap.size + 1, 2, none⟩) (.inl rfl) _
          have hB := hBI.out
          rw [List.take_of_length_le (by simp; have := hl.out; omega)] at hB
          refine ⟨kv, vv, sv, (hf.block g (heap_lt hB.nd) (fun e => by have := hB.lg; omega)).trans hB.nd, slp_tx (owns_of_block hB.rk (fun k hk => hf.block k (hB.rk.lt k hk).2 (fun e => by have := (hB.rk.lt k hk).1; omega))) (by decide), slp_tx (owns_of_block hB.re (fun k hk => hf.block k (hB.re.lt k hk).2 (fun e => by have := (hB.re.lt k hk).1; omega))) (by decide), ?_⟩
          have h9 := slp_tx (owns_of_block hB.rp (fun k hk => hf.block k (hB.rp.lt k hk).2 (fun e => by have := (hB.rp.lt k hk).1; omega))) (by decide)
          exact h9
        clear hcK hcE hI hv hh hB0 hB1 hBI hb
        go_wp2
        refine bodyPost_ret (results_cell2 rfl _ (w.heap.size + 1) _ _ rfl rfl (range_all hrt.1) Try.rowBr (sizeBr _ _ _)) rfl ?_
        obtain ⟨kv', vv', sv', q1, q2, q3, q4⟩ := hfinal.out
        exact ⟨hrt.2, fun _ => ⟨g, kv', vv', sv', rfl, q1, q2, q3, q4⟩, fun hno => absurd hok.out hno⟩
end Go.Proofs.Ytnljfhjindenpab
