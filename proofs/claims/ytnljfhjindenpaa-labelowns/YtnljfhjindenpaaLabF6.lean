/-
  LabelOwns' walk.
-/
import Derived.Test.YtnljfhjindenpaaLabA1
import Derived.Test.YtnljfhjindenpaaLabR6
import Derived.Test.YtnljfhjindenpaaLabI8
namespace Go.Proofs.Ytnljfhjindenpaa
set_option linter.unusedVariables false
set_option linter.unusedSimpArgs false
set_option maxRecDepth 20000
open Go.RowKit

theorem rgt_lev {d : Int} {xs : List Cat} (h : Rgt d xs) (id : Int) : 0 ≤ lev d xs id ∧ lev d xs id ≤ 4 := by
  have hlo := h.lo
  have hhi := h.hi
  have key : ∀ ys : List Cat, (∀ c ∈ ys, 0 ≤ c.2 ∧ c.2 ≤ 4) → 0 ≤ lev d ys id ∧ lev d ys id ≤ 4 := by
    intro ys
    induction ys with
    | nil => intro _; simp only [lev]; omega
    | cons c r ih =>
      intro hc
      simp only [lev]
      split
      · exact hc c List.mem_cons_self
      · exact ih (fun x hx => hc x (List.mem_cons_of_mem _ hx))
  refine key xs (fun c hc => ?_)
  obtain ⟨i, hi, he⟩ := List.mem_iff_getElem.1 hc
  have := h.each i hi
  rw [he] at this
  omega

theorem tn_back {x : Int} (h : x ≤ 4) : tn 5 0 (tn 0 5 x) = x := by
  unfold tn
  by_cases h0 : x = 0
  · rw [if_pos h0, if_pos rfl, h0]
  · rw [if_neg h0, if_neg (by omega)]
theorem tn_up {x : Int} (h : x ≤ 4) : x ≤ tn 0 5 x := by
  unfold tn
  split <;> omega
theorem leqd_iff' {f g : Int → Int} : (∀ id, decide (f id ≤ g id) = true) ↔ ∀ id, f id ≤ g id := ⟨fun h id => of_decide_eq_true (h id), fun h id => decide_eq_true (h id)⟩
theorem sameb_iff' {f g : Int → Int} : (∀ id, (f id == g id) = true) ↔ ∀ id, f id = g id := ⟨fun h id => by simpa using h id, fun h id => by simpa using h id⟩

set_option maxRecDepth 20000 in
set_option maxHeartbeats 6400000 in
theorem c_owns {X : Nat → Prop} {u0 : Value} {x0 : List Cat} (z0 : Int) (c : Cat) (id : Int) (w : World) (w0 : CSl X w u0 x0) (l0 : x0.length ≤ 8796093021952) :
    Calls Try.prog 4 #[labV z0 u0, catV c, .int .u64 id] w fun e w' => e = .returned (.bool true) ∧ Nw w w' := by
  obtain ⟨aa, ac, rfl, ha1, ha2⟩ := w0.form
  obtain ⟨c1, c2⟩ := c
  obtain ⟨W, hW⟩ : ∃ W, Hid (W = (w.alloc (.cells #[.int .i64 z0, .slice aa x0.length ac] 24)).alloc (.cells #[.int .u64 c1, .int .i64 c2] 27)) := ⟨_, rfl⟩
  have nW : Nw w W := by rw [hW.out]; exact nw_alloc (nw_alloc (nw_refl w) _) _
  have hA : W.heap[w.heap.size]? = some (.cells #[.int .i64 z0, .slice aa x0.length ac] 24 (0, 0)) := by rw [hW.out]; exact heap_alloc2_old w _ _
  have hC : W.heap[w.heap.size + 1]? = some (.cells #[.int .u64 c1, .int .i64 c2] 27 (0, 0)) := by rw [hW.out]; exact heap_alloc2_new w _ _
  have e0 := w0.nw nW
  unfold labV catV
  go_enter Try.func4, Try.ntmps4
  go_upto_region 1 with fail
  rw [← hW.out]
  clear hW w0
  generalize w.heap.size = N at *
  go_wp2_with (go_at_call 10; refine Calls.mono (c_alive _) ?_; rintro e Y ⟨rfl, qn⟩; refine stop_here ?_)
  unfold Hid
  replace nW := nw_trans nW qn
  replace e0 := e0.nw qn
  replace hA := (qn.block _ (heap_lt hA) (fun h => h)).trans hA
  replace hC := (qn.block _ (heap_lt hC) (fun h => h)).trans hC
  clear qn
  have a0 : Y.cell? ⟨N, 0, none⟩ = some (.int .i64 z0) := cell_blk hA rfl
  have a1 : Y.cell? ⟨N, 1, none⟩ = some (.slice aa x0.length ac) := cell_blk hA rfl
  have b0 : Y.cell? ⟨N + 1, 0, none⟩ = some (.int .u64 c1) := cell_blk hC rfl
  have b1 : Y.cell? ⟨N + 1, 1, none⟩ = some (.int .i64 c2) := cell_blk hC rfl
  have hcon : Hid _ := c_set z0 c1 c2 Y e0 (by omega)
  unfold labV at hcon
  go_upto_region 3 with fail
  go_wp2_with (go_at_call 18; refine Calls.mono hcon.out ?_; rintro e Y1 ⟨u1, y1, rfl, q1, q2, q3, q4, qn⟩; refine stop_here ?_)
  unfold Hid
  clear hcon a0 a1 b0 b1
  obtain ⟨sa, sc, rfl, _, _⟩ := q1.form
  have ls1 : Hid (lev z0 y1 c1 = c2) := by
    unfold Hid
    have := q3 c1
    simpa [lev] using this
  have ls2 : Hid (∀ i, i ≠ c1 → lev z0 y1 i = lev z0 x0 i) := fun i hi => by
    unfold Hid at *
    have := q3 i
    have h2 : ¬ c1 = i := fun h => hi h.symm
    simpa [lev, h2] using this
  have e1 := q1.any
  have n1 := nw_trans nW qn
  replace e0 := e0.nw qn
  replace hA := (qn.block _ (heap_lt hA) (fun h => h)).trans hA
  replace hC := (qn.block _ (heap_lt hC) (fun h => h)).trans hC
  clear q1 q2 q3 qn nW
  have nV : Nw Y1 (Y1.alloc (.cells #[.int .i64 z0, .slice sa y1.length sc] 24)) := nw_alloc (nw_refl Y1) _
  have hV : (Y1.alloc (.cells #[.int .i64 z0, .slice sa y1.length sc] 24)).heap[Y1.heap.size]? = some (.cells #[.int .i64 z0, .slice sa y1.length sc] 24 (0, 0)) := heap_alloc_new Y1 _
  unfold labV
  go_upto_region 4 with fail
  generalize Y1.alloc (.cells #[.int .i64 z0, .slice sa y1.length sc] 24) = U at *
  replace n1 := nw_trans n1 nV
  replace e0 := e0.nw nV
  replace e1 := e1.nw nV
  replace hA := (nV.block _ (heap_lt hA) (fun h => h)).trans hA
  replace hC := (nV.block _ (heap_lt hC) (fun h => h)).trans hC
  generalize Y1.heap.size = V at *
  clear nV
  by_cases hid : id = c1
  · subst hid
    have g2 : (id != id) = false := by simp
    have hSof : ∀ w', Nw U w' → (fun w' : World => Nw U w' ∧ w'.cell? ⟨N, 0, none⟩ = some (.int .i64 z0) ∧ w'.cell? ⟨N, 1, none⟩ = some (.slice aa x0.length ac) ∧ w'.cell? ⟨N + 1, 0, none⟩ = some (.int .u64 id) ∧ w'.cell? ⟨N + 1, 1, none⟩ = some (.int .i64 c2) ∧ w'.cell? ⟨V, 0, none⟩ = some (.int .i64 z0) ∧ w'.cell? ⟨V, 1, none⟩ = some (.slice sa y1.length sc)) w' := fun w' hw => ⟨hw, cell_blk ((hw.block _ (heap_lt hA) (fun h => h)).trans hA) rfl, cell_blk ((hw.block _ (heap_lt hA) (fun h => h)).trans hA) rfl, cell_blk ((hw.block _ (heap_lt hC) (fun h => h)).trans hC) rfl, cell_blk ((hw.block _ (heap_lt hC) (fun h => h)).trans hC) rfl, cell_blk ((hw.block _ (heap_lt hV) (fun h => h)).trans hV) rfl, cell_blk ((hw.block _ (heap_lt hV) (fun h => h)).trans hV) rfl⟩
    have hW0 : Nw U U.drew := Fr.drew (Fr.refl _ U)
    have hS := hSof _ hW0
    replace e0 := e0.nw hW0
    replace e1 := e1.nw hW0
    replace hSof : Hid _ := hSof
    refine wp_region_ord [] 21 [(0, true), (1, true), (4, true), (2, true), (5, true), (3, false), (6, true), (7, true), (8, true), (9, true), (10, true), (11, true), (12, true), (13, true), (14, true), (16, true), (17, true), (15, false), (18, false), (19, true), (20, true)] (fun w' : World => Nw U w' ∧ w'.cell? ⟨N, 0, none⟩ = some (.int .i64 z0) ∧ w'.cell? ⟨N, 1, none⟩ = some (.slice aa x0.length ac) ∧ w'.cell? ⟨N + 1, 0, none⟩ = some (.int .u64 id) ∧ w'.cell? ⟨N + 1, 1, none⟩ = some (.int .i64 c2) ∧ w'.cell? ⟨V, 0, none⟩ = some (.int .i64 z0) ∧ w'.cell? ⟨V, 1, none⟩ = some (.slice sa y1.length sc)) (by kernel_rfl) (by kernel_rfl) ?_
    refine ord_quietL _ ?_ rfl hS rfl ?_ ?_
    rotate_left
    · rintro w' ⟨hn, h0, h1, h2, h3, h4, h5⟩; go_simp; first | rfl | (rw [if_pos (by omega)]; done) | (rw [if_pos (by omega)]; rfl) | (rw [if_pos (by omega)]; go_simp; rfl)
    simp only [Act.put, List.setIfInBounds_toArray, List.set_cons_zero, List.set_cons_succ]
    refine ord_quietL _ ?_ rfl hS rfl ?_ ?_
    rotate_left
    · rintro w' ⟨hn, h0, h1, h2, h3, h4, h5⟩; go_simp; first | rfl | (rw [if_pos (by omega)]; done) | (rw [if_pos (by omega)]; rfl) | (rw [if_pos (by omega)]; go_simp; rfl)
    simp only [Act.put, List.setIfInBounds_toArray, List.set_cons_zero, List.set_cons_succ]
    refine ord_quietL _ ?_ rfl hS rfl ?_ ?_
    rotate_left
    · rintro w' ⟨hn, h0, h1, h2, h3, h4, h5⟩; go_simp; first | rfl | (rw [if_pos (by omega)]; done) | (rw [if_pos (by omega)]; rfl) | (rw [if_pos (by omega)]; go_simp; rfl)
    simp only [Act.put, List.setIfInBounds_toArray, List.set_cons_zero, List.set_cons_succ]
    refine ord_quietL _ ?_ rfl hS rfl ?_ ?_
    rotate_left
    · rintro w' ⟨hn, h0, h1, h2, h3, h4, h5⟩; go_simp; first | rfl | (rw [if_pos (by omega)]; done) | (rw [if_pos (by omega)]; rfl) | (rw [if_pos (by omega)]; go_simp; rfl)
    simp only [Act.put, List.setIfInBounds_toArray, List.set_cons_zero, List.set_cons_succ]
    refine ord_quietL _ ?_ rfl hS rfl ?_ ?_
    rotate_left
    · rintro w' ⟨hn, h0, h1, h2, h3, h4, h5⟩; go_simp; first | rfl | (rw [if_pos (by omega)]; done) | (rw [if_pos (by omega)]; rfl) | (rw [if_pos (by omega)]; go_simp; rfl)
    simp only [Act.put, List.setIfInBounds_toArray, List.set_cons_zero, List.set_cons_succ]
    refine ord_actL _ rfl (fun K1 hK1 => ?_)
    have hcon : Hid _ := c_level z0 id U.drew e1
    unfold labV at hcon
    go_wp2_with (go_at_call 20; refine Calls.mono hcon.out ?_; rintro e wk0 ⟨rfl, qn⟩)
    have m0 := nw_trans hW0 qn
    replace e0 := e0.nw qn
    replace e1 := e1.nw qn
    rw [ls1.out]
    have g1 : (c2 != c2) = false := by simp
    refine hK1 _ _ (hSof.out _ m0) ?_
    clear hK1 K1 hcon qn hS hW0
    have hS := hSof.out _ m0
    refine ord_quietL _ ?_ rfl hS rfl ?_ ?_
    rotate_left
    · rintro w' ⟨hn, h0, h1, h2, h3, h4, h5⟩; go_simp; first | rfl | (rw [if_pos (by omega)]; done) | (rw [if_pos (by omega)]; rfl) | (rw [if_pos (by omega)]; go_simp; rfl)
    simp only [Act.put, List.setIfInBounds_toArray, List.set_cons_zero, List.set_cons_succ]
    refine ord_quietL _ ?_ rfl hS rfl ?_ ?_
    rotate_left
    · rintro w' ⟨hn, h0, h1, h2, h3, h4, h5⟩; go_simp; first | rfl | (rw [if_pos (by omega)]; done) | (rw [if_pos (by omega)]; rfl) | (rw [if_pos (by omega)]; go_simp; rfl)
    simp only [Act.put, List.setIfInBounds_toArray, List.set_cons_zero, List.set_cons_succ]
    refine ord_quietL _ ?_ rfl hS rfl ?_ ?_
    rotate_left
    · rintro w' ⟨hn, h0, h1, h2, h3, h4, h5⟩; go_simp; first | rfl | (rw [if_pos (by omega)]; done) | (rw [if_pos (by omega)]; rfl) | (rw [if_pos (by omega)]; go_simp; rfl)
    simp only [Act.put, List.setIfInBounds_toArray, List.set_cons_zero, List.set_cons_succ]
    refine ord_quietL _ ?_ rfl hS rfl ?_ ?_
    rotate_left
    · rintro w' ⟨hn, h0, h1, h2, h3, h4, h5⟩; go_simp; first | rfl | (rw [if_pos (by omega)]; done) | (rw [if_pos (by omega)]; rfl) | (rw [if_pos (by omega)]; go_simp; rfl)
    simp only [Act.put, List.setIfInBounds_toArray, List.set_cons_zero, List.set_cons_succ]
    refine ord_quietL _ ?_ rfl hS rfl ?_ ?_
    rotate_left
    · rintro w' ⟨hn, h0, h1, h2, h3, h4, h5⟩; go_simp; first | rfl | (rw [if_pos (by omega)]; done) | (rw [if_pos (by omega)]; rfl) | (rw [if_pos (by omega)]; go_simp; rfl)
    simp only [Act.put, List.setIfInBounds_toArray, List.set_cons_zero, List.set_cons_succ]
    refine ord_quietL _ ?_ rfl hS rfl ?_ ?_
    rotate_left
    · rintro w' ⟨hn, h0, h1, h2, h3, h4, h5⟩; go_simp; first | rfl | (rw [if_pos (by omega)]; done) | (rw [if_pos (by omega)]; rfl) | (rw [if_pos (by omega)]; go_simp; rfl)
    simp only [Act.put, List.setIfInBounds_toArray, List.set_cons_zero, List.set_cons_succ]
    refine ord_quietL _ ?_ rfl hS rfl ?_ ?_
    rotate_left
    · rintro w' ⟨hn, h0, h1, h2, h3, h4, h5⟩; go_simp; first | rfl | (rw [if_pos (by omega)]; done) | (rw [if_pos (by omega)]; rfl) | (rw [if_pos (by omega)]; go_simp; rfl)
    simp only [Act.put, List.setIfInBounds_toArray, List.set_cons_zero, List.set_cons_succ]
    refine ord_skipL _ rfl hS rfl ?_
    simp only [Act.put, List.setIfInBounds_toArray, List.set_cons_zero, List.set_cons_succ]
    refine ord_skipL _ rfl hS rfl ?_
    simp only [Act.put, List.setIfInBounds_toArray, List.set_cons_zero, List.set_cons_succ]
    refine ord_skipL _ rfl hS rfl ?_
    simp only [Act.put, List.setIfInBounds_toArray, List.set_cons_zero, List.set_cons_succ]
    refine ord_skipL _ rfl hS rfl ?_
    simp only [Act.put, List.setIfInBounds_toArray, List.set_cons_zero, List.set_cons_succ]
    refine ord_actL _ rfl (fun K1 hK1 => ?_)
    go_wp2
    refine hK1 _ _ (hSof.out _ m0) ?_
    clear hK1 K1
    refine ord_actL _ rfl (fun K1 hK1 => ?_)
    go_wp2
    refine hK1 _ _ (hSof.out _ m0) ?_
    clear hK1 K1
    refine ord_skipL _ rfl hS rfl ?_
    simp only [Act.put, List.setIfInBounds_toArray, List.set_cons_zero, List.set_cons_succ]
    refine ord_quietL _ ?_ rfl hS rfl ?_ ?_
    rotate_left
    · rintro w' ⟨hn, h0, h1, h2, h3, h4, h5⟩; go_simp; first | rfl | (rw [if_pos (by omega)]; done) | (rw [if_pos (by omega)]; rfl) | (rw [if_pos (by omega)]; go_simp; rfl)
    simp only [Act.put, List.setIfInBounds_toArray, List.set_cons_zero, List.set_cons_succ]
    refine ord_tail ?_
    simp only [List.drop_succ_cons, List.drop_zero]
    replace n1 := nw_trans n1 m0
    replace hA := (m0.block _ (heap_lt hA) (fun h => h)).trans hA
    clear hC hV
    go_upto_region 6 with fail
    clear m0 hSof hS
    generalize wk0 = Z at *
    skip
    have a0 : Z.cell? ⟨N, 0, none⟩ = some (.int .i64 z0) := cell_blk hA rfl
    have a1 : Z.cell? ⟨N, 1, none⟩ = some (.slice aa x0.length ac) := cell_blk hA rfl
    have hcon : Hid _ := c_right z0 Z e0 (by omega)
    unfold labV at hcon
    go_wp2_with (go_at_call 21; refine Calls.mono hcon.out ?_; rintro e Z1 ⟨r, rfl, q1, qn⟩; refine stop_here ?_)
    unfold Hid
    clear hcon a0 a1
    replace n1 := nw_trans n1 qn
    cases r with
    | false =>
      go_wp2
      go_ret
      exact ⟨rfl, n1⟩
    | true =>
      have hR := q1.1 rfl
      have hlv : Hid (∀ i, lev z0 x0 i ≤ 4) := fun i => (rgt_lev hR i).2
      have hz : z0 ≤ 4 := hR.hi
      replace e0 := e0.nw qn
      replace hA := (qn.block _ (heap_lt hA) (fun h => h)).trans hA
      clear q1 qn hR
      have a0 : Z1.cell? ⟨N, 0, none⟩ = some (.int .i64 z0) := cell_blk hA rfl
      have a1 : Z1.cell? ⟨N, 1, none⟩ = some (.slice aa x0.length ac) := cell_blk hA rfl
      have hcon : Hid _ := c_raise z0 Z1 e0 (by omega)
      unfold labV at hcon
      go_upto_region 8 with fail
      go_wp2_with (go_at_call 15; refine Calls.mono hcon.out ?_; rintro e Z2 ⟨u2, y2, rfl, q1, q2, q3, q4, qn⟩; refine stop_here ?_)
      unfold Hid
      clear hcon a0 a1
      obtain ⟨ra, rc, rfl, _, _⟩ := q1.form
      generalize hD : tn 0 5 z0 = D at *
      replace hD : Hid (tn 0 5 z0 = D) := hD
      have lr : Hid (∀ i, lev D y2 i = tn 0 5 (lev z0 x0 i)) := q3
      have e2 := q1.any
      replace n1 := nw_trans n1 qn
      replace e0 := e0.nw qn
      replace hA := (qn.block _ (heap_lt hA) (fun h => h)).trans hA
      have hy2 : y2.length ≤ x0.length := q4
      clear q1 q2 q3 qn q4
      have nV : Nw Z2 (Z2.alloc (.cells #[.int .i64 D, .slice ra y2.length rc] 24)) := nw_alloc (nw_refl Z2) _
      have hV : (Z2.alloc (.cells #[.int .i64 D, .slice ra y2.length rc] 24)).heap[Z2.heap.size]? = some (.cells #[.int .i64 D, .slice ra y2.length rc] 24 (0, 0)) := heap_alloc_new Z2 _
      unfold labV
      go_upto_region 9 with fail
      generalize Z2.alloc (.cells #[.int .i64 D, .slice ra y2.length rc] 24) = U at *
      replace n1 := nw_trans n1 nV
      replace e0 := e0.nw nV
      replace e2 := e2.nw nV
      replace hA := (nV.block _ (heap_lt hA) (fun h => h)).trans hA
      generalize Z2.heap.size = V at *
      clear nV
      have a0 : U.cell? ⟨V, 0, none⟩ = some (.int .i64 D) := cell_blk hV rfl
      have a1 : U.cell? ⟨V, 1, none⟩ = some (.slice ra y2.length rc) := cell_blk hV rfl
      have hcon : Hid _ := c_level D id U e2
      unfold labV at hcon
      obtain ⟨lv, hlvE⟩ : ∃ lv, Hid (lev z0 x0 id = lv) := ⟨_, rfl⟩
      have hlv4 : lv ≤ 4 := by rw [← hlvE.out]; exact hlv.out id
      by_cases hz0 : lv = 0
      · go_wp2_with (go_at_call 20; refine Calls.mono hcon.out ?_; rintro e U1 ⟨rfl, qn⟩; refine stop_here ?_)
        unfold Hid
        have hup : lev D y2 id = 5 := by rw [lr.out, hlvE.out]; unfold tn; rw [if_pos hz0]
        rw [hup]
        clear hup hcon a0 a1
        replace n1 := nw_trans n1 qn
        replace e0 := e0.nw qn
        replace e2 := e2.nw qn
        replace hA := (qn.block _ (heap_lt hA) (fun h => h)).trans hA
        replace hV := (qn.block _ (heap_lt hV) (fun h => h)).trans hV
        clear qn
        go_upto_region 10 with fail
        clear U
        generalize U1 = U at *
        subst hz0
        have hSof : ∀ w', Nw U w' → (fun w' : World => Nw U w' ∧ w'.cell? ⟨N, 0, none⟩ = some (.int .i64 z0) ∧ w'.cell? ⟨N, 1, none⟩ = some (.slice aa x0.length ac) ∧ w'.cell? ⟨V, 0, none⟩ = some (.int .i64 D) ∧ w'.cell? ⟨V, 1, none⟩ = some (.slice ra y2.length rc)) w' := fun w' hw => ⟨hw, cell_blk ((hw.block _ (heap_lt hA) (fun h => h)).trans hA) rfl, cell_blk ((hw.block _ (heap_lt hA) (fun h => h)).trans hA) rfl, cell_blk ((hw.block _ (heap_lt hV) (fun h => h)).trans hV) rfl, cell_blk ((hw.block _ (heap_lt hV) (fun h => h)).trans hV) rfl⟩
        have hW0 : Nw U U.drew := Fr.drew (Fr.refl _ U)
        have hS := hSof _ hW0
        replace e0 := e0.nw hW0
        replace e2 := e2.nw hW0
        replace hSof : Hid _ := hSof
        refine wp_region_ord [] 29 [(0, true), (2, true), (1, false), (3, false), (4, true), (5, true), (6, true), (7, false), (8, true), (9, true), (10, true), (12, true), (13, true), (11, true), (14, false), (15, true), (16, true), (17, true), (18, true), (19, true), (20, true), (21, true), (22, true), (23, true), (24, true), (25, false), (26, true), (27, true), (28, true)] (fun w' : World => Nw U w' ∧ w'.cell? ⟨N, 0, none⟩ = some (.int .i64 z0) ∧ w'.cell? ⟨N, 1, none⟩ = some (.slice aa x0.length ac) ∧ w'.cell? ⟨V, 0, none⟩ = some (.int .i64 D) ∧ w'.cell? ⟨V, 1, none⟩ = some (.slice ra y2.length rc)) (by kernel_rfl) (by kernel_rfl) ?_
        refine ord_quietL _ ?_ rfl hS rfl ?_ ?_
        rotate_left
        · rintro w' ⟨hn, h0, h1, h2, h3⟩; go_simp; first | rfl | (rw [if_pos (by omega)]; done) | (rw [if_pos (by omega)]; rfl) | (rw [if_pos (by omega)]; go_simp; rfl)
        simp only [Act.put, List.setIfInBounds_toArray, List.set_cons_zero, List.set_cons_succ]
        refine ord_quietL _ ?_ rfl hS rfl ?_ ?_
        rotate_left
        · rintro w' ⟨hn, h0, h1, h2, h3⟩; go_simp; first | rfl | (rw [if_pos (by omega)]; done) | (rw [if_pos (by omega)]; rfl) | (rw [if_pos (by omega)]; go_simp; rfl)
        simp only [Act.put, List.setIfInBounds_toArray, List.set_cons_zero, List.set_cons_succ]
        refine ord_actL _ rfl (fun K1 hK1 => ?_)
        have hcon : Hid _ := c_lower D U.drew e2 (by omega)
        unfold labV at hcon
        go_wp2_with (go_at_call 17; refine Calls.mono hcon.out ?_; rintro e wk0 ⟨u3, y3, rfl, q1, q2, q3, q4, qn⟩)
        have m0 := nw_trans hW0 qn
        replace e0 := e0.nw qn
        replace e2 := e2.nw qn
        obtain ⟨ta, tc, rfl, _, _⟩ := q1.form
        have e3 := q1.any
        have ll : Hid (∀ i, lev (tn 5 0 D) y3 i = lev z0 x0 i) := fun i => by rw [q3 i, lr.out i, tn_back (hlv.out i)]
        have hy3 : y3.length ≤ y2.length := q4
        generalize tn 5 0 D = D3 at *
        refine hK1 _ _ (hSof.out _ m0) ?_
        clear hK1 K1 hcon qn hS hW0 q1 q2 q3 q4
        have hS := hSof.out _ m0
        refine ord_actL _ rfl (fun K1 hK1 => ?_)
        have hcon : Hid _ := c_same D3 z0 wk0 e3 e0 (by omega) (by omega)
        unfold labV at hcon
        go_wp2_with (go_at_call 22; refine Calls.mono hcon.out ?_; rintro e wk1 ⟨r, rfl, q1, qn⟩)
        have m1 := nw_trans m0 qn
        replace e0 := e0.nw qn
        replace e2 := e2.nw qn
        replace e3 := e3.nw qn
        have hr : r = true := q1.2 (sameb_iff'.2 ll.out)
        subst hr
        refine hK1 _ _ (hSof.out _ m1) ?_
        clear hK1 K1 hcon qn hS m0 q1
        have hS := hSof.out _ m1
        refine ord_quietL _ ?_ rfl hS rfl ?_ ?_
        rotate_left
        · rintro w' ⟨hn, h0, h1, h2, h3⟩; go_simp; first | rfl | (rw [if_pos (by omega)]; done) | (rw [if_pos (by omega)]; rfl) | (rw [if_pos (by omega)]; go_simp; rfl)
        simp only [Act.put, List.setIfInBounds_toArray, List.set_cons_zero, List.set_cons_succ]
        refine ord_quietL _ ?_ rfl hS rfl ?_ ?_
        rotate_left
        · rintro w' ⟨hn, h0, h1, h2, h3⟩; go_simp; first | rfl | (rw [if_pos (by omega)]; done) | (rw [if_pos (by omega)]; rfl) | (rw [if_pos (by omega)]; go_simp; rfl)
        simp only [Act.put, List.setIfInBounds_toArray, List.set_cons_zero, List.set_cons_succ]
        refine ord_quietL _ ?_ rfl hS rfl ?_ ?_
        rotate_left
        · rintro w' ⟨hn, h0, h1, h2, h3⟩; go_simp; first | rfl | (rw [if_pos (by omega)]; done) | (rw [if_pos (by omega)]; rfl) | (rw [if_pos (by omega)]; go_simp; rfl)
        simp only [Act.put, List.setIfInBounds_toArray, List.set_cons_zero, List.set_cons_succ]
        refine ord_actL _ rfl (fun K1 hK1 => ?_)
        have hcon : Hid _ := c_leq z0 D wk1 e0 e2 (by omega) (by omega)
        unfold labV at hcon
        go_wp2_with (go_at_call 23; refine Calls.mono hcon.out ?_; rintro e wk2 ⟨r, rfl, q1, qn⟩)
        have m2 := nw_trans m1 qn
        replace e0 := e0.nw qn
        replace e2 := e2.nw qn
        replace e3 := e3.nw qn
        have hr : r = true := q1.2 (leqd_iff'.2 (fun i => by rw [lr.out i]; exact tn_up (hlv.out i)))
        subst hr
        refine hK1 _ _ (hSof.out _ m2) ?_
        clear hK1 K1 hcon qn hS m1 q1
        have hS := hSof.out _ m2
        refine ord_quietL _ ?_ rfl hS rfl ?_ ?_
        rotate_left
        · rintro w' ⟨hn, h0, h1, h2, h3⟩; go_simp; first | rfl | (rw [if_pos (by omega)]; done) | (rw [if_pos (by omega)]; rfl) | (rw [if_pos (by omega)]; go_simp; rfl)
        simp only [Act.put, List.setIfInBounds_toArray, List.set_cons_zero, List.set_cons_succ]
        refine ord_quietL _ ?_ rfl hS rfl ?_ ?_
        rotate_left
        · rintro w' ⟨hn, h0, h1, h2, h3⟩; go_simp; first | rfl | (rw [if_pos (by omega)]; done) | (rw [if_pos (by omega)]; rfl) | (rw [if_pos (by omega)]; go_simp; rfl)
        simp only [Act.put, List.setIfInBounds_toArray, List.set_cons_zero, List.set_cons_succ]
        refine ord_quietL _ ?_ rfl hS rfl ?_ ?_
        rotate_left
        · rintro w' ⟨hn, h0, h1, h2, h3⟩; go_simp; first | rfl | (rw [if_pos (by omega)]; done) | (rw [if_pos (by omega)]; rfl) | (rw [if_pos (by omega)]; go_simp; rfl)
        simp only [Act.put, List.setIfInBounds_toArray, List.set_cons_zero, List.set_cons_succ]
        refine ord_quietL _ ?_ rfl hS rfl ?_ ?_
        rotate_left
        · rintro w' ⟨hn, h0, h1, h2, h3⟩; go_simp; first | rfl | (rw [if_pos (by omega)]; done) | (rw [if_pos (by omega)]; rfl) | (rw [if_pos (by omega)]; go_simp; rfl)
        simp only [Act.put, List.setIfInBounds_toArray, List.set_cons_zero, List.set_cons_succ]
        refine ord_quietL _ ?_ rfl hS rfl ?_ ?_
        rotate_left
        · rintro w' ⟨hn, h0, h1, h2, h3⟩; go_simp; first | rfl | (rw [if_pos (by omega)]; done) | (rw [if_pos (by omega)]; rfl) | (rw [if_pos (by omega)]; go_simp; rfl)
        simp only [Act.put, List.setIfInBounds_toArray, List.set_cons_zero, List.set_cons_succ]
        refine ord_quietL _ ?_ rfl hS rfl ?_ ?_
        rotate_left
        · rintro w' ⟨hn, h0, h1, h2, h3⟩; go_simp; first | rfl | (rw [if_pos (by omega)]; done) | (rw [if_pos (by omega)]; rfl) | (rw [if_pos (by omega)]; go_simp; rfl)
        simp only [Act.put, List.setIfInBounds_toArray, List.set_cons_zero, List.set_cons_succ]
        refine ord_actL _ rfl (fun K1 hK1 => ?_)
        have hcon : Hid _ := c_level z0 id wk2 e0
        unfold labV at hcon
        go_wp2_with (go_at_call 20; refine Calls.mono hcon.out ?_; rintro e wk3 ⟨rfl, qn⟩)
        have m3 := nw_trans m2 qn
        replace e0 := e0.nw qn
        replace e2 := e2.nw qn
        replace e3 := e3.nw qn
        rw [hlvE.out]
        refine hK1 _ _ (hSof.out _ m3) ?_
        clear hK1 K1 hcon qn hS m2
        have hS := hSof.out _ m3
        refine ord_quietL _ ?_ rfl hS rfl ?_ ?_
        rotate_left
        · rintro w' ⟨hn, h0, h1, h2, h3⟩; go_simp; first | rfl | (rw [if_pos (by omega)]; done) | (rw [if_pos (by omega)]; rfl) | (rw [if_pos (by omega)]; go_simp; rfl)
        simp only [Act.put, List.setIfInBounds_toArray, List.set_cons_zero, List.set_cons_succ]
        refine ord_quietL _ ?_ rfl hS rfl ?_ ?_
        rotate_left
        · rintro w' ⟨hn, h0, h1, h2, h3⟩; go_simp; first | rfl | (rw [if_pos (by omega)]; done) | (rw [if_pos (by omega)]; rfl) | (rw [if_pos (by omega)]; go_simp; rfl)
        simp only [Act.put, List.setIfInBounds_toArray, List.set_cons_zero, List.set_cons_succ]
        refine ord_quietL _ ?_ rfl hS rfl ?_ ?_
        rotate_left
        · rintro w' ⟨hn, h0, h1, h2, h3⟩; go_simp; first | rfl | (rw [if_pos (by omega)]; done) | (rw [if_pos (by omega)]; rfl) | (rw [if_pos (by omega)]; go_simp; rfl)
        simp only [Act.put, List.setIfInBounds_toArray, List.set_cons_zero, List.set_cons_succ]
        refine ord_quietL _ ?_ rfl hS rfl ?_ ?_
        rotate_left
        · rintro w' ⟨hn, h0, h1, h2, h3⟩; go_simp; first | rfl | (rw [if_pos (by omega)]; done) | (rw [if_pos (by omega)]; rfl) | (rw [if_pos (by omega)]; go_simp; rfl)
        simp only [Act.put, List.setIfInBounds_toArray, List.set_cons_zero, List.set_cons_succ]
        refine ord_quietL _ ?_ rfl hS rfl ?_ ?_
        rotate_left
        · rintro w' ⟨hn, h0, h1, h2, h3⟩; go_simp; first | rfl | (rw [if_pos (by omega)]; done) | (rw [if_pos (by omega)]; rfl) | (rw [if_pos (by omega)]; go_simp; rfl)
        simp only [Act.put, List.setIfInBounds_toArray, List.set_cons_zero, List.set_cons_succ]
        refine ord_quietL _ ?_ rfl hS rfl ?_ ?_
        rotate_left
        · rintro w' ⟨hn, h0, h1, h2, h3⟩; go_simp; first | rfl | (rw [if_pos (by omega)]; done) | (rw [if_pos (by omega)]; rfl) | (rw [if_pos (by omega)]; go_simp; rfl)
        simp only [Act.put, List.setIfInBounds_toArray, List.set_cons_zero, List.set_cons_succ]
        refine ord_quietL _ ?_ rfl hS rfl ?_ ?_
        rotate_left
        · rintro w' ⟨hn, h0, h1, h2, h3⟩; go_simp; first | rfl | (rw [if_pos (by omega)]; done) | (rw [if_pos (by omega)]; rfl) | (rw [if_pos (by omega)]; go_simp; rfl)
        simp only [Act.put, List.setIfInBounds_toArray, List.set_cons_zero, List.set_cons_succ]
        refine ord_skipL _ rfl hS rfl ?_
        simp only [Act.put, List.setIfInBounds_toArray, List.set_cons_zero, List.set_cons_succ]
        refine ord_skipL _ rfl hS rfl ?_
        simp only [Act.put, List.setIfInBounds_toArray, List.set_cons_zero, List.set_cons_succ]
        refine ord_skipL _ rfl hS rfl ?_
        simp only [Act.put, List.setIfInBounds_toArray, List.set_cons_zero, List.set_cons_succ]
        refine ord_actL _ rfl (fun K1 hK1 => ?_)
        go_wp2
        refine hK1 _ _ (hSof.out _ m3) ?_
        clear hK1 K1
        refine ord_skipL _ rfl hS rfl ?_
        simp only [Act.put, List.setIfInBounds_toArray, List.set_cons_zero, List.set_cons_succ]
        refine ord_quietL _ ?_ rfl hS rfl ?_ ?_
        rotate_left
        · rintro w' ⟨hn, h0, h1, h2, h3⟩; go_simp; first | rfl | (rw [if_pos (by omega)]; done) | (rw [if_pos (by omega)]; rfl) | (rw [if_pos (by omega)]; go_simp; rfl)
        simp only [Act.put, List.setIfInBounds_toArray, List.set_cons_zero, List.set_cons_succ]
        refine ord_quietL _ ?_ rfl hS rfl ?_ ?_
        rotate_left
        · rintro w' ⟨hn, h0, h1, h2, h3⟩; go_simp; first | rfl | (rw [if_pos (by omega)]; done) | (rw [if_pos (by omega)]; rfl) | (rw [if_pos (by omega)]; go_simp; rfl)
        simp only [Act.put, List.setIfInBounds_toArray, List.set_cons_zero, List.set_cons_succ]
        refine ord_tail ?_
        simp only [List.drop_succ_cons, List.drop_zero]
        have hfin := nw_trans n1 m3
        go_wp2
        go_ret
        exact ⟨by first | rfl | simp, hfin⟩
      · go_wp2_with (go_at_call 20; refine Calls.mono hcon.out ?_; rintro e U1 ⟨rfl, qn⟩; refine stop_here ?_)
        unfold Hid
        have hup : lev D y2 id = lv := by rw [lr.out, hlvE.out]; unfold tn; rw [if_neg hz0]
        rw [hup]
        clear hup hcon a0 a1
        replace n1 := nw_trans n1 qn
        replace e0 := e0.nw qn
        replace e2 := e2.nw qn
        replace hA := (qn.block _ (heap_lt hA) (fun h => h)).trans hA
        replace hV := (qn.block _ (heap_lt hV) (fun h => h)).trans hV
        clear qn
        go_upto_region 10 with fail
        clear U
        generalize U1 = U at *
        have g1 : (lv == 5) = false := by simp; omega
        have g2 : (lv == 0) = false := by simp; exact hz0
        have g3 : (lv == lv) = true := by simp
        clear hz0 hlv4
        have hSof : ∀ w', Nw U w' → (fun w' : World => Nw U w' ∧ w'.cell? ⟨N, 0, none⟩ = some (.int .i64 z0) ∧ w'.cell? ⟨N, 1, none⟩ = some (.slice aa x0.length ac) ∧ w'.cell? ⟨V, 0, none⟩ = some (.int .i64 D) ∧ w'.cell? ⟨V, 1, none⟩ = some (.slice ra y2.length rc)) w' := fun w' hw => ⟨hw, cell_blk ((hw.block _ (heap_lt hA) (fun h => h)).trans hA) rfl, cell_blk ((hw.block _ (heap_lt hA) (fun h => h)).trans hA) rfl, cell_blk ((hw.block _ (heap_lt hV) (fun h => h)).trans hV) rfl, cell_blk ((hw.block _ (heap_lt hV) (fun h => h)).trans hV) rfl⟩
        have hW0 : Nw U U.drew := Fr.drew (Fr.refl _ U)
        have hS := hSof _ hW0
        replace e0 := e0.nw hW0
        replace e2 := e2.nw hW0
        replace hSof : Hid _ := hSof
        refine wp_region_ord [] 29 [(0, true), (2, true), (1, false), (3, false), (4, true), (5, true), (6, true), (7, false), (8, true), (9, true), (10, true), (12, true), (13, true), (11, true), (14, false), (15, true), (16, true), (17, true), (18, true), (19, true), (20, true), (21, true), (22, true), (23, true), (24, true), (25, false), (26, true), (27, true), (28, true)] (fun w' : World => Nw U w' ∧ w'.cell? ⟨N, 0, none⟩ = some (.int .i64 z0) ∧ w'.cell? ⟨N, 1, none⟩ = some (.slice aa x0.length ac) ∧ w'.cell? ⟨V, 0, none⟩ = some (.int .i64 D) ∧ w'.cell? ⟨V, 1, none⟩ = some (.slice ra y2.length rc)) (by kernel_rfl) (by kernel_rfl) ?_
        refine ord_quietL _ ?_ rfl hS rfl ?_ ?_
        rotate_left
        · rintro w' ⟨hn, h0, h1, h2, h3⟩; go_simp; first | rfl | (rw [if_pos (by omega)]; done) | (rw [if_pos (by omega)]; rfl) | (rw [if_pos (by omega)]; go_simp; rfl)
        simp only [Act.put, List.setIfInBounds_toArray, List.set_cons_zero, List.set_cons_succ]
        refine ord_quietL _ ?_ rfl hS rfl ?_ ?_
        rotate_left
        · rintro w' ⟨hn, h0, h1, h2, h3⟩; go_simp; first | rfl | (rw [if_pos (by omega)]; done) | (rw [if_pos (by omega)]; rfl) | (rw [if_pos (by omega)]; go_simp; rfl)
        simp only [Act.put, List.setIfInBounds_toArray, List.set_cons_zero, List.set_cons_succ]
        refine ord_actL _ rfl (fun K1 hK1 => ?_)
        have hcon : Hid _ := c_lower D U.drew e2 (by omega)
        unfold labV at hcon
        go_wp2_with (go_at_call 17; refine Calls.mono hcon.out ?_; rintro e wk0 ⟨u3, y3, rfl, q1, q2, q3, q4, qn⟩)
        have m0 := nw_trans hW0 qn
        replace e0 := e0.nw qn
        replace e2 := e2.nw qn
        obtain ⟨ta, tc, rfl, _, _⟩ := q1.form
        have e3 := q1.any
        have ll : Hid (∀ i, lev (tn 5 0 D) y3 i = lev z0 x0 i) := fun i => by rw [q3 i, lr.out i, tn_back (hlv.out i)]
        have hy3 : y3.length ≤ y2.length := q4
        generalize tn 5 0 D = D3 at *
        refine hK1 _ _ (hSof.out _ m0) ?_
        clear hK1 K1 hcon qn hS hW0 q1 q2 q3 q4
        have hS := hSof.out _ m0
        refine ord_actL _ rfl (fun K1 hK1 => ?_)
        have hcon : Hid _ := c_same D3 z0 wk0 e3 e0 (by omega) (by omega)
        unfold labV at hcon
        go_wp2_with (go_at_call 22; refine Calls.mono hcon.out ?_; rintro e wk1 ⟨r, rfl, q1, qn⟩)
        have m1 := nw_trans m0 qn
        replace e0 := e0.nw qn
        replace e2 := e2.nw qn
        replace e3 := e3.nw qn
        have hr : r = true := q1.2 (sameb_iff'.2 ll.out)
        subst hr
        refine hK1 _ _ (hSof.out _ m1) ?_
        clear hK1 K1 hcon qn hS m0 q1
        have hS := hSof.out _ m1
        refine ord_quietL _ ?_ rfl hS rfl ?_ ?_
        rotate_left
        · rintro w' ⟨hn, h0, h1, h2, h3⟩; go_simp; first | rfl | (rw [if_pos (by omega)]; done) | (rw [if_pos (by omega)]; rfl) | (rw [if_pos (by omega)]; go_simp; rfl)
        simp only [Act.put, List.setIfInBounds_toArray, List.set_cons_zero, List.set_cons_succ]
        refine ord_quietL _ ?_ rfl hS rfl ?_ ?_
        rotate_left
        · rintro w' ⟨hn, h0, h1, h2, h3⟩; go_simp; first | rfl | (rw [if_pos (by omega)]; done) | (rw [if_pos (by omega)]; rfl) | (rw [if_pos (by omega)]; go_simp; rfl)
        simp only [Act.put, List.setIfInBounds_toArray, List.set_cons_zero, List.set_cons_succ]
        refine ord_quietL _ ?_ rfl hS rfl ?_ ?_
        rotate_left
        · rintro w' ⟨hn, h0, h1, h2, h3⟩; go_simp; first | rfl | (rw [if_pos (by omega)]; done) | (rw [if_pos (by omega)]; rfl) | (rw [if_pos (by omega)]; go_simp; rfl)
        simp only [Act.put, List.setIfInBounds_toArray, List.set_cons_zero, List.set_cons_succ]
        refine ord_actL _ rfl (fun K1 hK1 => ?_)
        have hcon : Hid _ := c_leq z0 D wk1 e0 e2 (by omega) (by omega)
        unfold labV at hcon
        go_wp2_with (go_at_call 23; refine Calls.mono hcon.out ?_; rintro e wk2 ⟨r, rfl, q1, qn⟩)
        have m2 := nw_trans m1 qn
        replace e0 := e0.nw qn
        replace e2 := e2.nw qn
        replace e3 := e3.nw qn
        have hr : r = true := q1.2 (leqd_iff'.2 (fun i => by rw [lr.out i]; exact tn_up (hlv.out i)))
        subst hr
        refine hK1 _ _ (hSof.out _ m2) ?_
        clear hK1 K1 hcon qn hS m1 q1
        have hS := hSof.out _ m2
        refine ord_quietL _ ?_ rfl hS rfl ?_ ?_
        rotate_left
        · rintro w' ⟨hn, h0, h1, h2, h3⟩; go_simp; first | rfl | (rw [if_pos (by omega)]; done) | (rw [if_pos (by omega)]; rfl) | (rw [if_pos (by omega)]; go_simp; rfl)
        simp only [Act.put, List.setIfInBounds_toArray, List.set_cons_zero, List.set_cons_succ]
        refine ord_quietL _ ?_ rfl hS rfl ?_ ?_
        rotate_left
        · rintro w' ⟨hn, h0, h1, h2, h3⟩; go_simp; first | rfl | (rw [if_pos (by omega)]; done) | (rw [if_pos (by omega)]; rfl) | (rw [if_pos (by omega)]; go_simp; rfl)
        simp only [Act.put, List.setIfInBounds_toArray, List.set_cons_zero, List.set_cons_succ]
        refine ord_quietL _ ?_ rfl hS rfl ?_ ?_
        rotate_left
        · rintro w' ⟨hn, h0, h1, h2, h3⟩; go_simp; first | rfl | (rw [if_pos (by omega)]; done) | (rw [if_pos (by omega)]; rfl) | (rw [if_pos (by omega)]; go_simp; rfl)
        simp only [Act.put, List.setIfInBounds_toArray, List.set_cons_zero, List.set_cons_succ]
        refine ord_quietL _ ?_ rfl hS rfl ?_ ?_
        rotate_left
        · rintro w' ⟨hn, h0, h1, h2, h3⟩; go_simp; first | rfl | (rw [if_pos (by omega)]; done) | (rw [if_pos (by omega)]; rfl) | (rw [if_pos (by omega)]; go_simp; rfl)
        simp only [Act.put, List.setIfInBounds_toArray, List.set_cons_zero, List.set_cons_succ]
        refine ord_quietL _ ?_ rfl hS rfl ?_ ?_
        rotate_left
        · rintro w' ⟨hn, h0, h1, h2, h3⟩; go_simp; first | rfl | (rw [if_pos (by omega)]; done) | (rw [if_pos (by omega)]; rfl) | (rw [if_pos (by omega)]; go_simp; rfl)
        simp only [Act.put, List.setIfInBounds_toArray, List.set_cons_zero, List.set_cons_succ]
        refine ord_quietL _ ?_ rfl hS rfl ?_ ?_
        rotate_left
        · rintro w' ⟨hn, h0, h1, h2, h3⟩; go_simp; first | rfl | (rw [if_pos (by omega)]; done) | (rw [if_pos (by omega)]; rfl) | (rw [if_pos (by omega)]; go_simp; rfl)
        simp only [Act.put, List.setIfInBounds_toArray, List.set_cons_zero, List.set_cons_succ]
        refine ord_actL _ rfl (fun K1 hK1 => ?_)
        have hcon : Hid _ := c_level z0 id wk2 e0
        unfold labV at hcon
        go_wp2_with (go_at_call 20; refine Calls.mono hcon.out ?_; rintro e wk3 ⟨rfl, qn⟩)
        have m3 := nw_trans m2 qn
        replace e0 := e0.nw qn
        replace e2 := e2.nw qn
        replace e3 := e3.nw qn
        rw [hlvE.out]
        refine hK1 _ _ (hSof.out _ m3) ?_
        clear hK1 K1 hcon qn hS m2
        have hS := hSof.out _ m3
        refine ord_quietL _ ?_ rfl hS rfl ?_ ?_
        rotate_left
        · rintro w' ⟨hn, h0, h1, h2, h3⟩; go_simp; first | rfl | (rw [if_pos (by omega)]; done) | (rw [if_pos (by omega)]; rfl) | (rw [if_pos (by omega)]; go_simp; rfl)
        simp only [Act.put, List.setIfInBounds_toArray, List.set_cons_zero, List.set_cons_succ]
        refine ord_quietL _ ?_ rfl hS rfl ?_ ?_
        rotate_left
        · rintro w' ⟨hn, h0, h1, h2, h3⟩; go_simp; first | rfl | (rw [if_pos (by omega)]; done) | (rw [if_pos (by omega)]; rfl) | (rw [if_pos (by omega)]; go_simp; rfl)
        simp only [Act.put, List.setIfInBounds_toArray, List.set_cons_zero, List.set_cons_succ]
        refine ord_quietL _ ?_ rfl hS rfl ?_ ?_
        rotate_left
        · rintro w' ⟨hn, h0, h1, h2, h3⟩; go_simp; first | rfl | (rw [if_pos (by omega)]; done) | (rw [if_pos (by omega)]; rfl) | (rw [if_pos (by omega)]; go_simp; rfl)
        simp only [Act.put, List.setIfInBounds_toArray, List.set_cons_zero, List.set_cons_succ]
        refine ord_quietL _ ?_ rfl hS rfl ?_ ?_
        rotate_left
        · rintro w' ⟨hn, h0, h1, h2, h3⟩; go_simp; first | rfl | (rw [if_pos (by omega)]; done) | (rw [if_pos (by omega)]; rfl) | (rw [if_pos (by omega)]; go_simp; rfl)
        simp only [Act.put, List.setIfInBounds_toArray, List.set_cons_zero, List.set_cons_succ]
        refine ord_quietL _ ?_ rfl hS rfl ?_ ?_
        rotate_left
        · rintro w' ⟨hn, h0, h1, h2, h3⟩; go_simp; first | rfl | (rw [if_pos (by omega)]; done) | (rw [if_pos (by omega)]; rfl) | (rw [if_pos (by omega)]; go_simp; rfl)
        simp only [Act.put, List.setIfInBounds_toArray, List.set_cons_zero, List.set_cons_succ]
        refine ord_quietL _ ?_ rfl hS rfl ?_ ?_
        rotate_left
        · rintro w' ⟨hn, h0, h1, h2, h3⟩; go_simp; first | rfl | (rw [if_pos (by omega)]; done) | (rw [if_pos (by omega)]; rfl) | (rw [if_pos (by omega)]; go_simp; rfl)
        simp only [Act.put, List.setIfInBounds_toArray, List.set_cons_zero, List.set_cons_succ]
        refine ord_quietL _ ?_ rfl hS rfl ?_ ?_
        rotate_left
        · rintro w' ⟨hn, h0, h1, h2, h3⟩; go_simp; first | rfl | (rw [if_pos (by omega)]; done) | (rw [if_pos (by omega)]; rfl) | (rw [if_pos (by omega)]; go_simp; rfl)
        simp only [Act.put, List.setIfInBounds_toArray, List.set_cons_zero, List.set_cons_succ]
        refine ord_quietL _ ?_ rfl hS rfl ?_ ?_
        rotate_left
        · rintro w' ⟨hn, h0, h1, h2, h3⟩; go_simp; first | rfl | (rw [if_pos (by omega)]; done) | (rw [if_pos (by omega)]; rfl) | (rw [if_pos (by omega)]; go_simp; rfl)
        simp only [Act.put, List.setIfInBounds_toArray, List.set_cons_zero, List.set_cons_succ]
        refine ord_quietL _ ?_ rfl hS rfl ?_ ?_
        rotate_left
        · rintro w' ⟨hn, h0, h1, h2, h3⟩; go_simp; first | rfl | (rw [if_pos (by omega)]; done) | (rw [if_pos (by omega)]; rfl) | (rw [if_pos (by omega)]; go_simp; rfl)
        simp only [Act.put, List.setIfInBounds_toArray, List.set_cons_zero, List.set_cons_succ]
        refine ord_quietL _ ?_ rfl hS rfl ?_ ?_
        rotate_left
        · rintro w' ⟨hn, h0, h1, h2, h3⟩; go_simp; first | rfl | (rw [if_pos (by omega)]; done) | (rw [if_pos (by omega)]; rfl) | (rw [if_pos (by omega)]; go_simp; rfl)
        simp only [Act.put, List.setIfInBounds_toArray, List.set_cons_zero, List.set_cons_succ]
        refine ord_actL _ rfl (fun K1 hK1 => ?_)
        have hcon : Hid _ := c_level z0 id wk3 e0
        unfold labV at hcon
        go_wp2_with (go_at_call 20; refine Calls.mono hcon.out ?_; rintro e wk4 ⟨rfl, qn⟩)
        have m4 := nw_trans m3 qn
        replace e0 := e0.nw qn
        replace e2 := e2.nw qn
        replace e3 := e3.nw qn
        rw [hlvE.out]
        refine hK1 _ _ (hSof.out _ m4) ?_
        clear hK1 K1 hcon qn hS m3
        have hS := hSof.out _ m4
        refine ord_quietL _ ?_ rfl hS rfl ?_ ?_
        rotate_left
        · rintro w' ⟨hn, h0, h1, h2, h3⟩; go_simp; first | rfl | (rw [if_pos (by omega)]; done) | (rw [if_pos (by omega)]; rfl) | (rw [if_pos (by omega)]; go_simp; rfl)
        simp only [Act.put, List.setIfInBounds_toArray, List.set_cons_zero, List.set_cons_succ]
        refine ord_quietL _ ?_ rfl hS rfl ?_ ?_
        rotate_left
        · rintro w' ⟨hn, h0, h1, h2, h3⟩; go_simp; first | rfl | (rw [if_pos (by omega)]; done) | (rw [if_pos (by omega)]; rfl) | (rw [if_pos (by omega)]; go_simp; rfl)
        simp only [Act.put, List.setIfInBounds_toArray, List.set_cons_zero, List.set_cons_succ]
        refine ord_quietL _ ?_ rfl hS rfl ?_ ?_
        rotate_left
        · rintro w' ⟨hn, h0, h1, h2, h3⟩; go_simp; first | rfl | (rw [if_pos (by omega)]; done) | (rw [if_pos (by omega)]; rfl) | (rw [if_pos (by omega)]; go_simp; rfl)
        simp only [Act.put, List.setIfInBounds_toArray, List.set_cons_zero, List.set_cons_succ]
        refine ord_tail ?_
        simp only [List.drop_succ_cons, List.drop_zero]
        have hfin := nw_trans n1 m4
        go_wp2
        go_ret
        exact ⟨by first | rfl | simp, hfin⟩
  · have g2 : (id != c1) = true := by simpa using hid
    have ls3 : Hid (lev z0 y1 id = lev z0 x0 id) := ls2.out id hid
    clear hid
    have hSof : ∀ w', Nw U w' → (fun w' : World => Nw U w' ∧ w'.cell? ⟨N, 0, none⟩ = some (.int .i64 z0) ∧ w'.cell? ⟨N, 1, none⟩ = some (.slice aa x0.length ac) ∧ w'.cell? ⟨N + 1, 0, none⟩ = some (.int .u64 c1) ∧ w'.cell? ⟨N + 1, 1, none⟩ = some (.int .i64 c2) ∧ w'.cell? ⟨V, 0, none⟩ = some (.int .i64 z0) ∧ w'.cell? ⟨V, 1, none⟩ = some (.slice sa y1.length sc)) w' := fun w' hw => ⟨hw, cell_blk ((hw.block _ (heap_lt hA) (fun h => h)).trans hA) rfl, cell_blk ((hw.block _ (heap_lt hA) (fun h => h)).trans hA) rfl, cell_blk ((hw.block _ (heap_lt hC) (fun h => h)).trans hC) rfl, cell_blk ((hw.block _ (heap_lt hC) (fun h => h)).trans hC) rfl, cell_blk ((hw.block _ (heap_lt hV) (fun h => h)).trans hV) rfl, cell_blk ((hw.block _ (heap_lt hV) (fun h => h)).trans hV) rfl⟩
    have hW0 : Nw U U.drew := Fr.drew (Fr.refl _ U)
    have hS := hSof _ hW0
    replace e0 := e0.nw hW0
    replace e1 := e1.nw hW0
    replace hSof : Hid _ := hSof
    refine wp_region_ord [] 21 [(0, true), (1, true), (4, true), (2, true), (5, true), (3, false), (6, true), (7, true), (8, true), (9, true), (10, true), (11, true), (12, true), (13, true), (14, true), (16, true), (17, true), (15, false), (18, false), (19, true), (20, true)] (fun w' : World => Nw U w' ∧ w'.cell? ⟨N, 0, none⟩ = some (.int .i64 z0) ∧ w'.cell? ⟨N, 1, none⟩ = some (.slice aa x0.length ac) ∧ w'.cell? ⟨N + 1, 0, none⟩ = some (.int .u64 c1) ∧ w'.cell? ⟨N + 1, 1, none⟩ = some (.int .i64 c2) ∧ w'.cell? ⟨V, 0, none⟩ = some (.int .i64 z0) ∧ w'.cell? ⟨V, 1, none⟩ = some (.slice sa y1.length sc)) (by kernel_rfl) (by kernel_rfl) ?_
    refine ord_quietL _ ?_ rfl hS rfl ?_ ?_
    rotate_left
    · rintro w' ⟨hn, h0, h1, h2, h3, h4, h5⟩; go_simp; first | rfl | (rw [if_pos (by omega)]; done) | (rw [if_pos (by omega)]; rfl) | (rw [if_pos (by omega)]; go_simp; rfl)
    simp only [Act.put, List.setIfInBounds_toArray, List.set_cons_zero, List.set_cons_succ]
    refine ord_quietL _ ?_ rfl hS rfl ?_ ?_
    rotate_left
    · rintro w' ⟨hn, h0, h1, h2, h3, h4, h5⟩; go_simp; first | rfl | (rw [if_pos (by omega)]; done) | (rw [if_pos (by omega)]; rfl) | (rw [if_pos (by omega)]; go_simp; rfl)
    simp only [Act.put, List.setIfInBounds_toArray, List.set_cons_zero, List.set_cons_succ]
    refine ord_quietL _ ?_ rfl hS rfl ?_ ?_
    rotate_left
    · rintro w' ⟨hn, h0, h1, h2, h3, h4, h5⟩; go_simp; first | rfl | (rw [if_pos (by omega)]; done) | (rw [if_pos (by omega)]; rfl) | (rw [if_pos (by omega)]; go_simp; rfl)
    simp only [Act.put, List.setIfInBounds_toArray, List.set_cons_zero, List.set_cons_succ]
    refine ord_quietL _ ?_ rfl hS rfl ?_ ?_
    rotate_left
    · rintro w' ⟨hn, h0, h1, h2, h3, h4, h5⟩; go_simp; first | rfl | (rw [if_pos (by omega)]; done) | (rw [if_pos (by omega)]; rfl) | (rw [if_pos (by omega)]; go_simp; rfl)
    simp only [Act.put, List.setIfInBounds_toArray, List.set_cons_zero, List.set_cons_succ]
    refine ord_quietL _ ?_ rfl hS rfl ?_ ?_
    rotate_left
    · rintro w' ⟨hn, h0, h1, h2, h3, h4, h5⟩; go_simp; first | rfl | (rw [if_pos (by omega)]; done) | (rw [if_pos (by omega)]; rfl) | (rw [if_pos (by omega)]; go_simp; rfl)
    simp only [Act.put, List.setIfInBounds_toArray, List.set_cons_zero, List.set_cons_succ]
    refine ord_actL _ rfl (fun K1 hK1 => ?_)
    have hcon : Hid _ := c_level z0 c1 U.drew e1
    unfold labV at hcon
    go_wp2_with (go_at_call 20; refine Calls.mono hcon.out ?_; rintro e wk0 ⟨rfl, qn⟩)
    have m0 := nw_trans hW0 qn
    replace e0 := e0.nw qn
    replace e1 := e1.nw qn
    rw [ls1.out]
    have g1 : (c2 != c2) = false := by simp
    refine hK1 _ _ (hSof.out _ m0) ?_
    clear hK1 K1 hcon qn hS hW0
    have hS := hSof.out _ m0
    refine ord_quietL _ ?_ rfl hS rfl ?_ ?_
    rotate_left
    · rintro w' ⟨hn, h0, h1, h2, h3, h4, h5⟩; go_simp; first | rfl | (rw [if_pos (by omega)]; done) | (rw [if_pos (by omega)]; rfl) | (rw [if_pos (by omega)]; go_simp; rfl)
    simp only [Act.put, List.setIfInBounds_toArray, List.set_cons_zero, List.set_cons_succ]
    refine ord_quietL _ ?_ rfl hS rfl ?_ ?_
    rotate_left
    · rintro w' ⟨hn, h0, h1, h2, h3, h4, h5⟩; go_simp; first | rfl | (rw [if_pos (by omega)]; done) | (rw [if_pos (by omega)]; rfl) | (rw [if_pos (by omega)]; go_simp; rfl)
    simp only [Act.put, List.setIfInBounds_toArray, List.set_cons_zero, List.set_cons_succ]
    refine ord_quietL _ ?_ rfl hS rfl ?_ ?_
    rotate_left
    · rintro w' ⟨hn, h0, h1, h2, h3, h4, h5⟩; go_simp; first | rfl | (rw [if_pos (by omega)]; done) | (rw [if_pos (by omega)]; rfl) | (rw [if_pos (by omega)]; go_simp; rfl)
    simp only [Act.put, List.setIfInBounds_toArray, List.set_cons_zero, List.set_cons_succ]
    refine ord_quietL _ ?_ rfl hS rfl ?_ ?_
    rotate_left
    · rintro w' ⟨hn, h0, h1, h2, h3, h4, h5⟩; go_simp; first | rfl | (rw [if_pos (by omega)]; done) | (rw [if_pos (by omega)]; rfl) | (rw [if_pos (by omega)]; go_simp; rfl)
    simp only [Act.put, List.setIfInBounds_toArray, List.set_cons_zero, List.set_cons_succ]
    refine ord_quietL _ ?_ rfl hS rfl ?_ ?_
    rotate_left
    · rintro w' ⟨hn, h0, h1, h2, h3, h4, h5⟩; go_simp; first | rfl | (rw [if_pos (by omega)]; done) | (rw [if_pos (by omega)]; rfl) | (rw [if_pos (by omega)]; go_simp; rfl)
    simp only [Act.put, List.setIfInBounds_toArray, List.set_cons_zero, List.set_cons_succ]
    refine ord_quietL _ ?_ rfl hS rfl ?_ ?_
    rotate_left
    · rintro w' ⟨hn, h0, h1, h2, h3, h4, h5⟩; go_simp; first | rfl | (rw [if_pos (by omega)]; done) | (rw [if_pos (by omega)]; rfl) | (rw [if_pos (by omega)]; go_simp; rfl)
    simp only [Act.put, List.setIfInBounds_toArray, List.set_cons_zero, List.set_cons_succ]
    refine ord_quietL _ ?_ rfl hS rfl ?_ ?_
    rotate_left
    · rintro w' ⟨hn, h0, h1, h2, h3, h4, h5⟩; go_simp; first | rfl | (rw [if_pos (by omega)]; done) | (rw [if_pos (by omega)]; rfl) | (rw [if_pos (by omega)]; go_simp; rfl)
    simp only [Act.put, List.setIfInBounds_toArray, List.set_cons_zero, List.set_cons_succ]
    refine ord_quietL _ ?_ rfl hS rfl ?_ ?_
    rotate_left
    · rintro w' ⟨hn, h0, h1, h2, h3, h4, h5⟩; go_simp; first | rfl | (rw [if_pos (by omega)]; done) | (rw [if_pos (by omega)]; rfl) | (rw [if_pos (by omega)]; go_simp; rfl)
    simp only [Act.put, List.setIfInBounds_toArray, List.set_cons_zero, List.set_cons_succ]
    refine ord_quietL _ ?_ rfl hS rfl ?_ ?_
    rotate_left
    · rintro w' ⟨hn, h0, h1, h2, h3, h4, h5⟩; go_simp; first | rfl | (rw [if_pos (by omega)]; done) | (rw [if_pos (by omega)]; rfl) | (rw [if_pos (by omega)]; go_simp; rfl)
    simp only [Act.put, List.setIfInBounds_toArray, List.set_cons_zero, List.set_cons_succ]
    refine ord_quietL _ ?_ rfl hS rfl ?_ ?_
    rotate_left
    · rintro w' ⟨hn, h0, h1, h2, h3, h4, h5⟩; go_simp; first | rfl | (rw [if_pos (by omega)]; done) | (rw [if_pos (by omega)]; rfl) | (rw [if_pos (by omega)]; go_simp; rfl)
    simp only [Act.put, List.setIfInBounds_toArray, List.set_cons_zero, List.set_cons_succ]
    refine ord_quietL _ ?_ rfl hS rfl ?_ ?_
    rotate_left
    · rintro w' ⟨hn, h0, h1, h2, h3, h4, h5⟩; go_simp; first | rfl | (rw [if_pos (by omega)]; done) | (rw [if_pos (by omega)]; rfl) | (rw [if_pos (by omega)]; go_simp; rfl)
    simp only [Act.put, List.setIfInBounds_toArray, List.set_cons_zero, List.set_cons_succ]
    refine ord_actL _ rfl (fun K1 hK1 => ?_)
    have hcon : Hid _ := c_level z0 id wk0 e1
    unfold labV at hcon
    go_wp2_with (go_at_call 20; refine Calls.mono hcon.out ?_; rintro e wk1 ⟨rfl, qn⟩)
    have m1 := nw_trans m0 qn
    replace e0 := e0.nw qn
    replace e1 := e1.nw qn
    rw [ls3.out]
    have g3 : (lev z0 x0 id != lev z0 x0 id) = false := by simp
    refine hK1 _ _ (hSof.out _ m1) ?_
    clear hK1 K1 hcon qn hS m0
    have hS := hSof.out _ m1
    refine ord_actL _ rfl (fun K1 hK1 => ?_)
    have hcon : Hid _ := c_level z0 id wk1 e0
    unfold labV at hcon
    go_wp2_with (go_at_call 20; refine Calls.mono hcon.out ?_; rintro e wk2 ⟨rfl, qn⟩)
    have m2 := nw_trans m1 qn
    replace e0 := e0.nw qn
    replace e1 := e1.nw qn
    refine hK1 _ _ (hSof.out _ m2) ?_
    clear hK1 K1 hcon qn hS m1
    have hS := hSof.out _ m2
    refine ord_quietL _ ?_ rfl hS rfl ?_ ?_
    rotate_left
    · rintro w' ⟨hn, h0, h1, h2, h3, h4, h5⟩; go_simp; first | rfl | (rw [if_pos (by omega)]; done) | (rw [if_pos (by omega)]; rfl) | (rw [if_pos (by omega)]; go_simp; rfl)
    simp only [Act.put, List.setIfInBounds_toArray, List.set_cons_zero, List.set_cons_succ]
    refine ord_quietL _ ?_ rfl hS rfl ?_ ?_
    rotate_left
    · rintro w' ⟨hn, h0, h1, h2, h3, h4, h5⟩; go_simp; first | rfl | (rw [if_pos (by omega)]; done) | (rw [if_pos (by omega)]; rfl) | (rw [if_pos (by omega)]; go_simp; rfl)
    simp only [Act.put, List.setIfInBounds_toArray, List.set_cons_zero, List.set_cons_succ]
    refine ord_tail ?_
    simp only [List.drop_succ_cons, List.drop_zero]
    replace n1 := nw_trans n1 m2
    replace hA := (m2.block _ (heap_lt hA) (fun h => h)).trans hA
    clear hC hV
    go_upto_region 6 with fail
    clear m2 hSof hS
    generalize wk2 = Z at *
    skip
    have a0 : Z.cell? ⟨N, 0, none⟩ = some (.int .i64 z0) := cell_blk hA rfl
    have a1 : Z.cell? ⟨N, 1, none⟩ = some (.slice aa x0.length ac) := cell_blk hA rfl
    have hcon : Hid _ := c_right z0 Z e0 (by omega)
    unfold labV at hcon
    go_wp2_with (go_at_call 21; refine Calls.mono hcon.out ?_; rintro e Z1 ⟨r, rfl, q1, qn⟩; refine stop_here ?_)
    unfold Hid
    clear hcon a0 a1
    replace n1 := nw_trans n1 qn
    cases r with
    | false =>
      go_wp2
      go_ret
      exact ⟨rfl, n1⟩
    | true =>
      have hR := q1.1 rfl
      have hlv : Hid (∀ i, lev z0 x0 i ≤ 4) := fun i => (rgt_lev hR i).2
      have hz : z0 ≤ 4 := hR.hi
      replace e0 := e0.nw qn
      replace hA := (qn.block _ (heap_lt hA) (fun h => h)).trans hA
      clear q1 qn hR
      have a0 : Z1.cell? ⟨N, 0, none⟩ = some (.int .i64 z0) := cell_blk hA rfl
      have a1 : Z1.cell? ⟨N, 1, none⟩ = some (.slice aa x0.length ac) := cell_blk hA rfl
      have hcon : Hid _ := c_raise z0 Z1 e0 (by omega)
      unfold labV at hcon
      go_upto_region 8 with fail
      go_wp2_with (go_at_call 15; refine Calls.mono hcon.out ?_; rintro e Z2 ⟨u2, y2, rfl, q1, q2, q3, q4, qn⟩; refine stop_here ?_)
      unfold Hid
      clear hcon a0 a1
      obtain ⟨ra, rc, rfl, _, _⟩ := q1.form
      generalize hD : tn 0 5 z0 = D at *
      replace hD : Hid (tn 0 5 z0 = D) := hD
      have lr : Hid (∀ i, lev D y2 i = tn 0 5 (lev z0 x0 i)) := q3
      have e2 := q1.any
      replace n1 := nw_trans n1 qn
      replace e0 := e0.nw qn
      replace hA := (qn.block _ (heap_lt hA) (fun h => h)).trans hA
      have hy2 : y2.length ≤ x0.length := q4
      clear q1 q2 q3 qn q4
      have nV : Nw Z2 (Z2.alloc (.cells #[.int .i64 D, .slice ra y2.length rc] 24)) := nw_alloc (nw_refl Z2) _
      have hV : (Z2.alloc (.cells #[.int .i64 D, .slice ra y2.length rc] 24)).heap[Z2.heap.size]? = some (.cells #[.int .i64 D, .slice ra y2.length rc] 24 (0, 0)) := heap_alloc_new Z2 _
      unfold labV
      go_upto_region 9 with fail
      generalize Z2.alloc (.cells #[.int .i64 D, .slice ra y2.length rc] 24) = U at *
      replace n1 := nw_trans n1 nV
      replace e0 := e0.nw nV
      replace e2 := e2.nw nV
      replace hA := (nV.block _ (heap_lt hA) (fun h => h)).trans hA
      generalize Z2.heap.size = V at *
      clear nV
      have a0 : U.cell? ⟨V, 0, none⟩ = some (.int .i64 D) := cell_blk hV rfl
      have a1 : U.cell? ⟨V, 1, none⟩ = some (.slice ra y2.length rc) := cell_blk hV rfl
      have hcon : Hid _ := c_level D id U e2
      unfold labV at hcon
      obtain ⟨lv, hlvE⟩ : ∃ lv, Hid (lev z0 x0 id = lv) := ⟨_, rfl⟩
      have hlv4 : lv ≤ 4 := by rw [← hlvE.out]; exact hlv.out id
      by_cases hz0 : lv = 0
      · go_wp2_with (go_at_call 20; refine Calls.mono hcon.out ?_; rintro e U1 ⟨rfl, qn⟩; refine stop_here ?_)
        unfold Hid
        have hup : lev D y2 id = 5 := by rw [lr.out, hlvE.out]; unfold tn; rw [if_pos hz0]
        rw [hup]
        clear hup hcon a0 a1
        replace n1 := nw_trans n1 qn
        replace e0 := e0.nw qn
        replace e2 := e2.nw qn
        replace hA := (qn.block _ (heap_lt hA) (fun h => h)).trans hA
        replace hV := (qn.block _ (heap_lt hV) (fun h => h)).trans hV
        clear qn
        go_upto_region 10 with fail
        clear U
        generalize U1 = U at *
        subst hz0
        have hSof : ∀ w', Nw U w' → (fun w' : World => Nw U w' ∧ w'.cell? ⟨N, 0, none⟩ = some (.int .i64 z0) ∧ w'.cell? ⟨N, 1, none⟩ = some (.slice aa x0.length ac) ∧ w'.cell? ⟨V, 0, none⟩ = some (.int .i64 D) ∧ w'.cell? ⟨V, 1, none⟩ = some (.slice ra y2.length rc)) w' := fun w' hw => ⟨hw, cell_blk ((hw.block _ (heap_lt hA) (fun h => h)).trans hA) rfl, cell_blk ((hw.block _ (heap_lt hA) (fun h => h)).trans hA) rfl, cell_blk ((hw.block _ (heap_lt hV) (fun h => h)).trans hV) rfl, cell_blk ((hw.block _ (heap_lt hV) (fun h => h)).trans hV) rfl⟩
        have hW0 : Nw U U.drew := Fr.drew (Fr.refl _ U)
        have hS := hSof _ hW0
        replace e0 := e0.nw hW0
        replace e2 := e2.nw hW0
        replace hSof : Hid _ := hSof
        refine wp_region_ord [] 29 [(0, true), (2, true), (1, false), (3, false), (4, true), (5, true), (6, true), (7, false), (8, true), (9, true), (10, true), (12, true), (13, true), (11, true), (14, false), (15, true), (16, true), (17, true), (18, true), (19, true), (20, true), (21, true), (22, true), (23, true), (24, true), (25, false), (26, true), (27, true), (28, true)] (fun w' : World => Nw U w' ∧ w'.cell? ⟨N, 0, none⟩ = some (.int .i64 z0) ∧ w'.cell? ⟨N, 1, none⟩ = some (.slice aa x0.length ac) ∧ w'.cell? ⟨V, 0, none⟩ = some (.int .i64 D) ∧ w'.cell? ⟨V, 1, none⟩ = some (.slice ra y2.length rc)) (by kernel_rfl) (by kernel_rfl) ?_
        refine ord_quietL _ ?_ rfl hS rfl ?_ ?_
        rotate_left
        · rintro w' ⟨hn, h0, h1, h2, h3⟩; go_simp; first | rfl | (rw [if_pos (by omega)]; done) | (rw [if_pos (by omega)]; rfl) | (rw [if_pos (by omega)]; go_simp; rfl)
        simp only [Act.put, List.setIfInBounds_toArray, List.set_cons_zero, List.set_cons_succ]
        refine ord_quietL _ ?_ rfl hS rfl ?_ ?_
        rotate_left
        · rintro w' ⟨hn, h0, h1, h2, h3⟩; go_simp; first | rfl | (rw [if_pos (by omega)]; done) | (rw [if_pos (by omega)]; rfl) | (rw [if_pos (by omega)]; go_simp; rfl)
        simp only [Act.put, List.setIfInBounds_toArray, List.set_cons_zero, List.set_cons_succ]
        refine ord_actL _ rfl (fun K1 hK1 => ?_)
        have hcon : Hid _ := c_lower D U.drew e2 (by omega)
        unfold labV at hcon
        go_wp2_with (go_at_call 17; refine Calls.mono hcon.out ?_; rintro e wk0 ⟨u3, y3, rfl, q1, q2, q3, q4, qn⟩)
        have m0 := nw_trans hW0 qn
        replace e0 := e0.nw qn
        replace e2 := e2.nw qn
        obtain ⟨ta, tc, rfl, _, _⟩ := q1.form
        have e3 := q1.any
        have ll : Hid (∀ i, lev (tn 5 0 D) y3 i = lev z0 x0 i) := fun i => by rw [q3 i, lr.out i, tn_back (hlv.out i)]
        have hy3 : y3.length ≤ y2.length := q4
        generalize tn 5 0 D = D3 at *
        refine hK1 _ _ (hSof.out _ m0) ?_
        clear hK1 K1 hcon qn hS hW0 q1 q2 q3 q4
        have hS := hSof.out _ m0
        refine ord_actL _ rfl (fun K1 hK1 => ?_)
        have hcon : Hid _ := c_same D3 z0 wk0 e3 e0 (by omega) (by omega)
        unfold labV at hcon
        go_wp2_with (go_at_call 22; refine Calls.mono hcon.out ?_; rintro e wk1 ⟨r, rfl, q1, qn⟩)
        have m1 := nw_trans m0 qn
        replace e0 := e0.nw qn
        replace e2 := e2.nw qn
        replace e3 := e3.nw qn
        have hr : r = true := q1.2 (sameb_iff'.2 ll.out)
        subst hr
        refine hK1 _ _ (hSof.out _ m1) ?_
        clear hK1 K1 hcon qn hS m0 q1
        have hS := hSof.out _ m1
        refine ord_quietL _ ?_ rfl hS rfl ?_ ?_
        rotate_left
        · rintro w' ⟨hn, h0, h1, h2, h3⟩; go_simp; first | rfl | (rw [if_pos (by omega)]; done) | (rw [if_pos (by omega)]; rfl) | (rw [if_pos (by omega)]; go_simp; rfl)
        simp only [Act.put, List.setIfInBounds_toArray, List.set_cons_zero, List.set_cons_succ]
        refine ord_quietL _ ?_ rfl hS rfl ?_ ?_
        rotate_left
        · rintro w' ⟨hn, h0, h1, h2, h3⟩; go_simp; first | rfl | (rw [if_pos (by omega)]; done) | (rw [if_pos (by omega)]; rfl) | (rw [if_pos (by omega)]; go_simp; rfl)
        simp only [Act.put, List.setIfInBounds_toArray, List.set_cons_zero, List.set_cons_succ]
        refine ord_quietL _ ?_ rfl hS rfl ?_ ?_
        rotate_left
        · rintro w' ⟨hn, h0, h1, h2, h3⟩; go_simp; first | rfl | (rw [if_pos (by omega)]; done) | (rw [if_pos (by omega)]; rfl) | (rw [if_pos (by omega)]; go_simp; rfl)
        simp only [Act.put, List.setIfInBounds_toArray, List.set_cons_zero, List.set_cons_succ]
        refine ord_actL _ rfl (fun K1 hK1 => ?_)
        have hcon : Hid _ := c_leq z0 D wk1 e0 e2 (by omega) (by omega)
        unfold labV at hcon
        go_wp2_with (go_at_call 23; refine Calls.mono hcon.out ?_; rintro e wk2 ⟨r, rfl, q1, qn⟩)
        have m2 := nw_trans m1 qn
        replace e0 := e0.nw qn
        replace e2 := e2.nw qn
        replace e3 := e3.nw qn
        have hr : r = true := q1.2 (leqd_iff'.2 (fun i => by rw [lr.out i]; exact tn_up (hlv.out i)))
        subst hr
        refine hK1 _ _ (hSof.out _ m2) ?_
        clear hK1 K1 hcon qn hS m1 q1
        have hS := hSof.out _ m2
        refine ord_quietL _ ?_ rfl hS rfl ?_ ?_
        rotate_left
        · rintro w' ⟨hn, h0, h1, h2, h3⟩; go_simp; first | rfl | (rw [if_pos (by omega)]; done) | (rw [if_pos (by omega)]; rfl) | (rw [if_pos (by omega)]; go_simp; rfl)
        simp only [Act.put, List.setIfInBounds_toArray, List.set_cons_zero, List.set_cons_succ]
        refine ord_quietL _ ?_ rfl hS rfl ?_ ?_
        rotate_left
        · rintro w' ⟨hn, h0, h1, h2, h3⟩; go_simp; first | rfl | (rw [if_pos (by omega)]; done) | (rw [if_pos (by omega)]; rfl) | (rw [if_pos (by omega)]; go_simp; rfl)
        simp only [Act.put, List.setIfInBounds_toArray, List.set_cons_zero, List.set_cons_succ]
        refine ord_quietL _ ?_ rfl hS rfl ?_ ?_
        rotate_left
        · rintro w' ⟨hn, h0, h1, h2, h3⟩; go_simp; first | rfl | (rw [if_pos (by omega)]; done) | (rw [if_pos (by omega)]; rfl) | (rw [if_pos (by omega)]; go_simp; rfl)
        simp only [Act.put, List.setIfInBounds_toArray, List.set_cons_zero, List.set_cons_succ]
        refine ord_quietL _ ?_ rfl hS rfl ?_ ?_
        rotate_left
        · rintro w' ⟨hn, h0, h1, h2, h3⟩; go_simp; first | rfl | (rw [if_pos (by omega)]; done) | (rw [if_pos (by omega)]; rfl) | (rw [if_pos (by omega)]; go_simp; rfl)
        simp only [Act.put, List.setIfInBounds_toArray, List.set_cons_zero, List.set_cons_succ]
        refine ord_quietL _ ?_ rfl hS rfl ?_ ?_
        rotate_left
        · rintro w' ⟨hn, h0, h1, h2, h3⟩; go_simp; first | rfl | (rw [if_pos (by omega)]; done) | (rw [if_pos (by omega)]; rfl) | (rw [if_pos (by omega)]; go_simp; rfl)
        simp only [Act.put, List.setIfInBounds_toArray, List.set_cons_zero, List.set_cons_succ]
        refine ord_quietL _ ?_ rfl hS rfl ?_ ?_
        rotate_left
        · rintro w' ⟨hn, h0, h1, h2, h3⟩; go_simp; first | rfl | (rw [if_pos (by omega)]; done) | (rw [if_pos (by omega)]; rfl) | (rw [if_pos (by omega)]; go_simp; rfl)
        simp only [Act.put, List.setIfInBounds_toArray, List.set_cons_zero, List.set_cons_succ]
        refine ord_actL _ rfl (fun K1 hK1 => ?_)
        have hcon : Hid _ := c_level z0 id wk2 e0
        unfold labV at hcon
        go_wp2_with (go_at_call 20; refine Calls.mono hcon.out ?_; rintro e wk3 ⟨rfl, qn⟩)
        have m3 := nw_trans m2 qn
        replace e0 := e0.nw qn
        replace e2 := e2.nw qn
        replace e3 := e3.nw qn
        rw [hlvE.out]
        refine hK1 _ _ (hSof.out _ m3) ?_
        clear hK1 K1 hcon qn hS m2
        have hS := hSof.out _ m3
        refine ord_quietL _ ?_ rfl hS rfl ?_ ?_
        rotate_left
        · rintro w' ⟨hn, h0, h1, h2, h3⟩; go_simp; first | rfl | (rw [if_pos (by omega)]; done) | (rw [if_pos (by omega)]; rfl) | (rw [if_pos (by omega)]; go_simp; rfl)
        simp only [Act.put, List.setIfInBounds_toArray, List.set_cons_zero, List.set_cons_succ]
        refine ord_quietL _ ?_ rfl hS rfl ?_ ?_
        rotate_left
        · rintro w' ⟨hn, h0, h1, h2, h3⟩; go_simp; first | rfl | (rw [if_pos (by omega)]; done) | (rw [if_pos (by omega)]; rfl) | (rw [if_pos (by omega)]; go_simp; rfl)
        simp only [Act.put, List.setIfInBounds_toArray, List.set_cons_zero, List.set_cons_succ]
        refine ord_quietL _ ?_ rfl hS rfl ?_ ?_
        rotate_left
        · rintro w' ⟨hn, h0, h1, h2, h3⟩; go_simp; first | rfl | (rw [if_pos (by omega)]; done) | (rw [if_pos (by omega)]; rfl) | (rw [if_pos (by omega)]; go_simp; rfl)
        simp only [Act.put, List.setIfInBounds_toArray, List.set_cons_zero, List.set_cons_succ]
        refine ord_quietL _ ?_ rfl hS rfl ?_ ?_
        rotate_left
        · rintro w' ⟨hn, h0, h1, h2, h3⟩; go_simp; first | rfl | (rw [if_pos (by omega)]; done) | (rw [if_pos (by omega)]; rfl) | (rw [if_pos (by omega)]; go_simp; rfl)
        simp only [Act.put, List.setIfInBounds_toArray, List.set_cons_zero, List.set_cons_succ]
        refine ord_quietL _ ?_ rfl hS rfl ?_ ?_
        rotate_left
        · rintro w' ⟨hn, h0, h1, h2, h3⟩; go_simp; first | rfl | (rw [if_pos (by omega)]; done) | (rw [if_pos (by omega)]; rfl) | (rw [if_pos (by omega)]; go_simp; rfl)
        simp only [Act.put, List.setIfInBounds_toArray, List.set_cons_zero, List.set_cons_succ]
        refine ord_quietL _ ?_ rfl hS rfl ?_ ?_
        rotate_left
        · rintro w' ⟨hn, h0, h1, h2, h3⟩; go_simp; first | rfl | (rw [if_pos (by omega)]; done) | (rw [if_pos (by omega)]; rfl) | (rw [if_pos (by omega)]; go_simp; rfl)
        simp only [Act.put, List.setIfInBounds_toArray, List.set_cons_zero, List.set_cons_succ]
        refine ord_quietL _ ?_ rfl hS rfl ?_ ?_
        rotate_left
        · rintro w' ⟨hn, h0, h1, h2, h3⟩; go_simp; first | rfl | (rw [if_pos (by omega)]; done) | (rw [if_pos (by omega)]; rfl) | (rw [if_pos (by omega)]; go_simp; rfl)
        simp only [Act.put, List.setIfInBounds_toArray, List.set_cons_zero, List.set_cons_succ]
        refine ord_skipL _ rfl hS rfl ?_
        simp only [Act.put, List.setIfInBounds_toArray, List.set_cons_zero, List.set_cons_succ]
        refine ord_skipL _ rfl hS rfl ?_
        simp only [Act.put, List.setIfInBounds_toArray, List.set_cons_zero, List.set_cons_succ]
        refine ord_skipL _ rfl hS rfl ?_
        simp only [Act.put, List.setIfInBounds_toArray, List.set_cons_zero, List.set_cons_succ]
        refine ord_actL _ rfl (fun K1 hK1 => ?_)
        go_wp2
        refine hK1 _ _ (hSof.out _ m3) ?_
        clear hK1 K1
        refine ord_skipL _ rfl hS rfl ?_
        simp only [Act.put, List.setIfInBounds_toArray, List.set_cons_zero, List.set_cons_succ]
        refine ord_quietL _ ?_ rfl hS rfl ?_ ?_
        rotate_left
        · rintro w' ⟨hn, h0, h1, h2, h3⟩; go_simp; first | rfl | (rw [if_pos (by omega)]; done) | (rw [if_pos (by omega)]; rfl) | (rw [if_pos (by omega)]; go_simp; rfl)
        simp only [Act.put, List.setIfInBounds_toArray, List.set_cons_zero, List.set_cons_succ]
        refine ord_quietL _ ?_ rfl hS rfl ?_ ?_
        rotate_left
        · rintro w' ⟨hn, h0, h1, h2, h3⟩; go_simp; first | rfl | (rw [if_pos (by omega)]; done) | (rw [if_pos (by omega)]; rfl) | (rw [if_pos (by omega)]; go_simp; rfl)
        simp only [Act.put, List.setIfInBounds_toArray, List.set_cons_zero, List.set_cons_succ]
        refine ord_tail ?_
        simp only [List.drop_succ_cons, List.drop_zero]
        have hfin := nw_trans n1 m3
        go_wp2
        go_ret
        exact ⟨by first | rfl | simp, hfin⟩
      · go_wp2_with (go_at_call 20; refine Calls.mono hcon.out ?_; rintro e U1 ⟨rfl, qn⟩; refine stop_here ?_)
        unfold Hid
        have hup : lev D y2 id = lv := by rw [lr.out, hlvE.out]; unfold tn; rw [if_neg hz0]
        rw [hup]
        clear hup hcon a0 a1
        replace n1 := nw_trans n1 qn
        replace e0 := e0.nw qn
        replace e2 := e2.nw qn
        replace hA := (qn.block _ (heap_lt hA) (fun h => h)).trans hA
        replace hV := (qn.block _ (heap_lt hV) (fun h => h)).trans hV
        clear qn
        go_upto_region 10 with fail
        clear U
        generalize U1 = U at *
        have g1 : (lv == 5) = false := by simp; omega
        have g2 : (lv == 0) = false := by simp; exact hz0
        have g3 : (lv == lv) = true := by simp
        clear hz0 hlv4
        have hSof : ∀ w', Nw U w' → (fun w' : World => Nw U w' ∧ w'.cell? ⟨N, 0, none⟩ = some (.int .i64 z0) ∧ w'.cell? ⟨N, 1, none⟩ = some (.slice aa x0.length ac) ∧ w'.cell? ⟨V, 0, none⟩ = some (.int .i64 D) ∧ w'.cell? ⟨V, 1, none⟩ = some (.slice ra y2.length rc)) w' := fun w' hw => ⟨hw, cell_blk ((hw.block _ (heap_lt hA) (fun h => h)).trans hA) rfl, cell_blk ((hw.block _ (heap_lt hA) (fun h => h)).trans hA) rfl, cell_blk ((hw.block _ (heap_lt hV) (fun h => h)).trans hV) rfl, cell_blk ((hw.block _ (heap_lt hV) (fun h => h)).trans hV) rfl⟩
        have hW0 : Nw U U.drew := Fr.drew (Fr.refl _ U)
        have hS := hSof _ hW0
        replace e0 := e0.nw hW0
        replace e2 := e2.nw hW0
        replace hSof : Hid _ := hSof
        refine wp_region_ord [] 29 [(0, true), (2, true), (1, false), (3, false), (4, true), (5, true), (6, true), (7, false), (8, true), (9, true), (10, true), (12, true), (13, true), (11, true), (14, false), (15, true), (16, true), (17, true), (18, true), (19, true), (20, true), (21, true), (22, true), (23, true), (24, true), (25, false), (26, true), (27, true), (28, true)] (fun w' : World => Nw U w' ∧ w'.cell? ⟨N, 0, none⟩ = some (.int .i64 z0) ∧ w'.cell? ⟨N, 1, none⟩ = some (.slice aa x0.length ac) ∧ w'.cell? ⟨V, 0, none⟩ = some (.int .i64 D) ∧ w'.cell? ⟨V, 1, none⟩ = some (.slice ra y2.length rc)) (by kernel_rfl) (by kernel_rfl) ?_
        refine ord_quietL _ ?_ rfl hS rfl ?_ ?_
        rotate_left
        · rintro w' ⟨hn, h0, h1, h2, h3⟩; go_simp; first | rfl | (rw [if_pos (by omega)]; done) | (rw [if_pos (by omega)]; rfl) | (rw [if_pos (by omega)]; go_simp; rfl)
        simp only [Act.put, List.setIfInBounds_toArray, List.set_cons_zero, List.set_cons_succ]
        refine ord_quietL _ ?_ rfl hS rfl ?_ ?_
        rotate_left
        · rintro w' ⟨hn, h0, h1, h2, h3⟩; go_simp; first | rfl | (rw [if_pos (by omega)]; done) | (rw [if_pos (by omega)]; rfl) | (rw [if_pos (by omega)]; go_simp; rfl)
        simp only [Act.put, List.setIfInBounds_toArray, List.set_cons_zero, List.set_cons_succ]
        refine ord_actL _ rfl (fun K1 hK1 => ?_)
        have hcon : Hid _ := c_lower D U.drew e2 (by omega)
        unfold labV at hcon
        go_wp2_with (go_at_call 17; refine Calls.mono hcon.out ?_; rintro e wk0 ⟨u3, y3, rfl, q1, q2, q3, q4, qn⟩)
        have m0 := nw_trans hW0 qn
        replace e0 := e0.nw qn
        replace e2 := e2.nw qn
        obtain ⟨ta, tc, rfl, _, _⟩ := q1.form
        have e3 := q1.any
        have ll : Hid (∀ i, lev (tn 5 0 D) y3 i = lev z0 x0 i) := fun i => by rw [q3 i, lr.out i, tn_back (hlv.out i)]
        have hy3 : y3.length ≤ y2.length := q4
        generalize tn 5 0 D = D3 at *
        refine hK1 _ _ (hSof.out _ m0) ?_
        clear hK1 K1 hcon qn hS hW0 q1 q2 q3 q4
        have hS := hSof.out _ m0
        refine ord_actL _ rfl (fun K1 hK1 => ?_)
        have hcon : Hid _ := c_same D3 z0 wk0 e3 e0 (by omega) (by omega)
        unfold labV at hcon
        go_wp2_with (go_at_call 22; refine Calls.mono hcon.out ?_; rintro e wk1 ⟨r, rfl, q1, qn⟩)
        have m1 := nw_trans m0 qn
        replace e0 := e0.nw qn
        replace e2 := e2.nw qn
        replace e3 := e3.nw qn
        have hr : r = true := q1.2 (sameb_iff'.2 ll.out)
        subst hr
        refine hK1 _ _ (hSof.out _ m1) ?_
        clear hK1 K1 hcon qn hS m0 q1
        have hS := hSof.out _ m1
        refine ord_quietL _ ?_ rfl hS rfl ?_ ?_
        rotate_left
        · rintro w' ⟨hn, h0, h1, h2, h3⟩; go_simp; first | rfl | (rw [if_pos (by omega)]; done) | (rw [if_pos (by omega)]; rfl) | (rw [if_pos (by omega)]; go_simp; rfl)
        simp only [Act.put, List.setIfInBounds_toArray, List.set_cons_zero, List.set_cons_succ]
        refine ord_quietL _ ?_ rfl hS rfl ?_ ?_
        rotate_left
        · rintro w' ⟨hn, h0, h1, h2, h3⟩; go_simp; first | rfl | (rw [if_pos (by omega)]; done) | (rw [if_pos (by omega)]; rfl) | (rw [if_pos (by omega)]; go_simp; rfl)
        simp only [Act.put, List.setIfInBounds_toArray, List.set_cons_zero, List.set_cons_succ]
        refine ord_quietL _ ?_ rfl hS rfl ?_ ?_
        rotate_left
        · rintro w' ⟨hn, h0, h1, h2, h3⟩; go_simp; first | rfl | (rw [if_pos (by omega)]; done) | (rw [if_pos (by omega)]; rfl) | (rw [if_pos (by omega)]; go_simp; rfl)
        simp only [Act.put, List.setIfInBounds_toArray, List.set_cons_zero, List.set_cons_succ]
        refine ord_actL _ rfl (fun K1 hK1 => ?_)
        have hcon : Hid _ := c_leq z0 D wk1 e0 e2 (by omega) (by omega)
        unfold labV at hcon
        go_wp2_with (go_at_call 23; refine Calls.mono hcon.out ?_; rintro e wk2 ⟨r, rfl, q1, qn⟩)
        have m2 := nw_trans m1 qn
        replace e0 := e0.nw qn
        replace e2 := e2.nw qn
        replace e3 := e3.nw qn
        have hr : r = true := q1.2 (leqd_iff'.2 (fun i => by rw [lr.out i]; exact tn_up (hlv.out i)))
        subst hr
        refine hK1 _ _ (hSof.out _ m2) ?_
        clear hK1 K1 hcon qn hS m1 q1
        have hS := hSof.out _ m2
        refine ord_quietL _ ?_ rfl hS rfl ?_ ?_
        rotate_left
        · rintro w' ⟨hn, h0, h1, h2, h3⟩; go_simp; first | rfl | (rw [if_pos (by omega)]; done) | (rw [if_pos (by omega)]; rfl) | (rw [if_pos (by omega)]; go_simp; rfl)
        simp only [Act.put, List.setIfInBounds_toArray, List.set_cons_zero, List.set_cons_succ]
        refine ord_quietL _ ?_ rfl hS rfl ?_ ?_
        rotate_left
        · rintro w' ⟨hn, h0, h1, h2, h3⟩; go_simp; first | rfl | (rw [if_pos (by omega)]; done) | (rw [if_pos (by omega)]; rfl) | (rw [if_pos (by omega)]; go_simp; rfl)
        simp only [Act.put, List.setIfInBounds_toArray, List.set_cons_zero, List.set_cons_succ]
        refine ord_quietL _ ?_ rfl hS rfl ?_ ?_
        rotate_left
        · rintro w' ⟨hn, h0, h1, h2, h3⟩; go_simp; first | rfl | (rw [if_pos (by omega)]; done) | (rw [if_pos (by omega)]; rfl) | (rw [if_pos (by omega)]; go_simp; rfl)
        simp only [Act.put, List.setIfInBounds_toArray, List.set_cons_zero, List.set_cons_succ]
        refine ord_quietL _ ?_ rfl hS rfl ?_ ?_
        rotate_left
        · rintro w' ⟨hn, h0, h1, h2, h3⟩; go_simp; first | rfl | (rw [if_pos (by omega)]; done) | (rw [if_pos (by omega)]; rfl) | (rw [if_pos (by omega)]; go_simp; rfl)
        simp only [Act.put, List.setIfInBounds_toArray, List.set_cons_zero, List.set_cons_succ]
        refine ord_quietL _ ?_ rfl hS rfl ?_ ?_
        rotate_left
        · rintro w' ⟨hn, h0, h1, h2, h3⟩; go_simp; first | rfl | (rw [if_pos (by omega)]; done) | (rw [if_pos (by omega)]; rfl) | (rw [if_pos (by omega)]; go_simp; rfl)
        simp only [Act.put, List.setIfInBounds_toArray, List.set_cons_zero, List.set_cons_succ]
        refine ord_quietL _ ?_ rfl hS rfl ?_ ?_
        rotate_left
        · rintro w' ⟨hn, h0, h1, h2, h3⟩; go_simp; first | rfl | (rw [if_pos (by omega)]; done) | (rw [if_pos (by omega)]; rfl) | (rw [if_pos (by omega)]; go_simp; rfl)
        simp only [Act.put, List.setIfInBounds_toArray, List.set_cons_zero, List.set_cons_succ]
        refine ord_actL _ rfl (fun K1 hK1 => ?_)
        have hcon : Hid _ := c_level z0 id wk2 e0
        unfold labV at hcon
        go_wp2_with (go_at_call 20; refine Calls.mono hcon.out ?_; rintro e wk3 ⟨rfl, qn⟩)
        have m3 := nw_trans m2 qn
        replace e0 := e0.nw qn
        replace e2 := e2.nw qn
        replace e3 := e3.nw qn
        rw [hlvE.out]
        refine hK1 _ _ (hSof.out _ m3) ?_
        clear hK1 K1 hcon qn hS m2
        have hS := hSof.out _ m3
        refine ord_quietL _ ?_ rfl hS rfl ?_ ?_
        rotate_left
        · rintro w' ⟨hn, h0, h1, h2, h3⟩; go_simp; first | rfl | (rw [if_pos (by omega)]; done) | (rw [if_pos (by omega)]; rfl) | (rw [if_pos (by omega)]; go_simp; rfl)
        simp only [Act.put, List.setIfInBounds_toArray, List.set_cons_zero, List.set_cons_succ]
        refine ord_quietL _ ?_ rfl hS rfl ?_ ?_
        rotate_left
        · rintro w' ⟨hn, h0, h1, h2, h3⟩; go_simp; first | rfl | (rw [if_pos (by omega)]; done) | (rw [if_pos (by omega)]; rfl) | (rw [if_pos (by omega)]; go_simp; rfl)
        simp only [Act.put, List.setIfInBounds_toArray, List.set_cons_zero, List.set_cons_succ]
        refine ord_quietL _ ?_ rfl hS rfl ?_ ?_
        rotate_left
        · rintro w' ⟨hn, h0, h1, h2, h3⟩; go_simp; first | rfl | (rw [if_pos (by omega)]; done) | (rw [if_pos (by omega)]; rfl) | (rw [if_pos (by omega)]; go_simp; rfl)
        simp only [Act.put, List.setIfInBounds_toArray, List.set_cons_zero, List.set_cons_succ]
        refine ord_quietL _ ?_ rfl hS rfl ?_ ?_
        rotate_left
        · rintro w' ⟨hn, h0, h1, h2, h3⟩; go_simp; first | rfl | (rw [if_pos (by omega)]; done) | (rw [if_pos (by omega)]; rfl) | (rw [if_pos (by omega)]; go_simp; rfl)
        simp only [Act.put, List.setIfInBounds_toArray, List.set_cons_zero, List.set_cons_succ]
        refine ord_quietL _ ?_ rfl hS rfl ?_ ?_
        rotate_left
        · rintro w' ⟨hn, h0, h1, h2, h3⟩; go_simp; first | rfl | (rw [if_pos (by omega)]; done) | (rw [if_pos (by omega)]; rfl) | (rw [if_pos (by omega)]; go_simp; rfl)
        simp only [Act.put, List.setIfInBounds_toArray, List.set_cons_zero, List.set_cons_succ]
        refine ord_quietL _ ?_ rfl hS rfl ?_ ?_
        rotate_left
        · rintro w' ⟨hn, h0, h1, h2, h3⟩; go_simp; first | rfl | (rw [if_pos (by omega)]; done) | (rw [if_pos (by omega)]; rfl) | (rw [if_pos (by omega)]; go_simp; rfl)
        simp only [Act.put, List.setIfInBounds_toArray, List.set_cons_zero, List.set_cons_succ]
        refine ord_quietL _ ?_ rfl hS rfl ?_ ?_
        rotate_left
        · rintro w' ⟨hn, h0, h1, h2, h3⟩; go_simp; first | rfl | (rw [if_pos (by omega)]; done) | (rw [if_pos (by omega)]; rfl) | (rw [if_pos (by omega)]; go_simp; rfl)
        simp only [Act.put, List.setIfInBounds_toArray, List.set_cons_zero, List.set_cons_succ]
        refine ord_quietL _ ?_ rfl hS rfl ?_ ?_
        rotate_left
        · rintro w' ⟨hn, h0, h1, h2, h3⟩; go_simp; first | rfl | (rw [if_pos (by omega)]; done) | (rw [if_pos (by omega)]; rfl) | (rw [if_pos (by omega)]; go_simp; rfl)
        simp only [Act.put, List.setIfInBounds_toArray, List.set_cons_zero, List.set_cons_succ]
        refine ord_quietL _ ?_ rfl hS rfl ?_ ?_
        rotate_left
        · rintro w' ⟨hn, h0, h1, h2, h3⟩; go_simp; first | rfl | (rw [if_pos (by omega)]; done) | (rw [if_pos (by omega)]; rfl) | (rw [if_pos (by omega)]; go_simp; rfl)
        simp only [Act.put, List.setIfInBounds_toArray, List.set_cons_zero, List.set_cons_succ]
        refine ord_quietL _ ?_ rfl hS rfl ?_ ?_
        rotate_left
        · rintro w' ⟨hn, h0, h1, h2, h3⟩; go_simp; first | rfl | (rw [if_pos (by omega)]; done) | (rw [if_pos (by omega)]; rfl) | (rw [if_pos (by omega)]; go_simp; rfl)
        simp only [Act.put, List.setIfInBounds_toArray, List.set_cons_zero, List.set_cons_succ]
        refine ord_actL _ rfl (fun K1 hK1 => ?_)
        have hcon : Hid _ := c_level z0 id wk3 e0
        unfold labV at hcon
        go_wp2_with (go_at_call 20; refine Calls.mono hcon.out ?_; rintro e wk4 ⟨rfl, qn⟩)
        have m4 := nw_trans m3 qn
        replace e0 := e0.nw qn
        replace e2 := e2.nw qn
        replace e3 := e3.nw qn
        rw [hlvE.out]
        refine hK1 _ _ (hSof.out _ m4) ?_
        clear hK1 K1 hcon qn hS m3
        have hS := hSof.out _ m4
        refine ord_quietL _ ?_ rfl hS rfl ?_ ?_
        rotate_left
        · rintro w' ⟨hn, h0, h1, h2, h3⟩; go_simp; first | rfl | (rw [if_pos (by omega)]; done) | (rw [if_pos (by omega)]; rfl) | (rw [if_pos (by omega)]; go_simp; rfl)
        simp only [Act.put, List.setIfInBounds_toArray, List.set_cons_zero, List.set_cons_succ]
        refine ord_quietL _ ?_ rfl hS rfl ?_ ?_
        rotate_left
        · rintro w' ⟨hn, h0, h1, h2, h3⟩; go_simp; first | rfl | (rw [if_pos (by omega)]; done) | (rw [if_pos (by omega)]; rfl) | (rw [if_pos (by omega)]; go_simp; rfl)
        simp only [Act.put, List.setIfInBounds_toArray, List.set_cons_zero, List.set_cons_succ]
        refine ord_quietL _ ?_ rfl hS rfl ?_ ?_
        rotate_left
        · rintro w' ⟨hn, h0, h1, h2, h3⟩; go_simp; first | rfl | (rw [if_pos (by omega)]; done) | (rw [if_pos (by omega)]; rfl) | (rw [if_pos (by omega)]; go_simp; rfl)
        simp only [Act.put, List.setIfInBounds_toArray, List.set_cons_zero, List.set_cons_succ]
        refine ord_tail ?_
        simp only [List.drop_succ_cons, List.drop_zero]
        have hfin := nw_trans n1 m4
        go_wp2
        go_ret
        exact ⟨by first | rfl | simp, hfin⟩
end Go.Proofs.Ytnljfhjindenpaa
