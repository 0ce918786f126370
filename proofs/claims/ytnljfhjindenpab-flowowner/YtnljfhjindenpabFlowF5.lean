/-
  FlowOwner's walk.
-/
import Derived.Test.YtnljfhjindenpabFlowF1
import Derived.Test.YtnljfhjindenpabLabI8
import Derived.Test.YtnljfhjindenpabLibGrow3
namespace Go.Proofs.Ytnljfhjindenpab
set_option linter.unusedVariables false
set_option linter.unusedSimpArgs false
set_option maxRecDepth 20000
open Go.RowKit

theorem lev_set {d a v : Int} {xs ys : List Cat} (h : ∀ id, lev d ys id = lev d ((a, v) :: xs) id) : lev d ys a = v ∧ ∀ id, id ≠ a → lev d ys id = lev d xs id := by
  refine ⟨by rw [h]; simp [lev], fun id hid => ?_⟩
  rw [h]
  have : ¬ a = id := fun e => hid e.symm
  simp [lev, this]

theorem own_rd {f o l : Int → Int} {a v k : Int} (ho : o a = k ∧ ∀ id, id ≠ a → o id = f id) (hl : l a = v ∧ ∀ id, id ≠ a → l id = tn 0 5 (f id)) (hv : v ≤ tn 0 5 k) : rdL o l := fun id => by
  by_cases h : id = a
  · subst h; rw [hl.1, ho.1]; exact hv
  · rw [hl.2 id h, ho.2 id h]; exact Int.le_refl _

theorem own_le {f o l : Int → Int} {a v k : Int} (ho : o a = k ∧ ∀ id, id ≠ a → o id = f id) (hl : l a = v ∧ ∀ id, id ≠ a → l id = tn 0 5 (f id)) (hf : ∀ id, f id ≤ 4) (hv : k ≤ v) : leL o l := fun id => by
  by_cases h : id = a
  · subst h; rw [hl.1, ho.1]; exact hv
  · rw [hl.2 id h, ho.2 id h]
    have := hf id
    unfold tn
    split <;> omega

theorem rgt_le {d : Int} {xs : List Cat} (h : Rgt d xs) (id : Int) : lev d xs id ≤ 4 := by
  have hhi := h.hi
  have key : ∀ ys : List Cat, (∀ c ∈ ys, c.2 ≤ 4) → lev d ys id ≤ 4 := by
    intro ys
    induction ys with
    | nil => intro _; simp only [lev]; omega
    | cons c r ih =>
      intro hc
      simp only [lev]
      split
      · exact hc c List.mem_cons_self
      · exact ih (fun x hx => hc x (List.mem_cons_of_mem _ hx))
  refine key xs (fun c hc => ?_)
  obtain ⟨i, hi, he⟩ := List.mem_iff_getElem.1 hc
  have := h.each i hi
  rw [he] at this
  omega

/-- A label set, what holds it, and a variable, in whatever order. -/
def FOwn (W : World) (zt : Int) (f : Int → Int) (n : Nat) : Nat → Value → Nat → Nat → World → Prop
  | 3 => fun v lo hi w => ∃ u ys, v = labV zt u ∧ CSl (fun b => lo ≤ b ∧ b < hi) w u ys ∧ (∀ id, lev zt ys id = f id) ∧ ys.length ≤ n
  | 7 => fun v lo hi w => v = .pointer (some ⟨lo, 0, none⟩) ∧ lo < hi ∧ W.heap.size ≤ lo ∧ w.heap[lo]? = some (.cells #[.int .i64 0, .slice none 0 0, .int .i64 0, .slice none 0 0] 26 (0, 0))
  | _ => fun _ _ _ _ => True
def ROwn (zt zc : Int) (C : Value) : Nat → (Nat → Value) → Prop
  | 6 => fun x => ∃ u, x 3 = labV zt u ∧ x 6 = whoV zt u zc C
  | _ => fun _ => True

set_option maxRecDepth 20000 in
set_option maxHeartbeats 6400000 in
theorem c_lowner {Xt Xc : Nat → Prop} {ut uc : Value} {xt xc : List Cat} (zt zc a lv : Int) (w : World) (et : CSl Xt w ut xt) (ec : CSl Xc w uc xc) (lt : xt.length ≤ 8796093021952) (lc : xc.length ≤ 8796093021952) :
    Calls Try.prog 3 #[whoV zt ut zc uc, .int .u64 a, .int .i64 lv] w fun e w' => e = .returned (.bool true) ∧ Nw w w' := by
  obtain ⟨adt, cpt, rfl, _, _⟩ := et.form
  obtain ⟨adc, cpc, rfl, _, _⟩ := ec.form
  obtain ⟨W, hW⟩ : ∃ W, Hid (W = (w.alloc (.cells #[.int .i64 zt, .slice adt xt.length cpt, .int .i64 zc, .slice adc xc.length cpc] 26))) := ⟨_, rfl⟩
  have nW : Nw w W := by rw [hW.out]; exact nw_alloc (nw_refl w) _
  have ht : W.heap[w.heap.size]? = some (.cells #[.int .i64 zt, .slice adt xt.length cpt, .int .i64 zc, .slice adc xc.length cpc] 26 (0, 0)) := by
    rw [hW.out]
    have := heap_alloc_new w (.cells #[.int .i64 zt, .slice adt xt.length cpt, .int .i64 zc, .slice adc xc.length cpc] 26)
    simpa using this
  replace et := et.nw nW
  replace ec := ec.nw nW
  unfold whoV
  go_enter Try.func3, Try.ntmps3
  go_upto_region 1 with fail
  rw [← hW.out]
  clear hW
  generalize w.heap.size = N at *
  go_wp2_with (go_at_call 7; refine Calls.mono (c_falive _) ?_; rintro e Y ⟨rfl, qn⟩; refine stop_here ?_)
  unfold Hid
  replace nW := nw_trans nW qn
  replace et := et.nw qn
  replace ec := ec.nw qn
  replace ht := (qn.block _ (heap_lt ht) (fun h => h)).trans ht
  clear qn
  go_upto_region 3 with fail
  have g0 : Y.cell? ⟨N, 0, none⟩ = some (.int .i64 zt) := cell_blk ht rfl
  have g1 : Y.cell? ⟨N, 1, none⟩ = some (.slice adt xt.length cpt) := cell_blk ht rfl
  have hcon : Hid _ := c_right zt Y et (by omega)
  unfold RgtP at hcon
  unfold labV at hcon
  go_wp2_with (go_at_call 8; refine Calls.mono hcon.out ?_; rintro e W ⟨r, rfl, q1, qn⟩; refine stop_here ?_)
  unfold Hid
  replace nW := nw_trans nW qn
  replace et := et.nw qn
  replace ec := ec.nw qn
  replace ht := (qn.block _ (heap_lt ht) (fun h => h)).trans ht
  clear qn hcon g0 g1
  cases r with
  | false =>
    go_wp2
    go_ret
    exact ⟨rfl, nW⟩
  | true =>
  have hR := q1.1 rfl
  have hf : Hid (∀ id, lev zt xt id ≤ 4) := rgt_le hR
  have hlx : xt.length ≤ 6 := hR.len
  clear q1 hR
  by_cases v1 : lv < 1
  · have b1 : decide (lv < 1) = true := decide_eq_true v1
    go_wp2
    go_ret
    exact ⟨rfl, nW⟩
  have b1 : decide (lv < 1) = false := decide_eq_false v1
  by_cases v2 : 4 < lv
  · have b2 : decide (4 < lv) = true := decide_eq_true v2
    go_wp2
    go_ret
    exact ⟨rfl, nW⟩
  have b2 : decide (4 < lv) = false := decide_eq_false v2
  by_cases v3 : a < 1
  · have b3 : decide (a < 1) = true := decide_eq_true v3
    go_wp2
    go_ret
    exact ⟨rfl, nW⟩
  have b3 : decide (a < 1) = false := decide_eq_false v3
  by_cases v4 : 2305843009213693951 < a
  · have b4 : decide (2305843009213693951 < a) = true := decide_eq_true v4
    go_wp2
    go_ret
    exact ⟨rfl, nW⟩
  have b4 : decide (2305843009213693951 < a) = false := decide_eq_false v4
  have hv : Hid (1 ≤ lv ∧ lv ≤ 4) := ⟨by omega, by omega⟩
  go_upto_region 5 with fail
  clear v1 v2 v3 v4 b1 b2 b3 b4
  have hSof : ∀ w', Nw W w' → (fun w' : World => Nw W w' ∧ w'.cell? ⟨N, 0, none⟩ = some (.int .i64 zt) ∧ w'.cell? ⟨N, 1, none⟩ = some (.slice adt xt.length cpt) ∧ w'.cell? ⟨N, 2, none⟩ = some (.int .i64 zc) ∧ w'.cell? ⟨N, 3, none⟩ = some (.slice adc xc.length cpc)) w' := fun w' hw => ⟨hw, cell_blk ((hw.block _ (heap_lt ht) (fun h => h)).trans ht) rfl, cell_blk ((hw.block _ (heap_lt ht) (fun h => h)).trans ht) rfl, cell_blk ((hw.block _ (heap_lt ht) (fun h => h)).trans ht) rfl, cell_blk ((hw.block _ (heap_lt ht) (fun h => h)).trans ht) rfl⟩
  have hW0 : Nw W W.drew := Fr.drew (Fr.refl _ W)
  have hS := hSof _ hW0
  replace hSof : Hid _ := hSof
  have hg1 : Hid (∀ w', Nw W w' → Calls Try.prog 9 #[.agg #[.int .i64 zt, .slice adt xt.length cpt], .int .u64 a, .int .i64 0] w' (MadeL w' zt (lev zt ((a, 0) :: xt)) (xt.length + 1))) := fun w' hw => c_set zt a 0 w' (et.nw hw) (by omega)
  refine wp_region_plan [] 8 [(0, []), (1, []), (2, []), (4, []), (5, []), (0, [(3, []), (6, [3]), (7, [])])] (fun w' : World => Nw W w' ∧ w'.cell? ⟨N, 0, none⟩ = some (.int .i64 zt) ∧ w'.cell? ⟨N, 1, none⟩ = some (.slice adt xt.length cpt) ∧ w'.cell? ⟨N, 2, none⟩ = some (.int .i64 zc) ∧ w'.cell? ⟨N, 3, none⟩ = some (.slice adc xc.length cpc)) (by kernel_rfl) (by kernel_rfl) ?_
  refine plan_quiet _ ?_ rfl hS rfl ?_ ?_
  rotate_left
  · rintro w' ⟨hn, h0, h1, h2, h3⟩; go_simp; first | rfl | (rw [if_pos (by omega)]; done) | (rw [if_pos (by omega)]; rfl) | (rw [if_pos (by omega)]; go_simp; rfl)
  simp only [Act.put, List.setIfInBounds_toArray, List.set_cons_zero, List.set_cons_succ]
  refine plan_quiet _ ?_ rfl hS rfl ?_ ?_
  rotate_left
  · rintro w' ⟨hn, h0, h1, h2, h3⟩; go_simp; first | rfl | (rw [if_pos (by omega)]; done) | (rw [if_pos (by omega)]; rfl) | (rw [if_pos (by omega)]; go_simp; rfl)
  simp only [Act.put, List.setIfInBounds_toArray, List.set_cons_zero, List.set_cons_succ]
  refine plan_quiet _ ?_ rfl hS rfl ?_ ?_
  rotate_left
  · rintro w' ⟨hn, h0, h1, h2, h3⟩; go_simp; first | rfl | (rw [if_pos (by omega)]; done) | (rw [if_pos (by omega)]; rfl) | (rw [if_pos (by omega)]; go_simp; rfl)
  simp only [Act.put, List.setIfInBounds_toArray, List.set_cons_zero, List.set_cons_succ]
  refine plan_quiet _ ?_ rfl hS rfl ?_ ?_
  rotate_left
  · rintro w' ⟨hn, h0, h1, h2, h3⟩; go_simp; first | rfl | (rw [if_pos (by omega)]; done) | (rw [if_pos (by omega)]; rfl) | (rw [if_pos (by omega)]; go_simp; rfl)
  simp only [Act.put, List.setIfInBounds_toArray, List.set_cons_zero, List.set_cons_succ]
  refine plan_quiet _ ?_ rfl hS rfl ?_ ?_
  rotate_left
  · rintro w' ⟨hn, h0, h1, h2, h3⟩; go_simp; first | rfl | (rw [if_pos (by omega)]; done) | (rw [if_pos (by omega)]; rfl) | (rw [if_pos (by omega)]; go_simp; rfl)
  simp only [Act.put, List.setIfInBounds_toArray, List.set_cons_zero, List.set_cons_succ]
  refine plan_group3 (fun | 3 => 35 | 6 => 38 | 7 => 7 | _ => 0) (FOwn W zt (lev zt ((a, 0) :: xt)) (xt.length + 1)) (ROwn zt zc (.slice adc xc.length cpc)) Nw (by decide) (by decide) (by decide) ?RC (fun a b ha hb => hSof.out b (nw_trans ha.1 hb)) (fun a b h => h.size) ?FG hS ?steps ?fin
  case RC =>
    intro p hp x x' h1 h2 h3
    simp only [List.mem_cons, List.not_mem_nil, or_false] at hp
    rcases hp with rfl | rfl | rfl
    · trivial
    · obtain ⟨u, k1, k2⟩ := h3
      exact ⟨u, by rw [← h2 3 (by simp)]; exact k1, by rw [← h1]; exact k2⟩
    · trivial
  case FG =>
    intro p hp v lo hi w1 w2 h1 h2
    simp only [List.mem_cons, List.not_mem_nil, or_false] at hp
    rcases hp with rfl | rfl | rfl
    · obtain ⟨u, ys, q1, q2, q3⟩ := h1
      exact ⟨u, ys, q1, q2.nw h2, q3⟩
    · trivial
    · obtain ⟨q1, q2, q3, q4⟩ := h1
      exact ⟨q1, q2, q3, (h2.block _ (heap_lt q4) (fun h => h)).trans q4⟩
  case steps =>
    intro p hp x lo hi w2 hS2 hd
    simp only [List.mem_cons, List.not_mem_nil, or_false] at hp
    have hws := hS2.1.size
    rcases hp with rfl | rfl | rfl
    · refine ⟨_, rfl, fun K hK => ?_⟩
      simp only [putAll, Act.put, List.setIfInBounds_toArray, List.set_cons_zero, List.set_cons_succ] at hK ⊢
      have hcon := hg1.out w2 hS2.1
      clear hd hS
      go_wp2_with (go_at_call 9; refine Calls.mono hcon ?_; rintro e w3 ⟨u, ys, rfl, q1, q2, q3, q4, q5⟩; refine stop_here ?_)
      unfold Hid
      obtain ⟨ja, jc, rfl, _, _⟩ := q1.form
      unfold labV
      go_wp2
      exact hK _ _ q5 ⟨_, ys, rfl, q1.mono (fun b hb h => ⟨hb, h⟩), q3, q4⟩ trivial
    · refine ⟨_, rfl, fun K hK => ?_⟩
      obtain ⟨⟨u4, y4, r1, r2, r3, r4⟩, _⟩ := hd 3 (by simp)
      obtain ⟨ia, ic, rfl, _, _⟩ := r2.form
      simp only [putAll, Act.put, List.setIfInBounds_toArray, List.set_cons_zero, List.set_cons_succ, r1] at hK ⊢
      unfold labV at hK ⊢
      clear hd hS r2 r3 r4
      go_wp2
      exact hK _ _ (nw_refl w2) trivial ⟨.slice ia y4.length ic, by simpa using r1, rfl⟩
    · refine ⟨_, rfl, fun K hK => ?_⟩
      simp only [putAll, Act.put, List.setIfInBounds_toArray, List.set_cons_zero, List.set_cons_succ] at hK ⊢
      clear hd hS
      go_wp2
      exact hK _ _ (nw_alloc (nw_refl w2) _) ⟨rfl, by simp, hws, heap_alloc_new w2 _⟩ trivial
  case fin =>
    intro x lo hi w2 hS2 hF hR
    obtain ⟨⟨ui, yo, hj1, hj2, hj3, hj4⟩, zz1, hj6⟩ := hF (3, []) (by simp)
    obtain ⟨zz2, ⟨uk, hk1, hk2⟩, zz3⟩ := hF (6, [3]) (by simp)
    obtain ⟨⟨p1, p2, p3, p4⟩, zz4, p5⟩ := hF (7, []) (by simp)
    have r56 := hR (3, []) (by simp) (7, []) (by simp) (by decide)
    simp only at hj1 hj2 hj6 hk1 hk2 p1 p2 p3 p4 p5 r56
    obtain rfl : uk = ui := by rw [hj1] at hk1; injection hk1 with h; simp at h; exact h.symm
    obtain ⟨jao, jco, rfl, _, _⟩ := hj2.form
    refine plan_tail ?_
    simp only [putAll, Act.put, List.setIfInBounds_toArray, List.set_cons_zero, List.set_cons_succ, List.drop_succ_cons, List.drop_zero, hj1, hk2, p1]
    generalize lo 7 = gjo at *
    generalize hi 7 = hj at *
    generalize lo 3 = l5 at *
    generalize hi 3 = h5 at *
    clear hF hR hj1 p1 hk1 hk2 zz1 zz2 zz3 zz4
    obtain ⟨U, hU⟩ : ∃ U, Hid (U = (((w2.setCell ⟨gjo, 0, none⟩ (.int .i64 zt)).setCell ⟨gjo, 1, none⟩ (.slice jao yo.length jco)).setCell ⟨gjo, 2, none⟩ (.int .i64 zc)).setCell ⟨gjo, 3, none⟩ (.slice adc xc.length cpc)) := ⟨_, rfl⟩
    have hfB : Fr (fun k => k = gjo) w2 U := by
      rw [hU.out]
      exact ((((Fr.refl (fun k => k = gjo) w2).setCell (p := ⟨gjo, 0, none⟩) (.inl rfl) _).setCell (p := ⟨gjo, 1, none⟩) (.inl rfl) _).setCell (p := ⟨gjo, 2, none⟩) (.inl rfl) _).setCell (p := ⟨gjo, 3, none⟩) (.inl rfl) _
    have bo : U.heap[gjo]? = some (.cells #[.int .i64 zt, .slice jao yo.length jco, .int .i64 zc, .slice adc xc.length cpc] 26 (0, 0)) := by rw [hU.out, blk_setCell (blk_setCell (blk_setCell (blk_setCell p4)))]; rfl
    have nU0 := hS2.1
    have nWU : Nw W U := Fr.trans nU0 hfB (fun k hk => .inr (by omega))
    replace et := et.nw nWU
    replace ec := ec.nw nWU
    replace ht := (nWU.block _ (heap_lt ht) (fun h => h)).trans ht
    have eo : CSl (fun _ => True) U (.slice jao yo.length jco) yo := hj2.keep hfB (fun b hb _ h => by omega) (fun _ _ _ => trivial)
    have so : Hid _ := lev_set hj3
    have no : yo.length ≤ 7 := by omega
    have c1 : w2.cell? ⟨gjo, 0, none⟩ = some (.int .i64 0) := cell_blk p4 rfl
    have c2 : w2.cell? ⟨gjo, 1, none⟩ = some (.slice none 0 0) := cell_blk p4 rfl
    have c3 : w2.cell? ⟨gjo, 2, none⟩ = some (.int .i64 0) := cell_blk p4 rfl
    have c4 : w2.cell? ⟨gjo, 3, none⟩ = some (.slice none 0 0) := cell_blk p4 rfl
    have f1 : ∀ k, w2.frozen? ⟨gjo, k, none⟩ = false := fun k => free_blk p4
    replace nW := nw_trans nW nWU
    clear hj2 hj3 hj4 hfB p4 nU0 hS2 hg1 hS hW0 hSof nWU r56 hj6 p2 p3 p5
    unfold whoV
    go_upto_region 6 with fail
    rw [← hU.out]
    clear hU c1 c2 c3 c4 f1
    clear w2 W
    obtain ⟨W, rfl⟩ : ∃ W, W = U := ⟨_, rfl⟩
    have hSof : ∀ w', Nw W w' → (fun w' : World => Nw W w' ∧ w'.cell? ⟨N, 0, none⟩ = some (.int .i64 zt) ∧ w'.cell? ⟨N, 1, none⟩ = some (.slice adt xt.length cpt) ∧ w'.cell? ⟨N, 2, none⟩ = some (.int .i64 zc) ∧ w'.cell? ⟨N, 3, none⟩ = some (.slice adc xc.length cpc) ∧ w'.cell? ⟨gjo, 0, none⟩ = some (.int .i64 zt) ∧ w'.cell? ⟨gjo, 1, none⟩ = some (.slice jao yo.length jco) ∧ w'.cell? ⟨gjo, 2, none⟩ = some (.int .i64 zc) ∧ w'.cell? ⟨gjo, 3, none⟩ = some (.slice adc xc.length cpc)) w' := fun w' hw => ⟨hw, cell_blk ((hw.block _ (heap_lt ht) (fun h => h)).trans ht) rfl, cell_blk ((hw.block _ (heap_lt ht) (fun h => h)).trans ht) rfl, cell_blk ((hw.block _ (heap_lt ht) (fun h => h)).trans ht) rfl, cell_blk ((hw.block _ (heap_lt ht) (fun h => h)).trans ht) rfl, cell_blk ((hw.block _ (heap_lt bo) (fun h => h)).trans bo) rfl, cell_blk ((hw.block _ (heap_lt bo) (fun h => h)).trans bo) rfl, cell_blk ((hw.block _ (heap_lt bo) (fun h => h)).trans bo) rfl, cell_blk ((hw.block _ (heap_lt bo) (fun h => h)).trans bo) rfl⟩
    have hW0 : Nw W W.drew := Fr.drew (Fr.refl _ W)
    have hS := hSof _ hW0
    replace hSof : Hid _ := hSof
    have hg1 : Hid (∀ w', Nw W w' → Calls Try.prog 9 #[.agg #[.int .i64 zt, .slice adt xt.length cpt], .int .u64 a, .int .i64 4] w' (MadeL w' zt (lev zt ((a, 4) :: xt)) (xt.length + 1))) := fun w' hw => c_set zt a 4 w' (et.nw hw) (by omega)
    refine wp_region_plan [] 8 [(0, []), (1, []), (2, []), (4, []), (5, []), (0, [(3, []), (6, [3]), (7, [])])] (fun w' : World => Nw W w' ∧ w'.cell? ⟨N, 0, none⟩ = some (.int .i64 zt) ∧ w'.cell? ⟨N, 1, none⟩ = some (.slice adt xt.length cpt) ∧ w'.cell? ⟨N, 2, none⟩ = some (.int .i64 zc) ∧ w'.cell? ⟨N, 3, none⟩ = some (.slice adc xc.length cpc) ∧ w'.cell? ⟨gjo, 0, none⟩ = some (.int .i64 zt) ∧ w'.cell? ⟨gjo, 1, none⟩ = some (.slice jao yo.length jco) ∧ w'.cell? ⟨gjo, 2, none⟩ = some (.int .i64 zc) ∧ w'.cell? ⟨gjo, 3, none⟩ = some (.slice adc xc.length cpc)) (by kernel_rfl) (by kernel_rfl) ?_
    refine plan_quiet _ ?_ rfl hS rfl ?_ ?_
    rotate_left
    · rintro w' ⟨hn, h0, h1, h2, h3, h4, h5, h6, h7⟩; go_simp; first | rfl | (rw [if_pos (by omega)]; done) | (rw [if_pos (by omega)]; rfl) | (rw [if_pos (by omega)]; go_simp; rfl)
    simp only [Act.put, List.setIfInBounds_toArray, List.set_cons_zero, List.set_cons_succ]
    refine plan_quiet _ ?_ rfl hS rfl ?_ ?_
    rotate_left
    · rintro w' ⟨hn, h0, h1, h2, h3, h4, h5, h6, h7⟩; go_simp; first | rfl | (rw [if_pos (by omega)]; done) | (rw [if_pos (by omega)]; rfl) | (rw [if_pos (by omega)]; go_simp; rfl)
    simp only [Act.put, List.setIfInBounds_toArray, List.set_cons_zero, List.set_cons_succ]
    refine plan_quiet _ ?_ rfl hS rfl ?_ ?_
    rotate_left
    · rintro w' ⟨hn, h0, h1, h2, h3, h4, h5, h6, h7⟩; go_simp; first | rfl | (rw [if_pos (by omega)]; done) | (rw [if_pos (by omega)]; rfl) | (rw [if_pos (by omega)]; go_simp; rfl)
    simp only [Act.put, List.setIfInBounds_toArray, List.set_cons_zero, List.set_cons_succ]
    refine plan_quiet _ ?_ rfl hS rfl ?_ ?_
    rotate_left
    · rintro w' ⟨hn, h0, h1, h2, h3, h4, h5, h6, h7⟩; go_simp; first | rfl | (rw [if_pos (by omega)]; done) | (rw [if_pos (by omega)]; rfl) | (rw [if_pos (by omega)]; go_simp; rfl)
    simp only [Act.put, List.setIfInBounds_toArray, List.set_cons_zero, List.set_cons_succ]
    refine plan_quiet _ ?_ rfl hS rfl ?_ ?_
    rotate_left
    · rintro w' ⟨hn, h0, h1, h2, h3, h4, h5, h6, h7⟩; go_simp; first | rfl | (rw [if_pos (by omega)]; done) | (rw [if_pos (by omega)]; rfl) | (rw [if_pos (by omega)]; go_simp; rfl)
    simp only [Act.put, List.setIfInBounds_toArray, List.set_cons_zero, List.set_cons_succ]
    refine plan_group3 (fun | 3 => 42 | 6 => 45 | 7 => 8 | _ => 0) (FOwn W zt (lev zt ((a, 4) :: xt)) (xt.length + 1)) (ROwn zt zc (.slice adc xc.length cpc)) Nw (by decide) (by decide) (by decide) ?RC (fun a b ha hb => hSof.out b (nw_trans ha.1 hb)) (fun a b h => h.size) ?FG hS ?steps ?fin
    case RC =>
      intro p hp x x' h1 h2 h3
      simp only [List.mem_cons, List.not_mem_nil, or_false] at hp
      rcases hp with rfl | rfl | rfl
      · trivial
      · obtain ⟨u, k1, k2⟩ := h3
        exact ⟨u, by rw [← h2 3 (by simp)]; exact k1, by rw [← h1]; exact k2⟩
      · trivial
    case FG =>
      intro p hp v lo hi w1 w2 h1 h2
      simp only [List.mem_cons, List.not_mem_nil, or_false] at hp
      rcases hp with rfl | rfl | rfl
      · obtain ⟨u, ys, q1, q2, q3⟩ := h1
        exact ⟨u, ys, q1, q2.nw h2, q3⟩
      · trivial
      · obtain ⟨q1, q2, q3, q4⟩ := h1
        exact ⟨q1, q2, q3, (h2.block _ (heap_lt q4) (fun h => h)).trans q4⟩
    case steps =>
      intro p hp x lo hi w2 hS2 hd
      simp only [List.mem_cons, List.not_mem_nil, or_false] at hp
      have hws := hS2.1.size
      rcases hp with rfl | rfl | rfl
      · refine ⟨_, rfl, fun K hK => ?_⟩
        simp only [putAll, Act.put, List.setIfInBounds_toArray, List.set_cons_zero, List.set_cons_succ] at hK ⊢
        have hcon := hg1.out w2 hS2.1
        clear hd hS
        go_wp2_with (go_at_call 9; refine Calls.mono hcon ?_; rintro e w3 ⟨u, ys, rfl, q1, q2, q3, q4, q5⟩; refine stop_here ?_)
        unfold Hid
        obtain ⟨ja, jc, rfl, _, _⟩ := q1.form
        unfold labV
        go_wp2
        exact hK _ _ q5 ⟨_, ys, rfl, q1.mono (fun b hb h => ⟨hb, h⟩), q3, q4⟩ trivial
      · refine ⟨_, rfl, fun K hK => ?_⟩
        obtain ⟨⟨u4, y4, r1, r2, r3, r4⟩, _⟩ := hd 3 (by simp)
        obtain ⟨ia, ic, rfl, _, _⟩ := r2.form
        simp only [putAll, Act.put, List.setIfInBounds_toArray, List.set_cons_zero, List.set_cons_succ, r1] at hK ⊢
        unfold labV at hK ⊢
        clear hd hS r2 r3 r4
        go_wp2
        exact hK _ _ (nw_refl w2) trivial ⟨.slice ia y4.length ic, by simpa using r1, rfl⟩
      · refine ⟨_, rfl, fun K hK => ?_⟩
        simp only [putAll, Act.put, List.setIfInBounds_toArray, List.set_cons_zero, List.set_cons_succ] at hK ⊢
        clear hd hS
        go_wp2
        exact hK _ _ (nw_alloc (nw_refl w2) _) ⟨rfl, by simp, hws, heap_alloc_new w2 _⟩ trivial
    case fin =>
      intro x lo hi w2 hS2 hF hR
      obtain ⟨⟨ui, yt, hj1, hj2, hj3, hj4⟩, zz1, hj6⟩ := hF (3, []) (by simp)
      obtain ⟨zz2, ⟨uk, hk1, hk2⟩, zz3⟩ := hF (6, [3]) (by simp)
      obtain ⟨⟨p1, p2, p3, p4⟩, zz4, p5⟩ := hF (7, []) (by simp)
      have r56 := hR (3, []) (by simp) (7, []) (by simp) (by decide)
      simp only at hj1 hj2 hj6 hk1 hk2 p1 p2 p3 p4 p5 r56
      obtain rfl : uk = ui := by rw [hj1] at hk1; injection hk1 with h; simp at h; exact h.symm
      obtain ⟨jat, jct, rfl, _, _⟩ := hj2.form
      refine plan_tail ?_
      simp only [putAll, Act.put, List.setIfInBounds_toArray, List.set_cons_zero, List.set_cons_succ, List.drop_succ_cons, List.drop_zero, hj1, hk2, p1]
      generalize lo 7 = gjt at *
      generalize hi 7 = hj at *
      generalize lo 3 = l5 at *
      generalize hi 3 = h5 at *
      clear hF hR hj1 p1 hk1 hk2 zz1 zz2 zz3 zz4
      obtain ⟨U, hU⟩ : ∃ U, Hid (U = (((w2.setCell ⟨gjt, 0, none⟩ (.int .i64 zt)).setCell ⟨gjt, 1, none⟩ (.slice jat yt.length jct)).setCell ⟨gjt, 2, none⟩ (.int .i64 zc)).setCell ⟨gjt, 3, none⟩ (.slice adc xc.length cpc)) := ⟨_, rfl⟩
      have hfB : Fr (fun k => k = gjt) w2 U := by
        rw [hU.out]
        exact ((((Fr.refl (fun k => k = gjt) w2).setCell (p := ⟨gjt, 0, none⟩) (.inl rfl) _).setCell (p := ⟨gjt, 1, none⟩) (.inl rfl) _).setCell (p := ⟨gjt, 2, none⟩) (.inl rfl) _).setCell (p := ⟨gjt, 3, none⟩) (.inl rfl) _
      have bt : U.heap[gjt]? = some (.cells #[.int .i64 zt, .slice jat yt.length jct, .int .i64 zc, .slice adc xc.length cpc] 26 (0, 0)) := by rw [hU.out, blk_setCell (blk_setCell (blk_setCell (blk_setCell p4)))]; rfl
      have nU0 := hS2.1
      have nWU : Nw W U := Fr.trans nU0 hfB (fun k hk => .inr (by omega))
      replace et := et.nw nWU
      replace ec := ec.nw nWU
      replace eo := eo.nw nWU
      replace ht := (nWU.block _ (heap_lt ht) (fun h => h)).trans ht
      replace bo := (nWU.block _ (heap_lt bo) (fun h => h)).trans bo
      have e2t : CSl (fun _ => True) U (.slice jat yt.length jct) yt := hj2.keep hfB (fun b hb _ h => by omega) (fun _ _ _ => trivial)
      have st : Hid _ := lev_set hj3
      have nt : yt.length ≤ 7 := by omega
      have c1 : w2.cell? ⟨gjt, 0, none⟩ = some (.int .i64 0) := cell_blk p4 rfl
      have c2 : w2.cell? ⟨gjt, 1, none⟩ = some (.slice none 0 0) := cell_blk p4 rfl
      have c3 : w2.cell? ⟨gjt, 2, none⟩ = some (.int .i64 0) := cell_blk p4 rfl
      have c4 : w2.cell? ⟨gjt, 3, none⟩ = some (.slice none 0 0) := cell_blk p4 rfl
      have f1 : ∀ k, w2.frozen? ⟨gjt, k, none⟩ = false := fun k => free_blk p4
      replace nW := nw_trans nW nWU
      clear hj2 hj3 hj4 hfB p4 nU0 hS2 hg1 hS hW0 hSof nWU r56 hj6 p2 p3 p5
      unfold whoV
      go_upto_region 7 with fail
      rw [← hU.out]
      clear hU c1 c2 c3 c4 f1
      clear w2 W
      obtain ⟨W, rfl⟩ : ∃ W, W = U := ⟨_, rfl⟩
      have g0 : W.cell? ⟨N, 0, none⟩ = some (.int .i64 zt) := cell_blk ht rfl
      have g1 : W.cell? ⟨N, 1, none⟩ = some (.slice adt xt.length cpt) := cell_blk ht rfl
      have hcon : Hid _ := c_raise zt W et (by omega)
      obtain ⟨D, hD⟩ : ∃ D, Hid (tn 0 5 zt = D) := ⟨_, rfl⟩
      unfold MadeL at hcon
      rw [hD.out] at hcon
      unfold labV at hcon
      go_wp2_with (go_at_call 10; refine Calls.mono hcon.out ?_; rintro e W1 ⟨u3, yr, rfl, q1, q2, q3, q4, qn⟩; refine stop_here ?_)
      unfold Hid
      obtain ⟨jr, cr, rfl, _, _⟩ := q1.form
      have er := q1.any
      have hr : Hid (∀ id, lev D yr id = tn 0 5 (lev zt xt id)) := q3
      have nr : yr.length ≤ 6 := by omega
      replace nW := nw_trans nW qn
      replace et := et.nw qn
      replace ec := ec.nw qn
      replace eo := eo.nw qn
      replace e2t := e2t.nw qn
      replace ht := (qn.block _ (heap_lt ht) (fun h => h)).trans ht
      replace bo := (qn.block _ (heap_lt bo) (fun h => h)).trans bo
      replace bt := (qn.block _ (heap_lt bt) (fun h => h)).trans bt
      clear q1 q2 q3 q4 qn hcon g0 g1 hD
      have hcon : Hid _ := c_set D a lv W1 er (by omega)
      unfold MadeL labV at hcon
      go_wp2_with (go_at_call 9; refine Calls.mono hcon.out ?_; rintro e W2 ⟨u3, yl, rfl, q1, q2, q3, q4, qn⟩; refine stop_here ?_)
      unfold Hid
      obtain ⟨jl, cl, rfl, _, _⟩ := q1.form
      have el := q1.any
      have sl : Hid (lev D yl a = lv ∧ ∀ id, id ≠ a → lev D yl id = tn 0 5 (lev zt xt id)) := ⟨(lev_set q3).1, fun id h => by rw [(lev_set q3).2 id h, hr.out]⟩
      have nl : yl.length ≤ 7 := by omega
      replace nW := nw_trans nW qn
      replace et := et.nw qn
      replace ec := ec.nw qn
      replace eo := eo.nw qn
      replace e2t := e2t.nw qn
      replace ht := (qn.block _ (heap_lt ht) (fun h => h)).trans ht
      replace bo := (qn.block _ (heap_lt bo) (fun h => h)).trans bo
      replace bt := (qn.block _ (heap_lt bt) (fun h => h)).trans bt
      clear q1 q2 q3 q4 qn hcon hr er
      have nV : Nw W2 (W2.alloc (.cells #[.int .i64 D, .slice jl yl.length cl] 24)) := nw_alloc (nw_refl W2) _
      have bl : (W2.alloc (.cells #[.int .i64 D, .slice jl yl.length cl] 24)).heap[W2.heap.size]? = some (.cells #[.int .i64 D, .slice jl yl.length cl] 24 (0, 0)) := heap_alloc_new W2 _
      go_upto_region 8 with fail
      clear W W1
      generalize W2.alloc (.cells #[.int .i64 D, .slice jl yl.length cl] 24) = U at *
      replace nW := nw_trans nW nV
      replace el := el.nw nV
      replace et := et.nw nV
      replace ec := ec.nw nV
      replace eo := eo.nw nV
      replace e2t := e2t.nw nV
      replace ht := (nV.block _ (heap_lt ht) (fun h => h)).trans ht
      replace bo := (nV.block _ (heap_lt bo) (fun h => h)).trans bo
      replace bt := (nV.block _ (heap_lt bt) (fun h => h)).trans bt
      generalize W2.heap.size = V at *
      clear nV W2
      have hSof : ∀ w', Nw U w' → (fun w' : World => Nw U w' ∧ w'.cell? ⟨gjo, 0, none⟩ = some (.int .i64 zt) ∧ w'.cell? ⟨gjo, 1, none⟩ = some (.slice jao yo.length jco) ∧ w'.cell? ⟨gjo, 2, none⟩ = some (.int .i64 zc) ∧ w'.cell? ⟨gjo, 3, none⟩ = some (.slice adc xc.length cpc) ∧ w'.cell? ⟨gjt, 0, none⟩ = some (.int .i64 zt) ∧ w'.cell? ⟨gjt, 1, none⟩ = some (.slice jat yt.length jct) ∧ w'.cell? ⟨gjt, 2, none⟩ = some (.int .i64 zc) ∧ w'.cell? ⟨gjt, 3, none⟩ = some (.slice adc xc.length cpc) ∧ w'.cell? ⟨V, 0, none⟩ = some (.int .i64 D) ∧ w'.cell? ⟨V, 1, none⟩ = some (.slice jl yl.length cl)) w' := fun w' hw => ⟨hw, cell_blk ((hw.block _ (heap_lt bo) (fun h => h)).trans bo) rfl, cell_blk ((hw.block _ (heap_lt bo) (fun h => h)).trans bo) rfl, cell_blk ((hw.block _ (heap_lt bo) (fun h => h)).trans bo) rfl, cell_blk ((hw.block _ (heap_lt bo) (fun h => h)).trans bo) rfl, cell_blk ((hw.block _ (heap_lt bt) (fun h => h)).trans bt) rfl, cell_blk ((hw.block _ (heap_lt bt) (fun h => h)).trans bt) rfl, cell_blk ((hw.block _ (heap_lt bt) (fun h => h)).trans bt) rfl, cell_blk ((hw.block _ (heap_lt bt) (fun h => h)).trans bt) rfl, cell_blk ((hw.block _ (heap_lt bl) (fun h => h)).trans bl) rfl, cell_blk ((hw.block _ (heap_lt bl) (fun h => h)).trans bl) rfl⟩
      have hW0 : Nw U U.drew := Fr.drew (Fr.refl _ U)
      have hS := hSof _ hW0
      replace eo := eo.nw hW0
      replace ec := ec.nw hW0
      replace el := el.nw hW0
      replace e2t := e2t.nw hW0
      replace hSof : Hid _ := hSof
      refine wp_region_ord [] 19 [(0, true), (1, true), (3, true), (4, true), (5, true), (2, false), (6, false), (7, false), (8, true), (9, true), (10, true), (11, true), (13, true), (14, true), (15, true), (12, false), (16, false), (17, false), (18, true)] (fun w' : World => Nw U w' ∧ w'.cell? ⟨gjo, 0, none⟩ = some (.int .i64 zt) ∧ w'.cell? ⟨gjo, 1, none⟩ = some (.slice jao yo.length jco) ∧ w'.cell? ⟨gjo, 2, none⟩ = some (.int .i64 zc) ∧ w'.cell? ⟨gjo, 3, none⟩ = some (.slice adc xc.length cpc) ∧ w'.cell? ⟨gjt, 0, none⟩ = some (.int .i64 zt) ∧ w'.cell? ⟨gjt, 1, none⟩ = some (.slice jat yt.length jct) ∧ w'.cell? ⟨gjt, 2, none⟩ = some (.int .i64 zc) ∧ w'.cell? ⟨gjt, 3, none⟩ = some (.slice adc xc.length cpc) ∧ w'.cell? ⟨V, 0, none⟩ = some (.int .i64 D) ∧ w'.cell? ⟨V, 1, none⟩ = some (.slice jl yl.length cl)) (by kernel_rfl) (by kernel_rfl) ?_
      refine ord_quietL _ ?_ rfl hS rfl ?_ ?_
      rotate_left
      · rintro w' ⟨hn, h0, h1, h2, h3, h4, h5, h6, h7, h8, h9⟩; go_simp; first | rfl | (rw [if_pos (by omega)]; done) | (rw [if_pos (by omega)]; rfl) | (rw [if_pos (by omega)]; go_simp; rfl)
      simp only [Act.put, List.setIfInBounds_toArray, List.set_cons_zero, List.set_cons_succ]
      refine ord_quietL _ ?_ rfl hS rfl ?_ ?_
      rotate_left
      · rintro w' ⟨hn, h0, h1, h2, h3, h4, h5, h6, h7, h8, h9⟩; go_simp; first | rfl | (rw [if_pos (by omega)]; done) | (rw [if_pos (by omega)]; rfl) | (rw [if_pos (by omega)]; go_simp; rfl)
      simp only [Act.put, List.setIfInBounds_toArray, List.set_cons_zero, List.set_cons_succ]
      refine ord_quietL _ ?_ rfl hS rfl ?_ ?_
      rotate_left
      · rintro w' ⟨hn, h0, h1, h2, h3, h4, h5, h6, h7, h8, h9⟩; go_simp; first | rfl | (rw [if_pos (by omega)]; done) | (rw [if_pos (by omega)]; rfl) | (rw [if_pos (by omega)]; go_simp; rfl)
      simp only [Act.put, List.setIfInBounds_toArray, List.set_cons_zero, List.set_cons_succ]
      refine ord_quietL _ ?_ rfl hS rfl ?_ ?_
      rotate_left
      · rintro w' ⟨hn, h0, h1, h2, h3, h4, h5, h6, h7, h8, h9⟩; go_simp; first | rfl | (rw [if_pos (by omega)]; done) | (rw [if_pos (by omega)]; rfl) | (rw [if_pos (by omega)]; go_simp; rfl)
      simp only [Act.put, List.setIfInBounds_toArray, List.set_cons_zero, List.set_cons_succ]
      refine ord_quietL _ ?_ rfl hS rfl ?_ ?_
      rotate_left
      · rintro w' ⟨hn, h0, h1, h2, h3, h4, h5, h6, h7, h8, h9⟩; go_simp; first | rfl | (rw [if_pos (by omega)]; done) | (rw [if_pos (by omega)]; rfl) | (rw [if_pos (by omega)]; go_simp; rfl)
      simp only [Act.put, List.setIfInBounds_toArray, List.set_cons_zero, List.set_cons_succ]
      refine ord_actL _ rfl (fun K1 hK1 => ?_)
      have hcon : Hid _ := c_freads zt zc D U.drew eo ec el (by omega) (by omega) (by omega)
      unfold whoV labV at hcon
      go_wp2_with (go_at_call 11; refine Calls.mono hcon.out ?_; rintro e wk0 ⟨r, rfl, q1, qn⟩)
      have m0 := nw_trans hW0 qn
      replace eo := eo.nw qn
      replace ec := ec.nw qn
      replace el := el.nw qn
      replace e2t := e2t.nw qn
      have hr : r = true := q1.2 (own_rd so.out sl.out (by have := hv.out; unfold tn; simp; omega))
      subst hr
      refine hK1 _ _ (hSof.out _ m0) ?_
      clear hK1 K1 hcon qn hS hW0 q1
      have hS := hSof.out _ m0
      refine ord_actL _ rfl (fun K1 hK1 => ?_)
      have hcon : Hid _ := c_set D a 1 wk0 el (by omega)
      unfold MadeL labV at hcon
      go_wp2_with (go_at_call 9; refine Calls.mono hcon.out ?_; rintro e wk1 ⟨u3, y3, rfl, q1, q2, q3, q4, qn⟩)
      have m1 := nw_trans m0 qn
      replace eo := eo.nw qn
      replace ec := ec.nw qn
      replace el := el.nw qn
      replace e2t := e2t.nw qn
      obtain ⟨j3, c3, rfl, _, _⟩ := q1.form
      have e3 := q1.any
      have s3 : Hid (lev D y3 a = 1 ∧ ∀ id, id ≠ a → lev D y3 id = tn 0 5 (lev zt xt id)) := ⟨(lev_set q3).1, fun id h => by rw [(lev_set q3).2 id h, sl.out.2 id h]⟩
      have n3 : y3.length ≤ 8 := by omega
      refine hK1 _ _ (hSof.out _ m1) ?_
      clear hK1 K1 hcon qn hS m0 q1 q2 q3 q4
      have hS := hSof.out _ m1
      refine ord_actL _ rfl (fun K1 hK1 => ?_)
      have hcon : Hid _ := c_freads zt zc D wk1 eo ec e3 (by omega) (by omega) (by omega)
      unfold whoV labV at hcon
      go_wp2_with (go_at_call 11; refine Calls.mono hcon.out ?_; rintro e wk2 ⟨r, rfl, q1, qn⟩)
      have m2 := nw_trans m1 qn
      replace eo := eo.nw qn
      replace ec := ec.nw qn
      replace el := el.nw qn
      replace e2t := e2t.nw qn
      replace e3 := e3.nw qn
      have hr : r = true := q1.2 (own_rd so.out s3.out (by unfold tn; simp))
      subst hr
      refine hK1 _ _ (hSof.out _ m2) ?_
      clear hK1 K1 hcon qn hS m1 q1 s3 n3 e3
      have hS := hSof.out _ m2
      refine ord_quietL _ ?_ rfl hS rfl ?_ ?_
      rotate_left
      · rintro w' ⟨hn, h0, h1, h2, h3, h4, h5, h6, h7, h8, h9⟩; go_simp; first | rfl | (rw [if_pos (by omega)]; done) | (rw [if_pos (by omega)]; rfl) | (rw [if_pos (by omega)]; go_simp; rfl)
      simp only [Act.put, List.setIfInBounds_toArray, List.set_cons_zero, List.set_cons_succ]
      refine ord_quietL _ ?_ rfl hS rfl ?_ ?_
      rotate_left
      · rintro w' ⟨hn, h0, h1, h2, h3, h4, h5, h6, h7, h8, h9⟩; go_simp; first | rfl | (rw [if_pos (by omega)]; done) | (rw [if_pos (by omega)]; rfl) | (rw [if_pos (by omega)]; go_simp; rfl)
      simp only [Act.put, List.setIfInBounds_toArray, List.set_cons_zero, List.set_cons_succ]
      refine ord_quietL _ ?_ rfl hS rfl ?_ ?_
      rotate_left
      · rintro w' ⟨hn, h0, h1, h2, h3, h4, h5, h6, h7, h8, h9⟩; go_simp; first | rfl | (rw [if_pos (by omega)]; done) | (rw [if_pos (by omega)]; rfl) | (rw [if_pos (by omega)]; go_simp; rfl)
      simp only [Act.put, List.setIfInBounds_toArray, List.set_cons_zero, List.set_cons_succ]
      refine ord_quietL _ ?_ rfl hS rfl ?_ ?_
      rotate_left
      · rintro w' ⟨hn, h0, h1, h2, h3, h4, h5, h6, h7, h8, h9⟩; go_simp; first | rfl | (rw [if_pos (by omega)]; done) | (rw [if_pos (by omega)]; rfl) | (rw [if_pos (by omega)]; go_simp; rfl)
      simp only [Act.put, List.setIfInBounds_toArray, List.set_cons_zero, List.set_cons_succ]
      refine ord_quietL _ ?_ rfl hS rfl ?_ ?_
      rotate_left
      · rintro w' ⟨hn, h0, h1, h2, h3, h4, h5, h6, h7, h8, h9⟩; go_simp; first | rfl | (rw [if_pos (by omega)]; done) | (rw [if_pos (by omega)]; rfl) | (rw [if_pos (by omega)]; go_simp; rfl)
      simp only [Act.put, List.setIfInBounds_toArray, List.set_cons_zero, List.set_cons_succ]
      refine ord_quietL _ ?_ rfl hS rfl ?_ ?_
      rotate_left
      · rintro w' ⟨hn, h0, h1, h2, h3, h4, h5, h6, h7, h8, h9⟩; go_simp; first | rfl | (rw [if_pos (by omega)]; done) | (rw [if_pos (by omega)]; rfl) | (rw [if_pos (by omega)]; go_simp; rfl)
      simp only [Act.put, List.setIfInBounds_toArray, List.set_cons_zero, List.set_cons_succ]
      refine ord_quietL _ ?_ rfl hS rfl ?_ ?_
      rotate_left
      · rintro w' ⟨hn, h0, h1, h2, h3, h4, h5, h6, h7, h8, h9⟩; go_simp; first | rfl | (rw [if_pos (by omega)]; done) | (rw [if_pos (by omega)]; rfl) | (rw [if_pos (by omega)]; go_simp; rfl)
      simp only [Act.put, List.setIfInBounds_toArray, List.set_cons_zero, List.set_cons_succ]
      refine ord_actL _ rfl (fun K1 hK1 => ?_)
      have hcon : Hid _ := c_fwrites zt zc D wk2 eo ec el (by omega) (by omega) (by omega)
      unfold whoV labV at hcon
      go_wp2_with (go_at_call 12; refine Calls.mono hcon.out ?_; rintro e wk3 ⟨r, rfl, q1, qn⟩)
      have m3 := nw_trans m2 qn
      replace eo := eo.nw qn
      replace ec := ec.nw qn
      replace el := el.nw qn
      replace e2t := e2t.nw qn
      have hr : r = true := q1.2 ⟨own_rd so.out sl.out (by have := hv.out; unfold tn; simp; omega), own_le so.out sl.out hf.out (by have := hv.out; omega)⟩
      subst hr
      refine hK1 _ _ (hSof.out _ m3) ?_
      clear hK1 K1 hcon qn hS m2 q1
      have hS := hSof.out _ m3
      refine ord_actL _ rfl (fun K1 hK1 => ?_)
      have hcon : Hid _ := c_set D a 4 wk3 el (by omega)
      unfold MadeL labV at hcon
      go_wp2_with (go_at_call 9; refine Calls.mono hcon.out ?_; rintro e wk4 ⟨u3, y3, rfl, q1, q2, q3, q4, qn⟩)
      have m4 := nw_trans m3 qn
      replace eo := eo.nw qn
      replace ec := ec.nw qn
      replace el := el.nw qn
      replace e2t := e2t.nw qn
      obtain ⟨j3, c3, rfl, _, _⟩ := q1.form
      have e3 := q1.any
      have s3 : Hid (lev D y3 a = 4 ∧ ∀ id, id ≠ a → lev D y3 id = tn 0 5 (lev zt xt id)) := ⟨(lev_set q3).1, fun id h => by rw [(lev_set q3).2 id h, sl.out.2 id h]⟩
      have n3 : y3.length ≤ 8 := by omega
      refine hK1 _ _ (hSof.out _ m4) ?_
      clear hK1 K1 hcon qn hS m3 q1 q2 q3 q4
      have hS := hSof.out _ m4
      refine ord_actL _ rfl (fun K1 hK1 => ?_)
      have hcon : Hid _ := c_fwrites zt zc D wk4 eo ec e3 (by omega) (by omega) (by omega)
      unfold whoV labV at hcon
      go_wp2_with (go_at_call 12; refine Calls.mono hcon.out ?_; rintro e wk5 ⟨r, rfl, q1, qn⟩)
      have m5 := nw_trans m4 qn
      replace eo := eo.nw qn
      replace ec := ec.nw qn
      replace el := el.nw qn
      replace e2t := e2t.nw qn
      replace e3 := e3.nw qn
      have hr : r = true := q1.2 ⟨own_rd so.out s3.out (by unfold tn; simp), own_le so.out s3.out hf.out (by omega)⟩
      subst hr
      refine hK1 _ _ (hSof.out _ m5) ?_
      clear hK1 K1 hcon qn hS m4 q1 s3 n3 e3
      have hS := hSof.out _ m5
      refine ord_quietL _ ?_ rfl hS rfl ?_ ?_
      rotate_left
      · rintro w' ⟨hn, h0, h1, h2, h3, h4, h5, h6, h7, h8, h9⟩; go_simp; first | rfl | (rw [if_pos (by omega)]; done) | (rw [if_pos (by omega)]; rfl) | (rw [if_pos (by omega)]; go_simp; rfl)
      simp only [Act.put, List.setIfInBounds_toArray, List.set_cons_zero, List.set_cons_succ]
      refine ord_tail ?_
      simp only [List.drop_succ_cons, List.drop_zero]
      replace nW := nw_trans nW m5
      replace bo := (m5.block _ (heap_lt bo) (fun h => h)).trans bo
      replace bt := (m5.block _ (heap_lt bt) (fun h => h)).trans bt
      replace bl := (m5.block _ (heap_lt bl) (fun h => h)).trans bl
      go_upto_region 10 with fail
      clear m5 hSof hS
      by_cases hv4 : lv = 4
      · have hb4 : (lv == 4) = true := by simp [hv4]
        replace hv4 : Hid _ := hv4
        have hSof : ∀ w', Nw wk5 w' → (fun w' : World => Nw wk5 w' ∧ w'.cell? ⟨gjo, 0, none⟩ = some (.int .i64 zt) ∧ w'.cell? ⟨gjo, 1, none⟩ = some (.slice jao yo.length jco) ∧ w'.cell? ⟨gjo, 2, none⟩ = some (.int .i64 zc) ∧ w'.cell? ⟨gjo, 3, none⟩ = some (.slice adc xc.length cpc) ∧ w'.cell? ⟨gjt, 0, none⟩ = some (.int .i64 zt) ∧ w'.cell? ⟨gjt, 1, none⟩ = some (.slice jat yt.length jct) ∧ w'.cell? ⟨gjt, 2, none⟩ = some (.int .i64 zc) ∧ w'.cell? ⟨gjt, 3, none⟩ = some (.slice adc xc.length cpc) ∧ w'.cell? ⟨V, 0, none⟩ = some (.int .i64 D) ∧ w'.cell? ⟨V, 1, none⟩ = some (.slice jl yl.length cl)) w' := fun w' hw => ⟨hw, cell_blk ((hw.block _ (heap_lt bo) (fun h => h)).trans bo) rfl, cell_blk ((hw.block _ (heap_lt bo) (fun h => h)).trans bo) rfl, cell_blk ((hw.block _ (heap_lt bo) (fun h => h)).trans bo) rfl, cell_blk ((hw.block _ (heap_lt bo) (fun h => h)).trans bo) rfl, cell_blk ((hw.block _ (heap_lt bt) (fun h => h)).trans bt) rfl, cell_blk ((hw.block _ (heap_lt bt) (fun h => h)).trans bt) rfl, cell_blk ((hw.block _ (heap_lt bt) (fun h => h)).trans bt) rfl, cell_blk ((hw.block _ (heap_lt bt) (fun h => h)).trans bt) rfl, cell_blk ((hw.block _ (heap_lt bl) (fun h => h)).trans bl) rfl, cell_blk ((hw.block _ (heap_lt bl) (fun h => h)).trans bl) rfl⟩
        have hW0 : Nw wk5 wk5.drew := Fr.drew (Fr.refl _ wk5)
        have hS := hSof _ hW0
        replace eo := eo.nw hW0
        replace ec := ec.nw hW0
        replace el := el.nw hW0
        replace e2t := e2t.nw hW0
        replace hSof : Hid _ := hSof
        refine wp_region_ord [] 20 [(0, true), (1, true), (3, true), (4, true), (2, false), (5, true), (6, true), (7, true), (8, false), (9, true), (10, true), (11, true), (12, true), (13, true), (15, true), (16, true), (14, false), (17, false), (18, true), (19, true)] (fun w' : World => Nw wk5 w' ∧ w'.cell? ⟨gjo, 0, none⟩ = some (.int .i64 zt) ∧ w'.cell? ⟨gjo, 1, none⟩ = some (.slice jao yo.length jco) ∧ w'.cell? ⟨gjo, 2, none⟩ = some (.int .i64 zc) ∧ w'.cell? ⟨gjo, 3, none⟩ = some (.slice adc xc.length cpc) ∧ w'.cell? ⟨gjt, 0, none⟩ = some (.int .i64 zt) ∧ w'.cell? ⟨gjt, 1, none⟩ = some (.slice jat yt.length jct) ∧ w'.cell? ⟨gjt, 2, none⟩ = some (.int .i64 zc) ∧ w'.cell? ⟨gjt, 3, none⟩ = some (.slice adc xc.length cpc) ∧ w'.cell? ⟨V, 0, none⟩ = some (.int .i64 D) ∧ w'.cell? ⟨V, 1, none⟩ = some (.slice jl yl.length cl)) (by kernel_rfl) (by kernel_rfl) ?_
        refine ord_quietL _ ?_ rfl hS rfl ?_ ?_
        rotate_left
        · rintro w' ⟨hn, h0, h1, h2, h3, h4, h5, h6, h7, h8, h9⟩; go_simp; first | rfl | (rw [if_pos (by omega)]; done) | (rw [if_pos (by omega)]; rfl) | (rw [if_pos (by omega)]; go_simp; rfl)
        simp only [Act.put, List.setIfInBounds_toArray, List.set_cons_zero, List.set_cons_succ]
        refine ord_quietL _ ?_ rfl hS rfl ?_ ?_
        rotate_left
        · rintro w' ⟨hn, h0, h1, h2, h3, h4, h5, h6, h7, h8, h9⟩; go_simp; first | rfl | (rw [if_pos (by omega)]; done) | (rw [if_pos (by omega)]; rfl) | (rw [if_pos (by omega)]; go_simp; rfl)
        simp only [Act.put, List.setIfInBounds_toArray, List.set_cons_zero, List.set_cons_succ]
        refine ord_quietL _ ?_ rfl hS rfl ?_ ?_
        rotate_left
        · rintro w' ⟨hn, h0, h1, h2, h3, h4, h5, h6, h7, h8, h9⟩; go_simp; first | rfl | (rw [if_pos (by omega)]; done) | (rw [if_pos (by omega)]; rfl) | (rw [if_pos (by omega)]; go_simp; rfl)
        simp only [Act.put, List.setIfInBounds_toArray, List.set_cons_zero, List.set_cons_succ]
        refine ord_quietL _ ?_ rfl hS rfl ?_ ?_
        rotate_left
        · rintro w' ⟨hn, h0, h1, h2, h3, h4, h5, h6, h7, h8, h9⟩; go_simp; first | rfl | (rw [if_pos (by omega)]; done) | (rw [if_pos (by omega)]; rfl) | (rw [if_pos (by omega)]; go_simp; rfl)
        simp only [Act.put, List.setIfInBounds_toArray, List.set_cons_zero, List.set_cons_succ]
        refine ord_actL _ rfl (fun K1 hK1 => ?_)
        have hcon : Hid _ := c_fwrites zt zc D wk5.drew e2t ec el (by omega) (by omega) (by omega)
        unfold whoV labV at hcon
        go_wp2_with (go_at_call 12; refine Calls.mono hcon.out ?_; rintro e wk0 ⟨r, rfl, q1, qn⟩)
        have m0 := nw_trans hW0 qn
        replace eo := eo.nw qn
        replace ec := ec.nw qn
        replace el := el.nw qn
        replace e2t := e2t.nw qn
        have hr : r = true := q1.2 ⟨(own_rd st.out sl.out (by have := hv.out; unfold tn; simp; omega)), own_le st.out sl.out hf.out (by have := hv4.out; omega)⟩
        subst hr
        refine hK1 _ _ (hSof.out _ m0) ?_
        clear hK1 K1 hcon qn hS hW0 q1
        have hS := hSof.out _ m0
        refine ord_quietL _ ?_ rfl hS rfl ?_ ?_
        rotate_left
        · rintro w' ⟨hn, h0, h1, h2, h3, h4, h5, h6, h7, h8, h9⟩; go_simp; first | rfl | (rw [if_pos (by omega)]; done) | (rw [if_pos (by omega)]; rfl) | (rw [if_pos (by omega)]; go_simp; rfl)
        simp only [Act.put, List.setIfInBounds_toArray, List.set_cons_zero, List.set_cons_succ]
        refine ord_quietL _ ?_ rfl hS rfl ?_ ?_
        rotate_left
        · rintro w' ⟨hn, h0, h1, h2, h3, h4, h5, h6, h7, h8, h9⟩; go_simp; first | rfl | (rw [if_pos (by omega)]; done) | (rw [if_pos (by omega)]; rfl) | (rw [if_pos (by omega)]; go_simp; rfl)
        simp only [Act.put, List.setIfInBounds_toArray, List.set_cons_zero, List.set_cons_succ]
        refine ord_quietL _ ?_ rfl hS rfl ?_ ?_
        rotate_left
        · rintro w' ⟨hn, h0, h1, h2, h3, h4, h5, h6, h7, h8, h9⟩; go_simp; first | rfl | (rw [if_pos (by omega)]; done) | (rw [if_pos (by omega)]; rfl) | (rw [if_pos (by omega)]; go_simp; rfl)
        simp only [Act.put, List.setIfInBounds_toArray, List.set_cons_zero, List.set_cons_succ]
        refine ord_actL _ rfl (fun K1 hK1 => ?_)
        have hcon : Hid _ := c_fwrites zt zc D wk0 eo ec el (by omega) (by omega) (by omega)
        unfold whoV labV at hcon
        go_wp2_with (go_at_call 12; refine Calls.mono hcon.out ?_; rintro e wk1 ⟨r, rfl, q1, qn⟩)
        have m1 := nw_trans m0 qn
        replace eo := eo.nw qn
        replace ec := ec.nw qn
        replace el := el.nw qn
        replace e2t := e2t.nw qn
        have hr : r = true := q1.2 ⟨own_rd so.out sl.out (by have := hv.out; unfold tn; simp; omega), own_le so.out sl.out hf.out (by have := hv.out; omega)⟩
        subst hr
        refine hK1 _ _ (hSof.out _ m1) ?_
        clear hK1 K1 hcon qn hS m0 q1
        have hS := hSof.out _ m1
        refine ord_quietL _ ?_ rfl hS rfl ?_ ?_
        rotate_left
        · rintro w' ⟨hn, h0, h1, h2, h3, h4, h5, h6, h7, h8, h9⟩; go_simp; first | rfl | (rw [if_pos (by omega)]; done) | (rw [if_pos (by omega)]; rfl) | (rw [if_pos (by omega)]; go_simp; rfl)
        simp only [Act.put, List.setIfInBounds_toArray, List.set_cons_zero, List.set_cons_succ]
        refine ord_quietL _ ?_ rfl hS rfl ?_ ?_
        rotate_left
        · rintro w' ⟨hn, h0, h1, h2, h3, h4, h5, h6, h7, h8, h9⟩; go_simp; first | rfl | (rw [if_pos (by omega)]; done) | (rw [if_pos (by omega)]; rfl) | (rw [if_pos (by omega)]; go_simp; rfl)
        simp only [Act.put, List.setIfInBounds_toArray, List.set_cons_zero, List.set_cons_succ]
        refine ord_quietL _ ?_ rfl hS rfl ?_ ?_
        rotate_left
        · rintro w' ⟨hn, h0, h1, h2, h3, h4, h5, h6, h7, h8, h9⟩; go_simp; first | rfl | (rw [if_pos (by omega)]; done) | (rw [if_pos (by omega)]; rfl) | (rw [if_pos (by omega)]; go_simp; rfl)
        simp only [Act.put, List.setIfInBounds_toArray, List.set_cons_zero, List.set_cons_succ]
        refine ord_quietL _ ?_ rfl hS rfl ?_ ?_
        rotate_left
        · rintro w' ⟨hn, h0, h1, h2, h3, h4, h5, h6, h7, h8, h9⟩; go_simp; first | rfl | (rw [if_pos (by omega)]; done) | (rw [if_pos (by omega)]; rfl) | (rw [if_pos (by omega)]; go_simp; rfl)
        simp only [Act.put, List.setIfInBounds_toArray, List.set_cons_zero, List.set_cons_succ]
        refine ord_quietL _ ?_ rfl hS rfl ?_ ?_
        rotate_left
        · rintro w' ⟨hn, h0, h1, h2, h3, h4, h5, h6, h7, h8, h9⟩; go_simp; first | rfl | (rw [if_pos (by omega)]; done) | (rw [if_pos (by omega)]; rfl) | (rw [if_pos (by omega)]; go_simp; rfl)
        simp only [Act.put, List.setIfInBounds_toArray, List.set_cons_zero, List.set_cons_succ]
        refine ord_quietL _ ?_ rfl hS rfl ?_ ?_
        rotate_left
        · rintro w' ⟨hn, h0, h1, h2, h3, h4, h5, h6, h7, h8, h9⟩; go_simp; first | rfl | (rw [if_pos (by omega)]; done) | (rw [if_pos (by omega)]; rfl) | (rw [if_pos (by omega)]; go_simp; rfl)
        simp only [Act.put, List.setIfInBounds_toArray, List.set_cons_zero, List.set_cons_succ]
        refine ord_quietL _ ?_ rfl hS rfl ?_ ?_
        rotate_left
        · rintro w' ⟨hn, h0, h1, h2, h3, h4, h5, h6, h7, h8, h9⟩; go_simp; first | rfl | (rw [if_pos (by omega)]; done) | (rw [if_pos (by omega)]; rfl) | (rw [if_pos (by omega)]; go_simp; rfl)
        simp only [Act.put, List.setIfInBounds_toArray, List.set_cons_zero, List.set_cons_succ]
        refine ord_actL _ rfl (fun K1 hK1 => ?_)
        have hcon : Hid _ := c_freads zt zc D wk1 e2t ec el (by omega) (by omega) (by omega)
        unfold whoV labV at hcon
        go_wp2_with (go_at_call 11; refine Calls.mono hcon.out ?_; rintro e wk2 ⟨r, rfl, q1, qn⟩)
        have m2 := nw_trans m1 qn
        replace eo := eo.nw qn
        replace ec := ec.nw qn
        replace el := el.nw qn
        replace e2t := e2t.nw qn
        have hr : r = true := q1.2 (own_rd st.out sl.out (by have := hv.out; unfold tn; simp; omega))
        subst hr
        refine hK1 _ _ (hSof.out _ m2) ?_
        clear hK1 K1 hcon qn hS m1 q1
        have hS := hSof.out _ m2
        refine ord_actL _ rfl (fun K1 hK1 => ?_)
        have hcon : Hid _ := c_freads zt zc D wk2 eo ec el (by omega) (by omega) (by omega)
        unfold whoV labV at hcon
        go_wp2_with (go_at_call 11; refine Calls.mono hcon.out ?_; rintro e wk3 ⟨r, rfl, q1, qn⟩)
        have m3 := nw_trans m2 qn
        replace eo := eo.nw qn
        replace ec := ec.nw qn
        replace el := el.nw qn
        replace e2t := e2t.nw qn
        have hr : r = true := q1.2 (own_rd so.out sl.out (by have := hv.out; unfold tn; simp; omega))
        subst hr
        refine hK1 _ _ (hSof.out _ m3) ?_
        clear hK1 K1 hcon qn hS m2 q1
        have hS := hSof.out _ m3
        refine ord_quietL _ ?_ rfl hS rfl ?_ ?_
        rotate_left
        · rintro w' ⟨hn, h0, h1, h2, h3, h4, h5, h6, h7, h8, h9⟩; go_simp; first | rfl | (rw [if_pos (by omega)]; done) | (rw [if_pos (by omega)]; rfl) | (rw [if_pos (by omega)]; go_simp; rfl)
        simp only [Act.put, List.setIfInBounds_toArray, List.set_cons_zero, List.set_cons_succ]
        refine ord_quietL _ ?_ rfl hS rfl ?_ ?_
        rotate_left
        · rintro w' ⟨hn, h0, h1, h2, h3, h4, h5, h6, h7, h8, h9⟩; go_simp; first | rfl | (rw [if_pos (by omega)]; done) | (rw [if_pos (by omega)]; rfl) | (rw [if_pos (by omega)]; go_simp; rfl)
        simp only [Act.put, List.setIfInBounds_toArray, List.set_cons_zero, List.set_cons_succ]
        refine ord_tail ?_
        simp only [List.drop_succ_cons, List.drop_zero]
        have hfin := nw_trans nW m3
        go_wp2
        go_ret
        exact ⟨by first | rfl | simp, hfin⟩
      · have hb4 : (lv == 4) = false := by simp [hv4]
        replace hv4 : Hid _ := hv4
        have hSof : ∀ w', Nw wk5 w' → (fun w' : World => Nw wk5 w' ∧ w'.cell? ⟨gjo, 0, none⟩ = some (.int .i64 zt) ∧ w'.cell? ⟨gjo, 1, none⟩ = some (.slice jao yo.length jco) ∧ w'.cell? ⟨gjo, 2, none⟩ = some (.int .i64 zc) ∧ w'.cell? ⟨gjo, 3, none⟩ = some (.slice adc xc.length cpc) ∧ w'.cell? ⟨gjt, 0, none⟩ = some (.int .i64 zt) ∧ w'.cell? ⟨gjt, 1, none⟩ = some (.slice jat yt.length jct) ∧ w'.cell? ⟨gjt, 2, none⟩ = some (.int .i64 zc) ∧ w'.cell? ⟨gjt, 3, none⟩ = some (.slice adc xc.length cpc) ∧ w'.cell? ⟨V, 0, none⟩ = some (.int .i64 D) ∧ w'.cell? ⟨V, 1, none⟩ = some (.slice jl yl.length cl)) w' := fun w' hw => ⟨hw, cell_blk ((hw.block _ (heap_lt bo) (fun h => h)).trans bo) rfl, cell_blk ((hw.block _ (heap_lt bo) (fun h => h)).trans bo) rfl, cell_blk ((hw.block _ (heap_lt bo) (fun h => h)).trans bo) rfl, cell_blk ((hw.block _ (heap_lt bo) (fun h => h)).trans bo) rfl, cell_blk ((hw.block _ (heap_lt bt) (fun h => h)).trans bt) rfl, cell_blk ((hw.block _ (heap_lt bt) (fun h => h)).trans bt) rfl, cell_blk ((hw.block _ (heap_lt bt) (fun h => h)).trans bt) rfl, cell_blk ((hw.block _ (heap_lt bt) (fun h => h)).trans bt) rfl, cell_blk ((hw.block _ (heap_lt bl) (fun h => h)).trans bl) rfl, cell_blk ((hw.block _ (heap_lt bl) (fun h => h)).trans bl) rfl⟩
        have hW0 : Nw wk5 wk5.drew := Fr.drew (Fr.refl _ wk5)
        have hS := hSof _ hW0
        replace eo := eo.nw hW0
        replace ec := ec.nw hW0
        replace el := el.nw hW0
        replace e2t := e2t.nw hW0
        replace hSof : Hid _ := hSof
        refine wp_region_ord [] 20 [(0, true), (1, true), (3, true), (4, true), (2, false), (5, true), (6, true), (7, true), (8, false), (9, true), (10, true), (11, true), (12, true), (13, true), (15, true), (16, true), (14, false), (17, false), (18, true), (19, true)] (fun w' : World => Nw wk5 w' ∧ w'.cell? ⟨gjo, 0, none⟩ = some (.int .i64 zt) ∧ w'.cell? ⟨gjo, 1, none⟩ = some (.slice jao yo.length jco) ∧ w'.cell? ⟨gjo, 2, none⟩ = some (.int .i64 zc) ∧ w'.cell? ⟨gjo, 3, none⟩ = some (.slice adc xc.length cpc) ∧ w'.cell? ⟨gjt, 0, none⟩ = some (.int .i64 zt) ∧ w'.cell? ⟨gjt, 1, none⟩ = some (.slice jat yt.length jct) ∧ w'.cell? ⟨gjt, 2, none⟩ = some (.int .i64 zc) ∧ w'.cell? ⟨gjt, 3, none⟩ = some (.slice adc xc.length cpc) ∧ w'.cell? ⟨V, 0, none⟩ = some (.int .i64 D) ∧ w'.cell? ⟨V, 1, none⟩ = some (.slice jl yl.length cl)) (by kernel_rfl) (by kernel_rfl) ?_
        refine ord_quietL _ ?_ rfl hS rfl ?_ ?_
        rotate_left
        · rintro w' ⟨hn, h0, h1, h2, h3, h4, h5, h6, h7, h8, h9⟩; go_simp; first | rfl | (rw [if_pos (by omega)]; done) | (rw [if_pos (by omega)]; rfl) | (rw [if_pos (by omega)]; go_simp; rfl)
        simp only [Act.put, List.setIfInBounds_toArray, List.set_cons_zero, List.set_cons_succ]
        refine ord_quietL _ ?_ rfl hS rfl ?_ ?_
        rotate_left
        · rintro w' ⟨hn, h0, h1, h2, h3, h4, h5, h6, h7, h8, h9⟩; go_simp; first | rfl | (rw [if_pos (by omega)]; done) | (rw [if_pos (by omega)]; rfl) | (rw [if_pos (by omega)]; go_simp; rfl)
        simp only [Act.put, List.setIfInBounds_toArray, List.set_cons_zero, List.set_cons_succ]
        refine ord_quietL _ ?_ rfl hS rfl ?_ ?_
        rotate_left
        · rintro w' ⟨hn, h0, h1, h2, h3, h4, h5, h6, h7, h8, h9⟩; go_simp; first | rfl | (rw [if_pos (by omega)]; done) | (rw [if_pos (by omega)]; rfl) | (rw [if_pos (by omega)]; go_simp; rfl)
        simp only [Act.put, List.setIfInBounds_toArray, List.set_cons_zero, List.set_cons_succ]
        refine ord_quietL _ ?_ rfl hS rfl ?_ ?_
        rotate_left
        · rintro w' ⟨hn, h0, h1, h2, h3, h4, h5, h6, h7, h8, h9⟩; go_simp; first | rfl | (rw [if_pos (by omega)]; done) | (rw [if_pos (by omega)]; rfl) | (rw [if_pos (by omega)]; go_simp; rfl)
        simp only [Act.put, List.setIfInBounds_toArray, List.set_cons_zero, List.set_cons_succ]
        refine ord_actL _ rfl (fun K1 hK1 => ?_)
        have hcon : Hid _ := c_fwrites zt zc D wk5.drew e2t ec el (by omega) (by omega) (by omega)
        unfold whoV labV at hcon
        go_wp2_with (go_at_call 12; refine Calls.mono hcon.out ?_; rintro e wk0 ⟨r, rfl, q1, qn⟩)
        have m0 := nw_trans hW0 qn
        replace eo := eo.nw qn
        replace ec := ec.nw qn
        replace el := el.nw qn
        replace e2t := e2t.nw qn
        have hr : r = false := by
          cases r with
          | false => rfl
          | true => exact absurd (q1.1 rfl) (fun h => by have h1 := h.2 a; rw [st.out.1, sl.out.1] at h1; have f1 : 1 ≤ lv ∧ lv ≤ 4 := hv.out; have f2 : ¬ lv = 4 := hv4.out; omega)
        subst hr
        refine hK1 _ _ (hSof.out _ m0) ?_
        clear hK1 K1 hcon qn hS hW0 q1
        have hS := hSof.out _ m0
        refine ord_quietL _ ?_ rfl hS rfl ?_ ?_
        rotate_left
        · rintro w' ⟨hn, h0, h1, h2, h3, h4, h5, h6, h7, h8, h9⟩; go_simp; first | rfl | (rw [if_pos (by omega)]; done) | (rw [if_pos (by omega)]; rfl) | (rw [if_pos (by omega)]; go_simp; rfl)
        simp only [Act.put, List.setIfInBounds_toArray, List.set_cons_zero, List.set_cons_succ]
        refine ord_skipL _ rfl hS rfl ?_
        simp only [Act.put, List.setIfInBounds_toArray, List.set_cons_zero, List.set_cons_succ]
        refine ord_skipL _ rfl hS rfl ?_
        simp only [Act.put, List.setIfInBounds_toArray, List.set_cons_zero, List.set_cons_succ]
        refine ord_actL _ rfl (fun K1 hK1 => ?_)
        go_wp2
        refine hK1 _ _ (hSof.out _ m0) ?_
        clear hK1 K1
        refine ord_quietL _ ?_ rfl hS rfl ?_ ?_
        rotate_left
        · rintro w' ⟨hn, h0, h1, h2, h3, h4, h5, h6, h7, h8, h9⟩; go_simp; first | rfl | (rw [if_pos (by omega)]; done) | (rw [if_pos (by omega)]; rfl) | (rw [if_pos (by omega)]; go_simp; rfl)
        simp only [Act.put, List.setIfInBounds_toArray, List.set_cons_zero, List.set_cons_succ]
        refine ord_quietL _ ?_ rfl hS rfl ?_ ?_
        rotate_left
        · rintro w' ⟨hn, h0, h1, h2, h3, h4, h5, h6, h7, h8, h9⟩; go_simp; first | rfl | (rw [if_pos (by omega)]; done) | (rw [if_pos (by omega)]; rfl) | (rw [if_pos (by omega)]; go_simp; rfl)
        simp only [Act.put, List.setIfInBounds_toArray, List.set_cons_zero, List.set_cons_succ]
        refine ord_quietL _ ?_ rfl hS rfl ?_ ?_
        rotate_left
        · rintro w' ⟨hn, h0, h1, h2, h3, h4, h5, h6, h7, h8, h9⟩; go_simp; first | rfl | (rw [if_pos (by omega)]; done) | (rw [if_pos (by omega)]; rfl) | (rw [if_pos (by omega)]; go_simp; rfl)
        simp only [Act.put, List.setIfInBounds_toArray, List.set_cons_zero, List.set_cons_succ]
        refine ord_quietL _ ?_ rfl hS rfl ?_ ?_
        rotate_left
        · rintro w' ⟨hn, h0, h1, h2, h3, h4, h5, h6, h7, h8, h9⟩; go_simp; first | rfl | (rw [if_pos (by omega)]; done) | (rw [if_pos (by omega)]; rfl) | (rw [if_pos (by omega)]; go_simp; rfl)
        simp only [Act.put, List.setIfInBounds_toArray, List.set_cons_zero, List.set_cons_succ]
        refine ord_quietL _ ?_ rfl hS rfl ?_ ?_
        rotate_left
        · rintro w' ⟨hn, h0, h1, h2, h3, h4, h5, h6, h7, h8, h9⟩; go_simp; first | rfl | (rw [if_pos (by omega)]; done) | (rw [if_pos (by omega)]; rfl) | (rw [if_pos (by omega)]; go_simp; rfl)
        simp only [Act.put, List.setIfInBounds_toArray, List.set_cons_zero, List.set_cons_succ]
        refine ord_quietL _ ?_ rfl hS rfl ?_ ?_
        rotate_left
        · rintro w' ⟨hn, h0, h1, h2, h3, h4, h5, h6, h7, h8, h9⟩; go_simp; first | rfl | (rw [if_pos (by omega)]; done) | (rw [if_pos (by omega)]; rfl) | (rw [if_pos (by omega)]; go_simp; rfl)
        simp only [Act.put, List.setIfInBounds_toArray, List.set_cons_zero, List.set_cons_succ]
        refine ord_quietL _ ?_ rfl hS rfl ?_ ?_
        rotate_left
        · rintro w' ⟨hn, h0, h1, h2, h3, h4, h5, h6, h7, h8, h9⟩; go_simp; first | rfl | (rw [if_pos (by omega)]; done) | (rw [if_pos (by omega)]; rfl) | (rw [if_pos (by omega)]; go_simp; rfl)
        simp only [Act.put, List.setIfInBounds_toArray, List.set_cons_zero, List.set_cons_succ]
        refine ord_actL _ rfl (fun K1 hK1 => ?_)
        have hcon : Hid _ := c_freads zt zc D wk0 e2t ec el (by omega) (by omega) (by omega)
        unfold whoV labV at hcon
        go_wp2_with (go_at_call 11; refine Calls.mono hcon.out ?_; rintro e wk1 ⟨r, rfl, q1, qn⟩)
        have m1 := nw_trans m0 qn
        replace eo := eo.nw qn
        replace ec := ec.nw qn
        replace el := el.nw qn
        replace e2t := e2t.nw qn
        have hr : r = true := q1.2 (own_rd st.out sl.out (by have := hv.out; unfold tn; simp; omega))
        subst hr
        refine hK1 _ _ (hSof.out _ m1) ?_
        clear hK1 K1 hcon qn hS m0 q1
        have hS := hSof.out _ m1
        refine ord_actL _ rfl (fun K1 hK1 => ?_)
        have hcon : Hid _ := c_freads zt zc D wk1 eo ec el (by omega) (by omega) (by omega)
        unfold whoV labV at hcon
        go_wp2_with (go_at_call 11; refine Calls.mono hcon.out ?_; rintro e wk2 ⟨r, rfl, q1, qn⟩)
        have m2 := nw_trans m1 qn
        replace eo := eo.nw qn
        replace ec := ec.nw qn
        replace el := el.nw qn
        replace e2t := e2t.nw qn
        have hr : r = true := q1.2 (own_rd so.out sl.out (by have := hv.out; unfold tn; simp; omega))
        subst hr
        refine hK1 _ _ (hSof.out _ m2) ?_
        clear hK1 K1 hcon qn hS m1 q1
        have hS := hSof.out _ m2
        refine ord_quietL _ ?_ rfl hS rfl ?_ ?_
        rotate_left
        · rintro w' ⟨hn, h0, h1, h2, h3, h4, h5, h6, h7, h8, h9⟩; go_simp; first | rfl | (rw [if_pos (by omega)]; done) | (rw [if_pos (by omega)]; rfl) | (rw [if_pos (by omega)]; go_simp; rfl)
        simp only [Act.put, List.setIfInBounds_toArray, List.set_cons_zero, List.set_cons_succ]
        refine ord_quietL _ ?_ rfl hS rfl ?_ ?_
        rotate_left
        · rintro w' ⟨hn, h0, h1, h2, h3, h4, h5, h6, h7, h8, h9⟩; go_simp; first | rfl | (rw [if_pos (by omega)]; done) | (rw [if_pos (by omega)]; rfl) | (rw [if_pos (by omega)]; go_simp; rfl)
        simp only [Act.put, List.setIfInBounds_toArray, List.set_cons_zero, List.set_cons_succ]
        refine ord_tail ?_
        simp only [List.drop_succ_cons, List.drop_zero]
        have hfin := nw_trans nW m2
        go_wp2
        go_ret
        exact ⟨by first | rfl | simp, hfin⟩
end Go.Proofs.Ytnljfhjindenpab
