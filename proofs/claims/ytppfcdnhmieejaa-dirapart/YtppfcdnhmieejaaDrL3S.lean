/-
  The walk of DirApart.
-/
import Derived.Test.YtppfcdnhmieejaaDrA3S
import Derived.Test.YtppfcdnhmieejaaThC4S
import Derived.Test.YtppfcdnhmieejaaLibS
import Derived.Test.YtppfcdnhmieejaaLabS
namespace Go.Proofs.Ytppfcdnhmieejaa
set_option linter.unusedVariables false
set_option linter.unusedSimpArgs false
set_option maxRecDepth 20000
open Go.RowKit

/-- Two directories made, and two variables for them, in whatever order. -/
def FA (W : World) (i0 i1 : Int) : Nat → Value → Nat → Nat → World → Prop
  | 3 => fun v _ _ _ => v = (thV (smallT i0 48) (.slice none 0 0) (.slice none 0 0) (.slice none 0 0) (.slice none 0 0))
  | 7 => fun v _ _ _ => v = (thV (smallT i1 48) (.slice none 0 0) (.slice none 0 0) (.slice none 0 0) (.slice none 0 0))
  | 8 => fun v lo hi w => v = .pointer (some ⟨lo, 0, none⟩) ∧ lo < hi ∧ W.heap.size ≤ lo ∧ w.heap[lo]? = some (.cells (thC zeroT (.slice none 0 0) (.slice none 0 0) (.slice none 0 0) (.slice none 0 0)).toArray 34 (0, 0))
  | 9 => fun v lo hi w => v = .pointer (some ⟨lo, 0, none⟩) ∧ lo < hi ∧ W.heap.size ≤ lo ∧ w.heap[lo]? = some (.cells (thC zeroT (.slice none 0 0) (.slice none 0 0) (.slice none 0 0) (.slice none 0 0)).toArray 34 (0, 0))
  | _ => fun _ _ _ _ => True

theorem Try.cellsI : Try.prog.cellsOf 3 = 1 := by kernel_rfl
theorem eqPair (d : Nat) (a b c e : Int) (w : World) : (Op.equalIn (d + 2) 62 (.agg #[.int .i64 a, .int .i64 b]) (.agg #[.int .i64 c, .int .i64 e])).run Try.prog w = .ok (a == c && b == e) w := by
  obtain ⟨i, hi⟩ := info_of_underlying (P := Try.prog) Try.underlying3
  rw [run_equalIn_array w (d + 1) _ _ Try.underlying62 hi, Try.cellsI, show List.range 2 = [0, 1] from rfl]
  simp [go_sem, Op.eqItems]
  by_cases h0 : a = c <;> by_cases h1 : b = e <;> simp [h0, h1]
theorem run_eq_pair (a b c e : Int) (w : World) : (Op.equalIn 10000 62 (.agg #[.int .i64 a, .int .i64 b]) (.agg #[.int .i64 c, .int .i64 e])).run Try.prog w = .ok (a == c && b == e) w := eqPair 9998 a b c e w

theorem wrap_u (a : Int) : 0 ≤ IntKind.u64.wrap a ∧ IntKind.u64.wrap a < 18446744073709551616 := by
  rw [IntKind.wrap_u64]; omega
/-- Names of unlike directories, or unlike names of one. -/
theorem apart_iff {a b n m i j : Int} (ha : -9223372036854775808 ≤ a ∧ a ≤ 9223372036854775807) (hb : -9223372036854775808 ≤ b ∧ b ≤ 9223372036854775807) (hi : i = IntKind.u64.wrap a) (hj : j = IntKind.u64.wrap b) (h1 : idOk i) (h2 : idOk j) (hn : 0 ≤ n ∧ n ≤ 62) (hm : 0 ≤ m ∧ m ≤ 62) :
    ((i * 64 + n + 1 == j * 64 + m + 1) == (a == b && n == m)) = true := by
  unfold idOk at h1 h2
  rw [IntKind.wrap_u64] at hi hj
  have e1 : i = a := by omega
  have e2 : j = b := by omega
  by_cases h : a = b ∧ n = m
  · obtain ⟨h3, h4⟩ := h
    have : i * 64 + n + 1 = j * 64 + m + 1 := by omega
    rw [beq_iff_eq.2 this]
    simp [h3, h4]
  · have h5 : ¬ (i * 64 + n + 1 = j * 64 + m + 1) := by omega
    have h6 : (a == b && n == m) = false := by
      rw [Bool.eq_false_iff]
      intro h7
      simp at h7
      exact h h7
    rw [h6, beq_eq_false_iff_ne.2 h5]
    rfl

def smN (i n : Int) : Th := { smallT i 48 with next := n }
theorem smN_right {i n : Int} (h : DirT (smN i n)) : idOk i ∧ btw 1 48 48 ∧ btw 0 n 63 := small_right (q := 48) h
theorem smN_wf (i n : Int) : WfT (smN i n) := small_wf (q := 48)
theorem fresh_both {i n f e : Int} (h : DirT (smN i n)) (hf : freshT (smN i n) = (f, e)) : (e = 0 ∧ f = i * 64 + n + 1 ∧ 0 ≤ n ∧ n ≤ 62 ∧ i ≤ 4398046511103) ∨ (e = 125 ∧ f = 0) := by
  by_cases he : (freshT (smN i n)).2 = 0
  · obtain ⟨f1, f2, f3, _⟩ := fresh_ok h he
    have hn := h.ok.next
    unfold btw at hn
    rw [hf] at he f3
    exact .inl ⟨he, f3, hn.1, f1, f2⟩
  · have := fresh_err he
    rw [hf] at this
    simp only [Prod.mk.injEq] at this
    exact .inr ⟨this.2, this.1⟩

set_option maxRecDepth 100000 in
set_option maxHeartbeats 6400000 in
theorem c_lapart (a0 a1 b0 b1 : Int) (ha0 : -9223372036854775808 ≤ a0 ∧ a0 ≤ 9223372036854775807) (hb0 : -9223372036854775808 ≤ b0 ∧ b0 ≤ 9223372036854775807) (w : World) :
    Calls Try.prog 7 #[.agg #[.int .i64 a0, .int .i64 a1], .agg #[.int .i64 b0, .int .i64 b1]] w fun e w' => e = .returned (.bool true) ∧ Nw w w' := by
  obtain ⟨W, hW⟩ : ∃ W, Hid (W = (w.alloc (.cells #[.int .i64 a0, .int .i64 a1] 62)).alloc (.cells #[.int .i64 b0, .int .i64 b1] 62)) := ⟨_, rfl⟩
  have nW : Nw w W := by rw [hW.out]; exact nw_alloc (nw_alloc (nw_refl w) _) _
  have hA : W.heap[w.heap.size]? = some (.cells #[.int .i64 a0, .int .i64 a1] 62 (0, 0)) := by rw [hW.out]; exact heap_alloc2_old w _ _
  have hB : W.heap[w.heap.size + 1]? = some (.cells #[.int .i64 b0, .int .i64 b1] 62 (0, 0)) := by rw [hW.out]; exact heap_alloc2_new w _ _
  go_enter Try.func7, Try.ntmps7
  go_upto_region 1 with fail
  rw [← hW.out]
  clear hW
  have hcon : Hid _ := c_alive W
  go_wp2_with ((go_at_call 9; refine Calls.mono hcon.out ?_; rintro e W1 ⟨rfl, n1⟩; refine stop_here ?_))
  unfold Hid
  clear hcon
  replace nW := nw_trans nW n1
  replace hA := (n1.block _ (heap_lt hA) (fun h => h)).trans hA
  replace hB := (n1.block _ (heap_lt hB) (fun h => h)).trans hB
  go_upto_region 3 with fail
  have hNl := heap_lt hB
  generalize hNN : w.heap.size = N at *
  replace hNN : Hid _ := hNN
  obtain ⟨i0, hi0⟩ : ∃ i, i = IntKind.u64.wrap a0 := ⟨_, rfl⟩
  obtain ⟨i1, hi1⟩ : ∃ i, i = IntKind.u64.wrap b0 := ⟨_, rfl⟩
  have hc0 : ∀ w, (convert 3 23 (.int .i64 a0)).run Try.prog w = .ok (.int .u64 i0) w := fun w => by rw [hi0]; simp [go_sem]
  have hc1 : ∀ w, (convert 3 23 (.int .i64 b0)).run Try.prog w = .ok (.int .u64 i1) w := fun w => by rw [hi1]; simp [go_sem]
  have hr0 : 0 ≤ i0 ∧ i0 < 18446744073709551616 := by rw [hi0]; exact wrap_u a0
  have hr1 : 0 ≤ i1 ∧ i1 < 18446744073709551616 := by rw [hi1]; exact wrap_u b0
  replace hi0 : Hid _ := hi0
  replace hi1 : Hid _ := hi1
  replace hr0 : Hid _ := hr0
  replace hr1 : Hid _ := hr1
  have hSof : ∀ w', Nw W1 w' → (fun w' : World => Nw W1 w' ∧ w'.cell? ⟨N, 0, none⟩ = some (.int .i64 a0) ∧ w'.cell? ⟨N + 1, 0, none⟩ = some (.int .i64 b0)) w' := fun w' hw => ⟨hw, cell_blk ((hw.block _ (heap_lt hA) (fun h => h)).trans hA) rfl, cell_blk ((hw.block _ (heap_lt hB) (fun h => h)).trans hB) rfl⟩
  have hW0 : Nw W1 W1.drew := Fr.drew (Fr.refl _ W1)
  have hS := hSof _ hW0
  refine wp_region_plan [] 10 [(0, []), (1, []), (2, []), (4, []), (5, []), (6, []), (0, [(3, []), (7, [3]), (8, []), (9, [])])] (fun w' : World => Nw W1 w' ∧ w'.cell? ⟨N, 0, none⟩ = some (.int .i64 a0) ∧ w'.cell? ⟨N + 1, 0, none⟩ = some (.int .i64 b0)) (by kernel_rfl) (by kernel_rfl) ?_
  refine plan_quiet _ ?_ rfl hS rfl ?_ ?_
  rotate_left
  · rintro w' ⟨hn, h0, h1⟩; go_simp; rfl
  simp only [Act.put, List.setIfInBounds_toArray, List.set_cons_zero, List.set_cons_succ]
  refine plan_quiet _ ?_ rfl hS rfl ?_ ?_
  rotate_left
  · rintro w' ⟨hn, h0, h1⟩; go_simp; rfl
  simp only [Act.put, List.setIfInBounds_toArray, List.set_cons_zero, List.set_cons_succ]
  refine plan_quiet _ ?_ rfl hS rfl ?_ ?_
  rotate_left
  · rintro w' ⟨hn, h0, h1⟩; go_simp; rfl
  simp only [Act.put, List.setIfInBounds_toArray, List.set_cons_zero, List.set_cons_succ]
  refine plan_quiet _ ?_ rfl hS rfl ?_ ?_
  rotate_left
  · rintro w' ⟨hn, h0, h1⟩; go_simp; rfl
  simp only [Act.put, List.setIfInBounds_toArray, List.set_cons_zero, List.set_cons_succ]
  refine plan_quiet _ ?_ rfl hS rfl ?_ ?_
  rotate_left
  · rintro w' ⟨hn, h0, h1⟩; go_simp; rfl
  simp only [Act.put, List.setIfInBounds_toArray, List.set_cons_zero, List.set_cons_succ]
  refine plan_quiet _ ?_ rfl hS rfl ?_ ?_
  rotate_left
  · rintro w' ⟨hn, h0, h1⟩; go_simp; rfl
  simp only [Act.put, List.setIfInBounds_toArray, List.set_cons_zero, List.set_cons_succ]
  refine plan_group2 (fun | 3 => 16 | 7 => 20 | 8 => 5 | 9 => 6 | _ => 0) (FA W1 i0 i1) Nw (by decide) (by decide) (by decide) (fun a b ha hb => hSof b (nw_trans ha.1 hb)) (fun a b h => h.size) ?FG hS ?steps ?fin
  case FG =>
    intro p hp v lo hi w1 w2 h1 h2
    simp only [List.mem_cons, List.not_mem_nil, or_false] at hp
    rcases hp with rfl | rfl | rfl | rfl
    · exact h1
    · exact h1
    · obtain ⟨q1, q2, q3, q4⟩ := h1
      exact ⟨q1, q2, q3, (h2.block _ (heap_lt q4) (fun h => h)).trans q4⟩
    · obtain ⟨q1, q2, q3, q4⟩ := h1
      exact ⟨q1, q2, q3, (h2.block _ (heap_lt q4) (fun h => h)).trans q4⟩
  case steps =>
    intro p hp x lo hi w2 hS2 hd
    simp only [List.mem_cons, List.not_mem_nil, or_false] at hp
    have hws := hS2.1.size
    rcases hp with rfl | rfl | rfl | rfl
    · refine ⟨_, rfl, fun K hK => ?_⟩
      simp only [putAll, Act.put, List.setIfInBounds_toArray, List.set_cons_zero, List.set_cons_succ] at hK ⊢
      have hcon : Hid _ := c_small i0 48 w2
      clear hd hS
      go_wp2_with (go_at_call 25; refine Calls.mono hcon.out ?_; rintro e w3 ⟨rfl, q5⟩; refine stop_here ?_)
      unfold Hid
      go_wp2
      exact hK _ _ q5 rfl
    · refine ⟨_, rfl, fun K hK => ?_⟩
      simp only [putAll, Act.put, List.setIfInBounds_toArray, List.set_cons_zero, List.set_cons_succ] at hK ⊢
      have hcon : Hid _ := c_small i1 48 w2
      clear hd hS
      go_wp2_with (go_at_call 25; refine Calls.mono hcon.out ?_; rintro e w3 ⟨rfl, q5⟩; refine stop_here ?_)
      unfold Hid
      go_wp2
      exact hK _ _ q5 rfl
    · refine ⟨_, rfl, fun K hK => ?_⟩
      simp only [putAll, Act.put, List.setIfInBounds_toArray, List.set_cons_zero, List.set_cons_succ] at hK ⊢
      clear hd hS
      go_wp2_with (refine wpList_alloc_agg rfl 34 rfl _ Try.zeroTh ?_)
      exact hK _ _ (nw_alloc (nw_refl w2) _) ⟨rfl, by simp, hws, heap_alloc_new w2 _⟩
    · refine ⟨_, rfl, fun K hK => ?_⟩
      simp only [putAll, Act.put, List.setIfInBounds_toArray, List.set_cons_zero, List.set_cons_succ] at hK ⊢
      clear hd hS
      go_wp2_with (refine wpList_alloc_agg rfl 34 rfl _ Try.zeroTh ?_)
      exact hK _ _ (nw_alloc (nw_refl w2) _) ⟨rfl, by simp, hws, heap_alloc_new w2 _⟩
  case fin =>
    intro x lo hi w2 hS2 hF hR
    have hj1 := (hF (3, []) (by simp)).1
    have hm1 := (hF (7, [3]) (by simp)).1
    obtain ⟨⟨p1, p2, p3, p4⟩, p5⟩ := hF (8, []) (by simp)
    obtain ⟨⟨q1, q2, q3, q4⟩, q5⟩ := hF (9, []) (by simp)
    have r67 := hR (8, []) (by simp) (9, []) (by simp) (by decide)
    simp only [FA] at hj1 hm1
    simp only at p1 p2 p3 p4 p5 q1 q2 q3 q4 q5 r67
    refine plan_tail ?_
    simp only [putAll, Act.put, List.setIfInBounds_toArray, List.set_cons_zero, List.set_cons_succ, List.drop_succ_cons, List.drop_zero, hj1, hm1, p1, q1]
    generalize lo 8 = gx at *
    generalize lo 9 = gy at *
    generalize hi 8 = hx at *
    generalize hi 9 = hy at *
    clear hF hR hj1 hm1 p1 q1
    have hne : gx ≠ gy := by omega
    have nU := hS2.1
    replace hA := (nU.block _ (heap_lt hA) (fun h => h)).trans hA
    replace hB := (nU.block _ (heap_lt hB) (fun h => h)).trans hB
    replace nW := nw_trans nW nU
    have hgx : N + 1 < gx := by omega
    have hgy : N + 1 < gy := by omega
    have hS0 := hNN.out
    obtain ⟨W2, hV⟩ : ∃ V, Hid (V = w2.setRow (gx) (thC (smallT i0 48) (.slice none 0 0) (.slice none 0 0) (.slice none 0 0) (.slice none 0 0)).toArray) := ⟨_, rfl⟩
    have fV : Fr (fun k => k = gx) w2 W2 := by rw [hV.out]; exact (Fr.refl (fun k => k = gx) w2).setRow (.inl rfl) _
    have hnew : W2.heap[gx]? = some (.cells (thC (smallT i0 48) (.slice none 0 0) (.slice none 0 0) (.slice none 0 0) (.slice none 0 0)).toArray 34 (0, 0)) := by rw [hV.out]; exact setRow_heap _ _ _ _ _ _ p4
    refine wpList_store_all rfl 34 _ _ rfl (gx) rfl (thV (smallT i0 48) (.slice none 0 0) (.slice none 0 0) (.slice none 0 0) (.slice none 0 0)) rfl (thC (smallT i0 48) (.slice none 0 0) (.slice none 0 0) (.slice none 0 0) (.slice none 0 0)) rfl (thC zeroT (.slice none 0 0) (.slice none 0 0) (.slice none 0 0) (.slice none 0 0)) 34 p4 rfl (th_one _ _ _ _ _ rfl rfl rfl rfl) Try.sizeT ?_
    rw [← hV.out]
    clear hV
    replace p4 := hnew
    replace q4 := (fV.block _ (heap_lt q4) (by show ¬ _ = _; omega)).trans q4
    clear hnew
    replace hA := (fV.block _ (heap_lt hA) (by show ¬ _ = _; omega)).trans hA
    replace hB := (fV.block _ (heap_lt hB) (by show ¬ _ = _; omega)).trans hB
    replace nW : Nw w W2 := Fr.trans nW fV (fun k hk => .inr (by have hk2 : k = gx := hk; omega))
    clear fV
    obtain ⟨W3, hV⟩ : ∃ V, Hid (V = W2.setRow (gy) (thC (smallT i1 48) (.slice none 0 0) (.slice none 0 0) (.slice none 0 0) (.slice none 0 0)).toArray) := ⟨_, rfl⟩
    have fV : Fr (fun k => k = gy) W2 W3 := by rw [hV.out]; exact (Fr.refl (fun k => k = gy) W2).setRow (.inl rfl) _
    have hnew : W3.heap[gy]? = some (.cells (thC (smallT i1 48) (.slice none 0 0) (.slice none 0 0) (.slice none 0 0) (.slice none 0 0)).toArray 34 (0, 0)) := by rw [hV.out]; exact setRow_heap _ _ _ _ _ _ q4
    refine wpList_store_all rfl 34 _ _ rfl (gy) rfl (thV (smallT i1 48) (.slice none 0 0) (.slice none 0 0) (.slice none 0 0) (.slice none 0 0)) rfl (thC (smallT i1 48) (.slice none 0 0) (.slice none 0 0) (.slice none 0 0) (.slice none 0 0)) rfl (thC zeroT (.slice none 0 0) (.slice none 0 0) (.slice none 0 0) (.slice none 0 0)) 34 q4 rfl (th_one _ _ _ _ _ rfl rfl rfl rfl) Try.sizeT ?_
    rw [← hV.out]
    clear hV
    replace p4 := (fV.block _ (heap_lt p4) (by show ¬ _ = _; omega)).trans p4
    replace q4 := hnew
    clear hnew
    replace hA := (fV.block _ (heap_lt hA) (by show ¬ _ = _; omega)).trans hA
    replace hB := (fV.block _ (heap_lt hB) (by show ¬ _ = _; omega)).trans hB
    replace nW : Nw w W3 := Fr.trans nW fV (fun k hk => .inr (by have hk2 : k = gy := hk; omega))
    clear fV
    clear hS2 nU hSof hW0 hS p2 p3 p5 q2 q3 q5 r67 hNl
    have c1 : W3.cell? ⟨N, 1, none⟩ = some (.int .i64 a1) := cell_blk hA rfl
    have c2 : W3.cell? ⟨N + 1, 1, none⟩ = some (.int .i64 b1) := cell_blk hB rfl
    have x7 : W3.cell? ⟨gx, 7, none⟩ = some (.int .i64 0) := cell_blk p4 rfl
    have y7 : W3.cell? ⟨gy, 7, none⟩ = some (.int .i64 0) := cell_blk q4 rfl
    have xf : ∀ k, W3.frozen? ⟨gx, k, none⟩ = false := fun k => free_blk p4
    have yf : ∀ k, W3.frozen? ⟨gy, k, none⟩ = false := fun k => free_blk q4
    obtain ⟨U, hU⟩ : ∃ U, Hid (U = (W3.setCell ⟨gx, 7, none⟩ (.int .i64 a1)).setCell ⟨gy, 7, none⟩ (.int .i64 b1)) := ⟨_, rfl⟩
    have hfA : Fr (fun k => k = gx) W3 (W3.setCell ⟨gx, 7, none⟩ (.int .i64 a1)) := (Fr.refl (fun k => k = gx) W3).setCell (p := ⟨gx, 7, none⟩) (.inl rfl) _
    have hfC : Fr (fun k => k = gy) (W3.setCell ⟨gx, 7, none⟩ (.int .i64 a1)) U := by rw [hU.out]; exact (Fr.refl (fun k => k = gy) _).setCell (p := ⟨gy, 7, none⟩) (.inl rfl) _
    have hX1 : (W3.setCell ⟨gx, 7, none⟩ (.int .i64 a1)).heap[gx]? = some (.cells (thC (smN i0 a1) (.slice none 0 0) (.slice none 0 0) (.slice none 0 0) (.slice none 0 0)).toArray 34 (0, 0)) := by rw [blk_setCell p4]; rfl
    have hY1 := (hfA.block gy (heap_lt q4) (fun h => hne h.symm)).trans q4
    have hX : U.heap[gx]? = some (.cells (thC (smN i0 a1) (.slice none 0 0) (.slice none 0 0) (.slice none 0 0) (.slice none 0 0)).toArray 34 (0, 0)) := (hfC.block gx (heap_lt hX1) hne).trans hX1
    have hY : U.heap[gy]? = some (.cells (thC (smN i1 b1) (.slice none 0 0) (.slice none 0 0) (.slice none 0 0) (.slice none 0 0)).toArray 34 (0, 0)) := by rw [hU.out, blk_setCell hY1]; rfl
    replace hA := (hfC.block _ (by have := heap_lt hA; have := hfA.size; omega) (by omega)).trans ((hfA.block _ (heap_lt hA) (by omega)).trans hA)
    replace hB := (hfC.block _ (by have := heap_lt hB; have := hfA.size; omega) (by omega)).trans ((hfA.block _ (heap_lt hB) (by omega)).trans hB)
    replace nW : Nw w U := Fr.trans (Fr.trans nW hfA (fun k hk => .inr (by have hk2 : k = gx := hk; omega))) hfC (fun k hk => .inr (by have hk2 : k = gy := hk; omega))
    clear hfA hfC hX1 p4 q4
    have hSa : (fun w' : World => w'.cell? ⟨N, 1, none⟩ = some (.int .i64 a1) ∧ w'.cell? ⟨N + 1, 1, none⟩ = some (.int .i64 b1)) W3.drew := ⟨c1, c2⟩
    have hSb : (fun w' : World => w'.cell? ⟨N, 1, none⟩ = some (.int .i64 a1) ∧ w'.cell? ⟨N + 1, 1, none⟩ = some (.int .i64 b1)) (W3.drew.setCell ⟨gx, 7, none⟩ (.int .i64 a1)) := ⟨(World.cell?_of_block (w := W3) (((Fr.refl (fun k => k = gx) W3.drew).setCell (p := ⟨gx, 7, none⟩) (.inl rfl) _).block N (World.block_lt_of_cell? W3 _ c1) (by omega))).trans c1, (World.cell?_of_block (w := W3) (((Fr.refl (fun k => k = gx) W3.drew).setCell (p := ⟨gx, 7, none⟩) (.inl rfl) _).block (N + 1) (World.block_lt_of_cell? W3 _ c2) (by omega))).trans c2⟩
    go_upto_region 4 with fail
    refine wp_region_ord [] 7 [(0, true), (1, true), (2, true), (3, true), (4, true), (5, false), (6, true)] (fun w' : World => w'.cell? ⟨N, 1, none⟩ = some (.int .i64 a1) ∧ w'.cell? ⟨N + 1, 1, none⟩ = some (.int .i64 b1)) (by kernel_rfl) (by kernel_rfl) ?_
    refine ord_quietL _ ?_ rfl hSa rfl ?_ ?_
    rotate_left
    · rintro w' ⟨h0, h1⟩; go_simp; rfl
    simp only [Act.put, List.setIfInBounds_toArray, List.set_cons_zero, List.set_cons_succ]
    refine ord_quietL _ ?_ rfl hSa rfl ?_ ?_
    rotate_left
    · rintro w' ⟨h0, h1⟩; go_simp; rfl
    simp only [Act.put, List.setIfInBounds_toArray, List.set_cons_zero, List.set_cons_succ]
    refine ord_quietL _ ?_ rfl hSa rfl ?_ ?_
    rotate_left
    · rintro w' ⟨h0, h1⟩; go_simp; rfl
    simp only [Act.put, List.setIfInBounds_toArray, List.set_cons_zero, List.set_cons_succ]
    refine ord_quietL _ ?_ rfl hSa rfl ?_ ?_
    rotate_left
    · rintro w' ⟨h0, h1⟩; go_simp; rfl
    simp only [Act.put, List.setIfInBounds_toArray, List.set_cons_zero, List.set_cons_succ]
    refine ord_quietL _ ?_ rfl hSa rfl ?_ ?_
    rotate_left
    · rintro w' ⟨h0, h1⟩; go_simp; rfl
    simp only [Act.put, List.setIfInBounds_toArray, List.set_cons_zero, List.set_cons_succ]
    refine ord_actL _ rfl (fun K1 hK1 => ?_)
    go_wp2
    refine hK1 _ _ hSb ?_
    clear hK1 K1
    refine ord_quietL _ ?_ rfl hSb rfl ?_ ?_
    rotate_left
    · rintro w' ⟨h0, h1⟩; go_simp; rfl
    simp only [Act.put, List.setIfInBounds_toArray, List.set_cons_zero, List.set_cons_succ]
    refine ord_tail ?_
    simp only [List.drop_succ_cons, List.drop_zero]
    have y8 : (W3.drew.setCell ⟨gx, 7, none⟩ (.int .i64 a1)).cell? ⟨gy, 7, none⟩ = some (.int .i64 0) := cell_blk hY1 rfl
    have yg : ∀ k, (W3.drew.setCell ⟨gx, 7, none⟩ (.int .i64 a1)).frozen? ⟨gy, k, none⟩ = false := fun k => free_blk hY1
    obtain ⟨U2, hU2⟩ : ∃ V, Hid (V = ((W3.setCell ⟨gx, 7, none⟩ (.int .i64 a1)).setCell ⟨gy, 7, none⟩ (.int .i64 b1)).drew) := ⟨_, rfl⟩
    have nD : Nw U U2 := by rw [hU2.out, hU.out]; exact Fr.drew (Fr.refl _ _)
    go_upto_region 5 with fail
    rw [← hU2.out]
    clear hU hU2 c1 c2 x7 y7 xf yf y8 yg hSa hSb hY1
    replace hX := (nD.block _ (heap_lt hX) (fun h => h)).trans hX
    replace hY := (nD.block _ (heap_lt hY) (fun h => h)).trans hY
    replace hA := (nD.block _ (heap_lt hA) (fun h => h)).trans hA
    replace hB := (nD.block _ (heap_lt hB) (fun h => h)).trans hB
    replace nW := nw_trans nW nD
    clear nD
    have tX : ThAt (fun _ => False) U2 (smN i0 a1) (.slice none 0 0) (.slice none 0 0) (.slice none 0 0) (.slice none 0 0) := ⟨csl_nil _ _, csl_nil _ _, csl_nil _ _, bsl_nil _ _⟩
    have tY : ThAt (fun _ => False) U2 (smN i1 b1) (.slice none 0 0) (.slice none 0 0) (.slice none 0 0) (.slice none 0 0) := ⟨csl_nil _ _, csl_nil _ _, csl_nil _ _, bsl_nil _ _⟩
    by_cases hDX : DirT (smN i0 a1)
    · have kX := smN_right hDX
      replace hDX : Hid _ := hDX
      replace kX : Hid _ := kX
      have hcon : Hid _ := c_directory U2 tX (smN_wf _ _) (Nat.zero_le _) (Nat.zero_le _)
      unfold AnsP at hcon
      have hr0 := range_all hX
      go_wp2_with (first | (refine wpList_load_as rfl 34 _ rfl (gx) 0 rfl (thV (smN i0 a1) (.slice none 0 0) (.slice none 0 0) (.slice none 0 0) (.slice none 0 0)) _ rfl hr0 Try.rowT Try.sizeT ?_) | (go_at_call 10; refine Calls.mono hcon.out ?_; rintro e W4 ⟨r, rfl, hr, n4⟩; refine stop_here ?_))
      unfold Hid
      clear hcon hr0
      replace hX := (n4.block _ (heap_lt hX) (fun h => h)).trans hX
      replace hY := (n4.block _ (heap_lt hY) (fun h => h)).trans hY
      replace tX := tX.nw n4
      replace tY := tY.nw n4
      replace hA := (n4.block _ (heap_lt hA) (fun h => h)).trans hA
      replace hB := (n4.block _ (heap_lt hB) (fun h => h)).trans hB
      replace nW := nw_trans nW n4
      obtain rfl := hr.2 hDX.out
      clear hr
      by_cases hDY : DirT (smN i1 b1)
      · have kY := smN_right hDY
        replace hDY : Hid _ := hDY
        replace kY : Hid _ := kY
        have hcon : Hid _ := c_directory W4 tY (smN_wf _ _) (Nat.zero_le _) (Nat.zero_le _)
        unfold AnsP at hcon
        have hr1 := range_all hY
        go_wp2_with (first | (refine wpList_load_as rfl 34 _ rfl (gy) 0 rfl (thV (smN i1 b1) (.slice none 0 0) (.slice none 0 0) (.slice none 0 0) (.slice none 0 0)) _ rfl hr1 Try.rowT Try.sizeT ?_) | (go_at_call 10; refine Calls.mono hcon.out ?_; rintro e W5 ⟨r, rfl, hr, n5⟩; refine stop_here ?_))
        unfold Hid
        clear hcon hr1
        replace hX := (n5.block _ (heap_lt hX) (fun h => h)).trans hX
        replace hY := (n5.block _ (heap_lt hY) (fun h => h)).trans hY
        replace tX := tX.nw n5
        replace tY := tY.nw n5
        replace hA := (n5.block _ (heap_lt hA) (fun h => h)).trans hA
        replace hB := (n5.block _ (heap_lt hB) (fun h => h)).trans hB
        replace nW := nw_trans nW n5
        obtain rfl := hr.2 hDY.out
        clear hr
        go_upto_region 7 with fail
        obtain ⟨⟨f1, e1⟩, hf1⟩ : ∃ x, freshT (smN i0 a1) = x := ⟨_, rfl⟩
        obtain ⟨⟨f2, e2⟩, hf2⟩ : ∃ x, freshT (smN i1 b1) = x := ⟨_, rfl⟩
        have hq1 : Hid _ := c_fresh W5 tX hr0.out kX.out.2.2
        rw [hf1] at hq1
        have hcon : Hid _ := hq1.out
        have hr0 := range_all hX
        go_wp2_with (first | (refine wpList_load_as rfl 34 _ rfl (gx) 0 rfl (thV (smN i0 a1) (.slice none 0 0) (.slice none 0 0) (.slice none 0 0) (.slice none 0 0)) _ rfl hr0 Try.rowT Try.sizeT ?_) | (go_at_call 11; refine Calls.mono hcon.out ?_; rintro e W6 ⟨rfl, n6⟩; refine stop_here ?_))
        unfold Hid
        clear hcon hr0 hq1
        replace hX := (n6.block _ (heap_lt hX) (fun h => h)).trans hX
        replace hY := (n6.block _ (heap_lt hY) (fun h => h)).trans hY
        replace tX := tX.nw n6
        replace tY := tY.nw n6
        replace hA := (n6.block _ (heap_lt hA) (fun h => h)).trans hA
        replace hB := (n6.block _ (heap_lt hB) (fun h => h)).trans hB
        replace nW := nw_trans nW n6
        go_upto_region 8 with fail
        have hq1 : Hid _ := c_fresh W6 tY hr1.out kY.out.2.2
        rw [hf2] at hq1
        have hcon : Hid _ := hq1.out
        have hr1 := range_all hY
        go_wp2_with (first | (refine wpList_load_as rfl 34 _ rfl (gy) 0 rfl (thV (smN i1 b1) (.slice none 0 0) (.slice none 0 0) (.slice none 0 0) (.slice none 0 0)) _ rfl hr1 Try.rowT Try.sizeT ?_) | (go_at_call 11; refine Calls.mono hcon.out ?_; rintro e W7 ⟨rfl, n7⟩; refine stop_here ?_))
        unfold Hid
        clear hcon hr1 hq1
        replace hX := (n7.block _ (heap_lt hX) (fun h => h)).trans hX
        replace hY := (n7.block _ (heap_lt hY) (fun h => h)).trans hY
        replace tX := tX.nw n7
        replace tY := tY.nw n7
        replace hA := (n7.block _ (heap_lt hA) (fun h => h)).trans hA
        replace hB := (n7.block _ (heap_lt hB) (fun h => h)).trans hB
        replace nW := nw_trans nW n7
        go_upto_region 9 with fail
        have o1 : (e1 = 0 ∧ f1 = i0 * 64 + a1 + 1 ∧ 0 ≤ a1 ∧ a1 ≤ 62 ∧ i0 ≤ 4398046511103) ∨ (e1 = 125 ∧ f1 = 0) := fresh_both hDX.out hf1
        have o2 : (e2 = 0 ∧ f2 = i1 * 64 + b1 + 1 ∧ 0 ≤ b1 ∧ b1 ≤ 62 ∧ i1 ≤ 4398046511103) ∨ (e2 = 125 ∧ f2 = 0) := fresh_both hDY.out hf2
        clear hf1 hf2
        by_cases hee : e1 = 0 ∧ e2 = 0
        · obtain ⟨he1, he2⟩ := hee
          replace o1 := (o1.resolve_right (fun h => by omega)).2
          replace o2 := (o2.resolve_right (fun h => by omega)).2
          have z1 : (e1 != 0) = false := by simp [he1]
          have z2 : (e2 != 0) = false := by simp [he2]
          have b1a : decide (i0 < f1) = true := decide_eq_true (by have := kX.out.1.1; omega)
          have b2a : decide (i1 < f2) = true := decide_eq_true (by have := kY.out.1.1; omega)
          have b3a : decide (f1 < 281474976710656) = true := decide_eq_true (by omega)
          have b4a : ((f1 == f2) == (a0 == b0 && a1 == b1)) = true := by rw [o1.1, o2.1]; exact apart_iff ha0 hb0 hi0.out hi1.out kX.out.1 kY.out.1 ⟨o1.2.1, o1.2.2.1⟩ ⟨o2.2.1, o2.2.2.1⟩
          have hpe := fun w => run_eq_pair a0 a1 b0 b1 w
          replace o1 : Hid _ := o1
          replace o2 : Hid _ := o2
          clear he1 he2
          have g0 : W7.cell? ⟨gx, 0, none⟩ = some (.int .u64 i0) := cell_blk hX rfl
          have g1 : W7.cell? ⟨gy, 0, none⟩ = some (.int .u64 i1) := cell_blk hY rfl
          have c1 : W7.cell? ⟨N, 0, none⟩ = some (.int .i64 a0) := cell_blk hA rfl
          have c2 : W7.cell? ⟨N, 1, none⟩ = some (.int .i64 a1) := cell_blk hA rfl
          have c3 : W7.cell? ⟨N + 1, 0, none⟩ = some (.int .i64 b0) := cell_blk hB rfl
          have c4 : W7.cell? ⟨N + 1, 1, none⟩ = some (.int .i64 b1) := cell_blk hB rfl
          clear hX hY tX tY hA hB ha0 hb0
          generalize hcd : (a0 == b0 && a1 == b1) = cd at *
          replace hcd : Hid _ := hcd
          go_wp2
          go_ret
          exact ⟨rfl, nW⟩
        · skip
          have hor : (e1 != 0 || e2 != 0) = true := by
            rcases o1 with ⟨h1, _⟩ | ⟨h1, _⟩
            · rcases o2 with ⟨h2, _⟩ | ⟨h2, _⟩
              · exact absurd ⟨h1, h2⟩ hee
              · simp [h2]
            · simp [h1]
          have p1 : (e1 == 0) = true ∨ ((e1 == 0) = false ∧ (f1 == 0) = true) := by rcases o1 with ⟨h1, _⟩ | ⟨h1, h2⟩; exact .inl (by simp [h1]); exact .inr ⟨by simp [h1], by simp [h2]⟩
          have p2 : (e2 == 0) = true ∨ ((e2 == 0) = false ∧ (f2 == 0) = true) := by rcases o2 with ⟨h1, _⟩ | ⟨h1, h2⟩; exact .inl (by simp [h1]); exact .inr ⟨by simp [h1], by simp [h2]⟩
          clear hX hY tX tY hA hB ha0 hb0 o1 o2 hee
          have y1 : (e1 != 0) = !(e1 == 0) := rfl
          have y2 : (e2 != 0) = !(e2 == 0) := rfl
          rcases p1 with p1 | ⟨p1, p1f⟩
          · rcases p2 with p2 | ⟨p2, p2f⟩
            · rw [y1, y2, p1, p2] at hor; cases hor
            · rw [p1] at y1; rw [p2] at y2; clear hor; go_wp2; go_ret; exact ⟨rfl, nW⟩
          · rcases p2 with p2 | ⟨p2, p2f⟩
            · rw [p1] at y1; rw [p2] at y2; clear hor; go_wp2; go_ret; exact ⟨rfl, nW⟩
            · rw [p1] at y1; rw [p2] at y2; clear hor; go_wp2; go_ret; exact ⟨rfl, nW⟩
      · replace hDY : Hid _ := hDY
        have hcon : Hid _ := c_directory W4 tY (smN_wf _ _) (Nat.zero_le _) (Nat.zero_le _)
        unfold AnsP at hcon
        have hr1 := range_all hY
        go_wp2_with (first | (refine wpList_load_as rfl 34 _ rfl (gy) 0 rfl (thV (smN i1 b1) (.slice none 0 0) (.slice none 0 0) (.slice none 0 0) (.slice none 0 0)) _ rfl hr1 Try.rowT Try.sizeT ?_) | (go_at_call 10; refine Calls.mono hcon.out ?_; rintro e W5 ⟨r, rfl, hr, n5⟩; refine stop_here ?_))
        unfold Hid
        clear hcon hr1
        replace hX := (n5.block _ (heap_lt hX) (fun h => h)).trans hX
        replace hY := (n5.block _ (heap_lt hY) (fun h => h)).trans hY
        replace tX := tX.nw n5
        replace tY := tY.nw n5
        replace hA := (n5.block _ (heap_lt hA) (fun h => h)).trans hA
        replace hB := (n5.block _ (heap_lt hB) (fun h => h)).trans hB
        replace nW := nw_trans nW n5
        obtain rfl : r = false := by (cases r; rfl; exact absurd (hr.1 rfl) hDY.out)
        clear hr
        clear hX hY tX tY hA hB
        go_wp2
        go_ret
        exact ⟨rfl, nW⟩
    · replace hDX : Hid _ := hDX
      have hcon : Hid _ := c_directory U2 tX (smN_wf _ _) (Nat.zero_le _) (Nat.zero_le _)
      unfold AnsP at hcon
      have hr0 := range_all hX
      go_wp2_with (first | (refine wpList_load_as rfl 34 _ rfl (gx) 0 rfl (thV (smN i0 a1) (.slice none 0 0) (.slice none 0 0) (.slice none 0 0) (.slice none 0 0)) _ rfl hr0 Try.rowT Try.sizeT ?_) | (go_at_call 10; refine Calls.mono hcon.out ?_; rintro e W4 ⟨r, rfl, hr, n4⟩; refine stop_here ?_))
      unfold Hid
      clear hcon hr0
      replace hX := (n4.block _ (heap_lt hX) (fun h => h)).trans hX
      replace hY := (n4.block _ (heap_lt hY) (fun h => h)).trans hY
      replace tX := tX.nw n4
      replace tY := tY.nw n4
      replace hA := (n4.block _ (heap_lt hA) (fun h => h)).trans hA
      replace hB := (n4.block _ (heap_lt hB) (fun h => h)).trans hB
      replace nW := nw_trans nW n4
      obtain rfl : r = false := by (cases r; rfl; exact absurd (hr.1 rfl) hDX.out)
      clear hr
      clear hX hY tX tY hA hB
      go_wp2
      go_ret
      exact ⟨rfl, nW⟩
end Go.Proofs.Ytppfcdnhmieejaa
