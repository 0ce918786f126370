/-
  LabelMakes' walk.
-/
import Derived.Test.YtkjmlgdaopafhaaLabA1
import Derived.Test.YtkjmlgdaopafhaaLabR5
namespace Go.Proofs.Ytkjmlgdaopafhaa
set_option linter.unusedVariables false
set_option linter.unusedSimpArgs false
set_option maxRecDepth 20000
open Go.RowKit

set_option maxRecDepth 20000 in
set_option maxHeartbeats 6400000 in
theorem c_makes {X : Nat → Prop} {v : Value} {xs : List Cat} (d id : Int) (w : World) (h : CSl X w v xs) (hl : xs.length ≤ 8796093021952) :
    Calls Try.prog 4 #[.int .i64 d, v, .int .u64 id] w fun e w' => e = .returned (.bool true) ∧ Nw w w' := by
  obtain ⟨i0, hj, hj0, hj1, hj2⟩ := info_parts3 Try.infoC
  have hsl := h.sl
  obtain ⟨ao, cap, rfl, ha1, ha2⟩ := h.form
  have hrA : (w.alloc (.cells #[] 32)).ownsRow w.heap.size 32 2 (.slice (some ⟨w.heap.size, 0, none⟩) 0 0) 0 [] := ⟨rfl, .inr ⟨w.heap.size, 0, #[], rfl, Nat.le_refl _, heap_alloc_new w _, Nat.le_refl _, Nat.zero_le _, rfl, rfl⟩⟩
  have hslA : Sl w.heap.size (w.alloc (.cells #[] 32)) (.slice ao xs.length cap) xs.length (ccells xs) := hsl.keep ((Below.refl _ w).alloc (Nat.le_refl _) _)
  have hkl : (ccells xs).length = xs.length * 2 := ccells_length xs
  have hone := ccells_oneCell xs
  have hmk : Hid (∀ (u : Value) (w' : World), w'.ownsRow w.heap.size 32 2 u xs.length (ccells xs) → MkAt w.heap.size w' u xs) := fun u w' h => mk_of_owns h
  go_enter Try.func4, Try.ntmps4
  go_upto_region 1 with fail
  go_wp2_with (first | (refine wpList_buildSlice0 rfl 23 32 rfl Try.underlying23 (by kernel_rfl) ?_) | (at_builtin; refine wpList_append_sl _ rfl _ _ 23 rfl w.heap.size 32 i0 _ 2 16 Try.underlying23 hj hj0 hj1 hj2 rfl (by decide) _ _ _ rfl hrA _ _ _ _ rfl hslA hkl hone ?d2 ?d3 ?d4 ?_))
  case d2 => unfold maxLen; omega
  case d3 => omega
  case d4 => simp
  intro v9 w9 hown9 hgrow9 hat9
  have n9 : Nw w w9 := Fr.grown (nw_alloc (nw_refl w) _) hgrow9 (fun q hq => .inr (hrA.lt q hq).1)
  have hm9 := (hmk.out v9 w9 (by simpa using hown9)).csl.any
  obtain ⟨oa, oc, rfl, ho1, ho2⟩ := hm9.form
  have c9 : CSl X w9 (.slice ao xs.length cap) xs := h.nw n9
  clear hgrow9 hat9 hrA hslA hown9 hmk hsl h hkl hone
  have hcon : Hid _ := c_make d w9 hm9 (by omega)
  go_wp2_with (go_at_call 10; refine Calls.mono hcon.out ?_; rintro e w1 ⟨u1, y1, rfl, q1, q2, q3, q4, q5⟩; refine stop_here ?_)
  unfold Hid labV
  clear hcon
  obtain ⟨ma, mc, rfl, _, _⟩ := q1.form
  have hF1 : Hid (Fm d y1 ∧ ∀ id, lev d y1 id = lev d xs id) := ⟨q2, q3⟩
  have hB1 : (w1.alloc (.cells #[.int .i64 d, .slice ma y1.length mc] 26)).heap[w1.heap.size]? = some (.cells #[.int .i64 d, .slice ma y1.length mc] 26 (0, 0)) := heap_alloc_new w1 _
  have n1 : Nw w9 (w1.alloc (.cells #[.int .i64 d, .slice ma y1.length mc] 26)) := nw_alloc q5 _
  have g1 : CSl (fun _ => True) (w1.alloc (.cells #[.int .i64 d, .slice ma y1.length mc] 26)) (.slice ma y1.length mc) y1 := q1.any.nw (nw_alloc (nw_refl w1) _)
  clear q1 q2 q3 q4 q5
  go_upto_region 3 with fail
  generalize w1.alloc (.cells #[.int .i64 d, .slice ma y1.length mc] 26) = W1 at *
  generalize w1.heap.size = B1 at *
  have cA := c9.nw n1
  have cO := hm9.nw n1
  have nA := nw_trans n9 n1
  clear c9 hm9 n9 n1
  have hcon : Hid _ := c_form d W1 cA (by omega)
  unfold labV at hcon
  go_wp2_with (go_at_call 11; refine Calls.mono hcon.out ?_; rintro e w2 ⟨u2, y2, rfl, q1, q2, q3, q4, q5⟩; refine stop_here ?_)
  unfold Hid labV
  clear hcon
  obtain ⟨fa, fc, rfl, _, _⟩ := q1.form
  have hyy : Hid (y1 = y2) := form_unique hF1.out.1 q2 (fun id => (hF1.out.2 id).trans (q3 id).symm)
  have hB2 : (w2.alloc (.cells #[.int .i64 d, .slice fa y2.length fc] 26)).heap[w2.heap.size]? = some (.cells #[.int .i64 d, .slice fa y2.length fc] 26 (0, 0)) := heap_alloc_new w2 _
  have n2 : Nw W1 (w2.alloc (.cells #[.int .i64 d, .slice fa y2.length fc] 26)) := nw_alloc q5 _
  have g2 : CSl (fun _ => True) (w2.alloc (.cells #[.int .i64 d, .slice fa y2.length fc] 26)) (.slice fa y2.length fc) y2 := q1.any.nw (nw_alloc (nw_refl w2) _)
  clear q1 q2 q3 q4 q5 hF1
  go_upto_region 4 with fail
  generalize w2.alloc (.cells #[.int .i64 d, .slice fa y2.length fc] 26) = W2 at *
  generalize w2.heap.size = B2 at *
  replace cA := cA.nw n2
  replace cO := cO.nw n2
  replace g1 := g1.nw n2
  replace hB1 := (n2.block _ (heap_lt hB1) (fun h => h)).trans hB1
  replace nA := nw_trans nA n2
  clear n2
  go_wp2_with (go_at_call 9; refine Calls.mono (c_alive _) ?_; rintro e W3 ⟨rfl, n3⟩; refine stop_here ?_)
  unfold Hid
  replace cA := cA.nw n3
  replace cO := cO.nw n3
  replace g1 := g1.nw n3
  replace g2 := g2.nw n3
  replace hB1 := (n3.block _ (heap_lt hB1) (fun h => h)).trans hB1
  replace hB2 := (n3.block _ (heap_lt hB2) (fun h => h)).trans hB2
  replace nA := nw_trans nA n3
  clear n3
  have a0 : W3.cell? ⟨B1, 0, none⟩ = some (.int .i64 d) := cell_blk hB1 rfl
  have a1 : W3.cell? ⟨B1, 1, none⟩ = some (.slice ma y1.length mc) := cell_blk hB1 rfl
  have b0 : W3.cell? ⟨B2, 0, none⟩ = some (.int .i64 d) := cell_blk hB2 rfl
  have b1 : W3.cell? ⟨B2, 1, none⟩ = some (.slice fa y2.length fc) := cell_blk hB2 rfl
  have hcon : Hid _ := c_exact d d W3 g1 g2
  unfold labV at hcon
  go_wp2_with (go_at_call 12; refine Calls.mono hcon.out ?_; rintro e W4 ⟨r, rfl, q1, n4⟩; refine stop_here ?_)
  unfold Hid
  have hr : r = true := q1.2 (by first | exact ⟨rfl, hyy.out⟩ | exact hyy.out | simp [hyy.out])
  subst hr
  clear hcon q1 a0 a1 b0 b1 g1 g2 hB1 hB2
  replace cA := cA.nw n4
  replace cO := cO.nw n4
  replace nA := nw_trans nA n4
  clear n4
  have hcon : Hid _ := c_level d id W4 cO
  unfold labV at hcon
  generalize hx : lev d xs id = x at *
  replace hx : Hid _ := hx
  go_wp2_with (go_at_call 13; refine Calls.mono hcon.out ?_; rintro e W5 ⟨rfl, n5⟩; refine stop_here ?_)
  unfold Hid
  clear hcon
  replace cA := cA.nw n5
  replace cO := cO.nw n5
  replace nA := nw_trans nA n5
  clear n5
  have hcon0 := c_rlevel d id W5 cA
  rw [hx.out] at hcon0
  have hcon : Hid _ := hcon0
  clear hcon0
  unfold labV at hcon
  have hb : (x != x) = false := by simp
  go_wp2_with (go_at_call 14; refine Calls.mono hcon.out ?_; rintro e W6 ⟨rfl, n6⟩; refine stop_here ?_)
  unfold Hid
  clear hcon
  replace cA := cA.nw n6
  replace cO := cO.nw n6
  replace nA := nw_trans nA n6
  clear n6 hx
  go_wp2
  go_loopw [44] (fun kv wr => ∃ k : Nat, k ≤ xs.length ∧ kv = .int .i64 k ∧ Nw W6 wr) (fun kv _ => xs.length - (intOf kv).toNat)
  case atStart => exact ⟨0, Nat.zero_le _, rfl, nw_refl _⟩
  case round =>
    obtain ⟨k, hk, rfl, hw⟩ := hrel
    by_cases hlt : k < xs.length
    · obtain ⟨q, off, rfl, _, d1, d2⟩ := (cO.nw hw).get k hlt
      obtain ⟨q', off', rfl, _, d3, d4⟩ := (cA.nw hw).get k hlt
      generalize xs[k] = c at *
      have hne := run_neq_cat c c
      have hcc : (!(c.1 == c.1 && c.2 == c.2)) = false := by simp
      rw [hcc] at hne
      have D1 : ∀ z, (wr.drewN z).cell? ⟨q, off + k * 2, none⟩ = some (.int .u64 c.1) := fun z => d1
      have D2 : ∀ z, (wr.drewN z).cell? ⟨q, off + k * 2 + 1, none⟩ = some (.int .i64 c.2) := fun z => d2
      have D3 : ∀ z, (wr.drewN z).cell? ⟨q', off' + k * 2, none⟩ = some (.int .u64 c.1) := fun z => d3
      have D4 : ∀ z, (wr.drewN z).cell? ⟨q', off' + k * 2 + 1, none⟩ = some (.int .i64 c.2) := fun z => d4
      clear d1 d2 d3 d4 hcc
      go_wp2
      go_quiet (fail)
      go_wp2
      go_roundw
      case rel => exact ⟨k + 1, by omega, by go_num, nw_trans hw (nw_drewN wr _)⟩
      case measure => simp [intOf]; omega
    · go_wp2
      go_ret
      exact ⟨rfl, nw_trans nA hw⟩
end Go.Proofs.Ytkjmlgdaopafhaa
