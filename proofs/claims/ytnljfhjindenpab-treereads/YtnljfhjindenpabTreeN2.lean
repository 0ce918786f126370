/-
  The document's form of a node.
-/
import Derived.Test.YtnljfhjindenpabTreeN1
import Derived.Test.YtnljfhjindenpabTreeR2
namespace Go.Proofs.Ytnljfhjindenpab
set_option linter.unusedVariables false
set_option linter.unusedSimpArgs false
set_option maxRecDepth 20000
open Go.RowKit

set_option maxHeartbeats 1600000 in
theorem c_form {x : Tv} {nd : Nv} {root : Bool} (w : World) (h : Ct (fun _ => True) w x nd) :
    Calls Try.prog 69 #[nodeV x, .bool root] w fun e w' => e = .returned (.bool (decide (Form nd root))) ∧ Nw w w' := by
  obtain ⟨x0, x1, x2⟩ := x
  obtain ⟨ks, es, is⟩ := nd
  obtain ⟨hk, he, hs⟩ := h
  simp only at hk he hs
  have hK : Ks w x0 ks := hk.hs
  obtain ⟨ak, ck, rfl, hk1, hk2⟩ := Hs.form hK
  obtain ⟨ae, ce, rfl, he1, he2⟩ := Hs.form he.hs
  obtain ⟨ai, ci, rfl, hi1, hi2⟩ := Hs.form hs.hs
  clear hk he hs
  obtain ⟨R, hR⟩ : ∃ R, Hid (R = decide (Form (ks, es, is) root)) := ⟨_, rfl⟩
  rw [← hR.out]
  unfold nodeV
  replace hK : Hid (Ks w (.slice ak ks.length ck) ks) := hK
  by_cases hA : 7 < ks.length
  · have hr : Hid (R = false) := by unfold Hid; rw [hR.out]; exact decide_eq_false (fun h => by have := h.1; simp only at this; omega)
    clear hR hK
    generalize ks.length = n at *
    generalize es.length = m at *
    generalize is.length = q at *
    go_enter Try.func69, Try.ntmps69
    go_wp2
    go_ret
    rw [hr.out]
    exact ⟨rfl, nw_alloc (nw_refl w) _⟩
  by_cases hB : root = false ∧ ks.length < 3
  · obtain ⟨rfl, hB⟩ := hB
    have hr : Hid (R = false) := by unfold Hid; rw [hR.out]; exact decide_eq_false (fun h => by have := h.2.1; simp at this; omega)
    clear hR hK
    generalize ks.length = n at *
    generalize es.length = m at *
    generalize is.length = q at *
    go_enter Try.func69, Try.ntmps69
    go_wp2
    go_ret
    rw [hr.out]
    exact ⟨rfl, nw_alloc (nw_refl w) _⟩
  have hB' : root = true ∨ 3 ≤ ks.length := by
    cases root
    · right; simp at hB; omega
    · left; rfl
  have hR' : Hid (R = decide (Rise ks ∧ ((is.length = 0 ∧ es.length = ks.length) ∨ (is.length ≠ 0 ∧ es.length = 0 ∧ is.length = ks.length + 1 ∧ 1 < is.length)))) := by
    unfold Hid
    rw [hR.out]
    refine decide_eq_decide.2 ⟨fun h => h.2.2, fun h => ⟨by simp only; omega, hB', h⟩⟩
  clear hR
  rcases hB' with rfl | hB'
  case' inr => cases root
  all_goals
    clear hB
    go_enter Try.func69, Try.ntmps69
    go_wp2
    have d0 : Hid (∀ wr, Nw (w.alloc (.cells #[.slice ak ks.length ck, .slice ae es.length ce, .slice ai is.length ci] 92)) wr → wr.cell? ⟨w.heap.size, 0, none⟩ = some (.slice ak ks.length ck) ∧ wr.cell? ⟨w.heap.size, 1, none⟩ = some (.slice ae es.length ce) ∧ wr.cell? ⟨w.heap.size, 2, none⟩ = some (.slice ai is.length ci)) := fun wr hw => ⟨hw.cell (cell_blk (heap_alloc_new w _) rfl), hw.cell (cell_blk (heap_alloc_new w _) rfl), hw.cell (cell_blk (heap_alloc_new w _) rfl)⟩
    go_loopw [5] (fun i wr => ∃ j : Nat, i = .int .i64 (j + 1 : Nat) ∧ (j = 0 ∨ j + 1 ≤ ks.length) ∧ Rise (ks.take (j + 1)) ∧ Nw (w.alloc (.cells #[.slice ak ks.length ck, .slice ae es.length ce, .slice ai is.length ci] 92)) wr) (fun i _ => ks.length - (intOf i).toNat)
    case atStart => exact ⟨0, rfl, .inl rfl, rise_one ks, nw_refl _⟩
    case round =>
      obtain ⟨j, rfl, hj, hri, hnw⟩ := hrel
      obtain ⟨c0, c1, c2⟩ := d0.out wr hnw
      have hN : Nw w wr := nw_trans (nw_alloc (nw_refl w) _) hnw
      obtain ⟨i, hi⟩ : ∃ i, i = j + 1 := ⟨_, rfl⟩
      rw [← hi] at hri hj ⊢
      have hsub : (i : Int) - 1 = (j : Int) := by omega
      have hjl : j ≤ 10 := by omega
      by_cases hlt : i < ks.length
      · have hiH : Hid (i = j + 1) := hi
        have hltj : j < ks.length := by omega
        obtain ⟨q, off, hq, e0⟩ := Ks.get (Hs.nw hK.out hN) hlt
        obtain ⟨q2, off2, hq2, e1⟩ := Ks.get (Hs.nw hK.out hN) hltj
        subst hq
        simp only [Option.some.injEq, Addr.mk.injEq, and_true] at hq2
        obtain ⟨rfl, rfl⟩ := hq2
        have hij : ks[i - 1] = ks[j] := by subst hi; rfl
        by_cases hlk : ks[i] ≤ ks[j]
        · have hr : Hid (R = false) := by
            unfold Hid
            rw [hR'.out]
            refine decide_eq_false (fun h => ?_)
            have := rise_pair (by omega) hlt h.1
            omega
          clear hR' hK d0 hri hi hij hj
          generalize ks[i] = k1 at *
          generalize ks[j] = k0 at *
          go_wp2
          go_quiet (fail)
          have hn2 := nw_trans hN (nw_drewN nq wr)
          go_wp2
          go_ret
          rw [hr.out]
          exact ⟨rfl, hn2⟩
        · have hri2 : Hid (Rise (ks.take (i + 1))) := rise_next (by omega) hlt hri (by omega)
          clear hR' hK d0 hri hi hij hj
          generalize ks[i] = k1 at *
          generalize ks[j] = k0 at *
          go_wp2
          go_quiet (fail)
          have hn2 := nw_trans hnw (nw_drewN nq wr)
          go_wp2
          go_roundw
          case rel => exact ⟨i, by go_num, .inr (by omega), hri2.out, hn2⟩
          case measure => simp [intOf]; omega
      · have hrise : Rise ks := by
          rwa [List.take_of_length_le (by omega)] at hri
        have hr : Hid (R = decide ((is.length = 0 ∧ es.length = ks.length) ∨ (is.length ≠ 0 ∧ es.length = 0 ∧ is.length = ks.length + 1 ∧ 1 < is.length))) := by
          unfold Hid
          rw [hR'.out]
          exact decide_eq_decide.2 ⟨fun h => h.2, fun h => ⟨hrise, h⟩⟩
        clear hR' hK d0 hri hi hrise
        generalize ks.length = n at *
        generalize es.length = m at *
        generalize is.length = q at *
        by_cases h0 : q = 0
        · subst h0
          have e1 : Hid (R = ((m : Int) == (n : Int))) := by unfold Hid; rw [hr.out, Bool.eq_iff_iff]; simp; omega
          clear hr
          go_wp2
          go_ret
          rw [e1.out]
          exact ⟨rfl, hN⟩
        · by_cases h1 : m = 0
          · subst h1
            by_cases h2 : q = n + 1
            · have e1 : Hid (R = decide (1 < (n : Int) + 1)) := by unfold Hid; rw [hr.out, Bool.eq_iff_iff]; simp [h2]; omega
              clear hr
              subst h2
              go_wp2
              go_ret
              rw [e1.out]
              exact ⟨rfl, hN⟩
            · have e1 : Hid (R = false) := by unfold Hid; rw [hr.out]; simp [h0, h2]
              go_wp2
              go_ret
              rw [e1.out]
              exact ⟨rfl, hN⟩
          · have e1 : Hid (R = false) := by unfold Hid; rw [hr.out]; simp [h0, h1]
            go_wp2
            go_ret
            rw [e1.out]
            exact ⟨rfl, hN⟩
end Go.Proofs.Ytnljfhjindenpab
