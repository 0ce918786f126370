/-
  Package extent: has, turn, Take, Free, Later.
-/
import Derived.Test.YtelobmdlnkkbkaaExtW2
namespace Go.Proofs.Ytelobmdlnkkbkaa
set_option linter.unusedVariables false
set_option linter.unusedSimpArgs false
set_option maxRecDepth 20000
open Go.RowKit

def hasT (xs : List UInt8) (s l : Int) : Bool := decide (1 ≤ l ∧ 0 ≤ s ∧ l ≤ (xs.length : Int) - s)

theorem canT_has {xs : List UInt8} {s l : Int} {c : UInt8} (h : hasT xs s l = false) : canT xs s l c = false := by
  unfold hasT at h
  unfold canT
  have h := of_decide_eq_false h
  exact decide_eq_false (fun hh => h ⟨hh.1, hh.2.1, hh.2.2.1⟩)

theorem canT_yes {xs : List UInt8} {s l : Nat} {c : UInt8} (h : hasT xs s l = true) (hh : ∀ i, i < l → xs[s + i]? = some c) : canT xs s l c = true := by
  unfold hasT at h
  unfold canT
  have h := of_decide_eq_true h
  exact decide_eq_true ⟨h.1, h.2.1, h.2.2, by simpa using hh⟩

theorem canT_no {xs : List UInt8} {s l : Nat} {c : UInt8} {i : Nat} (hi : i < l) (hh : xs[s + i]? ≠ some c) : canT xs s l c = false := by
  unfold canT
  refine decide_eq_false (fun h => hh ?_)
  have := h.2.2.2 i (by simpa using hi)
  simpa using this

set_option maxHeartbeats 800000 in
theorem c_has {b g : Nat} {xs : List UInt8} (w : World) (h : MapAt w b g xs) (s l : Int) (hs2 : s ≤ 9223372036854775807) :
    Calls Try.prog 35 #[.pointer (some ⟨b, 0, none⟩), ext s l] w fun e w' => e = .returned (.bool (hasT xs s l)) ∧ Nw w w' := by
  have c0 := h.c0
  have hn := h.n
  have hbl := h.lt.1
  have hfin : ∀ n, Nw w ((w.alloc (.cells #[.int .i64 s, .int .i64 l] 34)).drewN n) := fun n => ⟨rfl, rfl, rfl, ((Fr.refl (fun _ => False) w).alloc (.cells #[.int .i64 s, .int .i64 l] 34)).size, ((Fr.refl (fun _ => False) w).alloc (.cells #[.int .i64 s, .int .i64 l] 34)).block⟩
  unfold ext
  by_cases h1 : 1 ≤ l
  · have d1 : decide (1 ≤ l) = true := decide_eq_true h1
    by_cases h2 : 0 ≤ s
    · have d2 : decide (0 ≤ s) = true := decide_eq_true h2
      have e1 : hasT xs s l = decide (l ≤ (xs.length : Int) - s) := by unfold hasT; simp [h1, h2]
      rw [e1]
      go_enter Try.func35, Try.ntmps35
      go_wp2
      go_quiet (fail)
      go_wp2
      go_ret
      exact ⟨rfl, hfin _⟩
    · have d2 : decide (0 ≤ s) = false := decide_eq_false h2
      have e1 : hasT xs s l = false := by unfold hasT; simp [h1, h2]
      rw [e1]
      go_enter Try.func35, Try.ntmps35
      go_wp2
      go_quiet (fail)
      go_wp2
      go_ret
      exact ⟨rfl, hfin _⟩
  · have d1 : decide (1 ≤ l) = false := decide_eq_false h1
    have e1 : hasT xs s l = false := by unfold hasT; simp [h1]
    rw [e1]
    go_enter Try.func35, Try.ntmps35
    go_wp2
    go_quiet (fail)
    go_wp2
    go_ret
    exact ⟨rfl, hfin _⟩

theorem LayAt.drewN {w wr : World} {b g : Nat} {s l : Int} {xs : List UInt8} (h : LayAt w wr b g s l xs) (n : Nat) : LayAt w (wr.drewN n) b g s l xs :=
  ⟨⟨h.map.obj, h.map.st, h.map.n⟩, h.var, ⟨h.fr.os, h.fr.tape, h.fr.output, h.fr.size, h.fr.block⟩⟩

def turnE (xs : List UInt8) (s l : Int) (c : UInt8) : Int := if canT xs s l c then 0 else 72

set_option maxHeartbeats 1600000 in
theorem c_turn {b g : Nat} {xs : List UInt8} (w : World) (h : MapAt w b g xs) (s l : Int) (c d : UInt8) (hs2 : s ≤ 9223372036854775807) :
    Calls Try.prog 33 #[.pointer (some ⟨b, 0, none⟩), ext s l, .int .u8 (c.toNat : Int), .int .u8 (d.toNat : Int)] w fun e w' => e = .returned (.int .i64 (turnE xs s l c)) ∧ MapAt w' b g (turnX xs s l c d) ∧ Fr (fun k => k = g) w w' := by
  obtain ⟨cc, hcc⟩ : ∃ cc : Int, Hid (cc = (c.toNat : Int)) := ⟨_, rfl⟩
  rw [← hcc.out]
  have h0 := layAt h s l
  have hn := h.n
  cases hh : hasT xs s l with
  | false =>
    have e1 : turnE xs s l c = 72 := by unfold turnE; rw [canT_has hh]; rfl
    have e2 : turnX xs s l c d = xs := by unfold turnX; rw [canT_has hh]; rfl
    rw [e1, e2]
    clear e1 e2
    have hm := h0.map
    have hfr := h0.fr
    clear h0
    unfold ext
    go_enter Try.func33, Try.ntmps33
    go_wp2_with (go_at_call 35; refine (c_has _ hm s l hs2).mono ?_; rw [hh]; rintro e w' ⟨rfl, hw⟩)
    go_ret
    exact ⟨rfl, hm.nw hw, Fr.trans hfr (hw.mono (fun _ => False.elim)) (fun i hi => .inl hi)⟩
  | true =>
    have hq := of_decide_eq_true hh
    obtain ⟨s, rfl⟩ : ∃ s' : Nat, s = (s' : Int) := ⟨s.toNat, by omega⟩
    obtain ⟨l, rfl⟩ : ∃ l' : Nat, l = (l' : Int) := ⟨l.toNat, by omega⟩
    have hl1 : 1 ≤ l := by omega
    have hsl : s + l ≤ xs.length := by omega
    have hhH : Hid (hasT xs s l = true) := hh
    clear hq
    unfold ext
    go_enter Try.func33, Try.ntmps33
    go_wp2_with (go_at_call 35; refine (c_has _ h0.map s l hs2).mono ?_; rw [hh]; rintro e w' ⟨rfl, hw⟩)
    have h1 : LayAt w w' b g s l xs := ⟨h0.map.nw hw, (hw.block _ (heap_lt h0.var) id).trans h0.var, h0.fr.trans (hw.mono (fun _ => False.elim)) (fun i hi => .inl hi)⟩
    clear h0 hh
    have c0 := h1.map.c0
    have v0 : w'.cell? ⟨w.heap.size, 0, none⟩ = some (.int .i64 (s : Int)) := cell_blk h1.var rfl
    have v1 : w'.cell? ⟨w.heap.size, 1, none⟩ = some (.int .i64 (l : Int)) := cell_blk h1.var rfl
    go_quiet (fail)
    have h2 : LayAt w (w'.drewN nq) b g s l xs := h1.drewN nq
    have hss : s + l - s = l := by omega
    rw [hss]
    clear h1 c0 v0 v1 hw hss
    generalize w'.drewN nq = W at *
    have v0 : W.cell? ⟨w.heap.size, 0, none⟩ = some (.int .i64 (s : Int)) := cell_blk h2.var rfl
    have v1 : W.cell? ⟨w.heap.size, 1, none⟩ = some (.int .i64 (l : Int)) := cell_blk h2.var rfl
    go_wp2
    go_loop [28] (fun i => ∃ k : Nat, k ≤ l ∧ i = .int .i64 k ∧ ∀ j, j < k → xs[s + j]? = some c) (fun i => l - (intOf i).toNat)
    case atStart => exact ⟨0, Nat.zero_le _, rfl, fun j hj => by omega⟩
    case round =>
      obtain ⟨k, hk, rfl, hall⟩ := hrel
      have hallH : Hid (∀ j, j < k → xs[s + j]? = some c) := hall
      clear hall
      by_cases hlt : k < l
      · have hlx : s + k < xs.length := by omega
        have hc := h2.map.cell (s + k) hlx
        by_cases hx : xs[s + k] = c
        · have he : (((xs[s + k].toNat : Int) != cc)) = false := by rw [hcc.out, hx]; simp
          have hall2 : Hid (∀ j, j < k + 1 → xs[s + j]? = some c) := fun j hj => by
            by_cases e : j = k
            · subst e; rw [List.getElem?_eq_getElem hlx, hx]
            · exact hallH.out j (by omega)
          clear hx hallH
          generalize (xs[s + k].toNat : Int) = x at *
          go_wp2
          go_round
          case rel => exact ⟨k + 1, by omega, by go_num, hall2.out⟩
          case measure => simp [intOf]; omega
        · have he : (((xs[s + k].toNat : Int) != cc)) = true := by rw [hcc.out, bne, u8_beq]; simp [hx]
          have hno : canT xs s l c = false := canT_no hlt (by rw [List.getElem?_eq_getElem hlx]; simpa using hx)
          have e1 : Hid (turnE xs s l c = 72) := by unfold Hid turnE; rw [hno]; rfl
          have e2 : Hid (turnX xs s l c d = xs) := by unfold Hid turnX; rw [hno]; rfl
          clear hno hx hallH
          generalize (xs[s + k].toNat : Int) = x at *
          go_wp2
          go_ret
          rw [e1.out, e2.out]
          exact ⟨rfl, h2.map, h2.fr⟩
      · have hyes : canT xs s l c = true := canT_yes hhH.out (fun i hi => hallH.out i (by omega))
        have e1 : Hid (turnE xs s l c = 0) := by unfold Hid turnE; rw [hyes]; rfl
        have e2 : Hid (turnX xs s l c d = layx xs s l d) := by unfold Hid turnX; rw [hyes]; simp
        clear hyes hallH
        go_wp2_with (go_at_call 31; refine (c_lay _ h2.map s l d hsl).mono ?_; rintro e w3 ⟨rfl, hm3, hf3⟩)
        go_ret
        rw [e1.out, e2.out]
        exact ⟨rfl, hm3, h2.fr.trans hf3 (fun i hi => .inl hi)⟩

theorem c_take {b g : Nat} {xs : List UInt8} (w : World) (h : MapAt w b g xs) (s l : Int) (hs2 : s ≤ 9223372036854775807) :
    Calls Try.prog 17 #[.pointer (some ⟨b, 0, none⟩), ext s l] w fun e w' => e = .returned (.int .i64 (turnE xs s l 0)) ∧ MapAt w' b g (turnX xs s l 0 1) ∧ Fr (fun k => k = g) w w' := by
  have h0 := layAt h s l
  have hc := c_turn _ h0.map s l 0 1 hs2
  unfold ext at *
  go_enter Try.func17, Try.ntmps17
  go_wp2_with (go_at_call 33; refine hc.mono ?_; rintro e w' ⟨rfl, hm, hf⟩)
  go_ret
  exact ⟨rfl, hm, h0.fr.trans hf (fun i hi => .inl hi)⟩

theorem c_free {b g : Nat} {xs : List UInt8} (w : World) (h : MapAt w b g xs) (s l : Int) (hs2 : s ≤ 9223372036854775807) :
    Calls Try.prog 19 #[.pointer (some ⟨b, 0, none⟩), ext s l] w fun e w' => e = .returned (.int .i64 (turnE xs s l 1)) ∧ MapAt w' b g (turnX xs s l 1 0) ∧ Fr (fun k => k = g) w w' := by
  have h0 := layAt h s l
  have hc := c_turn _ h0.map s l 1 0 hs2
  unfold ext at *
  go_enter Try.func19, Try.ntmps19
  go_wp2_with (go_at_call 33; refine hc.mono ?_; rintro e w' ⟨rfl, hm, hf⟩)
  go_ret
  exact ⟨rfl, hm, h0.fr.trans hf (fun i hi => .inl hi)⟩

theorem c_later {b g : Nat} {xs : List UInt8} (w : World) (h : MapAt w b g xs) (s l : Int) (hs2 : s ≤ 9223372036854775807) :
    Calls Try.prog 21 #[.pointer (some ⟨b, 0, none⟩), ext s l] w fun e w' => e = .returned (.int .i64 (turnE xs s l 1)) ∧ MapAt w' b g (turnX xs s l 1 2) ∧ Fr (fun k => k = g) w w' := by
  have h0 := layAt h s l
  have hc := c_turn _ h0.map s l 1 2 hs2
  unfold ext at *
  go_enter Try.func21, Try.ntmps21
  go_wp2_with (go_at_call 33; refine hc.mono ?_; rintro e w' ⟨rfl, hm, hf⟩)
  go_ret
  exact ⟨rfl, hm, h0.fr.trans hf (fun i hi => .inl hi)⟩
end Go.Proofs.Ytelobmdlnkkbkaa
