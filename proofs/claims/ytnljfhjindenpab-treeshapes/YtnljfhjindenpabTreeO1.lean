/-
  The program's isShaped.
-/
import Derived.Test.YtnljfhjindenpabTreeN7
namespace Go.Proofs.Ytnljfhjindenpab
set_option linter.unusedVariables false
set_option linter.unusedSimpArgs false
set_option maxRecDepth 20000
open Go.RowKit

abbrev Shape (n m q : Nat) : Prop := (q = 0 ∧ m = n) ∨ (m = 0 ∧ q = n + 1 ∧ 0 < n)

theorem form_iff (nd : Nv) (root : Bool) : Form nd root ↔ Shape nd.1.length nd.2.1.length nd.2.2.length ∧ nd.1.length ≤ 7 ∧ (root = true ∨ 3 ≤ nd.1.length) ∧ Rise nd.1 := by
  unfold Form Shape
  constructor
  · rintro ⟨h1, h2, h3, h4⟩
    refine ⟨?_, h1, h2, h3⟩
    omega
  · rintro ⟨h1, h2, h3, h4⟩
    refine ⟨h2, h3, h4, ?_⟩
    omega

set_option maxHeartbeats 3200000 in
theorem c_shapedNo {ak ae ai : Option Addr} {n m q ck ce ci : Nat} {root : Bool} (w : World) (hk1 : n ≤ ck) (hk2 : ck ≤ 9223372036854775807) (he1 : m ≤ ce) (he2 : ce ≤ 9223372036854775807) (hi1 : q ≤ ci) (hi2 : ci ≤ 9223372036854775807) (hkl : n < 9223372036854775807)
    (h : ¬ (Shape n m q ∧ n ≤ 7 ∧ (root = true ∨ 3 ≤ n))) :
    Calls Try.prog 73 #[.agg #[.slice ak n ck, .slice ae m ce, .slice ai q ci], .bool root] w fun e w' => e = .returned (.bool false) ∧ Nw w w' := by
  by_cases hs : Shape n m q
  · have h' : 7 < n ∨ (n < 3 ∧ root = false) := by
      by_cases h7 : n ≤ 7
      · right
        refine ⟨?_, ?_⟩
        · rcases Nat.lt_or_ge n 3 with h8 | h8
          · exact h8
          · exact absurd ⟨hs, h7, .inr h8⟩ h
        · cases root with
          | false => rfl
          | true => exact absurd ⟨hs, h7, .inl rfl⟩ h
      · left; omega
    clear h
    have hs' : (q = 0 ∧ m = 0 ∧ n = 0) ∨ (q = 0 ∧ m = n ∧ 0 < n) ∨ (m = 0 ∧ q = n + 1 ∧ 0 < n) := by omega
    clear hs
    rcases hs' with ⟨rfl, rfl, rfl⟩ | ⟨rfl, rfl, h0⟩ | ⟨rfl, rfl, h0⟩
    all_goals
      rcases h' with h7 | ⟨h3, rfl⟩
    all_goals first | (exfalso; omega) | skip
    all_goals
      go_enter Try.func73, Try.ntmps73
      go_wp2
      go_ret
      exact ⟨rfl, nw_alloc (nw_refl w) _⟩
  · clear h
    have hs' : (q = 0 ∧ m = 0 ∧ 0 < n) ∨ (q = 0 ∧ 0 < m ∧ m ≠ n) ∨ (q = 1 ∧ m = 0 ∧ n = 0) ∨ (0 < q ∧ m = 0 ∧ q ≠ n + 1) ∨ (0 < q ∧ 0 < m) := by omega
    clear hs
    rcases hs' with ⟨rfl, rfl, h0⟩ | ⟨rfl, h0, h1⟩ | ⟨rfl, rfl, rfl⟩ | ⟨h0, rfl, h1⟩ | ⟨h0, h1⟩
    case inr.inl => have e1 : ((m : Int) == (n : Int)) = false := by
                      rw [Bool.eq_false_iff]; intro h9; have := eq_of_beq h9; omega
                    have e2 : ((m : Int) == 0) = false := by
                      rw [Bool.eq_false_iff]; intro h9; have := eq_of_beq h9; omega
                    clear h1
                    go_enter Try.func73, Try.ntmps73
                    go_wp2
                    go_ret
                    exact ⟨rfl, nw_alloc (nw_refl w) _⟩
    case inr.inr.inr.inl => have e1 : ((q : Int) == (n : Int) + 1) = false := by
                              rw [Bool.eq_false_iff]; intro h9; have := eq_of_beq h9; omega
                            have e2 : ((q : Int) == 0) = false := by
                              rw [Bool.eq_false_iff]; intro h9; have := eq_of_beq h9; omega
                            clear h1
                            go_enter Try.func73, Try.ntmps73
                            go_wp2
                            go_ret
                            exact ⟨rfl, nw_alloc (nw_refl w) _⟩
    all_goals
      go_enter Try.func73, Try.ntmps73
      go_wp2
      go_ret
      exact ⟨rfl, nw_alloc (nw_refl w) _⟩

set_option maxHeartbeats 3200000 in
theorem c_shapedOk {ak ae ai : Option Addr} {m q ck ce ci : Nat} {ks : List Int} {root : Bool} (w : World) (hK : Ks w (.slice ak ks.length ck) ks) (hk1 : ks.length ≤ ck) (hk2 : ck ≤ 9223372036854775807) (he1 : m ≤ ce) (he2 : ce ≤ 9223372036854775807) (hi1 : q ≤ ci) (hi2 : ci ≤ 9223372036854775807)
    (hs : Shape ks.length m q) (h7 : ks.length ≤ 7) (hr : root = true ∨ 3 ≤ ks.length) :
    Calls Try.prog 73 #[.agg #[.slice ak ks.length ck, .slice ae m ce, .slice ai q ci], .bool root] w fun e w' => e = .returned (.bool (decide (Rise ks))) ∧ Nw w w' := by
  obtain ⟨R, hR'⟩ : ∃ R, Hid (R = decide (Rise ks)) := ⟨_, rfl⟩
  rw [← hR'.out]
  obtain ⟨n, hn⟩ : ∃ n, n = ks.length := ⟨_, rfl⟩
  rw [← hn] at hK hk1 hs h7 hr ⊢
  replace hn : Hid (n = ks.length) := hn
  replace hK : Hid (Ks w (.slice ak n ck) ks) := hK
  have hs' : (q = 0 ∧ m = 0 ∧ n = 0) ∨ (q = 0 ∧ n = m ∧ 0 < n) ∨ (m = 0 ∧ q = n + 1 ∧ 0 < n) := by omega
  have hr' : (root = true ∧ n < 3) ∨ 3 ≤ n := by
    rcases Nat.lt_or_ge n 3 with h8 | h8
    · rcases hr with h9 | h9
      · exact .inl ⟨h9, h8⟩
      · omega
    · exact .inr h8
  clear hs hr
  rcases hs' with ⟨rfl, rfl, h0⟩ | ⟨rfl, rfl, h0⟩ | ⟨rfl, rfl, h0⟩
  case inl =>
    have hk0 : ks = [] := List.eq_nil_of_length_eq_zero (by rw [← hn.out]; exact h0)
    subst hk0
    subst h0
    rcases hr' with ⟨rfl, h3⟩ | h3
    · have e1 : R = true := by rw [hR'.out]; rfl
      subst e1
      clear hR' hK h3
      go_enter Try.func73, Try.ntmps73
      go_wp2
      go_loopw [8] (fun i wr => i = .int .i64 1 ∧ Nw w wr ∧ wr.cell? ⟨w.heap.size, 0, none⟩ = some (.slice ak 0 ck)) (fun i _ => 0)
      case atStart => exact ⟨rfl, nw_alloc (nw_refl w) _, cell_blk (heap_alloc_new w _) rfl⟩
      case round =>
        obtain ⟨rfl, hn, hc⟩ := hrel
        go_wp2
        go_ret
        exact ⟨rfl, hn⟩
    · omega
  all_goals
    rcases hr' with ⟨rfl, h3⟩ | h3
  all_goals
    go_enter Try.func73, Try.ntmps73
    go_wp2
    go_loopw [8] (fun i wr => ∃ j : Nat, i = .int .i64 (j + 1 : Nat) ∧ (j = 0 ∨ j + 1 ≤ n) ∧ Rise (ks.take (j + 1)) ∧ Nw w wr ∧ wr.cell? ⟨w.heap.size, 0, none⟩ = some (.slice ak n ck)) (fun i _ => n - (intOf i).toNat)
    case atStart => exact ⟨0, rfl, .inl rfl, rise_one ks, nw_alloc (nw_refl w) _, cell_blk (heap_alloc_new w _) rfl⟩
    case round =>
      obtain ⟨j, rfl, hj, hri, hN, c0⟩ := hrel
      obtain ⟨i, hi⟩ : ∃ i, i = j + 1 := ⟨_, rfl⟩
      rw [← hi] at hri hj ⊢
      have hsub : (i : Int) - 1 = (j : Int) := by omega
      have hjl : j ≤ 10 := by omega
      by_cases hltn : i < n
      · have hlt : i < ks.length := by rw [← hn.out]; exact hltn
        have hiH : Hid (i = j + 1) := hi
        have hltj : j < ks.length := by omega
        have hltm : j < n := by omega
        obtain ⟨q, off, hq, e0⟩ := Ks.get (Hs.nw hK.out hN) hlt
        obtain ⟨q2, off2, hq2, e1⟩ := Ks.get (Hs.nw hK.out hN) hltj
        subst hq
        simp only [Option.some.injEq, Addr.mk.injEq, and_true] at hq2
        obtain ⟨rfl, rfl⟩ := hq2
        have hij : ks[i - 1] = ks[j] := by subst hi; rfl
        by_cases hlk : ks[i] ≤ ks[j]
        · have hr : Hid (R = false) := by
            unfold Hid
            rw [hR'.out]
            refine decide_eq_false (fun h => ?_)
            have := rise_pair (by omega) hlt h
            omega
          clear hR' hK hri hi hij hj
          generalize ks[i] = k1 at *
          generalize ks[j] = k0 at *
          clear hlt hltj
          go_wp2
          go_quiet (fail)
          have hn2 := nw_trans hN (nw_drewN nq wr)
          go_wp2
          go_ret
          rw [hr.out]
          exact ⟨rfl, hn2⟩
        · have hri2 : Hid (Rise (ks.take (i + 1))) := rise_next (by omega) hlt hri (by omega)
          have hc0 : Hid (wr.cell? ⟨w.heap.size, 0, none⟩ = some (.slice (some ⟨q, off, none⟩) n ck)) := c0
          clear hR' hK hri hi hij hj
          generalize ks[i] = k1 at *
          generalize ks[j] = k0 at *
          clear hlt hltj
          go_wp2
          go_quiet (fail)
          have hn2 := nw_trans hN (nw_drewN nq wr)
          go_wp2
          go_roundw
          case rel => exact ⟨i, by go_num, .inr (by omega), hri2.out, hn2, hc0.out⟩
          case measure => simp [intOf]; omega
      · have hr : Hid (R = true) := by
          unfold Hid
          rw [List.take_of_length_le (by rw [← hn.out]; omega)] at hri
          rw [hR'.out]
          exact decide_eq_true hri
        clear hR' hK hri hi
        go_wp2
        go_ret
        rw [hr.out]
        exact ⟨rfl, hN⟩

theorem c_shaped {x : Tv} {nd : Nv} {root : Bool} (w : World) (h : Ct (fun _ => True) w x nd) (hkl : nd.1.length < 9223372036854775807) :
    Calls Try.prog 73 #[nodeV x, .bool root] w fun e w' => e = .returned (.bool (decide (Form nd root))) ∧ Nw w w' := by
  obtain ⟨x0, x1, x2⟩ := x
  obtain ⟨ks, es, is⟩ := nd
  obtain ⟨hk, he, hs⟩ := h
  simp only at hk he hs hkl
  have hK : Ks w x0 ks := hk.hs
  obtain ⟨ak, ck, rfl, hk1, hk2⟩ := Hs.form hK
  obtain ⟨ae, ce, rfl, he1, he2⟩ := Hs.form he.hs
  obtain ⟨ai, ci, rfl, hi1, hi2⟩ := Hs.form hs.hs
  by_cases hsh : Shape ks.length es.length is.length ∧ ks.length ≤ 7 ∧ (root = true ∨ 3 ≤ ks.length)
  · have e : decide (Form (ks, es, is) root) = decide (Rise ks) := decide_eq_decide.2 ((form_iff _ _).trans ⟨fun h => h.2.2.2, fun h => ⟨hsh.1, hsh.2.1, hsh.2.2, h⟩⟩)
    rw [e]
    exact c_shapedOk w hK hk1 hk2 he1 he2 hi1 hi2 hsh.1 hsh.2.1 hsh.2.2
  · have e : decide (Form (ks, es, is) root) = false := decide_eq_false (fun h => hsh (by have := (form_iff _ _).1 h; exact ⟨this.1, this.2.1, this.2.2.1⟩))
    rw [e]
    exact c_shapedNo w hk1 hk2 he1 he2 hi1 hi2 hkl hsh
end Go.Proofs.Ytnljfhjindenpab
