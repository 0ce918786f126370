/-
  TreeO1, TreeO2, TreeO3, TreeO4: in one text.
-/
import Derived.Test.YtnljfhjindenpabTreeN7
namespace Go.Proofs.Ytnljfhjindenpab
set_option linter.unusedVariables false
set_option linter.unusedSimpArgs false
set_option maxRecDepth 20000
open Go.RowKit

abbrev Shape (n m q : Nat) : Prop := (q = 0 ∧ m = n) ∨ (m = 0 ∧ q = n + 1 ∧ 0 < n)

theorem form_iff (nd : Nv) (root : Bool) : Form nd root ↔ Shape nd.1.length nd.2.1.length nd.2.2.length ∧ nd.1.length ≤ 7 ∧ (root = true ∨ 3 ≤ nd.1.length) ∧ Rise nd.1 := by
  unfold Form Shape
  constructor
  · rintro ⟨h1, h2, h3, h4⟩
    refine ⟨?_, h1, h2, h3⟩
    omega
  · rintro ⟨h1, h2, h3, h4⟩
    refine ⟨h2, h3, h4, ?_⟩
    omega

set_option maxHeartbeats 3200000 in
theorem c_shapedNo {ak ae ai : Option Addr} {n m q ck ce ci : Nat} {root : Bool} (w : World) (hk1 : n ≤ ck) (hk2 : ck ≤ 9223372036854775807) (he1 : m ≤ ce) (he2 : ce ≤ 9223372036854775807) (hi1 : q ≤ ci) (hi2 : ci ≤ 9223372036854775807) (hkl : n < 9223372036854775807)
    (h : ¬ (Shape n m q ∧ n ≤ 7 ∧ (root = true ∨ 3 ≤ n))) :
    Calls Try.prog 73 #[.agg #[.slice ak n ck, .slice ae m ce, .slice ai q ci], .bool root] w fun e w' => e = .returned (.bool false) ∧ Nw w w' := by
  by_cases hs : Shape n m q
  · have h' : 7 < n ∨ (n < 3 ∧ root = false) := by
      by_cases h7 : n ≤ 7
      · right
        refine ⟨?_, ?_⟩
        · rcases Nat.lt_or_ge n 3 with h8 | h8
          · exact h8
          · exact absurd ⟨hs, h7, .inr h8⟩ h
        · cases root with
          | false => rfl
          | true => exact absurd ⟨hs, h7, .inl rfl⟩ h
      · left; omega
    clear h
    have hs' : (q = 0 ∧ m = 0 ∧ n = 0) ∨ (q = 0 ∧ m = n ∧ 0 < n) ∨ (m = 0 ∧ q = n + 1 ∧ 0 < n) := by omega
    clear hs
    rcases hs' with ⟨rfl, rfl, rfl⟩ | ⟨rfl, rfl, h0⟩ | ⟨rfl, rfl, h0⟩
    all_goals
      rcases h' with h7 | ⟨h3, rfl⟩
    all_goals first | (exfalso; omega) | skip
    all_goals
      go_enter Try.func73, Try.ntmps73
      go_wp2
      go_ret
      exact ⟨rfl, nw_alloc (nw_refl w) _⟩
  · clear h
    have hs' : (q = 0 ∧ m = 0 ∧ 0 < n) ∨ (q = 0 ∧ 0 < m ∧ m ≠ n) ∨ (q = 1 ∧ m = 0 ∧ n = 0) ∨ (0 < q ∧ m = 0 ∧ q ≠ n + 1) ∨ (0 < q ∧ 0 < m) := by omega
    clear hs
    rcases hs' with ⟨rfl, rfl, h0⟩ | ⟨rfl, h0, h1⟩ | ⟨rfl, rfl, rfl⟩ | ⟨h0, rfl, h1⟩ | ⟨h0, h1⟩
    case inr.inl => have e1 : ((m : Int) == (n : Int)) = false := by
                      rw [Bool.eq_false_iff]; intro h9; have := eq_of_beq h9; omega
                    have e2 : ((m : Int) == 0) = false := by
                      rw [Bool.eq_false_iff]; intro h9; have := eq_of_beq h9; omega
                    clear h1
                    go_enter Try.func73, Try.ntmps73
                    go_wp2
                    go_ret
                    exact ⟨rfl, nw_alloc (nw_refl w) _⟩
    case inr.inr.inr.inl => have e1 : ((q : Int) == (n : Int) + 1) = false := by
                              rw [Bool.eq_false_iff]; intro h9; have := eq_of_beq h9; omega
                            have e2 : ((q : Int) == 0) = false := by
                              rw [Bool.eq_false_iff]; intro h9; have := eq_of_beq h9; omega
                            clear h1
                            go_enter Try.func73, Try.ntmps73
                            go_wp2
                            go_ret
                            exact ⟨rfl, nw_alloc (nw_refl w) _⟩
    all_goals
      go_enter Try.func73, Try.ntmps73
      go_wp2
      go_ret
      exact ⟨rfl, nw_alloc (nw_refl w) _⟩

set_option maxHeartbeats 3200000 in
theorem c_shapedOk {ak ae ai : Option Addr} {m q ck ce ci : Nat} {ks : List Int} {root : Bool} (w : World) (hK : Ks w (.slice ak ks.length ck) ks) (hk1 : ks.length ≤ ck) (hk2 : ck ≤ 9223372036854775807) (he1 : m ≤ ce) (he2 : ce ≤ 9223372036854775807) (hi1 : q ≤ ci) (hi2 : ci ≤ 9223372036854775807)
    (hs : Shape ks.length m q) (h7 : ks.length ≤ 7) (hr : root = true ∨ 3 ≤ ks.length) :
    Calls Try.prog 73 #[.agg #[.slice ak ks.length ck, .slice ae m ce, .slice ai q ci], .bool root] w fun e w' => e = .returned (.bool (decide (Rise ks))) ∧ Nw w w' := by
  obtain ⟨R, hR'⟩ : ∃ R, Hid (R = decide (Rise ks)) := ⟨_, rfl⟩
  rw [← hR'.out]
  obtain ⟨n, hn⟩ : ∃ n, n = ks.length := ⟨_, rfl⟩
  rw [← hn] at hK hk1 hs h7 hr ⊢
  replace hn : Hid (n = ks.length) := hn
  replace hK : Hid (Ks w (.slice ak n ck) ks) := hK
  have hs' : (q = 0 ∧ m = 0 ∧ n = 0) ∨ (q = 0 ∧ n = m ∧ 0 < n) ∨ (m = 0 ∧ q = n + 1 ∧ 0 < n) := by omega
  have hr' : (root = true ∧ n < 3) ∨ 3 ≤ n := by
    rcases Nat.lt_or_ge n 3 with h8 | h8
    · rcases hr with h9 | h9
      · exact .inl ⟨h9, h8⟩
      · omega
    · exact .inr h8
  clear hs hr
  rcases hs' with ⟨rfl, rfl, h0⟩ | ⟨rfl, rfl, h0⟩ | ⟨rfl, rfl, h0⟩
  case inl =>
    have hk0 : ks = [] := List.eq_nil_of_length_eq_zero (by rw [← hn.out]; exact h0)
    subst hk0
    subst h0
    rcases hr' with ⟨rfl, h3⟩ | h3
    · have e1 : R = true := by rw [hR'.out]; rfl
      subst e1
      clear hR' hK h3
      go_enter Try.func73, Try.ntmps73
      go_wp2
      go_loopw [8] (fun i wr => i = .int .i64 1 ∧ Nw w wr ∧ wr.cell? ⟨w.heap.size, 0, none⟩ = some (.slice ak 0 ck)) (fun i _ => 0)
      case atStart => exact ⟨rfl, nw_alloc (nw_refl w) _, cell_blk (heap_alloc_new w _) rfl⟩
      case round =>
        obtain ⟨rfl, hn, hc⟩ := hrel
        go_wp2
        go_ret
        exact ⟨rfl, hn⟩
    · omega
  all_goals
    rcases hr' with ⟨rfl, h3⟩ | h3
  all_goals
    go_enter Try.func73, Try.ntmps73
    go_wp2
    go_loopw [8] (fun i wr => ∃ j : Nat, i = .int .i64 (j + 1 : Nat) ∧ (j = 0 ∨ j + 1 ≤ n) ∧ Rise (ks.take (j + 1)) ∧ Nw w wr ∧ wr.cell? ⟨w.heap.size, 0, none⟩ = some (.slice ak n ck)) (fun i _ => n - (intOf i).toNat)
    case atStart => exact ⟨0, rfl, .inl rfl, rise_one ks, nw_alloc (nw_refl w) _, cell_blk (heap_alloc_new w _) rfl⟩
    case round =>
      obtain ⟨j, rfl, hj, hri, hN, c0⟩ := hrel
      obtain ⟨i, hi⟩ : ∃ i, i = j + 1 := ⟨_, rfl⟩
      rw [← hi] at hri hj ⊢
      have hsub : (i : Int) - 1 = (j : Int) := by omega
      have hjl : j ≤ 10 := by omega
      by_cases hltn : i < n
      · have hlt : i < ks.length := by rw [← hn.out]; exact hltn
        have hiH : Hid (i = j + 1) := hi
        have hltj : j < ks.length := by omega
        have hltm : j < n := by omega
        obtain ⟨q, off, hq, e0⟩ := Ks.get (Hs.nw hK.out hN) hlt
        obtain ⟨q2, off2, hq2, e1⟩ := Ks.get (Hs.nw hK.out hN) hltj
        subst hq
        simp only [Option.some.injEq, Addr.mk.injEq, and_true] at hq2
        obtain ⟨rfl, rfl⟩ := hq2
        have hij : ks[i - 1] = ks[j] := by subst hi; rfl
        by_cases hlk : ks[i] ≤ ks[j]
        · have hr : Hid (R = false) := by
            unfold Hid
            rw [hR'.out]
            refine decide_eq_false (fun h => ?_)
            have := rise_pair (by omega) hlt h
            omega
          clear hR' hK hri hi hij hj
          generalize ks[i] = k1 at *
          generalize ks[j] = k0 at *
          clear hlt hltj
          go_wp2
          go_quiet (fail)
          have hn2 := nw_trans hN (nw_drewN nq wr)
          go_wp2
          go_ret
          rw [hr.out]
          exact ⟨rfl, hn2⟩
        · have hri2 : Hid (Rise (ks.take (i + 1))) := rise_next (by omega) hlt hri (by omega)
          have hc0 : Hid (wr.cell? ⟨w.heap.size, 0, none⟩ = some (.slice (some ⟨q, off, none⟩) n ck)) := c0
          clear hR' hK hri hi hij hj
          generalize ks[i] = k1 at *
          generalize ks[j] = k0 at *
          clear hlt hltj
          go_wp2
          go_quiet (fail)
          have hn2 := nw_trans hN (nw_drewN nq wr)
          go_wp2
          go_roundw
          case rel => exact ⟨i, by go_num, .inr (by omega), hri2.out, hn2, hc0.out⟩
          case measure => simp [intOf]; omega
      · have hr : Hid (R = true) := by
          unfold Hid
          rw [List.take_of_length_le (by rw [← hn.out]; omega)] at hri
          rw [hR'.out]
          exact decide_eq_true hri
        clear hR' hK hri hi
        go_wp2
        go_ret
        rw [hr.out]
        exact ⟨rfl, hN⟩

theorem c_shaped {x : Tv} {nd : Nv} {root : Bool} (w : World) (h : Ct (fun _ => True) w x nd) (hkl : nd.1.length < 9223372036854775807) :
    Calls Try.prog 73 #[nodeV x, .bool root] w fun e w' => e = .returned (.bool (decide (Form nd root))) ∧ Nw w w' := by
  obtain ⟨x0, x1, x2⟩ := x
  obtain ⟨ks, es, is⟩ := nd
  obtain ⟨hk, he, hs⟩ := h
  simp only at hk he hs hkl
  have hK : Ks w x0 ks := hk.hs
  obtain ⟨ak, ck, rfl, hk1, hk2⟩ := Hs.form hK
  obtain ⟨ae, ce, rfl, he1, he2⟩ := Hs.form he.hs
  obtain ⟨ai, ci, rfl, hi1, hi2⟩ := Hs.form hs.hs
  by_cases hsh : Shape ks.length es.length is.length ∧ ks.length ≤ 7 ∧ (root = true ∨ 3 ≤ ks.length)
  · have e : decide (Form (ks, es, is) root) = decide (Rise ks) := decide_eq_decide.2 ((form_iff _ _).trans ⟨fun h => h.2.2.2, fun h => ⟨hsh.1, hsh.2.1, hsh.2.2, h⟩⟩)
    rw [e]
    exact c_shapedOk w hK hk1 hk2 he1 he2 hi1 hi2 hsh.1 hsh.2.1 hsh.2.2
  · have e : decide (Form (ks, es, is) root) = false := decide_eq_false (fun h => hsh (by have := (form_iff _ _).1 h; exact ⟨this.1, this.2.1, this.2.2.1⟩))
    rw [e]
    exact c_shapedNo w hk1 hk2 he1 he2 hi1 hi2 hkl hsh
end Go.Proofs.Ytnljfhjindenpab

namespace Go.Proofs.Ytnljfhjindenpab
set_option linter.unusedVariables false
set_option linter.unusedSimpArgs false
set_option maxRecDepth 20000
open Go.RowKit

def bV (lo e : Int) (bl : Bool) : Value := .agg #[.int .u64 lo, .int .u64 e, .bool bl]
abbrev Out (lo e : Int) (bl : Bool) (k : Int) : Prop := k < lo ∨ (bl = false ∧ e ≤ k)

set_option maxHeartbeats 1600000 in
theorem c_excl {lo e k : Int} {bl : Bool} (w : World) :
    Calls Try.prog 76 #[bV lo e bl, .int .u64 k] w fun r w' => r = .returned (.bool (decide (Out lo e bl k))) ∧ Nw w w' := by
  obtain ⟨R, hR⟩ : ∃ R, Hid (R = decide (Out lo e bl k)) := ⟨_, rfl⟩
  rw [← hR.out]
  unfold bV
  by_cases h1 : k < lo
  · have hr : Hid (R = true) := by unfold Hid; rw [hR.out]; exact decide_eq_true (.inl h1)
    clear hR
    go_enter Try.func76, Try.ntmps76
    go_wp2
    go_ret
    rw [hr.out]
    exact ⟨rfl, nw_alloc (nw_refl w) _⟩
  · cases bl with
    | true =>
      have hr : Hid (R = false) := by unfold Hid; rw [hR.out]; exact decide_eq_false (by rintro (h2 | ⟨h2, _⟩); omega; cases h2)
      clear hR
      go_enter Try.func76, Try.ntmps76
      go_wp2
      go_ret
      rw [hr.out]
      exact ⟨rfl, nw_alloc (nw_refl w) _⟩
    | false =>
      have hr : Hid (R = decide (e ≤ k)) := by
        unfold Hid
        rw [hR.out]
        refine decide_eq_decide.2 ⟨?_, fun h => .inr ⟨rfl, h⟩⟩
        rintro (h2 | ⟨_, h2⟩)
        · omega
        · exact h2
      clear hR
      go_enter Try.func76, Try.ntmps76
      go_wp2
      go_ret
      rw [hr.out]
      exact ⟨rfl, nw_alloc (nw_refl w) _⟩

set_option maxHeartbeats 1600000 in
theorem c_indexf {lo e : Int} {bl : Bool} {v : Value} {ks : List Int} (w : World) (h : Ks w v ks) :
    Calls Try.prog 94 #[v, .func (.func 76) #[bV lo e bl] #[]] w fun r w' => ∃ i : Int, r = .returned (.int .i64 i) ∧ Nw w w' ∧ -1 ≤ i ∧ (0 ≤ i ↔ ∃ k ∈ ks, Out lo e bl k) := by
  obtain ⟨ak, ck, rfl, hk1, hk2⟩ := Hs.form h
  replace h : Hid (Ks w (.slice ak ks.length ck) ks) := h
  unfold bV
  go_enter Try.func94, Try.ntmps94
  go_wp2
  go_loopw [8] (fun i wr => ∃ j : Nat, i = .int .i64 j ∧ j ≤ ks.length ∧ Hid (∀ k ∈ ks.take j, ¬ Out lo e bl k) ∧ Nw w wr) (fun i _ => ks.length - (intOf i).toNat)
  case atStart => exact ⟨0, rfl, Nat.zero_le _, fun k hk => by simp at hk, nw_refl _⟩
  case round =>
    obtain ⟨j, rfl, hj, hall, hnw⟩ := hrel
    by_cases hlt : j < ks.length
    · obtain ⟨q, off, rfl, e0⟩ := Ks.get (Hs.nw h.out hnw) hlt
      have hc := c_excl (lo := lo) (e := e) (k := ks[j]) (bl := bl) wr
      unfold bV at hc
      by_cases ho : Out lo e bl ks[j]
      · have hr : Hid (∃ k ∈ ks, Out lo e bl k) := ⟨_, List.getElem_mem hlt, ho⟩
        rw [decide_eq_true ho] at hc
        clear hall ho h
        generalize ks[j] = kj at *
        go_wp2_with (go_at_call 76; refine hc.mono ?_; rintro e' w5 ⟨rfl, hn5⟩; refine stop_here ?_)
        unfold Hid
        clear hc e0
        go_wp2
        go_ret
        exact ⟨j, rfl, nw_trans hnw hn5, by omega, fun _ => hr.out, fun _ => by omega⟩
      · rw [decide_eq_false ho] at hc
        have hall2 : Hid (∀ k ∈ ks.take (j + 1), ¬ Out lo e bl k) := fun k hk => by
          rw [List.take_succ_eq_append_getElem hlt, List.mem_append] at hk
          rcases hk with hk | hk
          · exact hall.out k hk
          · have : k = ks[j] := by simpa using hk
            subst this
            exact ho
        clear hall ho h
        generalize ks[j] = kj at *
        go_wp2_with (go_at_call 76; refine hc.mono ?_; rintro e' w5 ⟨rfl, hn5⟩; refine stop_here ?_)
        unfold Hid
        clear hc e0
        go_wp2
        go_roundw
        case rel => exact ⟨j + 1, by go_num, by omega, hall2.out, nw_trans hnw hn5⟩
        case measure => simp [intOf]; omega
    · have hr : Hid (¬ ∃ k ∈ ks, Out lo e bl k) := by
        unfold Hid
        have := hall.out
        rw [List.take_of_length_le (by omega)] at this
        rintro ⟨k, hk, ho⟩
        exact this k hk ho
      clear hall h
      go_wp2
      go_ret
      exact ⟨-1, rfl, hnw, by omega, fun h => by omega, fun h => absurd h hr.out⟩

set_option maxHeartbeats 1600000 in
theorem c_containsf {lo e : Int} {bl : Bool} {v : Value} {ks : List Int} (w : World) (h : Ks w v ks) :
    Calls Try.prog 75 #[v, .func (.func 76) #[bV lo e bl] #[]] w fun r w' => r = .returned (.bool (decide (∃ k ∈ ks, Out lo e bl k))) ∧ Nw w w' := by
  have hc := c_indexf (lo := lo) (e := e) (bl := bl) w h
  obtain ⟨ak, ck, rfl, hk1, hk2⟩ := Hs.form h
  obtain ⟨R, hR⟩ : ∃ R, Hid (R = decide (∃ k ∈ ks, Out lo e bl k)) := ⟨_, rfl⟩
  rw [← hR.out]
  unfold bV at hc ⊢
  clear h
  go_enter Try.func75, Try.ntmps75
  go_wp2_with (go_at_call 94; refine hc.mono ?_; rintro e' w5 ⟨i, rfl, hn5, hi1, hi⟩; refine stop_here ?_)
  unfold Hid
  have hr : Hid (R = decide (0 ≤ i)) := by unfold Hid; rw [hR.out]; exact decide_eq_decide.2 hi.symm
  clear hR hc hi
  go_wp2
  go_ret
  rw [hr.out]
  exact ⟨rfl, hn5⟩

theorem Try.rowB : (Try.prog.underlying 85).map TypeDesc.isRow = some true := by kernel_rfl
theorem Try.sizeB : (Try.prog.info? 85).map (·.size) = some 3 := by kernel_rfl
theorem sizeB (x y : Int) (b : Bool) : (Try.prog.info? 85).map (·.size) = some ([.int .u64 x, .int .u64 y, .bool b] : List Value).length := Try.sizeB

theorem heap_two (w : World) (o1 o2 : Obj) : ((w.alloc o1).alloc o2).heap[w.heap.size + 1]? = some o2 := by
  have := heap_alloc_new (w.alloc o1) o2
  simpa using this

set_option maxHeartbeats 1600000 in
theorem c_below {lo e : Int} {bl : Bool} {v : Value} {ks : List Int} {i : Nat} (w : World) (h : Ks w v ks) (hi : i ≤ ks.length) (hkl : ks.length ≤ 1000) :
    Calls Try.prog 77 #[bV lo e bl, v, .int .i64 i] w fun r w' => r = .returned (bV (lft ks lo i) (if i < ks.length then ks.getD i 0 else e) (if i < ks.length then false else bl)) ∧ Nw w w' := by
  obtain ⟨ak, ck, rfl, hk1, hk2⟩ := Hs.form h
  unfold bV
  by_cases h0 : 0 < i
  · obtain ⟨i', hi'⟩ : ∃ i', i' = i - 1 := ⟨_, rfl⟩
    have hsub : (i : Int) - 1 = (i' : Int) := by omega
    have hlt' : i' < ks.length := by omega
    obtain ⟨q, off, rfl, e0⟩ := Ks.get h hlt'
    have hql := World.block_lt_of_cell? w _ e0
    have el : lft ks lo i = ks[i'] := by
      unfold lft
      rw [if_pos h0, ← hi', List.getD_eq_getElem?_getD, List.getElem?_eq_getElem hlt']
      rfl
    rw [el]
    clear el hi'
    by_cases h1 : i < ks.length
    · rw [if_pos h1, if_pos h1]
      obtain ⟨q2, off2, e2, e1⟩ := Ks.get h h1
      simp only [Option.some.injEq, Addr.mk.injEq, and_true] at e2
      obtain ⟨rfl, rfl⟩ := e2
      rw [show ks.getD i 0 = ks[i] by rw [List.getD_eq_getElem?_getD, List.getElem?_eq_getElem h1]; rfl]
      clear h
      generalize ks[i'] = k1 at *
      generalize ks[i] = k2 at *
      generalize ks.length = n at *
      go_enter Try.func77, Try.ntmps77
      go_wp2
      refine bodyPost_ret (results_cell1 rfl _ (w.heap.size + 1) _ _ rfl rfl (range_all (heap_two w _ _)) Try.rowB (sizeB _ _ _)) rfl ?_
      exact ⟨rfl, nw_alloc (nw_alloc (nw_refl w) _) _⟩
    · rw [if_neg h1, if_neg h1]
      clear h
      generalize ks[i'] = k1 at *
      generalize ks.length = n at *
      go_enter Try.func77, Try.ntmps77
      go_wp2
      refine bodyPost_ret (results_cell1 rfl _ (w.heap.size + 1) _ _ rfl rfl (range_all (heap_two w _ _)) Try.rowB (sizeB _ _ _)) rfl ?_
      exact ⟨rfl, nw_alloc (nw_alloc (nw_refl w) _) _⟩
  · have h00 : i = 0 := by omega
    subst h00
    by_cases h1 : 0 < ks.length
    · rw [if_pos h1, if_pos h1, show lft ks lo 0 = lo from rfl]
      obtain ⟨q, off, rfl, e0⟩ := Ks.get h h1
      have hql := World.block_lt_of_cell? w _ e0
      rw [show ks.getD 0 0 = ks[0] by rw [List.getD_eq_getElem?_getD, List.getElem?_eq_getElem h1]; rfl]
      rw [Nat.add_zero] at e0
      clear h
      generalize ks[0] = k2 at *
      generalize ks.length = n at *
      go_enter Try.func77, Try.ntmps77
      go_wp2
      refine bodyPost_ret (results_cell1 rfl _ (w.heap.size + 1) _ _ rfl rfl (range_all (heap_two w _ _)) Try.rowB (sizeB _ _ _)) rfl ?_
      exact ⟨rfl, nw_alloc (nw_alloc (nw_refl w) _) _⟩
    · rw [if_neg h1, if_neg h1, show lft ks lo 0 = lo from rfl]
      clear h
      generalize ks.length = n at *
      go_enter Try.func77, Try.ntmps77
      go_wp2
      refine bodyPost_ret (results_cell1 rfl _ (w.heap.size + 1) _ _ rfl rfl (range_all (heap_two w _ _)) Try.rowB (sizeB _ _ _)) rfl ?_
      exact ⟨rfl, nw_alloc (nw_alloc (nw_refl w) _) _⟩
end Go.Proofs.Ytnljfhjindenpab

namespace Go.Proofs.Ytnljfhjindenpab
set_option linter.unusedVariables false
set_option linter.unusedSimpArgs false
set_option maxRecDepth 20000
open Go.RowKit

set_option maxHeartbeats 6400000 in
theorem c_withinG {b : Nat} {kv vv sv : Value} {ks : List Int} {bs : List Nat} {lo e : Int} {bl : Bool} (P : Nat → Prop) (w : World) (hd : Nd w b kv vv sv) (hk : Ks w kv ks) (hs : Ps w sv bs) (hkl : ks.length ≤ 1000) (hbl : bs.length ≤ ks.length + 1)
    (ih : ∀ j q, bs[j]? = some q → ∀ w', Nw w w' → Calls Try.prog 46 #[.pointer (some ⟨q, 0, none⟩), bV (lft ks lo j) (if j < ks.length then ks.getD j 0 else e) (if j < ks.length then false else bl)] w' fun r w2 => ∃ x : Bool, r = .returned (.bool x) ∧ (x = true ↔ P j) ∧ Nw w' w2) :
    Calls Try.prog 46 #[.pointer (some ⟨b, 0, none⟩), bV lo e bl] w fun r w' => ∃ x : Bool, r = .returned (.bool x) ∧ (x = true ↔ (∀ k ∈ ks, ¬ Out lo e bl k) ∧ ∀ j, j < bs.length → P j) ∧ Nw w w' := by
  obtain ⟨RP, hRP⟩ : ∃ RP : Prop, Hid (RP ↔ ((∀ k ∈ ks, ¬ Out lo e bl k) ∧ ∀ j, j < bs.length → P j)) := ⟨_, Iff.rfl⟩
  rw [← hRP.out]
  obtain ⟨ak, ck, rfl, hk1, hk2⟩ := Hs.form hk
  obtain ⟨ap, cp, rfl, hp1, hp2⟩ := Hs.form hs
  have hcC : Hid (∀ w', Nw w w' → Calls Try.prog 75 #[.slice ak ks.length ck, .func (.func 76) #[bV lo e bl] #[]] w' fun r w2 => r = .returned (.bool (decide (∃ k ∈ ks, Out lo e bl k))) ∧ Nw w' w2) := fun w' hw => c_containsf w' (Hs.nw hk hw)
  have hcB : Hid (∀ w' (j : Nat), Nw w w' → j ≤ ks.length → Calls Try.prog 77 #[bV lo e bl, .slice ak ks.length ck, .int .i64 j] w' fun r w2 => r = .returned (bV (lft ks lo j) (if j < ks.length then ks.getD j 0 else e) (if j < ks.length then false else bl)) ∧ Nw w' w2) := fun w' j hw hj => c_below w' (Hs.nw hk hw) hj hkl
  replace ih : Hid (∀ j q, bs[j]? = some q → ∀ w', Nw w w' → Calls Try.prog 46 #[.pointer (some ⟨q, 0, none⟩), bV (lft ks lo j) (if j < ks.length then ks.getD j 0 else e) (if j < ks.length then false else bl)] w' fun r w2 => ∃ x : Bool, r = .returned (.bool x) ∧ (x = true ↔ P j) ∧ Nw w' w2) := ih
  replace hs : Hid (Ps w (.slice ap bs.length cp) bs) := hs
  have c0 : Hid (w.cell? ⟨b, 0, none⟩ = some (.slice ak ks.length ck)) := hd.c0
  have c2 : Hid (w.cell? ⟨b, 2, none⟩ = some (.slice ap bs.length cp)) := hd.c2
  obtain ⟨R1, hR1⟩ : ∃ R1, Hid (R1 = decide (∃ k ∈ ks, Out lo e bl k)) := ⟨_, rfl⟩
  rw [← hR1.out] at hcC
  have hbl1 : bs.length ≤ 1001 := by omega
  have hblH : Hid (bs.length ≤ ks.length + 1) := hbl
  clear hd hk hbl
  generalize hnk : ks.length = n at *
  generalize hnb : bs.length = nb at *
  replace hnk : Hid (ks.length = n) := hnk
  replace hnb : Hid (bs.length = nb) := hnb
  unfold bV at *
  go_enter Try.func46, Try.ntmps46
  go_upto_region 1 with fail
  have hn1 : Nw w (w.alloc (.cells #[.int .u64 lo, .int .u64 e, .bool bl] 85)) := nw_alloc (nw_refl w) _
  have hB1 : Hid ((w.alloc (.cells #[.int .u64 lo, .int .u64 e, .bool bl] 85)).heap[w.heap.size]? = some (.cells #[.int .u64 lo, .int .u64 e, .bool bl] 85 (0, 0))) := heap_alloc_new w _
  have hgen : w.heap.size ≤ (w.alloc (.cells #[.int .u64 lo, .int .u64 e, .bool bl] 85)).heap.size := by simp
  generalize w.alloc (.cells #[.int .u64 lo, .int .u64 e, .bool bl] 85) = w1 at *
  have hSof : Hid (∀ w' : World, Nw w1 w' → (fun w' : World => Nw w1 w' ∧ w'.cell? ⟨b, 0, none⟩ = some (.slice ak n ck) ∧ w'.cell? ⟨b, 2, none⟩ = some (.slice ap nb cp) ∧ w'.cell? ⟨w.heap.size, 0, none⟩ = some (.int .u64 lo) ∧ w'.cell? ⟨w.heap.size, 1, none⟩ = some (.int .u64 e) ∧ w'.cell? ⟨w.heap.size, 2, none⟩ = some (.bool bl)) w') := fun w' hw => ⟨hw, (nw_trans hn1 hw).cell c0.out, (nw_trans hn1 hw).cell c2.out, cell_blk (hw.blk hB1.out) rfl, cell_blk (hw.blk hB1.out) rfl, cell_blk (hw.blk hB1.out) rfl⟩
  clear hB1 c0 c2
  have hS := hSof.out _ (nw_drew (nw_refl w1))
  refine wp_region_ord [] 6 [(0, true), (1, true), (2, true), (3, true), (4, true), (5, true)] (fun w' : World => Nw w1 w' ∧ w'.cell? ⟨b, 0, none⟩ = some (.slice ak n ck) ∧ w'.cell? ⟨b, 2, none⟩ = some (.slice ap nb cp) ∧ w'.cell? ⟨w.heap.size, 0, none⟩ = some (.int .u64 lo) ∧ w'.cell? ⟨w.heap.size, 1, none⟩ = some (.int .u64 e) ∧ w'.cell? ⟨w.heap.size, 2, none⟩ = some (.bool bl)) (by kernel_rfl) (by kernel_rfl) ?_
  refine ord_quietL _ ?_ rfl hS rfl ?_ ?_
  rotate_left
  · rintro w' ⟨hS1, hS2, hS3, hS4, hS5, hS6⟩; go_simp; first | rfl | (rw [if_pos (by omega)]; done) | (rw [if_pos (by omega)]; rfl) | (rw [if_pos (by omega)]; go_simp; rfl)
  simp only [Act.put, List.setIfInBounds_toArray, List.set_cons_zero, List.set_cons_succ]
  refine ord_quietL _ ?_ rfl hS rfl ?_ ?_
  rotate_left
  · rintro w' ⟨hS1, hS2, hS3, hS4, hS5, hS6⟩; go_simp; first | rfl | (rw [if_pos (by omega)]; done) | (rw [if_pos (by omega)]; rfl) | (rw [if_pos (by omega)]; go_simp; rfl)
  simp only [Act.put, List.setIfInBounds_toArray, List.set_cons_zero, List.set_cons_succ]
  refine ord_quietL _ ?_ rfl hS rfl ?_ ?_
  rotate_left
  · rintro w' ⟨hS1, hS2, hS3, hS4, hS5, hS6⟩; go_simp; first | rfl | (rw [if_pos (by omega)]; done) | (rw [if_pos (by omega)]; rfl) | (rw [if_pos (by omega)]; go_simp; rfl)
  simp only [Act.put, List.setIfInBounds_toArray, List.set_cons_zero, List.set_cons_succ]
  refine ord_quietL _ ?_ rfl hS rfl ?_ ?_
  rotate_left
  · rintro w' ⟨hS1, hS2, hS3, hS4, hS5, hS6⟩; go_simp; first | rfl | (rw [if_pos (by omega)]; done) | (rw [if_pos (by omega)]; rfl) | (rw [if_pos (by omega)]; go_simp; rfl)
  simp only [Act.put, List.setIfInBounds_toArray, List.set_cons_zero, List.set_cons_succ]
  refine ord_quietL _ ?_ rfl hS rfl ?_ ?_
  rotate_left
  · rintro w' ⟨hS1, hS2, hS3, hS4, hS5, hS6⟩; go_simp; first | rfl | (rw [if_pos (by omega)]; done) | (rw [if_pos (by omega)]; rfl) | (rw [if_pos (by omega)]; go_simp; rfl)
  simp only [Act.put, List.setIfInBounds_toArray, List.set_cons_zero, List.set_cons_succ]
  refine ord_quietL _ ?_ rfl hS rfl ?_ ?_
  rotate_left
  · rintro w' ⟨hS1, hS2, hS3, hS4, hS5, hS6⟩; go_simp; first | rfl | (rw [if_pos (by omega)]; done) | (rw [if_pos (by omega)]; rfl) | (rw [if_pos (by omega)]; go_simp; rfl)
  simp only [Act.put, List.setIfInBounds_toArray, List.set_cons_zero, List.set_cons_succ]
  refine ord_tail ?_
  simp only [List.drop_succ_cons, List.drop_zero]
  go_wp2_with (go_at_call 75; refine (hcC.out _ (nw_trans hn1 (nw_drew (nw_refl w1)))).mono ?_; rintro e' w2 ⟨rfl, hn2⟩; refine stop_here ?_)
  unfold Hid
  have hn2' : Nw w1 w2 := nw_trans (nw_drew (nw_refl w1)) hn2
  clear hS hn2 hcC
  cases R1 with
  | true =>
    have hr : Hid (¬ RP) := by
      unfold Hid
      rw [hRP.out]
      intro h1
      obtain ⟨k, hk, ho⟩ := of_decide_eq_true hR1.out.symm
      exact h1.1 k hk ho
    clear hRP hSof ih hcB
    go_wp2
    go_ret
    exact ⟨false, rfl, Iff.intro (fun h => nomatch h) (fun h => absurd h hr.out), nw_trans hn1 hn2'⟩
  | false =>
    have hall0 : Hid (∀ k ∈ ks, ¬ Out lo e bl k) := fun k hk ho => of_decide_eq_false hR1.out.symm ⟨k, hk, ho⟩
    clear hR1
    obtain ⟨_, _, f2, _⟩ := hSof.out _ hn2'
    go_wp2
    clear f2
    go_loopw [19] (fun i wr => ∃ j : Nat, i = .int .i64 j ∧ j ≤ nb ∧ Hid (∀ j', j' < j → P j') ∧ Nw w1 wr) (fun i _ => nb - (intOf i).toNat)
    case atStart => exact ⟨0, rfl, Nat.zero_le _, fun j' hj' => by omega, hn2'⟩
    case round =>
      obtain ⟨j, rfl, hj, hall, hnw⟩ := hrel
      have hNw : Nw w wr := nw_trans hn1 hnw
      by_cases hlt : j < nb
      · have hltb : j < bs.length := by rw [hnb.out]; exact hlt
        obtain ⟨q, off, rfl, e0⟩ := Ps.get (Hs.nw hs.out hNw) (i := j) (b' := bs[j]) (List.getElem?_eq_getElem hltb)
        have hcW : Hid (∀ w', Nw w w' → Calls Try.prog 46 #[.pointer (some ⟨bs[j], 0, none⟩), .agg #[.int .u64 (lft ks lo j), .int .u64 (if j < n then ks.getD j 0 else e), .bool (if j < n then false else bl)]] w' fun r w2 => ∃ x : Bool, r = .returned (.bool x) ∧ (x = true ↔ P j) ∧ Nw w' w2) := ih.out j bs[j] (List.getElem?_eq_getElem hltb)
        have hcB2 : Hid (∀ w', Nw w w' → Calls Try.prog 77 #[.agg #[.int .u64 lo, .int .u64 e, .bool bl], .slice ak n ck, .int .i64 j] w' fun r w2 => r = .returned (.agg #[.int .u64 (lft ks lo j), .int .u64 (if j < n then ks.getD j 0 else e), .bool (if j < n then false else bl)]) ∧ Nw w' w2) := fun w' hw => hcB.out w' j hw (by have := hblH.out; omega)
        generalize lft ks lo j = lo2 at *
        generalize (if j < n then ks.getD j 0 else e) = e2 at *
        generalize (if j < n then false else bl) = bl2 at *
        generalize bs[j] = qj at *
        clear hltb
        go_wp2
        have hS := hSof.out _ (nw_drew hnw)
        refine wp_region_ord [] 8 [(0, true), (1, true), (2, true), (3, true), (4, true), (5, true), (6, true), (7, false)] (fun w' : World => Nw w1 w' ∧ w'.cell? ⟨b, 0, none⟩ = some (.slice ak n ck) ∧ w'.cell? ⟨b, 2, none⟩ = some (.slice (some ⟨q, off, none⟩) nb cp) ∧ w'.cell? ⟨w.heap.size, 0, none⟩ = some (.int .u64 lo) ∧ w'.cell? ⟨w.heap.size, 1, none⟩ = some (.int .u64 e) ∧ w'.cell? ⟨w.heap.size, 2, none⟩ = some (.bool bl)) (by kernel_rfl) (by kernel_rfl) ?_
        refine ord_quietL _ ?_ rfl hS rfl ?_ ?_
        rotate_left
        · rintro w' ⟨hS1, hS2, hS3, hS4, hS5, hS6⟩; go_simp; first | rfl | (rw [if_pos (by omega)]; done) | (rw [if_pos (by omega)]; rfl) | (rw [if_pos (by omega)]; go_simp; rfl)
        simp only [Act.put, List.setIfInBounds_toArray, List.set_cons_zero, List.set_cons_succ]
        refine ord_quietL _ ?_ rfl hS rfl ?_ ?_
        rotate_left
        · rintro w' ⟨hS1, hS2, hS3, hS4, hS5, hS6⟩; go_simp; first | rfl | (rw [if_pos (by omega)]; done) | (rw [if_pos (by omega)]; rfl) | (rw [if_pos (by omega)]; go_simp; rfl)
        simp only [Act.put, List.setIfInBounds_toArray, List.set_cons_zero, List.set_cons_succ]
        refine ord_quietL _ ?_ rfl hS rfl ?_ ?_
        rotate_left
        · rintro w' ⟨hS1, hS2, hS3, hS4, hS5, hS6⟩; go_simp; first | rfl | (rw [if_pos (by omega)]; done) | (rw [if_pos (by omega)]; rfl) | (rw [if_pos (by omega)]; go_simp; rfl)
        simp only [Act.put, List.setIfInBounds_toArray, List.set_cons_zero, List.set_cons_succ]
        refine ord_quietL _ ?_ rfl hS rfl ?_ ?_
        rotate_left
        · rintro w' ⟨hS1, hS2, hS3, hS4, hS5, hS6⟩; go_simp; first | rfl | (rw [if_pos (by omega)]; done) | (rw [if_pos (by omega)]; rfl) | (rw [if_pos (by omega)]; go_simp; rfl)
        simp only [Act.put, List.setIfInBounds_toArray, List.set_cons_zero, List.set_cons_succ]
        refine ord_quietL _ ?_ rfl hS rfl ?_ ?_
        rotate_left
        · rintro w' ⟨hS1, hS2, hS3, hS4, hS5, hS6⟩; go_simp; first | rfl | (rw [if_pos (by omega)]; done) | (rw [if_pos (by omega)]; rfl) | (rw [if_pos (by omega)]; go_simp; rfl)
        simp only [Act.put, List.setIfInBounds_toArray, List.set_cons_zero, List.set_cons_succ]
        refine ord_quietL _ ?_ rfl hS rfl ?_ ?_
        rotate_left
        · rintro w' ⟨hS1, hS2, hS3, hS4, hS5, hS6⟩; go_simp; first | rfl | (rw [if_pos (by omega)]; done) | (rw [if_pos (by omega)]; rfl) | (rw [if_pos (by omega)]; go_simp; rfl)
        simp only [Act.put, List.setIfInBounds_toArray, List.set_cons_zero, List.set_cons_succ]
        refine ord_quietL _ ?_ rfl hS rfl ?_ ?_
        rotate_left
        · rintro w' ⟨hS1, hS2, hS3, hS4, hS5, hS6⟩; go_simp; first | rfl | (rw [if_pos (by omega)]; done) | (rw [if_pos (by omega)]; rfl) | (rw [if_pos (by omega)]; go_simp; rfl)
        simp only [Act.put, List.setIfInBounds_toArray, List.set_cons_zero, List.set_cons_succ]
        refine ord_actL _ rfl (fun K1 hK1 => ?_)
        go_wp2_with (go_at_call 77; refine (hcB2.out _ (nw_drew hNw)).mono ?_; rintro e' w3 ⟨rfl, hn3⟩; refine stop_here ?_)
        unfold Hid
        have hn3' : Nw w1 w3 := nw_trans (nw_drew hnw) hn3
        go_wp2
        refine hK1 _ _ (hSof.out _ hn3') ?_
        clear hK1 K1 hS hn3
        refine ord_tail ?_
        simp only [List.drop_succ_cons, List.drop_zero]
        go_wp2_with (go_at_call 46; refine (hcW.out _ (nw_trans hn1 hn3')).mono ?_; rintro e' w4 ⟨x, rfl, hx, hn4⟩; refine stop_here ?_)
        unfold Hid
        have hn4' : Nw w1 w4 := nw_trans hn3' hn4
        clear hn4
        cases x with
        | true =>
          have hall2 : Hid (∀ j', j' < j + 1 → P j') := fun j' hj' => by
            by_cases h1 : j' = j
            · subst h1; exact hx.1 rfl
            · exact hall.out j' (by omega)
          clear hall hx
          go_wp2
          go_roundw
          case rel => exact ⟨j + 1, by go_num, by omega, hall2.out, hn4'⟩
          case measure => simp [intOf]; omega
        | false =>
          have hr : Hid (¬ RP) := by
            unfold Hid
            rw [hRP.out]
            intro h1
            have := hx.2 (h1.2 j (by rw [hnb.out] at *; exact hlt))
            cases this
          clear hall hx
          go_wp2
          go_ret
          exact ⟨false, rfl, Iff.intro (fun h => nomatch h) (fun h => absurd h hr.out), nw_trans hn1 hn4'⟩
      · have hr : Hid RP := by
          unfold Hid
          rw [hRP.out]
          exact ⟨hall0.out, fun j' hj' => hall.out j' (by first | omega | (rw [hnb.out] at hj'; omega))⟩
        clear hall
        go_wp2
        go_ret
        exact ⟨true, rfl, ⟨fun _ => hr.out, fun _ => rfl⟩, hNw⟩
end Go.Proofs.Ytnljfhjindenpab

namespace Go.Proofs.Ytnljfhjindenpab
set_option linter.unusedVariables false
set_option linter.unusedSimpArgs false
set_option maxRecDepth 20000
open Go.RowKit

/-- As many keys and kids as may be. -/
def Shp : (n : Nat) → Tr n → Prop
  | 0, t => t.length ≤ 7
  | n + 1, t => t.1.length ≤ 7 ∧ t.2.length = t.1.length + 1 ∧ ∀ c ∈ t.2, Shp n c

/-- All keys are within. -/
def Wb : (n : Nat) → Tr n → Int → Int → Bool → Prop
  | 0, t, lo, e, bl => ∀ k ∈ t.map (·.1), ¬ Out lo e bl k
  | n + 1, t, lo, e, bl => (∀ k ∈ t.1, ¬ Out lo e bl k) ∧ ∀ j c, t.2[j]? = some c → Wb n c (lft t.1 lo j) (if j < t.1.length then t.1.getD j 0 else e) (if j < t.1.length then false else bl)

theorem c_within : ∀ {n : Nat} {t : Tr n} {b : Nat} {lo e : Int} {bl : Bool} (w : World), NAt w n t b → Shp n t →
    Calls Try.prog 46 #[.pointer (some ⟨b, 0, none⟩), bV lo e bl] w fun r w' => ∃ x : Bool, r = .returned (.bool x) ∧ (x = true ↔ Wb n t lo e bl) ∧ Nw w w'
  | 0, t, b, lo, e, bl, w, h, hs => by
    obtain ⟨kv, vv, sv, h1, h2, h3, h4⟩ := h
    have hs' : t.length ≤ 7 := hs
    refine (c_withinG (bs := []) (fun _ => True) w h1 h2 h4 (by simp; omega) (by simp) (fun j q hq => by simp at hq)).mono ?_
    rintro r w' ⟨x, rfl, hx, hn⟩
    exact ⟨x, rfl, hx.trans ⟨fun h => h.1, fun h => ⟨h, fun j hj => trivial⟩⟩, hn⟩
  | n + 1, t, b, lo, e, bl, w, h, hs => by
    obtain ⟨kv, vv, sv, bs, h1, h2, h3, h4, h5⟩ := h
    obtain ⟨s1, s2, s3⟩ := hs
    have hbl := kids_length h5
    refine (c_withinG (fun j => ∀ c, t.2[j]? = some c → Wb n c (lft t.1 lo j) (if j < t.1.length then t.1.getD j 0 else e) (if j < t.1.length then false else bl)) w h1 h2 h4 (by omega) (by omega) ?_).mono ?_
    · intro j q hq w' hw
      have hj : j < t.2.length := by have := (List.getElem?_eq_some_iff.1 hq).1; omega
      obtain ⟨q', hq', hn⟩ := kids_get j h5 (List.getElem?_eq_getElem hj)
      rw [hq] at hq'
      simp only [Option.some.injEq] at hq'
      subst hq'
      refine (c_within w' (hn.nw hw) (s3 _ (List.getElem_mem hj))).mono ?_
      rintro r w2 ⟨x, rfl, hx, hn2⟩
      refine ⟨x, rfl, hx.trans ⟨fun h c hc => ?_, fun h => h _ (List.getElem?_eq_getElem hj)⟩, hn2⟩
      rw [List.getElem?_eq_getElem hj] at hc
      simp only [Option.some.injEq] at hc
      subst hc
      exact h
    · rintro r w' ⟨x, rfl, hx, hn⟩
      refine ⟨x, rfl, hx.trans ⟨fun h => ⟨h.1, fun j c hc => h.2 j (by have := (List.getElem?_eq_some_iff.1 hc).1; omega) c hc⟩, fun h => ⟨h.1, fun j _ c hc => h.2 j c hc⟩⟩, hn⟩

/-- The greatest bound, where it is endless. -/
def hib (e : Int) (bl : Bool) : Int := if bl = true then 18446744073709551616 else e

theorem out_iff {lo e : Int} {bl : Bool} {k : Int} (hk : k < 18446744073709551616) : ¬ Out lo e bl k ↔ lo ≤ k ∧ k < hib e bl := by
  unfold Out hib
  cases bl <;> simp <;> omega

theorem hib_rgt {ks : List Int} {e : Int} {bl : Bool} {j : Nat} : hib (if j < ks.length then ks.getD j 0 else e) (if j < ks.length then false else bl) = rgt ks (hib e bl) j := by
  unfold hib rgt
  by_cases h : j < ks.length
  · simp only [if_pos h]; rfl
  · simp only [if_neg h]

/-- A right tree lies within. -/
theorem wb_of : ∀ {n m M : Nat} {t : Tr n} {lo e : Int} {bl : Bool}, R n m M t lo (hib e bl) → hib e bl ≤ 18446744073709551616 → Wb n t lo e bl
  | 0, m, M, t, lo, e, bl, h, hb => fun k hk => by
    have := (R.keys (n := 0) h).2 k hk
    exact (out_iff (by omega)).2 this
  | n + 1, m, M, t, lo, e, bl, h, hb => by
    refine ⟨fun k hk => ?_, fun j c hc => ?_⟩
    · have := (R.keys h).2 k hk
      exact (out_iff (by omega)).2 this
    · have h1 := bds_get h.2 hc
      rw [← hib_rgt] at h1
      refine wb_of h1 ?_
      rw [hib_rgt]
      have hk := bds_keys R.kidlt h.2
      unfold rgt
      split
      · rw [List.getD_eq_getElem?_getD, List.getElem?_eq_getElem (by assumption)]
        have := (hk.2.2 _ (List.getElem_mem (by assumption : j < t.1.length))).2
        simp only [Option.getD_some]
        omega
      · exact hb

theorem shp_of : ∀ {n m M : Nat} {t : Tr n} {a b : Int}, R n m M t a b → M ≤ 7 → Shp n t
  | 0, m, M, t, a, b, h, hM => by have := h.1; show t.length ≤ 7; omega
  | n + 1, m, M, t, a, b, h, hM => by
    refine ⟨by have := h.1; omega, bds_length h.2, fun c hc => ?_⟩
    obtain ⟨x, y, hxy⟩ := bds_mem h.2 hc
    exact shp_of hxy (Nat.le_refl _)

/-- The form of all nodes of a tree. -/
def Fmt : (n : Nat) → (m : Nat) → Tr n → Prop
  | 0, m, t => (m ≤ t.length ∧ t.length ≤ 7) ∧ Rise (t.map (·.1)) ∧ ∀ p ∈ t, p.1 < 18446744073709551616
  | n + 1, m, t => (m ≤ t.1.length ∧ t.1.length ≤ 7) ∧ Rise t.1 ∧ (∀ k ∈ t.1, k < 18446744073709551616) ∧ t.2.length = t.1.length + 1 ∧ ∀ c ∈ t.2, Fmt n 3 c

theorem bds_of {α : Type} {B : α → Int → Int → Prop} : ∀ {ks : List Int} {cs : List α} {a b : Int}, cs.length = ks.length + 1 → (∀ j c, cs[j]? = some c → B c (lft ks a j) (rgt ks b j)) → Bds B a ks cs b
  | [], [c], a, b, _, h => h 0 c rfl
  | [], [], a, b, hl, _ => by simp at hl
  | [], _ :: _ :: _, a, b, hl, _ => by simp at hl
  | k :: ks, [], a, b, hl, _ => by simp at hl
  | k :: ks, c :: cs, a, b, hl, h => by
    refine ⟨h 0 c rfl, bds_of (by simpa using hl) (fun j c' hc => ?_)⟩
    have h1 := h (j + 1) c' (by simpa using hc)
    have e1 : lft (k :: ks) a (j + 1) = lft ks k j := by
      unfold lft
      cases j <;> simp
    have e2 : rgt (k :: ks) b (j + 1) = rgt ks b j := by
      unfold rgt
      simp
    rwa [e1, e2] at h1

/-- A tree whose nodes have their form, and whose keys lie within, is right. -/
theorem r_of : ∀ {n m : Nat} {t : Tr n} {lo e : Int} {bl : Bool}, Fmt n m t → Wb n t lo e bl → R n m 7 t lo (hib e bl)
  | 0, m, t, lo, e, bl, hf, hw => by
    refine ⟨hf.1, hf.2.1, fun p hp => (out_iff (hf.2.2 p hp)).1 (hw p.1 (List.mem_map_of_mem hp))⟩
  | n + 1, m, t, lo, e, bl, hf, hw => by
    obtain ⟨h1, h2, h3, h4, h5⟩ := hf
    refine ⟨h1, bds_of h4 (fun j c hc => ?_)⟩
    have := r_of (h5 c (List.mem_of_getElem? hc)) (hw.2 j c hc)
    rwa [hib_rgt] at this

theorem shp_fm : ∀ {n m : Nat} {t : Tr n}, Fmt n m t → Shp n t
  | 0, m, t, h => h.1.2
  | n + 1, m, t, h => ⟨h.1.2, h.2.2.2.1, fun c hc => shp_fm (h.2.2.2.2 c hc)⟩

/-! ### What is told by a right tree is read as its pairs -/
theorem nodes_deep : ∀ {n m M : Nat} {t : Tr n} {a b : Int} (k : Nat), R n m M t a b → n + 1 ≤ (nodesT n t k).length
  | 0, m, M, t, a, b, k, h => by simp [nodesT]
  | n + 1, m, M, t, a, b, k, h => by
    have hl := bds_length h.2
    have h0 : 0 < t.2.length := by omega
    obtain ⟨_, rest, h2⟩ := kidsG_get (fun j k => nodesT n (t.2.getD j (dflt n)) k) (k + 1) h0
    have hc := bds_get h.2 (List.getElem?_eq_getElem h0)
    have ih := nodes_deep (k + 1) hc
    rw [nodesT, List.length_cons, h2]
    simp only [kidsG, List.length_nil, Nat.add_zero, List.nil_append, List.length_append, getD_get h0]
    omega
end Go.Proofs.Ytnljfhjindenpab
