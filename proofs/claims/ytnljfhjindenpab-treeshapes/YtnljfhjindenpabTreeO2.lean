/-
  Package tree: bounds, what they exclude, those below.
-/
import Derived.Test.YtnljfhjindenpabTreeO1
namespace Go.Proofs.Ytnljfhjindenpab
set_option linter.unusedVariables false
set_option linter.unusedSimpArgs false
set_option maxRecDepth 20000
open Go.RowKit

def bV (lo e : Int) (bl : Bool) : Value := .agg #[.int .u64 lo, .int .u64 e, .bool bl]
abbrev Out (lo e : Int) (bl : Bool) (k : Int) : Prop := k < lo ∨ (bl = false ∧ e ≤ k)

set_option maxHeartbeats 1600000 in
theorem c_excl {lo e k : Int} {bl : Bool} (w : World) :
    Calls Try.prog 76 #[bV lo e bl, .int .u64 k] w fun r w' => r = .returned (.bool (decide (Out lo e bl k))) ∧ Nw w w' := by
  obtain ⟨R, hR⟩ : ∃ R, Hid (R = decide (Out lo e bl k)) := ⟨_, rfl⟩
  rw [← hR.out]
  unfold bV
  by_cases h1 : k < lo
  · have hr : Hid (R = true) := by unfold Hid; rw [hR.out]; exact decide_eq_true (.inl h1)
    clear hR
    go_enter Try.func76, Try.ntmps76
    go_wp2
    go_ret
    rw [hr.out]
    exact ⟨rfl, nw_alloc (nw_refl w) _⟩
  · cases bl with
    | true =>
      have hr : Hid (R = false) := by unfold Hid; rw [hR.out]; exact decide_eq_false (by rintro (h2 | ⟨h2, _⟩); omega; cases h2)
      clear hR
      go_enter Try.func76, Try.ntmps76
      go_wp2
      go_ret
      rw [hr.out]
      exact ⟨rfl, nw_alloc (nw_refl w) _⟩
    | false =>
      have hr : Hid (R = decide (e ≤ k)) := by
        unfold Hid
        rw [hR.out]
        refine decide_eq_decide.2 ⟨?_, fun h => .inr ⟨rfl, h⟩⟩
        rintro (h2 | ⟨_, h2⟩)
        · omega
        · exact h2
      clear hR
      go_enter Try.func76, Try.ntmps76
      go_wp2
      go_ret
      rw [hr.out]
      exact ⟨rfl, nw_alloc (nw_refl w) _⟩

set_option maxHeartbeats 1600000 in
theorem c_indexf {lo e : Int} {bl : Bool} {v : Value} {ks : List Int} (w : World) (h : Ks w v ks) :
    Calls Try.prog 94 #[v, .func (.func 76) #[bV lo e bl] #[]] w fun r w' => ∃ i : Int, r = .returned (.int .i64 i) ∧ Nw w w' ∧ -1 ≤ i ∧ (0 ≤ i ↔ ∃ k ∈ ks, Out lo e bl k) := by
  obtain ⟨ak, ck, rfl, hk1, hk2⟩ := Hs.form h
  replace h : Hid (Ks w (.slice ak ks.length ck) ks) := h
  unfold bV
  go_enter Try.func94, Try.ntmps94
  go_wp2
  go_loopw [8] (fun i wr => ∃ j : Nat, i = .int .i64 j ∧ j ≤ ks.length ∧ Hid (∀ k ∈ ks.take j, ¬ Out lo e bl k) ∧ Nw w wr) (fun i _ => ks.length - (intOf i).toNat)
  case atStart => exact ⟨0, rfl, Nat.zero_le _, fun k hk => by simp at hk, nw_refl _⟩
  case round =>
    obtain ⟨j, rfl, hj, hall, hnw⟩ := hrel
    by_cases hlt : j < ks.length
    · obtain ⟨q, off, rfl, e0⟩ := Ks.get (Hs.nw h.out hnw) hlt
      have hc := c_excl (lo := lo) (e := e) (k := ks[j]) (bl := bl) wr
      unfold bV at hc
      by_cases ho : Out lo e bl ks[j]
      · have hr : Hid (∃ k ∈ ks, Out lo e bl k) := ⟨_, List.getElem_mem hlt, ho⟩
        rw [decide_eq_true ho] at hc
        clear hall ho h
        generalize ks[j] = kj at *
        go_wp2_with (go_at_call 76; refine hc.mono ?_; rintro e' w5 ⟨rfl, hn5⟩; refine stop_here ?_)
        unfold Hid
        clear hc e0
        go_wp2
        go_ret
        exact ⟨j, rfl, nw_trans hnw hn5, by omega, fun _ => hr.out, fun _ => by omega⟩
      · rw [decide_eq_false ho] at hc
        have hall2 : Hid (∀ k ∈ ks.take (j + 1), ¬ Out lo e bl k) := fun k hk => by
          rw [List.take_succ_eq_append_getElem hlt, List.mem_append] at hk
          rcases hk with hk | hk
          · exact hall.out k hk
          · have : k = ks[j] := by simpa using hk
            subst this
            exact ho
        clear hall ho h
        generalize ks[j] = kj at *
        go_wp2_with (go_at_call 76; refine hc.mono ?_; rintro e' w5 ⟨rfl, hn5⟩; refine stop_here ?_)
        unfold Hid
        clear hc e0
        go_wp2
        go_roundw
        case rel => exact ⟨j + 1, by go_num, by omega, hall2.out, nw_trans hnw hn5⟩
        case measure => simp [intOf]; omega
    · have hr : Hid (¬ ∃ k ∈ ks, Out lo e bl k) := by
        unfold Hid
        have := hall.out
        rw [List.take_of_length_le (by omega)] at this
        rintro ⟨k, hk, ho⟩
        exact this k hk ho
      clear hall h
      go_wp2
      go_ret
      exact ⟨-1, rfl, hnw, by omega, fun h => by omega, fun h => absurd h hr.out⟩

set_option maxHeartbeats 1600000 in
theorem c_containsf {lo e : Int} {bl : Bool} {v : Value} {ks : List Int} (w : World) (h : Ks w v ks) :
    Calls Try.prog 75 #[v, .func (.func 76) #[bV lo e bl] #[]] w fun r w' => r = .returned (.bool (decide (∃ k ∈ ks, Out lo e bl k))) ∧ Nw w w' := by
  have hc := c_indexf (lo := lo) (e := e) (bl := bl) w h
  obtain ⟨ak, ck, rfl, hk1, hk2⟩ := Hs.form h
  obtain ⟨R, hR⟩ : ∃ R, Hid (R = decide (∃ k ∈ ks, Out lo e bl k)) := ⟨_, rfl⟩
  rw [← hR.out]
  unfold bV at hc ⊢
  clear h
  go_enter Try.func75, Try.ntmps75
  go_wp2_with (go_at_call 94; refine hc.mono ?_; rintro e' w5 ⟨i, rfl, hn5, hi1, hi⟩; refine stop_here ?_)
  unfold Hid
  have hr : Hid (R = decide (0 ≤ i)) := by unfold Hid; rw [hR.out]; exact decide_eq_decide.2 hi.symm
  clear hR hc hi
  go_wp2
  go_ret
  rw [hr.out]
  exact ⟨rfl, hn5⟩

theorem Try.rowB : (Try.prog.underlying 85).map TypeDesc.isRow = some true := by kernel_rfl
theorem Try.sizeB : (Try.prog.info? 85).map (·.size) = some 3 := by kernel_rfl
theorem sizeB (x y : Int) (b : Bool) : (Try.prog.info? 85).map (·.size) = some ([.int .u64 x, .int .u64 y, .bool b] : List Value).length := Try.sizeB

theorem heap_two (w : World) (o1 o2 : Obj) : ((w.alloc o1).alloc o2).heap[w.heap.size + 1]? = some o2 := by
  have := heap_alloc_new (w.alloc o1) o2
  simpa using this

set_option maxHeartbeats 1600000 in
theorem c_below {lo e : Int} {bl : Bool} {v : Value} {ks : List Int} {i : Nat} (w : World) (h : Ks w v ks) (hi : i ≤ ks.length) (hkl : ks.length ≤ 1000) :
    Calls Try.prog 77 #[bV lo e bl, v, .int .i64 i] w fun r w' => r = .returned (bV (lft ks lo i) (if i < ks.length then ks.getD i 0 else e) (if i < ks.length then false else bl)) ∧ Nw w w' := by
  obtain ⟨ak, ck, rfl, hk1, hk2⟩ := Hs.form h
  unfold bV
  by_cases h0 : 0 < i
  · obtain ⟨i', hi'⟩ : ∃ i', i' = i - 1 := ⟨_, rfl⟩
    have hsub : (i : Int) - 1 = (i' : Int) := by omega
    have hlt' : i' < ks.length := by omega
    obtain ⟨q, off, rfl, e0⟩ := Ks.get h hlt'
    have hql := World.block_lt_of_cell? w _ e0
    have el : lft ks lo i = ks[i'] := by
      unfold lft
      rw [if_pos h0, ← hi', List.getD_eq_getElem?_getD, List.getElem?_eq_getElem hlt']
      rfl
    rw [el]
    clear el hi'
    by_cases h1 : i < ks.length
    · rw [if_pos h1, if_pos h1]
      obtain ⟨q2, off2, e2, e1⟩ := Ks.get h h1
      simp only [Option.some.injEq, Addr.mk.injEq, and_true] at e2
      obtain ⟨rfl, rfl⟩ := e2
      rw [show ks.getD i 0 = ks[i] by rw [List.getD_eq_getElem?_getD, List.getElem?_eq_getElem h1]; rfl]
      clear h
      generalize ks[i'] = k1 at *
      generalize ks[i] = k2 at *
      generalize ks.length = n at *
      go_enter Try.func77, Try.ntmps77
      go_wp2
      refine bodyPost_ret (results_cell1 rfl _ (w.heap.size + 1) _ _ rfl rfl (range_all (heap_two w _ _)) Try.rowB (sizeB _ _ _)) rfl ?_
      exact ⟨rfl, nw_alloc (nw_alloc (nw_refl w) _) _⟩
    · rw [if_neg h1, if_neg h1]
      clear h
      generalize ks[i'] = k1 at *
      generalize ks.length = n at *
      go_enter Try.func77, Try.ntmps77
      go_wp2
      refine bodyPost_ret (results_cell1 rfl _ (w.heap.size + 1) _ _ rfl rfl (range_all (heap_two w _ _)) Try.rowB (sizeB _ _ _)) rfl ?_
      exact ⟨rfl, nw_alloc (nw_alloc (nw_refl w) _) _⟩
  · have h00 : i = 0 := by omega
    subst h00
    by_cases h1 : 0 < ks.length
    · rw [if_pos h1, if_pos h1, show lft ks lo 0 = lo from rfl]
      obtain ⟨q, off, rfl, e0⟩ := Ks.get h h1
      have hql := World.block_lt_of_cell? w _ e0
      rw [show ks.getD 0 0 = ks[0] by rw [List.getD_eq_getElem?_getD, List.getElem?_eq_getElem h1]; rfl]
      rw [Nat.add_zero] at e0
      clear h
      generalize ks[0] = k2 at *
      generalize ks.length = n at *
      go_enter Try.func77, Try.ntmps77
      go_wp2
      refine bodyPost_ret (results_cell1 rfl _ (w.heap.size + 1) _ _ rfl rfl (range_all (heap_two w _ _)) Try.rowB (sizeB _ _ _)) rfl ?_
      exact ⟨rfl, nw_alloc (nw_alloc (nw_refl w) _) _⟩
    · rw [if_neg h1, if_neg h1, show lft ks lo 0 = lo from rfl]
      clear h
      generalize ks.length = n at *
      go_enter Try.func77, Try.ntmps77
      go_wp2
      refine bodyPost_ret (results_cell1 rfl _ (w.heap.size + 1) _ _ rfl rfl (range_all (heap_two w _ _)) Try.rowB (sizeB _ _ _)) rfl ?_
      exact ⟨rfl, nw_alloc (nw_alloc (nw_refl w) _) _⟩
end Go.Proofs.Ytnljfhjindenpab
