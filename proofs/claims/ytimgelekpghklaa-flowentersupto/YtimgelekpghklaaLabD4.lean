/-
  Package label: formed, leastID, levelAhead.
-/
import Derived.Test.YtimgelekpghklaaLabD3
import Derived.Test.YtimgelekpghklaaLabPlain5
namespace Go.Proofs.Ytimgelekpghklaa
set_option linter.unusedVariables false
set_option linter.unusedSimpArgs false
set_option maxRecDepth 20000
open Go.RowKit

theorem run_field1 (d : Int) : ∀ (a : Option Addr) (n c : Nat) (w : World), (Instr.field 24 (.agg #[.int .i64 d, .slice a n c]) 1).run Try.prog w = .ok (.slice a n c) w := fun _ _ _ _ => by kernel_rfl

set_option maxHeartbeats 1600000 in
theorem c_formed {X : Nat → Prop} {v : Value} {xs : List Cat} (d : Int) (w : World) (h : CSl X w v xs) (hl : xs.length ≤ 8796093022208) :
    Calls Try.prog 59 #[labV d v] w fun e w' => ∃ u ys, e = .returned u ∧ CSl (fun b => X b ∨ w.heap.size ≤ b) w' u ys ∧ Fm d ys ∧ (∀ id, lev d ys id = lev d xs id) ∧ ys.length ≤ xs.length ∧ Nw w w' := by
  unfold labV
  obtain ⟨ao, cap, rfl, hcl, hcm⟩ := h.form
  have hB : (w.alloc (.cells #[.int .i64 d, .slice ao xs.length cap] 24)).heap[w.heap.size]? = some (.cells #[.int .i64 d, .slice ao xs.length cap] 24 (0, 0)) := heap_alloc_new w _
  have hnw : Nw w (w.alloc (.cells #[.int .i64 d, .slice ao xs.length cap] 24)) := nw_alloc (nw_refl w) _
  have hc1 := h.nw hnw
  replace hl : Hid _ := hl
  go_enter Try.func59, Try.ntmps59
  go_upto_region 1 with fail
  generalize w.alloc (.cells #[.int .i64 d, .slice ao xs.length cap] 24) = W at *
  have b0 : W.cell? ⟨w.heap.size, 0, none⟩ = some (.int .i64 d) := cell_blk hB rfl
  have b1 : W.cell? ⟨w.heap.size, 1, none⟩ = some (.slice ao xs.length cap) := cell_blk hB rfl
  go_wp2_with (go_at_call 27; refine Calls.mono (c_hasForm d W hc1) ?_; rintro e W2 ⟨r, rfl, hr, hn2⟩; refine stop_here ?_)
  unfold Hid
  clear b0 b1
  have hc2 := hc1.nw hn2
  have hB2 := (hn2.block _ (heap_lt hB) (fun h => h)).trans hB
  have hnw2 := nw_trans hnw hn2
  clear hc1 hB hnw hn2
  have b0 : W2.cell? ⟨w.heap.size, 0, none⟩ = some (.int .i64 d) := cell_blk hB2 rfl
  have b1 : W2.cell? ⟨w.heap.size, 1, none⟩ = some (.slice ao xs.length cap) := cell_blk hB2 rfl
  cases r with
  | true =>
    have hf : Hid (Fm d xs) := hr.1 rfl
    clear hr
    go_wp2
    go_ret
    exact ⟨_, xs, rfl, hc2.mono (fun b hb _ => .inl hb), hf.out, fun _ => rfl, Nat.le_refl _, hnw2⟩
  | false =>
    clear hr
    have hfd := run_field1 d
    have hsz := hnw2.size
    go_wp2_with (go_at_call 28; refine Calls.mono (c_make d W2 hc2 hl.out) ?_; rintro e W3 ⟨u, ys, rfl, q1, q2, q3, q4, q5⟩; refine stop_here ?_)
    unfold Hid labV
    obtain ⟨ua, uc, rfl, _, _⟩ := q1.form
    have hans : Hid (CSl (fun b => X b ∨ w.heap.size ≤ b) W3 (.slice ua ys.length uc) ys ∧ Fm d ys ∧ (∀ id, lev d ys id = lev d xs id) ∧ ys.length ≤ xs.length ∧ Nw w W3) := ⟨q1.mono (fun b hb _ => .inr (by omega)), q2, q3, q4, nw_trans hnw2 q5⟩
    clear q1 q2 q3 q4 q5 hc2 hB2 hnw2 b0 b1
    go_wp2
    go_ret
    exact ⟨_, ys, rfl, hans.out⟩

theorem cell_drewN {w : World} {a : Addr} {v : Value} (h : w.cell? a = some v) (q : Nat) : (w.drewN q).cell? a = some v := h

set_option maxHeartbeats 1600000 in
theorem c_leastID {X : Nat → Prop} {u v : Value} {xs ys : List Cat} (w : World) (h : CSl X w u xs) (k : CSl X w v ys) (hne : 0 < xs.length + ys.length) :
    Calls Try.prog 60 #[u, v] w fun e w' => e = .returned (.int .u64 (lid xs ys)) ∧ Nw w w' := by
  obtain ⟨ao, cap, rfl, hcl, hcm⟩ := h.form
  obtain ⟨bo, bap, rfl, hbl, hbm⟩ := k.form
  match xs, ys with
  | [], [] => simp at hne
  | c :: r, [] =>
    obtain ⟨q, off, rfl, _, d1, _⟩ := h.get 0 (by simp)
    simp only [Nat.zero_mul, Nat.add_zero, List.getElem_cons_zero] at d1
    have d1' : ∀ z, (w.drewN z).cell? ⟨q, off, none⟩ = some (.int .u64 c.1) := fun z => cell_drewN d1 z
    clear h k
    have hl1 : 0 < (c :: r).length := by simp
    generalize (c :: r).length = n at *
    have hl0 : (((([] : List Cat).length : Nat) : Int) == 0) = true := rfl
    go_enter Try.func60, Try.ntmps60
    go_wp2
    go_quiet (fail)
    go_wp2
    go_ret
    exact ⟨rfl, nw_drewN w _⟩
  | [], e :: s =>
    obtain ⟨q, off, rfl, _, d1, _⟩ := k.get 0 (by simp)
    simp only [Nat.zero_mul, Nat.add_zero, List.getElem_cons_zero] at d1
    have d1' : ∀ z, (w.drewN z).cell? ⟨q, off, none⟩ = some (.int .u64 e.1) := fun z => cell_drewN d1 z
    clear h k
    have hl1 : 0 < (e :: s).length := by simp
    generalize (e :: s).length = n at *
    have hl0 : ((n : Int) == 0) = false := by simp; omega
    go_enter Try.func60, Try.ntmps60
    go_wp2
    go_quiet (fail)
    go_wp2
    go_ret
    exact ⟨rfl, nw_drewN w _⟩
  | c :: r, e :: s =>
    obtain ⟨q, off, rfl, _, d1, _⟩ := h.get 0 (by simp)
    obtain ⟨q2, off2, rfl, _, d2, _⟩ := k.get 0 (by simp)
    simp only [Nat.zero_mul, Nat.add_zero, List.getElem_cons_zero] at d1 d2
    have d1' : ∀ z, (w.drewN z).cell? ⟨q, off, none⟩ = some (.int .u64 c.1) := fun z => cell_drewN d1 z
    have d2' : ∀ z, (w.drewN z).cell? ⟨q2, off2, none⟩ = some (.int .u64 e.1) := fun z => cell_drewN d2 z
    clear h k
    have hl1 : 0 < (c :: r).length := by simp
    have hl2 : 0 < (e :: s).length := by simp
    generalize (c :: r).length = n at *
    generalize (e :: s).length = m at *
    have hl0 : ((m : Int) == 0) = false := by simp; omega
    by_cases hce : c.1 < e.1
    · have hl : Hid (lid (c :: r) (e :: s) = c.1) := by unfold Hid; simp [lid, hce]
      go_enter Try.func60, Try.ntmps60
      go_wp2
      go_quiet (fail)
      go_wp2
      go_ret
      exact ⟨by rw [hl.out]; rfl, nw_drewN w _⟩
    · have hl : Hid (lid (c :: r) (e :: s) = e.1) := by unfold Hid; simp [lid, hce]
      go_enter Try.func60, Try.ntmps60
      go_wp2
      go_quiet (fail)
      go_wp2
      go_ret
      exact ⟨by rw [hl.out]; rfl, nw_drewN w _⟩

theorem CSl.tail {X : Nat → Prop} {w : World} {q off n cap : Nat} {c : Cat} {r : List Cat} (h : CSl X w (.slice (some ⟨q, off, none⟩) n cap) (c :: r)) (hc : ¬ cap = 1) : CSl X w (.slice (some ⟨q, off + 2, none⟩) (n - 1) (cap - 1)) r := by
  obtain ⟨ao, cap', hv, ⟨h1, h2⟩, h3, h4⟩ := h
  simp only [Value.slice.injEq] at hv
  obtain ⟨rfl, rfl, rfl⟩ := hv
  refine ⟨_, _, by rw [List.length_cons, Nat.add_sub_cancel], ⟨by simp at h1; omega, by omega⟩, fun h => by simp at h, fun i x hi => ?_⟩
  obtain ⟨b, o, e1, e2, e3⟩ := h4 (i + 2) x (by rw [ccells_cons]; simpa using hi)
  simp only [Option.some.injEq, Addr.mk.injEq, and_true] at e1
  obtain ⟨rfl, rfl⟩ := e1
  exact ⟨q, off + 2, rfl, e2, by rw [show off + 2 + i = off + (i + 2) by omega]; exact e3⟩

theorem csl_none {X : Nat → Prop} {w : World} {ao : Option Addr} {cap : Nat} (hc : cap ≤ 9223372036854775807) (h : ao = none → cap = 0) : CSl X w (.slice ao 0 cap) [] := ⟨ao, cap, rfl, ⟨Nat.zero_le _, hc⟩, h, fun i x hi => by simp [ccells] at hi⟩

set_option maxHeartbeats 1600000 in
theorem c_ahead {X : Nat → Prop} {v : Value} {xs : List Cat} (d id : Int) (w : World) (h : CSl X w v xs) :
    Calls Try.prog 61 #[.int .i64 d, v, .int .u64 id] w fun e w' => ∃ u, e = .returned (.tuple #[.int .i64 (laV d xs id), u]) ∧ CSl X w' u (laR xs id) ∧ Nw w w' := by
  obtain ⟨ao, cap, rfl, hcl, hcm⟩ := h.form
  match xs with
  | [] =>
    have hh : Hid _ := h
    clear h
    have hl0 : ¬ ((((([] : List Cat).length : Nat)) : Int) > 0) := by simp
    go_enter Try.func61, Try.ntmps61
    go_wp2
    go_ret2
    exact ⟨_, rfl, hh.out, nw_refl w⟩
  | c :: r =>
    obtain ⟨q, off, rfl, _, d1, d2⟩ := h.get 0 (by simp)
    simp only [Nat.zero_mul, Nat.add_zero, List.getElem_cons_zero] at d1 d2
    have hl1 : 0 < (c :: r).length := by simp
    have hh : Hid (CSl X w (.slice (some ⟨q, off, none⟩) (c :: r).length cap) (c :: r)) := h
    have ht : Hid (¬ cap = 1 → CSl X w (.slice (some ⟨q, off + 2, none⟩) ((c :: r).length - 1) (cap - 1)) r) := fun hc => h.tail hc
    have ht1 : Hid (cap = 1 → CSl X w (.slice (some ⟨q, off, none⟩) ((c :: r).length - 1) (cap - 1)) r) := fun hc => by
      have : r = [] := List.eq_nil_of_length_eq_zero (by simp at hcl; omega)
      subst this
      exact csl_none (by omega) (fun h => by simp at h)
    clear h
    by_cases hcd : c.1 = id
    · have hb : (c.1 == id) = true := by simp [hcd]
      have e1 : Hid (laV d (c :: r) id = c.2 ∧ laR (c :: r) id = r) := by unfold Hid; simp [laV, laR, hcd]
      generalize (c :: r).length = n at *
      clear hcd
      have d1' : ∀ z, (w.drewN z).cell? ⟨q, off, none⟩ = some (.int .u64 c.1) := fun z => cell_drewN d1 z
      have d2' : ∀ z, (w.drewN z).cell? ⟨q, off + 1, none⟩ = some (.int .i64 c.2) := fun z => cell_drewN d2 z
      by_cases hc1 : cap = 1
      · have hn1 : n = 1 := by omega
        subst hc1
        subst hn1
        go_enter Try.func61, Try.ntmps61
        go_wp2
        go_quiet (fail)
        go_wp2
        go_ret2
        rw [e1.out.1, e1.out.2]
        exact ⟨_, rfl, (ht1.out (by first | trivial | rfl)).nw (nw_drewN w _), nw_drewN w _⟩
      · go_enter Try.func61, Try.ntmps61
        go_wp2
        go_quiet (fail)
        go_wp2
        go_ret2
        rw [e1.out.1, e1.out.2]
        exact ⟨_, rfl, (ht.out hc1).nw (nw_drewN w _), nw_drewN w _⟩
    · have hb : (c.1 == id) = false := by simp [hcd]
      have e1 : Hid (laV d (c :: r) id = d ∧ laR (c :: r) id = c :: r) := by unfold Hid; simp [laV, laR, hcd]
      rw [e1.out.1, e1.out.2]
      clear hcd ht ht1
      generalize (c :: r).length = n at *
      go_enter Try.func61, Try.ntmps61
      go_wp2
      go_ret2
      exact ⟨_, rfl, hh.out, nw_refl w⟩
end Go.Proofs.Ytimgelekpghklaa
