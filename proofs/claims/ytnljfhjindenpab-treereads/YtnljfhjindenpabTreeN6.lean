/-
  The document's read at any nodes; Read.
-/
import Derived.Test.YtnljfhjindenpabTreeN5
namespace Go.Proofs.Ytnljfhjindenpab
set_option linter.unusedVariables false
set_option linter.unusedSimpArgs false
set_option maxRecDepth 20000
open Go.RowKit

theorem c_read {v : Value} {nds : List Nv} (hb : nds.length ≤ 1000000) : ∀ (f p : Nat) (w : World), Nds w v nds → nds.length < p + f →
    Calls Try.prog 43 #[v, .int .i64 (p : Nat)] w fun e w' => ∃ u, Nw w w' ∧ e = .returned (rdV u (rd nds f p)) ∧ ∀ x, rd nds f p = some x → Prs w' u x.2.2
  | 0, p, w, h, hp => by
    refine (c_readNo w h hb (fun nd hnd => ?_)).mono ?_
    · have := (List.getElem?_eq_some_iff.1 hnd).1
      omega
    · rintro e w' ⟨h1, rfl⟩
      exact ⟨.slice none 0 0, h1, rfl, fun x hx => by simp [rd] at hx⟩
  | f + 1, p, w, h, hp => by
    have hno : (∀ nd, nds[p]? = some nd → ¬ Form nd (decide (p = 0))) → rd nds (f + 1) p = none → Calls Try.prog 43 #[v, .int .i64 (p : Nat)] w fun e w' => ∃ u, Nw w w' ∧ e = .returned (rdV u (rd nds (f + 1) p)) ∧ ∀ x, rd nds (f + 1) p = some x → Prs w' u x.2.2 := fun h1 h2 => by
      rw [h2]
      refine (c_readNo w h hb h1).mono ?_
      rintro e w' ⟨h1, rfl⟩
      exact ⟨.slice none 0 0, h1, rfl, fun x hx => by cases hx⟩
    cases hq : nds[p]? with
    | none => exact hno (fun nd hnd => by rw [hq] at hnd; cases hnd) (by rw [rd, hq])
    | some nd =>
      by_cases hf : Form nd (decide (p = 0))
      · obtain ⟨ks, es, is⟩ := nd
        by_cases hk : is.length = 0
        · have hi : is = [] := List.eq_nil_of_length_eq_zero hk
          subst hi
          have hr : rd nds (f + 1) p = some (1, 0, ks.zip es) := by rw [rd, hq]; simp only [if_pos hf, if_pos hk]
          rw [hr]
          refine (c_readLeaf w h hb hq hf).mono ?_
          rintro e w' ⟨u, h1, h2, h3⟩
          exact ⟨u, h1, h2, fun x hx => by simp only [Option.some.injEq] at hx; subst hx; exact h3⟩
        · have hr : rd nds (f + 1) p = rdK nds (rd nds f) ks p is 0 1 (-1) [] := by rw [rd, hq]; simp only [if_pos hf, if_neg hk]
          rw [hr]
          exact c_readIn w h hb hq hf hk (by omega) (fun q w' hw hlt => c_read hb f q w' (h.nw hw) hlt)
      · exact hno (fun nd' hnd => by rw [hq] at hnd; simp only [Option.some.injEq] at hnd; subst hnd; exact hf) (by rw [rd, hq]; simp only [if_neg hf])

/-- The pairs of nodes that are right. -/
def readL (l : List Nv) : Option (List Pr) :=
  match rd l (l.length + 1) 0 with
  | none => none
  | some x => if x.1 = l.length then some x.2.2 else none

def rlV (u : Value) : Option (List Pr) → Value
  | none => .tuple #[.slice none 0 0, .bool false]
  | some _ => .tuple #[u, .bool true]

set_option maxHeartbeats 1600000 in
theorem c_Read {v : Value} {nds : List Nv} (w : World) (h : Nds w v nds) (hb : nds.length ≤ 1000000) :
    Calls Try.prog 19 #[v] w fun e w' => ∃ u, Nw w w' ∧ e = .returned (rlV u (readL nds)) ∧ ∀ x, readL nds = some x → Prs w' u x := by
  have hcall := c_read hb (nds.length + 1) 0 w h (by omega)
  obtain ⟨ao, cap, rfl, hc1, hc2⟩ := h.form
  cases hr : rd nds (nds.length + 1) 0 with
  | none =>
    have hl : readL nds = none := by unfold readL; rw [hr]
    rw [hl]
    rw [hr] at hcall
    unfold rdV at hcall
    clear h hr hl
    go_enter Try.func19, Try.ntmps19
    go_wp2_with (go_at_call 43; refine hcall.mono ?_; rintro e w5 ⟨u, hn5, rfl, _⟩; refine stop_here ?_)
    unfold Hid
    clear hcall
    go_wp2
    go_ret2
    exact ⟨.slice none 0 0, hn5, rfl, fun x hx => by cases hx⟩
  | some x =>
    obtain ⟨n, d, ps⟩ := x
    obtain ⟨bb1, bb2, bb3, bb4⟩ := rd_bound _ _ _ _ hr
    simp only at bb1 bb2 bb3 bb4
    rw [hr] at hcall
    unfold rdV at hcall
    have hcall2 : Hid (Calls Try.prog 43 #[.slice ao nds.length cap, .int .i64 (0 : Int)] w fun e w5 => ∃ u, Nw w w5 ∧ e = .returned (.tuple #[.int .i64 (n : Nat), .int .i64 d, u, .bool true]) ∧ Prs w5 u ps) := hcall.mono (fun e w5 ⟨u, h1, h2, h3⟩ => ⟨u, h1, h2, h3 _ rfl⟩)
    clear hcall
    by_cases hn : n = nds.length
    · have hl : readL nds = some ps := by unfold readL; rw [hr]; simp only [if_pos hn]
      rw [hl]
      have hne : ((n : Int) != (nds.length : Int)) = false := by simp [hn]
      clear h hr hl hn
      unfold rlV
      go_enter Try.func19, Try.ntmps19
      go_wp2_with (go_at_call 43; refine hcall2.out.mono ?_; rintro e w5 ⟨u, hn5, rfl, hpu⟩; obtain ⟨ub, uc, rfl, _, _⟩ := hpu.form; refine stop_here ?_)
      unfold Hid
      clear hcall2
      replace hpu : Hid (Prs w5 (.slice ub ps.length uc) ps) := hpu
      go_wp2
      go_ret2
      exact ⟨_, hn5, rfl, fun x hx => by simp only [Option.some.injEq] at hx; subst hx; exact hpu.out⟩
    · have hl : readL nds = none := by unfold readL; rw [hr]; simp only [if_neg hn]
      rw [hl]
      have hne : ((n : Int) != (nds.length : Int)) = true := by simp; omega
      clear h hr hl hn
      unfold rlV
      go_enter Try.func19, Try.ntmps19
      go_wp2_with (go_at_call 43; refine hcall2.out.mono ?_; rintro e w5 ⟨u, hn5, rfl, hpu⟩; obtain ⟨ub, uc, rfl, _, _⟩ := hpu.form; refine stop_here ?_)
      unfold Hid
      clear hcall2
      go_wp2
      go_ret2
      exact ⟨.slice none 0 0, hn5, rfl, fun x hx => by cases hx⟩
end Go.Proofs.Ytnljfhjindenpab
