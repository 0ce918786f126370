/-
  Arguments opened: one act, as it came in; pairs that rise compared by what is among them.
-/
import Derived.Test.YtnljfhjindenpabTreeF2
namespace Go.Proofs.Ytnljfhjindenpab
set_option linter.unusedVariables false
set_option linter.unusedSimpArgs false
set_option maxRecDepth 20000
open Go.RowKit Go.ChangeShapes Go.WideShapes Go.Deep

def tactV (a : TAct) : Value := .agg #[.int .i64 a.kind, .int .u64 a.key, .int .i64 a.s, .int .i64 a.l]

theorem open_tact {H : Type} {enc : TypeId × Value → H} {W : World} {b0 : Nat} {v : Value} {d : DataW H} {p : List MemPlace} (hval : Value.okWide Try.prog W .any b0 75 v) (h : DataW.Trod enc Try.prog W 0 (fun _ => true) true 75 v d p) :
    ∃ a : TAct, v = tactV a ∧ a.Ok := by
  obtain ⟨⟨l⟩, rfl, hsz⟩ := okWide_struct Try.underlying75 hval
  rw [Try.cells75] at hsz
  obtain ⟨b0, b1, b2, b3, rfl⟩ := list4 (l := l) (by simpa using hsz)
  obtain ⟨fuel, hf⟩ := h
  have h2 : DataW.trod enc Try.prog W 0 (fun _ => true) true fuel 75 [b0, b1, b2, b3] = some (d, p) := hf
  obtain ⟨xs, k, hk, hxy, _, hxl, hf⟩ := DataW.trod_struct Try.underlying75 h2
  obtain ⟨y0, y1, y2, rfl⟩ : ∃ y0 y1 y2, xs = [y0, y1, y2] := by
    match xs, hxl with
    | [y0, y1, y2], _ => exact ⟨y0, y1, y2, rfl⟩
  have g0 : DataW.trod enc Try.prog W 0 (fun _ => true) true k 3 (([b0, b1, b2, b3].drop 0).take (Try.prog.cellsOf 3)) = some y0 := hf 0 _ rfl
  have g1 : DataW.trod enc Try.prog W 0 (fun _ => true) true k 27 (([b0, b1, b2, b3].drop 1).take (Try.prog.cellsOf 27)) = some y1 := hf 1 _ rfl
  have g2 : DataW.trod enc Try.prog W 0 (fun _ => true) true k 58 (([b0, b1, b2, b3].drop 2).take (Try.prog.cellsOf 58)) = some y2 := hf 2 _ rfl
  rw [Try.cellsInt] at g0
  rw [Try.cellsU] at g1
  rw [Try.cells58] at g2
  have g2 : DataW.trod enc Try.prog W 0 (fun _ => true) true k 58 [b2, b3] = some y2 := g2
  obtain ⟨xs2, k2, _, _, _, hxl2, hf2⟩ := DataW.trod_struct Try.underlying58 g2
  obtain ⟨y3, y4, rfl⟩ : ∃ y3 y4, xs2 = [y3, y4] := by
    match xs2, hxl2 with
    | [y3, y4], _ => exact ⟨y3, y4, rfl⟩
  have g3 : DataW.trod enc Try.prog W 0 (fun _ => true) true k2 3 (([b2, b3].drop 0).take (Try.prog.cellsOf 3)) = some y3 := hf2 0 _ rfl
  have g4 : DataW.trod enc Try.prog W 0 (fun _ => true) true k2 3 (([b2, b3].drop 1).take (Try.prog.cellsOf 3)) = some y4 := hf2 1 _ rfl
  rw [Try.cellsInt] at g3 g4
  obtain ⟨z0, e0, _, wf0⟩ := DataW.trod_int Try.underlying3 g0
  obtain ⟨z1, e1, _, wf1⟩ := DataW.trod_int Try.underlying27 g1
  obtain ⟨z2, e2, _, wf2⟩ := DataW.trod_int Try.underlying3 g3
  obtain ⟨z3, e3, _, wf3⟩ := DataW.trod_int Try.underlying3 g4
  have q0 : b0 = .int .i64 z0 := (List.cons.inj (show [b0] = [Value.int .i64 z0] from e0)).1
  have q1 : b1 = .int .u64 z1 := (List.cons.inj (show [b1] = [Value.int .u64 z1] from e1)).1
  have q2 : b2 = .int .i64 z2 := (List.cons.inj (show [b2] = [Value.int .i64 z2] from e2)).1
  have q3 : b3 = .int .i64 z3 := (List.cons.inj (show [b3] = [Value.int .i64 z3] from e3)).1
  clear e0 e1 e2 e3
  subst q0 q1 q2 q3
  exact ⟨⟨z0, z1, z2, z3⟩, rfl, ⟨i64_of_wf wf0, u64_of_wf wf1, i64_of_wf wf2, i64_of_wf wf3⟩⟩

/-! ### Pairs that rise -/
theorem rise_ext : ∀ {a b : List Pr}, Rise (a.map (·.1)) → Rise (b.map (·.1)) → (∀ p, p ∈ a ↔ p ∈ b) → a = b
  | [], [], _, _, _ => rfl
  | [], q :: b, _, _, h => by have := (h q).2 List.mem_cons_self; simp at this
  | p :: a, [], _, _, h => by have := (h p).1 List.mem_cons_self; simp at this
  | p :: a, q :: b, ha, hb, h => by
    have h1 : (∀ x ∈ a.map (·.1), p.1 < x) ∧ Rise (a.map (·.1)) := List.pairwise_cons.1 ha
    have h2 : (∀ x ∈ b.map (·.1), q.1 < x) ∧ Rise (b.map (·.1)) := List.pairwise_cons.1 hb
    have k1 : ∀ x ∈ a, p.1 < x.1 := fun x hx => h1.1 x.1 (List.mem_map.2 ⟨x, hx, rfl⟩)
    have k2 : ∀ x ∈ b, q.1 < x.1 := fun x hx => h2.1 x.1 (List.mem_map.2 ⟨x, hx, rfl⟩)
    have hpq : p = q := by
      rcases List.mem_cons.1 ((h p).1 List.mem_cons_self) with h3 | h3
      · exact h3
      · rcases List.mem_cons.1 ((h q).2 List.mem_cons_self) with h4 | h4
        · exact h4.symm
        · have := k2 p h3
          have := k1 q h4
          omega
    subst hpq
    congr 1
    refine rise_ext h1.2 h2.2 (fun x => ⟨fun hx => ?_, fun hx => ?_⟩)
    · rcases List.mem_cons.1 ((h x).1 (List.mem_cons_of_mem _ hx)) with h3 | h3
      · have := k1 x hx
        rw [h3] at this
        omega
      · exact h3
    · rcases List.mem_cons.1 ((h x).2 (List.mem_cons_of_mem _ hx)) with h3 | h3
      · have := k2 x hx
        rw [h3] at this
        omega
      · exact h3

theorem mem_putL {k : Int} {e : Ext} {l : List Pr} {p : Pr} : p ∈ putL k e l ↔ p = (k, e) ∨ (p ∈ l ∧ p.1 ≠ k) := by
  unfold putL
  rw [List.mem_append, List.mem_cons, List.mem_filter, List.mem_filter]
  simp only [decide_eq_true_eq]
  constructor
  · rintro (⟨h1, h2⟩ | h1 | ⟨h1, h2⟩)
    · exact .inr ⟨h1, by omega⟩
    · exact .inl h1
    · exact .inr ⟨h1, by omega⟩
  · rintro (h1 | ⟨h1, h2⟩)
    · exact .inr (.inl h1)
    · rcases Int.lt_or_gt_of_ne h2 with h3 | h3
      · exact .inl ⟨h1, h3⟩
      · exact .inr (.inr ⟨h1, h3⟩)

theorem mem_delL {k : Int} {l : List Pr} {p : Pr} : p ∈ delL k l ↔ p ∈ l ∧ p.1 ≠ k := by
  unfold delL
  rw [List.mem_filter]
  simp

theorem putL_turn {k k' : Int} {e e' : Ext} {l : List Pr} (hk : k ≠ k') (h1 : Rise ((putL k' e' (putL k e l)).map (·.1))) (h2 : Rise ((putL k e (putL k' e' l)).map (·.1))) : putL k' e' (putL k e l) = putL k e (putL k' e' l) := by
  refine rise_ext h1 h2 (fun p => ?_)
  rw [mem_putL, mem_putL, mem_putL, mem_putL]
  constructor
  · rintro (rfl | ⟨rfl | ⟨h3, h4⟩, h5⟩)
    · exact .inr ⟨.inl rfl, fun h => hk h.symm⟩
    · exact .inl rfl
    · exact .inr ⟨.inr ⟨h3, h5⟩, h4⟩
  · rintro (rfl | ⟨rfl | ⟨h3, h4⟩, h5⟩)
    · exact .inr ⟨.inl rfl, hk⟩
    · exact .inl rfl
    · exact .inr ⟨.inr ⟨h3, h5⟩, h4⟩

theorem del_put {k : Int} {e : Ext} {l : List Pr} (h1 : Rise ((delL k (putL k e l)).map (·.1))) (h2 : Rise ((delL k l).map (·.1))) : delL k (putL k e l) = delL k l := by
  refine rise_ext h1 h2 (fun p => ?_)
  rw [mem_delL, mem_delL, mem_putL]
  constructor
  · rintro ⟨rfl | ⟨h3, h4⟩, h5⟩
    · exact absurd rfl h5
    · exact ⟨h3, h4⟩
  · rintro ⟨h3, h4⟩
    exact ⟨.inr ⟨h3, h4⟩, h4⟩
end Go.Proofs.Ytnljfhjindenpab
