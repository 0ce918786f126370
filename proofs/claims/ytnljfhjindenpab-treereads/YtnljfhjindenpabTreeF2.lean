/-
  The laws' own: acts kept; what Get answers; extents compared.
-/
import Derived.Test.YtnljfhjindenpabTreeF1
namespace Go.Proofs.Ytnljfhjindenpab
set_option linter.unusedVariables false
set_option linter.unusedSimpArgs false
set_option maxRecDepth 20000
open Go.RowKit

theorem TActsAt.nw {K : Nat} {w w' : World} {v : Value} {xs : List TAct} (h : TActsAt K w v xs) (hw : Nw w w') (hK : K ≤ w.heap.size) : TActsAt K w' v xs := by
  obtain ⟨ao, cap, e, h1, h2, h3⟩ := h
  refine ⟨ao, cap, e, h1, h2, fun i a hi => ?_⟩
  obtain ⟨b, off, g1, g2, g3, g4⟩ := h3 i a hi
  exact ⟨b, off, g1, g2, fun j v hv => by rw [(nw_below hw hK).cell (p := ⟨b, _, none⟩) g2]; exact g3 j v hv, g4⟩

theorem TActsAt.form {K : Nat} {w : World} {v : Value} {xs : List TAct} (h : TActsAt K w v xs) : ∃ ao cap, v = .slice ao xs.length cap ∧ xs.length ≤ cap ∧ cap ≤ 9223372036854775807 := by
  obtain ⟨ao, cap, e, h1, h2, h3⟩ := h
  exact ⟨ao, cap, e, h1, h2⟩

theorem getV_form (o : Option Ext) : ∃ (ev : Ext) (okb : Bool), getV o = .tuple #[.agg #[.int .i64 ev.1, .int .i64 ev.2], .bool okb] := by
  cases o with
  | some e => exact ⟨e, true, rfl⟩
  | none => exact ⟨(0, 0), false, rfl⟩

theorem neqE_same (a b : Int) (w : World) : (binOp .neq 58 (.agg #[.int .i64 a, .int .i64 b]) (.agg #[.int .i64 a, .int .i64 b])).run Try.prog w = .ok (.bool false) w := by
  simp [go_sem]

theorem getL_put (k : Int) (e : Ext) (l : List Pr) : getL k (putL k e l) = some e := by
  unfold getL putL
  have h1 : (l.filter (fun p => decide (p.1 < k))).find? (fun p => decide (p.1 = k)) = none := List.find?_eq_none.2 (fun p hp => by
    have := (List.mem_filter.1 hp).2
    simp at this ⊢
    omega)
  rw [List.find?_append, h1, List.find?_cons_of_pos (by simp)]
  rfl

theorem getL_del (k : Int) (l : List Pr) : getL k (delL k l) = none := by
  unfold getL delL
  rw [List.find?_eq_none.2 (fun p hp => by
    have := (List.mem_filter.1 hp).2
    simpa using this)]
  rfl

theorem filt_ge (k : Int) : ∀ l : List Pr, Rise (l.map (·.1)) → l.length ≤ (l.filter (fun p => decide (p.1 < k))).length + (l.filter (fun p => decide (k < p.1))).length + 1
  | [], _ => by simp
  | p :: l, h => by
    have h1 : (∀ x ∈ l.map (·.1), p.1 < x) ∧ Rise (l.map (·.1)) := List.pairwise_cons.1 h
    have := filt_ge k l h1.2
    rcases Int.lt_trichotomy p.1 k with hk | hk | hk
    · have h2 : ¬ k < p.1 := by omega
      simp [hk, h2]; omega
    · have h2 : ¬ p.1 < k := by omega
      have h3 : ¬ k < p.1 := by omega
      have h4 : l.filter (fun p => decide (k < p.1)) = l := filt_all (fun q hq => by have := h1.1 q.1 (List.mem_map.2 ⟨q, hq, rfl⟩); simp; omega)
      simp [h2, h3, h4]
    · have h2 : ¬ p.1 < k := by omega
      simp [hk, h2]; omega

theorem putL_ge (k : Int) (e : Ext) {l : List Pr} (h : Rise (l.map (·.1))) : l.length ≤ (putL k e l).length := by
  have h1 := filt_ge k l h
  have h2 : (putL k e l).length = (l.filter (fun p => decide (p.1 < k))).length + ((l.filter (fun p => decide (k < p.1))).length + 1) := by unfold putL; rw [List.length_append, List.length_cons]
  rw [h2]
  exact h1
end Go.Proofs.Ytnljfhjindenpab
