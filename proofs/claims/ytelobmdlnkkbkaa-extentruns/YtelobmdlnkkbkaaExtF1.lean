/-
  What laws without the document say of maps, plainly.
-/
import Derived.Test.YtelobmdlnkkbkaaExtA1
namespace Go.Proofs.Ytelobmdlnkkbkaa
set_option linter.unusedVariables false
set_option linter.unusedSimpArgs false
set_option maxRecDepth 20000
open Go.RowKit

theorem allM_count (xs : List UInt8) (n : Int) (h : ¬ (xs.count 0 : Int) < n) : total (allV xs n) = n.toNat ∧ xs.count 0 = (allM xs n).count 0 + n.toNat ∧ (allM xs n).length = xs.length ∧ ∀ e ∈ allV xs n, 1 ≤ e.2 ∧ e.1 + e.2 ≤ xs.length := by
  obtain ⟨h1, h2, h3, h4⟩ := allF_spec n.toNat xs n.toNat (Nat.le_refl _) (by omega)
  unfold allV allM
  rw [if_neg h, if_neg h]
  exact ⟨h1, h4, h3, h2⟩

theorem total_take_le (es : List Ext) (k : Nat) : total (es.take k) ≤ total es := by
  have : es = es.take k ++ es.drop k := by simp
  have h := congrArg total this
  rw [total_append] at h
  omega

theorem total_take_succ (es : List Ext) (k : Nat) (hk : k < es.length) : total (es.take (k + 1)) = total (es.take k) + es[k].2 := by
  rw [List.take_succ_eq_append_getElem hk, total_append, total_one]

theorem allM_length (xs : List UInt8) (n : Int) (hn : n ≤ 9223372036854775807) : (allM xs n).length = xs.length := by
  by_cases h : (xs.count 0 : Int) < n
  · unfold allM; rw [if_pos h]
  · exact (allM_count xs n h).2.2.1

theorem allocV_le (xs : List UInt8) (n : Int) (h : xs.length ≤ 1024) : (allocV xs n).1 ≤ 1024 ∧ (allocV xs n).2 ≤ 1024 := by
  unfold allocV
  by_cases hn : n < 1
  · rw [if_pos hn]; simp
  · rw [if_neg hn]
    by_cases hc : xs.count 0 = 0
    · rw [pick_none _ hc]; simp
    · have := pick_some (xs := xs) (n := n.toNat) (by omega) (by omega)
      omega
end Go.Proofs.Ytelobmdlnkkbkaa
