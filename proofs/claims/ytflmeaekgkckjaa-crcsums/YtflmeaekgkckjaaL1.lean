/-
  What the laws lean on: a byte stored into an own row, bytes added without carry, parts put together.
-/
import Derived.Test.YtflmeaekgkckjaaOpen
import Derived.Laws.BitsAllLaws
namespace Go.Proofs.Ytflmeaekgkckjaa
set_option linter.unusedVariables false
set_option linter.unusedSimpArgs false
open Go.RowKit

theorem bits_xor_u8 (x y : UInt8) : bits .xor .u8 (x.toNat : Int) (y.toNat : Int) = ((x ^^^ y).toNat : Int) := by
  rw [u8_xor_nat _ _ x.toNat_lt y.toNat_lt]; simp

theorem xor_ne (x y : UInt8) (h : y ≠ 0) : x ^^^ y ≠ x := by
  intro e
  apply h
  have : x ^^^ (x ^^^ y) = x ^^^ x := by rw [e]
  rw [← UInt8.xor_assoc, UInt8.xor_self] at this
  simpa using this

theorem owns_some {w : World} {base e n : Nat} {v : Value} {xs : List Value} (h : w.ownsRow base e 1 v n xs) (hn : 0 < n) : ∃ g cap, v = .slice (some ⟨g, 0, none⟩) n cap ∧ base ≤ g ∧ g < w.heap.size := by
  rcases h.2 with ⟨_, rfl⟩ | ⟨g, cap, cur, rfl, hb, hg, _⟩
  · omega
  · exact ⟨g, cap, rfl, hb, (Array.getElem?_eq_some_iff.1 hg).1⟩

theorem owns_ge {w : World} {base e n : Nat} {v : Value} {xs : List Value} (h : w.ownsRow base e 1 v n xs) : ∀ k, v.ownBlock = some k → base ≤ k := by
  intro k hk
  rcases h.2 with ⟨rfl, _⟩ | ⟨g, cap, cur, rfl, hb, _⟩
  · simp [Value.ownBlock] at hk
  · simp [Value.ownBlock] at hk; omega

/-- One byte of an own row turned. -/
theorem sl_set {w : World} {base e g n cap : Nat} {xs : List UInt8} (h : w.ownsRow base e 1 (.slice (some ⟨g, 0, none⟩) n cap) n (xs.map bv)) (hn : xs.length = n) (hg : g < w.heap.size) (i : Nat) (hi : i < n) (y : UInt8) :
    Sl w.heap.size (w.setCell ⟨g, i, none⟩ (bv y)) (.slice (some ⟨g, 0, none⟩) n cap) n ((xs.set i y).map bv) := by
  have hc : n ≤ cap ∧ cap ≤ maxLen := by
    rcases h.2 with ⟨hv, _⟩ | ⟨g', cap', cur, hv, _, _, h1, h2, _⟩
    · simp at hv
    · simp only [Value.slice.injEq, true_and] at hv
      obtain ⟨_, rfl⟩ := hv
      exact ⟨h1, h2⟩
  refine ⟨_, cap, rfl, hc, fun h0 => by simp at h0, fun j c hj => ⟨g, 0, rfl, hg, ?_⟩⟩
  rw [Nat.zero_add]
  have hjn : j < n := by
    have := (List.getElem?_eq_some_iff.1 hj).1
    rw [List.length_map, List.length_set] at this
    omega
  by_cases hij : i = j
  · subst hij
    have h0 := h.cellAt i (by omega)
    rw [List.getElem?_map, List.getElem?_eq_getElem (by omega)] at h0
    rw [World.cell?_setCell_same _ _ _ h0]
    rw [List.getElem?_map, List.getElem?_set_self (by omega)] at hj
    simpa using hj
  · rw [World.cell?_setCell_other _ _ _ _ (by intro e; exact hij (congrArg Addr.off e))]
    rw [h.cellAt j (by omega)]
    rw [List.getElem?_map, List.getElem?_set_ne hij] at hj
    rw [List.getElem?_map]
    exact hj

theorem zip3_snoc (a b c : List UInt8) (k : Nat) (ha : k < a.length) (hb : k < b.length) (hc : k < c.length) :
    (List.zipWith (fun p z => p ^^^ z) (List.zipWith (fun x y => x ^^^ y) a b) c).take (k + 1) = (List.zipWith (fun p z => p ^^^ z) (List.zipWith (fun x y => x ^^^ y) a b) c).take k ++ [a[k] ^^^ b[k] ^^^ c[k]] := by
  rw [List.take_succ_eq_append_getElem (by simp; omega)]
  simp

theorem flat_snoc (ps : List (List UInt8)) (k : Nat) (h : k < ps.length) : (ps.take (k + 1)).flatten = (ps.take k).flatten ++ ps[k] := by
  rw [List.take_succ_eq_append_getElem h, List.flatten_append]; simp

theorem flat_le (ps : List (List UInt8)) (k : Nat) : (ps.take k).flatten.length ≤ ps.flatten.length := by
  conv => rhs; rw [← List.take_append_drop k ps, List.flatten_append, List.length_append]
  omega
end Go.Proofs.Ytflmeaekgkckjaa
