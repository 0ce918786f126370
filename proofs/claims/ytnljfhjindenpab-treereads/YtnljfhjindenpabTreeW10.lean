/-
  Package tree: Get, count, Len.
-/
import Derived.Test.YtnljfhjindenpabTreeW9
import Derived.Deep.LoopGhost
namespace Go.Proofs.Ytnljfhjindenpab
set_option linter.unusedVariables false
set_option linter.unusedSimpArgs false
set_option maxRecDepth 20000
open Go.RowKit

/-- A key's extent. -/
def getL (k : Int) (l : List Pr) : Option Ext := (l.find? (fun p => decide (p.1 = k))).map (·.2)

theorem getL_mid {k : Int} {a b c : List Pr} (ha : ∀ p ∈ a, p.1 < k) (hc : ∀ p ∈ c, k < p.1) : getL k (a ++ b ++ c) = getL k b := by
  unfold getL
  have h1 : a.find? (fun p => decide (p.1 = k)) = none := List.find?_eq_none.2 (fun p hp => by have := ha p hp; simp; omega)
  have h2 : c.find? (fun p => decide (p.1 = k)) = none := List.find?_eq_none.2 (fun p hp => by have := hc p hp; simp; omega)
  rw [List.find?_append, List.find?_append, h1, h2]
  simp

theorem get_find {n m : Nat} {t : Tr (n + 1)} {a b k : Int} (h : R (n + 1) m 7 t a b) (hak : a ≤ k) (hkb : k < b) :
    ∃ c mm nn, t.2[hi t.1 k]? = some c ∧ R n 3 7 c mm nn ∧ mm ≤ k ∧ k < nn ∧ getL k (flat (n + 1) t) = getL k (flat n c) ∧ t.2.length = t.1.length + 1 ∧ t.1.length ≤ 7 := by
  obtain ⟨ks, cs⟩ := t
  obtain ⟨⟨h1, h2⟩, h3⟩ := h
  have hl := bds_length h3
  obtain ⟨ks1, ks2, cs1, c, cs2, mm, nn, rfl, rfl, e3, e4, h4, h5, h6, h7, h8⟩ := bds_find R.kidlt k h3 hak hkb
  have hg := (take_mid (xs := cs1) (ys := cs2) (x := c) e4).2.2
  refine ⟨c, mm, nn, hg, h5, h7, h8, ?_, hl, h2⟩
  have hfl : flat (n + 1) (ks1 ++ ks2, cs1 ++ c :: cs2) = cs1.flatMap (flat n) ++ flat n c ++ cs2.flatMap (flat n) := by simp [flat]
  rw [hfl]
  refine getL_mid (fun p hp => ?_) (fun p hp => ?_)
  · have := (pre_flat R.kidlt R.kidflat h4).2 p hp; omega
  · have := (post_flat R.kidlt R.kidflat h6).2 p hp; omega

/-- At a leaf. -/
theorem get_leaf {t : List Pr} (h : Rise (t.map (·.1))) (k : Int) :
    (lo (t.map (·.1)) k = hi (t.map (·.1)) k → getL k t = none) ∧ (lo (t.map (·.1)) k ≠ hi (t.map (·.1)) k → ∃ hlt : lo (t.map (·.1)) k < t.length, getL k t = some (t[lo (t.map (·.1)) k]).2) := by
  have hf := hi_found h k
  constructor
  · intro he
    have hn : ¬ (t.map (·.1))[lo (t.map (·.1)) k]? = some k := fun h1 => by rw [if_pos h1] at hf; omega
    unfold getL
    rw [List.find?_eq_none.2 ?_]
    · rfl
    · intro p hp
      have hm : p.1 ∈ t.map (·.1) := List.mem_map.2 ⟨p, hp, rfl⟩
      obtain ⟨i, hi, hip⟩ := List.mem_iff_getElem.1 hm
      simp only [decide_eq_true_eq]
      intro hpk
      apply hn
      have hik : (t.map (·.1))[i] = k := hip.trans hpk
      have h1 : ¬ i < lo (t.map (·.1)) k := fun h2 => by have := (lo_iff h k hi).2 h2; omega
      have h2 : lo (t.map (·.1)) k < (t.map (·.1)).length := by omega
      rcases Nat.lt_or_ge (lo (t.map (·.1)) k) i with h5 | h5
      · have h6 := List.pairwise_iff_getElem.1 h _ _ h2 hi h5
        have h7 := (lo_iff h k h2).1 (by omega)
        omega
      · have : lo (t.map (·.1)) k = i := by omega
        rw [this, List.getElem?_eq_getElem hi, hik]
  · intro he
    have hn : (t.map (·.1))[lo (t.map (·.1)) k]? = some k := by
      by_cases h1 : (t.map (·.1))[lo (t.map (·.1)) k]? = some k
      · exact h1
      · rw [if_neg h1] at hf; omega
    obtain ⟨h2, h3⟩ := List.getElem?_eq_some_iff.1 hn
    have h2' : lo (t.map (·.1)) k < t.length := by simpa using h2
    refine ⟨h2', ?_⟩
    have e : t = t.take (lo (t.map (·.1)) k) ++ t[lo (t.map (·.1)) k] :: t.drop (lo (t.map (·.1)) k + 1) := by simp
    have h1 : ∀ p ∈ t.take (lo (t.map (·.1)) k), p.1 < k := fun p hp => by
      have := (rise_mid h h2).1 p.1 (by rw [← List.map_take]; exact List.mem_map.2 ⟨p, hp, rfl⟩)
      rwa [h3] at this
    have h4 : (t.take (lo (t.map (·.1)) k)).find? (fun p => decide (p.1 = k)) = none := List.find?_eq_none.2 (fun p hp => by have := h1 p hp; simp; omega)
    have h5 : (t[lo (t.map (·.1)) k]).1 = k := by simpa using h3
    unfold getL
    generalize lo (t.map (·.1)) k = L at *
    have hfd : t.find? (fun p => decide (p.1 = k)) = some t[L] := by
      conv => lhs; rw [e]
      rw [List.find?_append, h4, List.find?_cons_of_pos (by simp [h5])]
      rfl
    rw [hfd]
    rfl

theorem Try.rowE : (Try.prog.underlying 58).map TypeDesc.isRow = some true := by kernel_rfl
theorem Try.sizeE : (Try.prog.info? 58).map (·.size) = some 2 := by kernel_rfl
theorem sizeE (x y : Int) : (Try.prog.info? 58).map (·.size) = some ([.int .i64 x, .int .i64 y] : List Value).length := Try.sizeE

/-- The result's cells, written. -/
theorem ret_cell {w wr : World} {a0 a1 : Value} (h : Nw w wr) {g : Nat} (hg : w.heap.size ≤ g) (hb : wr.heap[g]? = some (.cells #[a0, a1] 58 (0, 0))) (x y : Int) :
    ((wr.setCell ⟨g, 0, none⟩ (.int .i64 x)).setCell ⟨g, 1, none⟩ (.int .i64 y)).heap[g]? = some (.cells #[.int .i64 x, .int .i64 y] 58 (0, 0)) ∧
    Nw w ((wr.setCell ⟨g, 0, none⟩ (.int .i64 x)).setCell ⟨g, 1, none⟩ (.int .i64 y)) := by
  refine ⟨?_, Fr.setCell (Fr.setCell h (p := ⟨g, 0, none⟩) (.inr hg) _) (p := ⟨g, 1, none⟩) (.inr hg) _⟩
  rw [blk_setCell (blk_setCell hb)]
  rfl

def getV (o : Option Ext) : Value := match o with
  | some e => .tuple #[ext e, .bool true]
  | none => .tuple #[ext (0, 0), .bool false]

end Go.Proofs.Ytnljfhjindenpab
