/-
  The chapter's example.
-/
import Derived.Test.YtelobmdlnkkbkaaExtW4
namespace Go.Proofs.Ytelobmdlnkkbkaa
set_option linter.unusedVariables false
set_option linter.unusedSimpArgs false
set_option maxRecDepth 20000
open Go.RowKit

theorem below_of_nw {w w' : World} (h : Nw w w') : Below w.heap.size w w' := h.below (Nat.le_refl _) (fun _ => False.elim)
theorem nw_of_below {w w' : World} (h : Below w.heap.size w w') : Nw w w' := fr_of_below h

/-- What turns only memory that wasn't there. -/
theorem Fr.new {T : Nat → Prop} {w w1 w2 : World} (h : Nw w w1) (hf : Fr T w1 w2) (hT : ∀ k, T k → w.heap.size ≤ k) : Nw w w2 := Fr.trans h hf (fun k hk => .inr (hT k hk))

theorem ex_alloc1 : allocV (newX 10) 4 = (0, 4) ∧ allocM (newX 10) 4 = [1, 1, 1, 1, 0, 0, 0, 0, 0, 0] := by decide
theorem ex_alloc2 : allocM [1, 1, 1, 1, 0, 0, 0, 0, 0, 0] 4 = [1, 1, 1, 1, 1, 1, 1, 1, 0, 0] := by decide
theorem ex_free : turnX [1, 1, 1, 1, 1, 1, 1, 1, 0, 0] 0 4 1 0 = [0, 0, 0, 0, 1, 1, 1, 1, 0, 0] := by decide
theorem ex_alloc3 : allocV [0, 0, 0, 0, 1, 1, 1, 1, 0, 0] 5 = (0, 4) ∧ allocE [0, 0, 0, 0, 1, 1, 1, 1, 0, 0] 5 = 0 ∧ allocM [0, 0, 0, 0, 1, 1, 1, 1, 0, 0] 5 = [1, 1, 1, 1, 1, 1, 1, 1, 0, 0] := by decide

set_option maxHeartbeats 1600000 in
theorem c_alive (w : World) : Calls Try.prog 8 #[] w fun e w' => e = .returned (.bool true) ∧ Nw w w' := by
  go_enter Try.func8, Try.ntmps8
  go_wp2_with (go_at_call 9; refine (c_new 10 _).mono ?_; rintro e w1 ⟨b, g, rfl, h1, hn1, hb, hg⟩; refine stop_here ?_)
  unfold Hid
  have hT : ∀ k, k = g → w.heap.size ≤ k := fun k e => by omega
  have a1 := c_alloc _ h1 4 (by decide)
  rw [ex_alloc1.1, ex_alloc1.2] at a1
  unfold ext at a1
  go_wp2_with (go_at_call 13; refine a1.mono ?_; rintro e w2 ⟨rfl, h2, hf2⟩; refine stop_here ?_)
  unfold Hid
  have hn2 := Fr.new hn1 hf2 hT
  have hgw2 := h2.lt.2
  have h2' := h2.nw ((Fr.refl _ w2).alloc (.cells #[.int .i64 0, .int .i64 4] 34))
  have a2 := c_alloc _ h2' 4 (by decide)
  rw [ex_alloc2] at a2
  have hb2 : (w2.alloc (.cells #[.int .i64 0, .int .i64 4] 34)).heap[w2.heap.size]? = some (.cells #[.int .i64 0, .int .i64 4] 34 (0, 0)) := heap_alloc_new w2 _
  clear a1 h1 hf2 h2
  go_wp2_with (go_at_call 13; refine a2.mono ?_; rintro e w3 ⟨rfl, h3, hf3⟩; refine stop_here ?_)
  unfold Hid
  have hgl := h2'.lt
  simp only [World.size_alloc] at hgl
  have hg2 : g < w2.heap.size := hgw2
  have hb3 := (hf3.block w2.heap.size (by simp) (by omega)).trans hb2
  have hn3 := Fr.new (Fr.alloc hn2 (.cells #[.int .i64 0, .int .i64 4] 34)) hf3 hT
  have c30 : w3.cell? ⟨w2.heap.size, 0, none⟩ = some (.int .i64 0) := cell_blk hb3 rfl
  have c31 : w3.cell? ⟨w2.heap.size, 1, none⟩ = some (.int .i64 4) := cell_blk hb3 rfl
  have a3 := c_free _ h3 0 4 (by decide)
  rw [ex_free] at a3
  unfold ext at a3
  have hlt3 := heap_lt hb3
  clear a2 h2' hf3 hb2
  go_wp2_with (go_at_call 19; refine a3.mono ?_; rintro e w4 ⟨rfl, h4, hf4⟩; refine stop_here ?_)
  unfold Hid
  have hb4 := (hf4.block w2.heap.size hlt3 (by omega)).trans hb3
  have hn4 := Fr.new hn3 hf4 hT
  have a4 := c_alloc _ h4 5 (by decide)
  rw [ex_alloc3.1, ex_alloc3.2.1, ex_alloc3.2.2] at a4
  unfold ext at a4
  have hlt4 := heap_lt hb4
  clear a3 h3 hf4 hb3 c30 c31
  go_wp2_with (go_at_call 13; refine a4.mono ?_; rintro e w5 ⟨rfl, h5, hf5⟩; refine stop_here ?_)
  unfold Hid
  have hb5 := (hf5.block w2.heap.size hlt4 (by omega)).trans hb4
  have hn5 := Fr.new hn4 hf5 hT
  have hlt5 := heap_lt hb5
  have c50 : w5.cell? ⟨w2.heap.size, 0, none⟩ = some (.int .i64 0) := cell_blk hb5 rfl
  have c51 : w5.cell? ⟨w2.heap.size, 1, none⟩ = some (.int .i64 4) := cell_blk hb5 rfl
  have h6 := h5.nw ((Fr.refl _ w5).alloc (.cells #[.int .i64 0, .int .i64 4] 34))
  have a5 := c_count _ h6
  have hn6 := Fr.alloc hn5 (.cells #[.int .i64 0, .int .i64 4] 34)
  clear a4 h4 hf5 hb4 hb5
  go_wp2_with (go_at_call 10; refine a5.mono ?_; rintro e w7 ⟨rfl, rfl⟩)
  go_ret
  exact ⟨rfl, hn6⟩
end Go.Proofs.Ytelobmdlnkkbkaa
