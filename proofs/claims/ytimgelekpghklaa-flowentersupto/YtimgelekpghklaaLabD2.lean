/-
  Package label: Make, as a whole.
-/
import Derived.Test.YtimgelekpghklaaLabD1
namespace Go.Proofs.Ytimgelekpghklaa
set_option linter.unusedVariables false
set_option linter.unusedSimpArgs false
set_option maxRecDepth 20000
open Go.RowKit

theorem Try.rowL : (Try.prog.underlying 24).map TypeDesc.isRow = some true := by kernel_rfl
theorem Try.sizeL : (Try.prog.info? 24).map (·.size) = some 2 := by kernel_rfl

/-- A label as a value. -/
def labV (d : Int) (u : Value) : Value := .agg #[.int .i64 d, u]

def MadeL (w : World) (d : Int) (f : Int → Int) (N : Nat) (e : Ending) (w' : World) : Prop :=
  ∃ u ys, e = .returned (labV d u) ∧ CSl (fun b => w.heap.size ≤ b) w' u ys ∧ Fm d ys ∧ (∀ id, lev d ys id = f id) ∧ ys.length ≤ N ∧ Nw w w'

theorem filter_len (d : Int) (ys : List Cat) (n : Nat) (h : ys.length = n) : ((ddT ys n).filter (keepC d)).length ≤ n := by
  have h1 := List.length_filter_le (keepC d) (ddT ys n)
  have h2 := ddT_le ys n
  omega

set_option maxHeartbeats 1600000 in
theorem c_make {X : Nat → Prop} {v : Value} {xs : List Cat} (d : Int) (w : World) (h : CSl X w v xs) (hl : xs.length ≤ 8796093022208) :
    Calls Try.prog 28 #[.int .i64 d, v] w (MadeL w d (lev d xs) xs.length) := by
  have hmf : ∀ (fn : Fn) (first cap : Array Value) (w : World), (Instr.makeFunc fn first cap).run Try.prog w = .ok (.func fn first cap) w := fun _ _ _ _ => rfl
  obtain ⟨ao, cap, rfl, hcl, hcm⟩ := h.form
  have hP : ((w.alloc (.cells #[.int .i64 d] 3)).alloc (.cells #[.int .i64 0, .slice none 0 0] 24)).heap[w.heap.size]? = some (.cells #[.int .i64 d] 3 (0, 0)) := heap_alloc2_old w _ _
  have hR : ((w.alloc (.cells #[.int .i64 d] 3)).alloc (.cells #[.int .i64 0, .slice none 0 0] 24)).heap[w.heap.size + 1]? = some (.cells #[.int .i64 0, .slice none 0 0] 24 (0, 0)) := heap_alloc2_new w _ _
  have hW : Nw w ((w.alloc (.cells #[.int .i64 d] 3)).alloc (.cells #[.int .i64 0, .slice none 0 0] 24)) := nw_alloc (nw_alloc (nw_refl w) _) _
  have hSz : ((w.alloc (.cells #[.int .i64 d] 3)).alloc (.cells #[.int .i64 0, .slice none 0 0] 24)).heap.size = w.heap.size + 1 + 1 := by simp
  have hcon : Hid _ := c_clone _ (h.nw hW) hl
  have hl : Hid (xs.length ≤ 8796093022208) := hl
  have hfin : Hid (∀ (W : World) (u : Value) (zs ys : List Cat), Stab xs ys → MkAt (w.heap.size + 1 + 1) W u ((ddT ys ys.length).filter (keepC d)) → Nw w W → MadeL w d (lev d xs) xs.length (.returned (labV d u)) W) := fun W u zs ys q1 q2 q3 =>
    ⟨u, _, rfl, q2.csl.mono (fun b hb _ => by omega), (make_form q1 rfl).1, (make_form q1 rfl).2, by have := filter_len d ys ys.length rfl; have := q1.1; omega, q3⟩
  have h : Hid (CSl X w (.slice ao xs.length cap) xs) := h
  go_enter Try.func28, Try.ntmps28
  go_upto_region 1 with fail
  generalize hW1 : (w.alloc (.cells #[.int .i64 d] 3)).alloc (.cells #[.int .i64 0, .slice none 0 0] 24) = W1 at *
  replace hW1 : Hid _ := hW1
  rw [hSz] at hcon
  go_wp2_with (go_at_call 41; refine Calls.mono hcon.out ?_; rintro e W2 ⟨u, rfl, hmk, hn2⟩; refine stop_here ?_)
  unfold Hid
  have hP2 : W2.heap[w.heap.size]? = some (.cells #[.int .i64 d] 3 (0, 0)) := (hn2.block _ (heap_lt hP) id).trans hP
  have hR2 : W2.heap[w.heap.size + 1]? = some (.cells #[.int .i64 0, .slice none 0 0] 24 (0, 0)) := (hn2.block _ (heap_lt hR) id).trans hR
  have hW2 : Nw w W2 := nw_trans hW hn2
  clear hcon hn2 hP hR hW hSz hW1 h
  have hcon : Hid _ := c_sortM W2 hmk (by have := hl.out; omega)
  obtain ⟨ua, un, uc, rfl⟩ : ∃ a n c, u = .slice a n c := by
    rcases hmk with ⟨rfl, _⟩ | ⟨g, n, cap, tl, rfl, _⟩
    · exact ⟨_, _, _, rfl⟩
    · exact ⟨_, _, _, rfl⟩
  clear hmk
  go_wp2_with (go_at_call 42; refine Calls.mono hcon.out ?_; rintro e W3 ⟨rfl, ys, hmk, hst, hf3⟩; refine stop_here ?_)
  unfold Hid
  have hP3 := (hf3.block _ (heap_lt hP2) (by omega)).trans hP2
  have hR3 := (hf3.block _ (heap_lt hR2) (by omega)).trans hR2
  have hW3 : Nw w W3 := Fr.trans hW2 hf3 (fun k hk => .inr (by omega))
  clear hcon hf3 hP2 hR2 hW2
  have hcon : Hid _ := c_compactM W3 hmk
  have hst : Hid (Stab xs ys) := hst
  clear hmk
  go_wp2_with (go_at_call 45; refine Calls.mono hcon.out ?_; rintro e W4 ⟨u', rfl, hmk, hf3⟩; refine stop_here ?_)
  unfold Hid
  have hP4 := (hf3.block _ (heap_lt hP3) (by omega)).trans hP3
  have hR4 := (hf3.block _ (heap_lt hR3) (by omega)).trans hR3
  have hW4 : Nw w W4 := Fr.trans hW3 hf3 (fun k hk => .inr (by omega))
  clear hcon hf3 hP3 hR3 hW3
  have hcon : Hid _ := c_deleteM d W4 hmk hP4 (by omega)
  obtain ⟨va, vn, vc, rfl⟩ : ∃ a n c, u' = .slice a n c := by
    rcases hmk with ⟨rfl, _⟩ | ⟨g, n, cap, tl, rfl, _⟩
    · exact ⟨_, _, _, rfl⟩
    · exact ⟨_, _, _, rfl⟩
  clear hmk
  go_wp2_with (go_at_call 47; refine Calls.mono hcon.out ?_; rintro e W5 ⟨u2, rfl, hmk, hf3⟩; refine stop_here ?_)
  unfold Hid
  have hP5 := (hf3.block _ (heap_lt hP4) (by omega)).trans hP4
  have hR5 := (hf3.block _ (heap_lt hR4) (by omega)).trans hR4
  have hW5 : Nw w W5 := Fr.trans hW4 hf3 (fun k hk => .inr (by omega))
  clear hcon hf3 hP4 hR4 hW4
  obtain ⟨wa, wn, wc, rfl⟩ : ∃ a n c, u2 = .slice a n c := by
    rcases hmk with ⟨rfl, _⟩ | ⟨g, n, cap, tl, rfl, _⟩
    · exact ⟨_, _, _, rfl⟩
    · exact ⟨_, _, _, rfl⟩
  have p0 : W5.cell? ⟨w.heap.size, 0, none⟩ = some (.int .i64 d) := cell_blk hP5 rfl
  have r0 : W5.cell? ⟨w.heap.size + 1, 0, none⟩ = some (.int .i64 0) := cell_blk hR5 rfl
  have r1 : W5.cell? ⟨w.heap.size + 1, 1, none⟩ = some (.slice none 0 0) := cell_blk hR5 rfl
  have rf : ∀ k, W5.frozen? ⟨w.heap.size + 1, k, none⟩ = false := fun k => free_blk hR5
  have hR6 : ((W5.setCell ⟨w.heap.size + 1, 0, none⟩ (.int .i64 d)).setCell ⟨w.heap.size + 1, 1, none⟩ (.slice wa wn wc)).heap[w.heap.size + 1]? = some (.cells #[.int .i64 d, .slice wa wn wc] 24 (0, 0)) := by
    rw [blk_setCell (blk_setCell hR5)]; rfl
  have hf6 : Fr (fun k => k = w.heap.size + 1) W5 ((W5.setCell ⟨w.heap.size + 1, 0, none⟩ (.int .i64 d)).setCell ⟨w.heap.size + 1, 1, none⟩ (.slice wa wn wc)) := ((Fr.refl (fun k => k = w.heap.size + 1) W5).setCell (p := ⟨w.heap.size + 1, 0, none⟩) (.inl rfl) _).setCell (p := ⟨w.heap.size + 1, 1, none⟩) (.inl rfl) _
  have hmk6 : MkAt (w.heap.size + 1 + 1) ((W5.setCell ⟨w.heap.size + 1, 0, none⟩ (.int .i64 d)).setCell ⟨w.heap.size + 1, 1, none⟩ (.slice wa wn wc)) (.slice wa wn wc) ((ddT ys ys.length).filter (keepC d)) := by
    rcases hmk with h | ⟨g, n, cap, tl, h1, h2, h3, h4, h5, h6⟩
    · exact .inl h
    · exact .inr ⟨g, n, cap, tl, h1, h2, h3, h4, h5, h6.keep hf6 (by omega)⟩
  have hW6 : Nw w ((W5.setCell ⟨w.heap.size + 1, 0, none⟩ (.int .i64 d)).setCell ⟨w.heap.size + 1, 1, none⟩ (.slice wa wn wc)) := Fr.trans hW5 hf6 (fun k hk => .inr (by omega))
  have hrr := range_all (C := [.int .i64 d, .slice wa wn wc]) hR6
  have hans : Hid _ := hfin.out _ _ ys ys hst.out hmk6 hW6
  clear hmk hmk6 hW6 hf6 hR6 hW5 hfin hst
  go_wp2
  refine bodyPost_ret (results_cell1 rfl _ (w.heap.size + 1) _ _ rfl rfl hrr Try.rowL Try.sizeL) rfl ?_
  exact hans.out
end Go.Proofs.Ytimgelekpghklaa
