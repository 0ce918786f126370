/-
  A law's own list of records beside a disk and a journal.
-/
import Derived.Test.YtihdhlciblkbiaaJourA1
namespace Go.Proofs.Ytihdhlciblkbiaa
set_option linter.unusedVariables false
set_option linter.unusedSimpArgs false
set_option maxRecDepth 20000
open Go.RowKit

theorem JC.fr {base : Nat} {w w' : World} {b : Nat} {S : Nat → Prop} {D : Dk} {j f gen t : Nat} {l : List (List UInt8)} (h : JC base w b S D j f gen t l) {T : Nat → Prop} (hf : Fr T w w') (hS : ∀ k, S k → ¬ T k) (hj : ¬ T j) : JC base w' b S D j f gen t l :=
  ⟨h.d.keep hf hS, h.jr.fr hf hj, h.n, h.c, h.g⟩

/-- The list of records v, in memory behind w, its records in memory ahead of it; beside the disk and the journal. -/
structure WantAt (w wr : World) (S : Nat → Prop) (j : Nat) (v : Value) (l : List (List UInt8)) (cs : List Value) : Prop where
  own : wr.ownsRow w.heap.size 37 1 v l.length cs
  rcs : RecX (fun q => q < w.heap.size) wr l cs
  ns : ∀ q, v.ownBlock = some q → ¬ S q ∧ q ≠ j
  nw : Nw w wr

theorem WantAt.keep {w wr w' : World} {S : Nat → Prop} {j : Nat} {v : Value} {l : List (List UInt8)} {cs : List Value} (h : WantAt w wr S j v l cs) (hn : Nw wr w') : WantAt w w' S j v l cs :=
  ⟨owns_keep h.own (below_of_nw hn), h.rcs.keep (fun q hq hlt => ⟨hq, hn.block q hlt id⟩), h.ns, h.nw.trans hn⟩

theorem WantAt.add {w wr w' : World} {S S' : Nat → Prop} {j : Nat} {v : Value} {l : List (List UInt8)} {cs : List Value} (h : WantAt w wr S j v l cs) (hf : Fr (fun k => S k ∨ k = j) wr w') (hS' : ∀ k, S' k → S k ∨ wr.heap.size ≤ k)
    (hge : ∀ k, S k → w.heap.size ≤ k) (hj : w.heap.size ≤ j) : WantAt w w' S' j v l cs := by
  refine ⟨owns_of_block h.own (fun k hk => hf.block k (h.own.lt k hk).2 (fun e => e.elim (h.ns k hk).1 (h.ns k hk).2)), h.rcs.keep (fun q hq hlt => ⟨hq, hf.block q hlt (fun e => e.elim (fun e => by have := hge q e; omega) (fun e => by omega))⟩), fun q hq => ⟨fun e => ?_, (h.ns q hq).2⟩,
    Fr.trans h.nw hf (fun k hk => .inr (hk.elim (hge k) (fun e => by omega)))⟩
  rcases hS' q e with e | e
  · exact (h.ns q hq).1 e
  · have := (h.own.lt q hq).2
    omega

/-- One more record in the list. -/
theorem WantAt.push {w wr W3 : World} {S : Nat → Prop} {j : Nat} {v v3 u : Value} {l : List (List UInt8)} {cs : List Value} {x : List UInt8} {o : Obj} (h : WantAt w wr S j v l cs) (hx : Sl w.heap.size wr u x.length (x.map bv)) (hxl : x.length ≤ 140737488355328)
    (ho : W3.ownsRow w.heap.size 37 1 v3 (l.length + 1) (cs ++ [u])) (hg : (wr.alloc o).grownBy W3 v.ownBlock) (hv : v3.ownBlock = v.ownBlock ∨ v3.ownBlock = some (wr.alloc o).heap.size) (hS : ∀ k, S k → k < wr.heap.size) (hj : j < wr.heap.size) :
    WantAt w W3 S j v3 (l ++ [x]) (cs ++ [u]) ∧ Fr (fun k => v.ownBlock = some k) wr W3 := by
  have hal : (wr.alloc o).heap.size = wr.heap.size + 1 := by simp
  have hfr : Fr (fun k => v.ownBlock = some k) wr W3 := Fr.grown ((Fr.refl _ wr).alloc o) hg (fun k hk => .inl hk)
  have hgb : ∀ q, q < w.heap.size → W3.heap[q]? = wr.heap[q]? := fun q hq => hfr.block q (Nat.lt_of_lt_of_le hq h.nw.size) (fun e => by have := (h.own.lt q e).1; omega)
  refine ⟨⟨by rw [List.length_append]; exact ho, RecX.push (h.rcs.keep (fun q hq hlt => ⟨hq, hgb q hq⟩)) ?_ hxl, fun q hq => ?_, ?_⟩, hfr⟩
  · exact Slp.keep (Slp.of_sl hx) (fun q hq => ⟨hq, hgb q hq⟩)
  · rcases hv with h1 | h1
    · exact h.ns q (h1.symm.trans hq)
    · rw [h1] at hq
      simp only [Option.some.injEq] at hq
      exact ⟨fun e => by have := hS q e; omega, by omega⟩
  · exact Fr.trans h.nw hfr (fun k hk => .inr (h.own.lt k hk).1)

theorem WantAt.parts {w wr : World} {S : Nat → Prop} {j : Nat} {v : Value} {l : List (List UInt8)} {cs : List Value} (h : WantAt w wr S j v l cs) : Parts wr.heap.size wr v l := parts_of_own h.own h.rcs

/-- A copy of bytes, all new. -/
theorem copy_slp {w W2 : World} {v : Value} {xs : List UInt8} {B : Nat} {S : Nat → Prop} (ho : W2.ownsRow B 5 1 v xs.length (xs.map bv)) (hS : ∀ k, S k → k < B) : Slp (fun k => ¬ S k) W2 v xs.length (xs.map bv) :=
  (slp_of_owns ho).keep (fun b hb => ⟨fun h => by have := hS b h; have := (ho.lt b hb).1; omega, rfl⟩)
end Go.Proofs.Ytihdhlciblkbiaa
