/-
  What the two laws on pairs keep while a sector is made of one of a pair.
-/
import Derived.Test.YtpkefojkehahlaaSealA1
import Derived.Test.YtpkefojkehahlaaLibOpen
import Derived.Test.YtpkefojkehahlaaLibTree
namespace Go.Proofs.Ytpkefojkehahlaa
set_option linter.unusedVariables false
set_option linter.unusedSimpArgs false
open Go.RowKit

/-- The pair of marks and the pair of bodies, each in its variable. -/
structure TwAt (w wr : World) (a b : Nat) (c0 c1 : Value) : Prop where
  b0 : wr.heap[w.heap.size]? = some (.cells #[.int .u64 (a : Int), .int .u64 (b : Int)] 37 (0, 0))
  b1 : wr.heap[w.heap.size + 1]? = some (.cells #[c0, c1] 38 (0, 0))
  bel : Below w.heap.size w wr

theorem TwAt.start (w : World) (a b : Nat) (c0 c1 : Value) : TwAt w ((w.alloc (.cells #[.int .u64 (a : Int), .int .u64 (b : Int)] 37)).alloc (.cells #[c0, c1] 38)) a b c0 c1 :=
  ⟨heap_alloc2_old w _ _, heap_alloc2_new w _ _, ((Below.refl _ _).alloc (Nat.le_refl _) _).alloc (by simp) _⟩

theorem TwAt.size {w wr : World} {a b : Nat} {c0 c1 : Value} (h : TwAt w wr a b c0 c1) : w.heap.size + 2 ≤ wr.heap.size := by have := heap_lt h.b1; omega

theorem TwAt.keep {w wr w1 : World} {a b : Nat} {c0 c1 : Value} (h : TwAt w wr a b c0 c1) (hb : Below wr.heap.size wr w1) : TwAt w w1 a b c0 c1 :=
  ⟨keep_blk h.b0 hb, keep_blk h.b1 hb, h.bel.trans (hb.mono h.bel.size)⟩

theorem TwAt.drew {w wr : World} {a b : Nat} {c0 c1 : Value} (h : TwAt w wr a b c0 c1) : TwAt w wr.drew a b c0 c1 := ⟨h.b0, h.b1, h.bel.drew⟩

theorem TwAt.beyond {w wr w1 : World} {a b : Nat} {c0 c1 : Value} (h : TwAt w wr a b c0 c1) (hb : Below (w.heap.size + 2) wr w1) : TwAt w w1 a b c0 c1 :=
  ⟨(hb.block _ (by omega)).trans h.b0, (hb.block _ (by omega)).trans h.b1, h.bel.trans (hb.mono (by omega))⟩

/-- What a region reads. -/
def TwS (N : Nat) (a b : Nat) (c0 c1 : Value) (w : World) : Prop :=
  w.cell? ⟨N, 0, none⟩ = some (.int .u64 (a : Int)) ∧ w.cell? ⟨N, 1, none⟩ = some (.int .u64 (b : Int)) ∧ w.cell? ⟨N + 1, 0, none⟩ = some c0 ∧ w.cell? ⟨N + 1, 1, none⟩ = some c1

theorem TwAt.s {w wr : World} {a b : Nat} {c0 c1 : Value} (h : TwAt w wr a b c0 c1) : TwS w.heap.size a b c0 c1 wr :=
  ⟨cell_blk h.b0 rfl, cell_blk h.b0 rfl, cell_blk h.b1 rfl, cell_blk h.b1 rfl⟩

/-- Within a region that began at W: besides, the row that is appended to, and the sector's variable, where they are there. -/
structure RgAt (w W wr : World) (a b : Nat) (c0 c1 : Value) (rv : Option (Value × List UInt8)) (G : Option Nat) : Prop where
  tw0 : TwAt w W a b c0 c1
  bel : Below W.heap.size W wr
  row : ∀ v xs, rv = some (v, xs) → wr.ownsRow W.heap.size 5 1 v xs.length (xs.map bv)
  var : ∀ g, G = some g → W.heap.size ≤ g ∧ wr.heap[g]? = some (.cells (z128.map bv).toArray 27 (0, 0))
  apart : ∀ v xs g, rv = some (v, xs) → G = some g → v.ownBlock ≠ some g

section
variable {w W wr w1 : World} {a b : Nat} {c0 c1 : Value} {rv : Option (Value × List UInt8)} {G : Option Nat}

theorem RgAt.tw (h : RgAt w W wr a b c0 c1 rv G) : TwAt w wr a b c0 c1 := h.tw0.keep h.bel

theorem RgAt.start (h : TwAt w W a b c0 c1) : RgAt w W W.drew a b c0 c1 none none :=
  ⟨h, (Below.refl _ _).drew, fun _ _ e => (by cases e), fun _ e => (by cases e), fun _ _ _ e => (by cases e)⟩

theorem RgAt.call (h : RgAt w W wr a b c0 c1 rv G) (hb : Below wr.heap.size wr w1) : RgAt w W w1 a b c0 c1 rv G :=
  ⟨h.tw0, h.bel.trans (hb.mono h.bel.size), fun v xs e => owns_of_block (h.row v xs e) (fun k hk => hb.block k ((h.row v xs e).lt k hk).2), fun g e => ⟨(h.var g e).1, keep_blk (h.var g e).2 hb⟩, h.apart⟩

theorem RgAt.makeB (h : RgAt w W wr a b c0 c1 none G) : RgAt w W (wr.alloc (.cells #[] 5)) a b c0 c1 (some (.slice (some ⟨wr.heap.size, 0, none⟩) 0 0, [])) G := by
  have hb : Below wr.heap.size wr (wr.alloc (.cells #[] 5)) := (Below.refl _ _).alloc (Nat.le_refl _) _
  refine ⟨h.tw0, h.bel.trans (hb.mono h.bel.size), fun v xs e => ?_, fun g e => ⟨(h.var g e).1, keep_blk (h.var g e).2 hb⟩, fun v xs g e eg => ?_⟩
  · simp only [Option.some.injEq, Prod.mk.injEq] at e
    obtain ⟨rfl, rfl⟩ := e
    exact World.ownsRow_lit wr #[] 0 h.bel.size (by decide) rfl
  · simp only [Option.some.injEq, Prod.mk.injEq] at e
    obtain ⟨rfl, rfl⟩ := e
    have := heap_lt (h.var g eg).2
    simp only [Value.ownBlock, ne_eq, Option.some.injEq]
    omega

theorem RgAt.makeA (h : RgAt w W wr a b c0 c1 rv none) : RgAt w W (wr.alloc (.cells (z128.map bv).toArray 27)) a b c0 c1 rv (some wr.heap.size) := by
  have hb : Below wr.heap.size wr (wr.alloc (.cells (z128.map bv).toArray 27)) := (Below.refl _ _).alloc (Nat.le_refl _) _
  refine ⟨h.tw0, h.bel.trans (hb.mono h.bel.size), fun v xs e => owns_of_block (h.row v xs e) (fun k hk => hb.block k ((h.row v xs e).lt k hk).2), fun g e => ?_, fun v xs g e eg hv => ?_⟩
  · simp only [Option.some.injEq] at e
    subst e
    exact ⟨h.bel.size, heap_alloc_new wr _⟩
  · simp only [Option.some.injEq] at eg
    subst eg
    have := ((h.row v xs e).lt _ hv).2
    omega

theorem RgAt.grow {v v1 : Value} {ys : List UInt8} (h : RgAt w W wr a b c0 c1 (some (v, [])) G) (ho : w1.ownsRow W.heap.size 5 1 v1 (0 + ys.length) ([] ++ ys.map bv)) (hg : wr.grownBy w1 v.ownBlock)
    (hv : v1.ownBlock = v.ownBlock ∨ v1.ownBlock = some wr.heap.size) : RgAt w W w1 a b c0 c1 (some (v1, ys)) G := by
  have hrow := h.row v [] rfl
  refine ⟨h.tw0, h.bel.grown hg h.bel.size (fun k hk => (hrow.lt k hk).1), fun v2 xs e => ?_, fun g e => ⟨(h.var g e).1, ?_⟩, fun v2 xs g e eg hv2 => ?_⟩
  · simp only [Option.some.injEq, Prod.mk.injEq] at e
    obtain ⟨rfl, rfl⟩ := e
    simpa using ho
  · rw [hg.block g (heap_lt (h.var g e).2) (fun e2 => h.apart v [] g rfl e e2.symm)]
    exact (h.var g e).2
  · simp only [Option.some.injEq, Prod.mk.injEq] at e
    obtain ⟨rfl, rfl⟩ := e
    rcases hv with hv | hv
    · exact h.apart v [] g rfl eg (hv.symm.trans hv2)
    · have := heap_lt (h.var g eg).2
      rw [hv] at hv2
      simp only [Option.some.injEq] at hv2
      omega

theorem RgAt.put {g : Nat} (h : RgAt w W wr a b c0 c1 rv (some g)) (L : List UInt8) :
    TwAt w (wr.setRow g (L.map bv).toArray) a b c0 c1 ∧ Below W.heap.size W (wr.setRow g (L.map bv).toArray) ∧ (wr.setRow g (L.map bv).toArray).heap[g]? = some (.cells (L.map bv).toArray 27 (0, 0)) := by
  have hb : Below W.heap.size W (wr.setRow g (L.map bv).toArray) := below_setRow h.bel (h.var g rfl).1 _
  exact ⟨h.tw0.keep hb, hb, setRow_heap _ _ _ _ 27 _ (h.var g rfl).2⟩
end
end Go.Proofs.Ytpkefojkehahlaa
