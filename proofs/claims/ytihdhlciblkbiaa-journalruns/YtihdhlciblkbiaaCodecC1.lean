/-
  Fields copied; fields compared.
-/
import Derived.Test.YtihdhlciblkbiaaRows
import Derived.Test.YtihdhlciblkbiaaCodecR2
namespace Go.Proofs.Ytihdhlciblkbiaa
set_option linter.unusedVariables false
set_option linter.unusedSimpArgs false
set_option maxRecDepth 20000
open Go.RowKit

theorem Try.info79 : (Try.prog.info? 79).map (fun i => (i.zero, i.size, i.bytes)) = some (some (.agg #[.int .u64 0, .slice none 0 0]), 2, 32) := by kernel_rfl

/-- Cells of fields: two a field, the bytes in blocks of one class. -/
def FldX (X : Nat → Prop) (w : World) (fs : List Fld) (cs : List Value) : Prop :=
  cs.length = fs.length * 2 ∧ ∀ i f, fs[i]? = some f → ∃ bvv, cs[i * 2]? = some (.int .u64 (f.num : Nat)) ∧ cs[i * 2 + 1]? = some bvv ∧
    Slp X w bvv f.bytes.length (f.bytes.map bv) ∧ f.num < 18446744073709551616 ∧ f.bytes.length ≤ 140737488355328

theorem FldX.nil (X : Nat → Prop) (w : World) : FldX X w [] [] := ⟨rfl, fun i f h => by simp at h⟩

theorem FldX.keep {X X' : Nat → Prop} {w w' : World} {fs : List Fld} {cs : List Value} (h : FldX X w fs cs) (hX : ∀ b, X b → X' b ∧ w'.heap[b]? = w.heap[b]?) : FldX X' w' fs cs := by
  refine ⟨h.1, fun i f hi => ?_⟩
  obtain ⟨bvv, h1, h2, h3, h4⟩ := h.2 i f hi
  exact ⟨bvv, h1, h2, h3.keep hX, h4⟩

theorem FldX.push {X : Nat → Prop} {w : World} {fs : List Fld} {cs : List Value} (h : FldX X w fs cs) (f : Fld) (bvv : Value) (hs : Slp X w bvv f.bytes.length (f.bytes.map bv)) (hn : f.num < 18446744073709551616) (hl : f.bytes.length ≤ 140737488355328) :
    FldX X w (fs ++ [f]) (cs ++ [.int .u64 (f.num : Nat), bvv]) := by
  refine ⟨by simp [h.1]; omega, fun i g hi => ?_⟩
  by_cases hlt : i < fs.length
  · rw [List.getElem?_append_left hlt] at hi
    obtain ⟨b1, h1, h2, h3⟩ := h.2 i g hi
    exact ⟨b1, by rw [List.getElem?_append_left (by rw [h.1]; omega)]; exact h1, by rw [List.getElem?_append_left (by rw [h.1]; omega)]; exact h2, h3⟩
  · have hil : i < (fs ++ [f]).length := (List.getElem?_eq_some_iff.1 hi).1
    have : i = fs.length := by simp at hil; omega
    subst this
    simp at hi
    subst hi
    refine ⟨bvv, ?_, ?_, hs, hn, hl⟩
    · rw [← h.1]; simp
    · rw [← h.1, List.getElem?_append_right (by omega)]; simp

theorem fieldsAt_of_own {X : Nat → Prop} {w : World} {base : Nat} {v : Value} {fs : List Fld} {cs : List Value} (ho : w.ownsRow base 79 2 v fs.length cs) (h : FldX X w fs cs) (hX : ∀ b, X b → b < w.heap.size) : FieldsAt w.heap.size w v fs := by
  have hs := sl_of_owns ho
  obtain ⟨ao, cap, rfl, hc, hn, hcs⟩ := hs
  refine ⟨ao, cap, rfl, hc.1, hn, fun i f hi => ?_⟩
  obtain ⟨bvv, h1, h2, h3, h4⟩ := h.2 i f hi
  obtain ⟨b, off, ha, hb, hcell⟩ := hcs _ _ h1
  obtain ⟨b', off', ha', _, hcell'⟩ := hcs _ _ h2
  rw [ha] at ha'
  simp only [Option.some.injEq, Addr.mk.injEq, and_true] at ha'
  obtain ⟨rfl, rfl⟩ := ha'
  exact ⟨b, off, bvv, ha, hb, hcell, by rw [Nat.add_assoc]; exact hcell', h3.sl hX, h4⟩

theorem owns_ne2 {w : World} {base e size n g l cap F : Nat} {xs : List Value} (_h : w.ownsRow base e size (.slice (some ⟨g, 0, none⟩) l cap) n xs) (hF : F < g) : some F ≠ (Value.slice (some ⟨g, 0, none⟩) l cap).ownBlock := by
  simp [Value.ownBlock]
  omega

/-- What a round of a copy keeps. -/
structure CopyAt (w wr : World) (o : Value) (fs : List Fld) (cs : List Value) : Prop where
  own : wr.ownsRow w.heap.size 79 2 o fs.length cs
  fld : FldX (fun b => b < wr.heap.size ∧ o.ownBlock ≠ some b) wr fs cs
  bel : Below w.heap.size w wr

theorem copyAt_start (w : World) : CopyAt w (w.alloc (.cells #[] 79)) (.slice (some ⟨w.heap.size, 0, none⟩) 0 0) [] [] :=
  ⟨World.ownsRow_lit w #[] 0 (Nat.le_refl _) (by decide) rfl, FldX.nil _ _, (Below.refl _ _).alloc (Nat.le_refl _) _⟩

/-- A field more: w6 holds the new bytes at a block that was not there in wr; w9 is what the append leaves. -/
theorem copyAt_step {w wr w6 w9 : World} {o v6 v9 : Value} {fs : List Fld} {cs : List Value} (f : Fld) (h : CopyAt w wr o fs cs) (hb : Below wr.heap.size wr w6)
    {X6 : Nat → Prop} (hs6 : Slp X6 w6 v6 f.bytes.length (f.bytes.map bv)) (h6 : ∀ b, X6 b → wr.heap.size ≤ b ∧ b < w6.heap.size) (hn : f.num < 18446744073709551616) (hl : f.bytes.length ≤ 140737488355328)
    (obj : Obj) (ho9 : w9.ownsRow w.heap.size 79 2 v9 (fs ++ [f]).length (cs ++ [.int .u64 (f.num : Nat), v6])) (hg : (w6.alloc obj).grownBy w9 o.ownBlock) (hat : v9.ownBlock = o.ownBlock ∨ v9.ownBlock = some (w6.heap.size + 1)) :
    CopyAt w w9 v9 (fs ++ [f]) (cs ++ [.int .u64 (f.num : Nat), v6]) := by
  have hsz6 := hb.size
  have hsz9 := hg.size
  simp only [World.size_alloc] at hsz9
  have hoo : ∀ b, o.ownBlock = some b → w.heap.size ≤ b ∧ b < wr.heap.size := fun b hb' => h.own.lt b hb'
  have keep6 : ∀ b, b < w6.heap.size → o.ownBlock ≠ some b → w9.heap[b]? = w6.heap[b]? := fun b hb1 hb2 =>
    (hg.block b (by simp; omega) (Ne.symm hb2)).trans (Below.heap_alloc w6 obj b hb1)
  have hne9 : ∀ b, b < w6.heap.size → o.ownBlock ≠ some b → v9.ownBlock ≠ some b := by
    intro b hb1 hb2 he
    rcases hat with h1 | h1
    · exact hb2 (h1.symm.trans he)
    · rw [h1] at he
      simp at he
      omega
  refine ⟨ho9, FldX.push ?_ f v6 ?_ hn hl, ?_⟩
  · refine h.fld.keep fun b hx => ?_
    have hb1 : b < w6.heap.size := by omega
    exact ⟨⟨by omega, hne9 b hb1 hx.2⟩, (keep6 b hb1 hx.2).trans (hb.block b hx.1)⟩
  · refine hs6.keep fun b hx => ?_
    obtain ⟨h1, h2⟩ := h6 b hx
    have hb2 : o.ownBlock ≠ some b := fun e => by have := (hoo b e).2; omega
    exact ⟨⟨by omega, hne9 b h2 hb2⟩, keep6 b h2 hb2⟩
  · have h1 : Below w.heap.size w w6 := h.bel.trans (hb.mono h.bel.size)
    have := h.bel.size
    refine (h1.alloc (by omega) obj).grown hg (by simp; omega) (fun b hb' => (hoo b hb').1)

end Go.Proofs.Ytihdhlciblkbiaa
