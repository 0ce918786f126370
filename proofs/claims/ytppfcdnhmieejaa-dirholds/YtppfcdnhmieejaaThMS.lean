/-
  Things in memory.
-/
import Derived.Deep.QuietTactic
import Derived.BigQuiet
import Derived.BigRegion
import Derived.Test.YtppfcdnhmieejaaThPlainS
namespace Go.Proofs.Ytppfcdnhmieejaa
set_option linter.unusedVariables false
set_option linter.unusedSimpArgs false
set_option maxRecDepth 20000
open Go.RowKit

/-- A thing's cells. -/
def thC (t : Th) (uL uC uK uD : Value) : List Value :=
  [.int .u64 t.id, .int .i64 t.kind, .int .i64 t.df, uL, .int .i64 t.cdf, uC, .int .i64 t.quota, .int .i64 t.next, uK, uD, .int .u64 t.r0, .int .u64 t.r1, .int .u64 t.r2, .int .u64 t.r3, .int .i64 t.minted, .int .i64 t.boot, .bool t.halted, .int .u64 t.value,
   .int .u64 t.s0, .int .u64 t.s1, .int .u64 t.s2, .int .u64 t.s3, .int .u64 t.s4, .int .u64 t.s5, .int .u64 t.s6, .int .u64 t.s7]

/-- A thing as a value. -/
def thV (t : Th) (uL uC uK uD : Value) : Value := .agg (thC t uL uC uK uD).toArray

/-- Bytes in blocks of the class X. -/
def BSl (X : Nat → Prop) (w : World) (v : Value) (bs : List UInt8) : Prop := Slp X w v bs.length (bs.map bv)

theorem BSl.form {X : Nat → Prop} {w : World} {v : Value} {bs : List UInt8} (h : BSl X w v bs) : ∃ ao cap, v = .slice ao bs.length cap ∧ bs.length ≤ cap ∧ cap ≤ 9223372036854775807 := by
  obtain ⟨ao, cap, rfl, ⟨h1, h2⟩, _⟩ := h
  exact ⟨ao, cap, rfl, h1, h2⟩

theorem BSl.keep {X X' : Nat → Prop} {w w' : World} {v : Value} {bs : List UInt8} (h : BSl X w v bs) {T : Nat → Prop} (hf : Fr T w w') (hT : ∀ b, X b → b < w.heap.size → ¬ T b) (hX : ∀ b, X b → b < w.heap.size → X' b) : BSl X' w' v bs := by
  obtain ⟨ao, cap, hv, hc, hn, hcs⟩ := h
  refine ⟨ao, cap, hv, hc, hn, fun i c hi => ?_⟩
  obtain ⟨b, off, h1, h2, h3⟩ := hcs i c hi
  have hb : b < w.heap.size := World.block_lt_of_cell? w _ h3
  exact ⟨b, off, h1, hX b h2 hb, by rw [World.cell?_of_block (w := w) (hf.block b hb (hT b h2 hb))]; exact h3⟩

theorem BSl.nw {X : Nat → Prop} {w w' : World} {v : Value} {bs : List UInt8} (h : BSl X w v bs) (hf : Nw w w') : BSl X w' v bs := h.keep hf (fun _ _ _ => id) (fun _ h _ => h)
theorem BSl.mono {X X' : Nat → Prop} {w : World} {v : Value} {bs : List UInt8} (h : BSl X w v bs) (hX : ∀ b, X b → b < w.heap.size → X' b) : BSl X' w v bs := h.keep (Fr.refl (fun _ => False) w) (fun _ _ _ => id) hX
theorem BSl.sl {X : Nat → Prop} {w : World} {v : Value} {bs : List UInt8} (h : BSl X w v bs) : Sl w.heap.size w v bs.length (bs.map bv) := by
  obtain ⟨ao, cap, hv, hc, hn, hcs⟩ := h
  refine ⟨ao, cap, hv, hc, hn, fun i c hi => ?_⟩
  obtain ⟨b, off, h1, h2, h3⟩ := hcs i c hi
  exact ⟨b, off, h1, World.block_lt_of_cell? w _ h3, h3⟩
theorem bsl_of_sl {K : Nat} {w : World} {v : Value} {bs : List UInt8} (h : Sl K w v bs.length (bs.map bv)) : BSl (fun b => b < K) w v bs := h

theorem bsl_nil (X : Nat → Prop) (w : World) : BSl X w (.slice none 0 0) [] := ⟨none, 0, rfl, ⟨Nat.le_refl _, Nat.zero_le _⟩, fun _ => rfl, fun i c h => by simp at h⟩

/-- What a thing's lists hold. -/
structure ThAt (X : Nat → Prop) (w : World) (t : Th) (uL uC uK uD : Value) : Prop where
  l : CSl X w uL t.cats
  c : CSl X w uC t.ccats
  k : CSl X w uK t.links
  d : BSl X w uD t.data

theorem ThAt.keep {X X' : Nat → Prop} {w w' : World} {t : Th} {uL uC uK uD : Value} (h : ThAt X w t uL uC uK uD) {T : Nat → Prop} (hf : Fr T w w') (hT : ∀ b, X b → b < w.heap.size → ¬ T b) (hX : ∀ b, X b → b < w.heap.size → X' b) : ThAt X' w' t uL uC uK uD :=
  ⟨h.l.keep hf hT hX, h.c.keep hf hT hX, h.k.keep hf hT hX, h.d.keep hf hT hX⟩
theorem ThAt.nw {X : Nat → Prop} {w w' : World} {t : Th} {uL uC uK uD : Value} (h : ThAt X w t uL uC uK uD) (hf : Nw w w') : ThAt X w' t uL uC uK uD := h.keep hf (fun _ _ _ => id) (fun _ h _ => h)
theorem ThAt.mono {X X' : Nat → Prop} {w : World} {t : Th} {uL uC uK uD : Value} (h : ThAt X w t uL uC uK uD) (hX : ∀ b, X b → b < w.heap.size → X' b) : ThAt X' w t uL uC uK uD := h.keep (Fr.refl (fun _ => False) w) (fun _ _ _ => id) hX

theorem Try.rowT : (Try.prog.underlying 34).map TypeDesc.isRow = some true := by kernel_rfl
theorem Try.sizeT : (Try.prog.info? 34).map (·.size) = some 26 := by kernel_rfl
theorem Try.zeroTh : (Try.prog.info? 34).bind (·.zero) = some (thV zeroT (.slice none 0 0) (.slice none 0 0) (.slice none 0 0) (.slice none 0 0)) := by kernel_rfl
theorem Try.row4 : (Try.prog.underlying 29).map TypeDesc.isRow = some true := by kernel_rfl
theorem Try.size4 : (Try.prog.info? 29).map (·.size) = some 4 := by kernel_rfl
theorem Try.row8 : (Try.prog.underlying 32).map TypeDesc.isRow = some true := by kernel_rfl
theorem Try.size8 : (Try.prog.info? 32).map (·.size) = some 8 := by kernel_rfl

/-- All of a thing but its lists. -/
def flC (t : Th) : List Value :=
  [.int .u64 t.id, .int .i64 t.kind, .int .i64 t.quota, .int .i64 t.df, .int .i64 t.cdf, .int .i64 t.next, .int .u64 t.r0, .int .u64 t.r1, .int .u64 t.r2, .int .u64 t.r3, .int .i64 t.minted, .int .i64 t.boot, .bool t.halted, .int .u64 t.value,
   .int .u64 t.s0, .int .u64 t.s1, .int .u64 t.s2, .int .u64 t.s3, .int .u64 t.s4, .int .u64 t.s5, .int .u64 t.s6, .int .u64 t.s7]
end Go.Proofs.Ytppfcdnhmieejaa
