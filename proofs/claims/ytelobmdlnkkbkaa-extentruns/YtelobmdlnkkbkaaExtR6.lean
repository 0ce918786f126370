/-
  The document's Alloc.
-/
import Derived.Test.YtelobmdlnkkbkaaExtR5
namespace Go.Proofs.Ytelobmdlnkkbkaa
set_option linter.unusedVariables false
set_option linter.unusedSimpArgs false
set_option maxRecDepth 20000
open Go.RowKit

/-- The variables of the document's Alloc: the map, the result's map, the result's extent. -/
structure AlV (w V : World) (xs : List UInt8) : Prop where
  m : RAt V w.heap.size xs
  r : RAt V (w.heap.size + 1) []
  e : V.heap[w.heap.size + 2]? = some (.cells #[.int .i64 0, .int .i64 0] 34 (0, 0))
  nw : Nw w V

theorem AlV.keep {w V V' : World} {xs : List UInt8} (h : AlV w V xs) {T : Nat → Prop} (hf : Fr T V V') (hT : ∀ k, T k → w.heap.size + 2 < k) : AlV w V' xs :=
  ⟨(hf.block _ (heap_lt h.m) (fun ht => by have := hT _ ht; omega)).trans h.m, (hf.block _ (heap_lt h.r) (fun ht => by have := hT _ ht; omega)).trans h.r,
    (hf.block _ (heap_lt h.e) (fun ht => by have := hT _ ht; omega)).trans h.e, Fr.trans h.nw hf (fun k hk => .inr (by have := hT k hk; omega))⟩

theorem AlV.nw' {w V V' : World} {xs : List UInt8} (h : AlV w V xs) (hf : Nw V V') : AlV w V' xs := h.keep hf (fun _ => False.elim)

theorem alV (w : World) (xs : List UInt8) : AlV w (((w.alloc (.cells (rmc xs).toArray 31)).alloc (.cells (rmc []).toArray 31)).alloc (.cells #[.int .i64 0, .int .i64 0] 34)) xs := by
  refine ⟨(Below.heap_alloc _ _ _ (by simp; omega)).trans (heap_alloc2_old w _ _), (Below.heap_alloc _ _ _ (by simp)).trans (heap_alloc2_new w _ _), ?_, Fr.alloc (Fr.alloc (Fr.alloc (Fr.refl _ w) _) _) _⟩
  have := heap_alloc_new ((w.alloc (.cells (rmc xs).toArray 31)).alloc (.cells (rmc []).toArray 31)) (.cells #[.int .i64 0, .int .i64 0] 34)
  simpa using this

/-- The result written: the map, and the extent. -/
def retW (w V : World) (ys : List UInt8) (x y : Int) : World := ((V.setRow (w.heap.size + 1) (rmc ys).toArray).setCell ⟨w.heap.size + 2, 0, none⟩ (.int .i64 x)).setCell ⟨w.heap.size + 2, 1, none⟩ (.int .i64 y)

theorem AlV.ret {w V : World} {xs : List UInt8} (h : AlV w V xs) (ys : List UInt8) (x y : Int) : RAt (retW w V ys x y) (w.heap.size + 1) ys ∧ (retW w V ys x y).heap[w.heap.size + 2]? = some (.cells #[.int .i64 x, .int .i64 y] 34 (0, 0)) ∧ Nw w (retW w V ys x y) := by
  unfold retW
  have h1 : RAt (V.setRow (w.heap.size + 1) (rmc ys).toArray) (w.heap.size + 1) ys := setRow_heap V _ _ _ 31 _ h.r
  have h2 : (V.setRow (w.heap.size + 1) (rmc ys).toArray).heap[w.heap.size + 2]? = some (.cells #[.int .i64 0, .int .i64 0] 34 (0, 0)) := (setRow_other V _ _ _ (by omega)).trans h.e
  have f1 : Fr (fun k => k = w.heap.size + 2) (V.setRow (w.heap.size + 1) (rmc ys).toArray) (((V.setRow (w.heap.size + 1) (rmc ys).toArray).setCell ⟨w.heap.size + 2, 0, none⟩ (.int .i64 x)).setCell ⟨w.heap.size + 2, 1, none⟩ (.int .i64 y)) :=
    ((Fr.refl (fun k => k = w.heap.size + 2) _).setCell (p := ⟨w.heap.size + 2, 0, none⟩) (.inl rfl) _).setCell (p := ⟨w.heap.size + 2, 1, none⟩) (.inl rfl) _
  refine ⟨(f1.block _ (heap_lt h1) (by omega)).trans h1, ?_, Fr.trans (Fr.setRow h.nw (.inr (by omega)) _) f1 (fun k hk => .inr (by omega))⟩
  rw [blk_setCell (blk_setCell h2)]
  rfl

theorem results_cell3 {P : Program} {W : World} {fn : Func} {p q u : Tmp} {ty tz : TypeId} (h : fn.results = #[.cell p ty, .cell q tz, .tmp u]) (tmps : Array Value) (g g2 : Nat) (cs ds : List Value) (v v2 : Value) (hv : v = .agg cs.toArray) (hv2 : v2 = .agg ds.toArray)
    (hp : tmps.getD p undef = .pointer (some ⟨g, 0, none⟩)) (hq : tmps.getD q undef = .pointer (some ⟨g2, 0, none⟩)) (hc : W.rangeAt g 0 cs) (hd : W.rangeAt g2 0 ds) (hu : (P.underlying ty).map TypeDesc.isRow = some true) (hi : (P.info? ty).map (·.size) = some cs.length)
    (hu2 : (P.underlying tz).map TypeDesc.isRow = some true) (hi2 : (P.info? tz).map (·.size) = some ds.length) :
    (results fn tmps).run P W = .ok (.tuple #[v, v2, tmps.getD u undef]) W := by
  subst hv
  subst hv2
  have hp' : tmps[p]?.getD undef = .pointer (some ⟨g, 0, none⟩) := by simpa using hp
  have hq' : tmps[q]?.getD undef = .pointer (some ⟨g2, 0, none⟩) := by simpa using hq
  cases h1 : P.underlying ty with
  | none => simp [h1] at hu
  | some d =>
    cases h2 : P.underlying tz with
    | none => simp [h2] at hu2
    | some d2 => simp [results, h, hp', hq', asAddr, run_loadVar_mid W g 0 ty cs d hc h1 (by simpa [h1] using hu) hi, run_loadVar_mid W g2 0 tz ds d2 hd h2 (by simpa [h2] using hu2) hi2]
end Go.Proofs.Ytelobmdlnkkbkaa
