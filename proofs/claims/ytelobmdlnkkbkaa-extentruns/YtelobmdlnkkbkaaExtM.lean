/-
  A map of sectors in memory; extents in memory. It names no function of the program.
-/
import Derived.Test.YtelobmdlnkkbkaaRows
import Derived.Test.YtelobmdlnkkbkaaExtPlain
import Derived.Test.YtelobmdlnkkbkaaLibFr
import Derived.Test.YtelobmdlnkkbkaaLibAgg
import Derived.Test.YtelobmdlnkkbkaaLibOrd
namespace Go.Proofs.Ytelobmdlnkkbkaa
set_option linter.unusedVariables false
set_option linter.unusedSimpArgs false
set_option maxRecDepth 20000
open Go.RowKit

theorem info_parts3 {P : Program} {t : TypeId} {z : Value} {s b : Nat} (h : (P.info? t).map (fun i => (i.zero, i.size, i.bytes)) = some (some z, s, b)) : ∃ i, P.info? t = some i ∧ i.zero = some z ∧ i.size = s ∧ i.bytes = b := by
  cases hq : P.info? t with
  | none => rw [hq] at h; cases h
  | some i => rw [hq] at h; exact ⟨i, rfl, by simpa using h⟩

theorem Try.infoE : (Try.prog.info? 34).map (fun i => (i.zero, i.size, i.bytes)) = some (some (.agg #[.int .i64 0, .int .i64 0]), 2, 16) := by kernel_rfl
theorem Try.infoSt : (Try.prog.info? 59).map (fun i => (i.zero, i.size, i.bytes)) = some (some (.int .u8 0), 1, 1) := by kernel_rfl

/-- An extent as a value, and its cells. -/
def ext (s l : Int) : Value := .agg #[.int .i64 s, .int .i64 l]
def ecell (e : Ext) : List Value := [.int .i64 (e.1 : Int), .int .i64 (e.2 : Int)]
def ecells (es : List Ext) : List Value := (es.map ecell).flatten

theorem ecells_nil : ecells [] = [] := rfl
theorem ecells_append (a b : List Ext) : ecells (a ++ b) = ecells a ++ ecells b := by simp [ecells]
theorem ecells_one (e : Ext) : ecells [e] = ecell e := by simp [ecells]
theorem ecells_length : ∀ es : List Ext, (ecells es).length = es.length * 2
  | [] => rfl
  | e :: es => by
    have := ecells_length es
    rw [show e :: es = [e] ++ es from rfl, ecells_append, ecells_one]
    simp [ecell, this]
    omega

theorem ecells_get (es : List Ext) (i : Nat) (h : i < es.length) : (ecells es)[i * 2]? = some (.int .i64 (es[i].1 : Int)) ∧ (ecells es)[i * 2 + 1]? = some (.int .i64 (es[i].2 : Int)) := by
  have e : es = es.take i ++ (es[i] :: es.drop (i + 1)) := by simp
  have e2 : ecells es = ecells (es.take i) ++ (ecell es[i] ++ ecells (es.drop (i + 1))) := by
    have := congrArg ecells e
    rw [ecells_append, show es[i] :: es.drop (i + 1) = [es[i]] ++ es.drop (i + 1) from rfl, ecells_append, ecells_one] at this
    exact this
  have hl : (ecells (es.take i)).length = i * 2 := by rw [ecells_length, List.length_take, Nat.min_eq_left (by omega)]
  rw [e2]
  constructor
  · rw [List.getElem?_append_right (by omega), hl]; simp [ecell]
  · rw [List.getElem?_append_right (by omega), hl]; simp [ecell]

theorem ecells_bump (p : List Ext) (e : Ext) : (ecells (p ++ [e])).set (p.length * 2 + 1) (.int .i64 ((e.2 : Int) + 1)) = ecells (p ++ [(e.1, e.2 + 1)]) := by
  rw [ecells_append, ecells_append, ecells_one, ecells_one, List.set_append, if_neg (by rw [ecells_length]; omega), ecells_length]
  rw [show p.length * 2 + 1 - p.length * 2 = 1 by omega]
  simp [ecell]

theorem ecells_oneCell (es : List Ext) : ∀ u ∈ ecells es, u.oneCell' = true := by
  intro u hu
  unfold ecells at hu
  obtain ⟨l, hl, hul⟩ := List.mem_flatten.1 hu
  obtain ⟨e, _, rfl⟩ := List.mem_map.1 hl
  simp [ecell] at hul
  rcases hul with rfl | rfl <;> rfl

/-- The slice v holds the extents es, in blocks of the class X. -/
def ESl (X : Nat → Prop) (w : World) (v : Value) (es : List Ext) : Prop := Slp X w v es.length (ecells es)

theorem ESl.form {X : Nat → Prop} {w : World} {v : Value} {es : List Ext} (h : ESl X w v es) : ∃ ao cap, v = .slice ao es.length cap ∧ es.length ≤ cap ∧ cap ≤ 9223372036854775807 := by
  obtain ⟨ao, cap, rfl, ⟨h1, h2⟩, _⟩ := h
  exact ⟨ao, cap, rfl, h1, h2⟩

theorem ESl.get {X : Nat → Prop} {w : World} {ao : Option Addr} {n cap : Nat} {es : List Ext} (h : ESl X w (.slice ao n cap) es) (k : Nat) (hk : k < es.length) :
    ∃ q off, ao = some ⟨q, off, none⟩ ∧ X q ∧ w.cell? ⟨q, off + k * 2, none⟩ = some (.int .i64 (es[k].1 : Int)) ∧ w.cell? ⟨q, off + k * 2 + 1, none⟩ = some (.int .i64 (es[k].2 : Int)) := by
  obtain ⟨ao', cap', hv, _, _, hcs⟩ := h
  simp only [Value.slice.injEq] at hv
  obtain ⟨rfl, _, rfl⟩ := hv
  obtain ⟨h1, h2⟩ := ecells_get es k hk
  obtain ⟨q, off, h3, h4, h5⟩ := hcs _ _ h1
  obtain ⟨q', off', h3', _, h5'⟩ := hcs _ _ h2
  rw [h3] at h3'
  simp only [Option.some.injEq, Addr.mk.injEq, and_true] at h3'
  obtain ⟨rfl, rfl⟩ := h3'
  exact ⟨q, off, h3, h4, h5, by rw [Nat.add_assoc]; exact h5'⟩

theorem ESl.keep {X X' : Nat → Prop} {w w' : World} {v : Value} {es : List Ext} (h : ESl X w v es) {T : Nat → Prop} (hf : Fr T w w') (hT : ∀ b, X b → ¬ T b) (hX : ∀ b, X b → b < w.heap.size → X' b) : ESl X' w' v es := by
  obtain ⟨ao, cap, hv, hc, hn, hcs⟩ := h
  refine ⟨ao, cap, hv, hc, hn, fun i c hi => ?_⟩
  obtain ⟨b, off, h1, h2, h3⟩ := hcs i c hi
  have hb : b < w.heap.size := World.block_lt_of_cell? w _ h3
  exact ⟨b, off, h1, hX b h2 hb, by rw [World.cell?_of_block (w := w) (hf.block b hb (hT b h2))]; exact h3⟩

theorem ESl.mono {X X' : Nat → Prop} {w : World} {v : Value} {es : List Ext} (h : ESl X w v es) (hX : ∀ b, X b → b < w.heap.size → X' b) : ESl X' w v es := h.keep (Fr.refl (fun _ => False) w) (fun _ _ => id) hX

theorem ESl.sl {X : Nat → Prop} {w : World} {v : Value} {es : List Ext} (h : ESl X w v es) : Sl w.heap.size w v es.length (ecells es) := by
  obtain ⟨ao, cap, hv, hc, hn, hcs⟩ := h
  refine ⟨ao, cap, hv, hc, hn, fun i c hi => ?_⟩
  obtain ⟨b, off, h1, h2, h3⟩ := hcs i c hi
  exact ⟨b, off, h1, World.block_lt_of_cell? w _ h3, h3⟩

theorem esl_nil (X : Nat → Prop) (w : World) : ESl X w (.slice none 0 0) [] := ⟨none, 0, rfl, ⟨Nat.le_refl _, Nat.zero_le _⟩, fun _ => rfl, fun i c h => by simp [ecells] at h⟩

/-- A row of extents of one's own, all in new memory. -/
def Row (base : Nat) (w : World) (v : Value) (es : List Ext) : Prop := w.ownsRow base 34 2 v es.length (ecells es)

theorem Row.esl {base : Nat} {w : World} {v : Value} {es : List Ext} (h : Row base w v es) : ESl (fun b => base ≤ b) w v es := by
  have := slp_of_owns h
  obtain ⟨ao, cap, hv, hc, hn, hcs⟩ := this
  refine ⟨ao, cap, hv, hc, hn, fun i c hi => ?_⟩
  obtain ⟨b, off, h1, h2, h3⟩ := hcs i c hi
  exact ⟨b, off, h1, (h.lt b h2).1, h3⟩

theorem Row.keep {base : Nat} {w w' : World} {v : Value} {es : List Ext} (h : Row base w v es) {T : Nat → Prop} (hf : Fr T w w') (hT : ∀ k, base ≤ k → k < w.heap.size → ¬ T k) : Row base w' v es :=
  owns_of_block h (fun k e => hf.block k (h.lt k e).2 (hT k (h.lt k e).1 (h.lt k e).2))

theorem Row.nil (base : Nat) (w : World) : Row base w (.slice none 0 0) [] := World.ownsRow_nil _ _ _ _

/-! ### A map in memory -/
structure MapAt (w : World) (b g : Nat) (xs : List UInt8) : Prop where
  obj : w.heap[b]? = some (.cells #[.slice (some ⟨g, 0, none⟩) xs.length xs.length] 58 (0, 0))
  st : w.heap[g]? = some (.cells (xs.map bv).toArray 59 (0, 0))
  n : xs.length ≤ 1024

theorem MapAt.ne {w : World} {b g : Nat} {xs : List UInt8} (h : MapAt w b g xs) : b ≠ g := by
  intro e
  subst e
  have h1 := h.obj
  rw [h.st] at h1
  simp at h1

theorem MapAt.lt {w : World} {b g : Nat} {xs : List UInt8} (h : MapAt w b g xs) : b < w.heap.size ∧ g < w.heap.size := ⟨heap_lt h.obj, heap_lt h.st⟩

theorem MapAt.keep {w w' : World} {b g : Nat} {xs : List UInt8} (h : MapAt w b g xs) {T : Nat → Prop} (hf : Fr T w w') (hb : ¬ T b) (hg : ¬ T g) : MapAt w' b g xs :=
  ⟨(hf.block b h.lt.1 hb).trans h.obj, (hf.block g h.lt.2 hg).trans h.st, h.n⟩

theorem MapAt.nw {w w' : World} {b g : Nat} {xs : List UInt8} (h : MapAt w b g xs) (hf : Nw w w') : MapAt w' b g xs := h.keep hf id id

theorem MapAt.c0 {w : World} {b g : Nat} {xs : List UInt8} (h : MapAt w b g xs) : w.cell? ⟨b, 0, none⟩ = some (.slice (some ⟨g, 0, none⟩) xs.length xs.length) := cell_blk h.obj rfl

theorem MapAt.cell {w : World} {b g : Nat} {xs : List UInt8} (h : MapAt w b g xs) (k : Nat) (hk : k < xs.length) : w.cell? ⟨g, k, none⟩ = some (.int .u8 (xs[k].toNat : Int)) := cell_blk h.st (by simp [hk, bv])

theorem MapAt.free {w : World} {b g : Nat} {xs : List UInt8} (h : MapAt w b g xs) (k : Nat) : w.frozen? ⟨g, k, none⟩ = false := free_blk h.st

/-- One sector turned. -/
theorem MapAt.set {w : World} {b g : Nat} {xs : List UInt8} (h : MapAt w b g xs) (k : Nat) (x : UInt8) : MapAt (w.setCell ⟨g, k, none⟩ (bv x)) b g (xs.set k x) := by
  have hf : Fr (fun i => i = g) w (w.setCell ⟨g, k, none⟩ (bv x)) := (Fr.refl (fun i => i = g) w).setCell (p := ⟨g, k, none⟩) (.inl rfl) _
  refine ⟨?_, ?_, by rw [List.length_set]; exact h.n⟩
  · rw [hf.block b h.lt.1 h.ne, List.length_set]; exact h.obj
  · rw [blk_setCell h.st]; simp [List.map_set]

theorem MapAt.setFr {w : World} {g : Nat} (k : Nat) (v : Value) : Fr (fun i => i = g) w (w.setCell ⟨g, k, none⟩ v) := (Fr.refl (fun i => i = g) w).setCell (p := ⟨g, k, none⟩) (.inl rfl) _

theorem nw_trans {a b c : World} (h : Nw a b) (k : Nw b c) : Nw a c := Fr.trans h k (fun _ => False.elim)
theorem nw_refl (a : World) : Nw a a := Fr.refl _ a
theorem u8_int_inj {x y : UInt8} (h : (x.toNat : Int) = (y.toNat : Int)) : x = y := UInt8.toNat_inj.1 (by omega)
theorem u8_beq (x y : UInt8) : (((x.toNat : Int) == (y.toNat : Int)) : Bool) = decide (x = y) := by
  rw [Bool.eq_iff_iff]
  simp only [beq_iff_eq, decide_eq_true_eq]
  exact ⟨u8_int_inj, fun h => by rw [h]⟩

theorem sl_litN (w : World) (cs : Array Value) (t n N : Nat) (hN : N = w.heap.size) (hn : n ≤ 1000000000) : Sl (N + 1) (w.alloc (.cells cs t)) (.slice (some ⟨N, 0, none⟩) n n) n cs.toList := by
  subst hN; exact sl_lit w cs t n hn
end Go.Proofs.Ytelobmdlnkkbkaa
