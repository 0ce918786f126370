/-
  Categories in memory: a row that is written in place. It names no function of the program.
-/
import Derived.Test.YtimgelekpghklaaRows
import Derived.Test.YtimgelekpghklaaChecked
import Derived.Test.YtimgelekpghklaaLibFr
import Derived.Test.YtimgelekpghklaaLibAgg
import Derived.Test.YtimgelekpghklaaLibOrd
namespace Go.Proofs.Ytimgelekpghklaa
set_option linter.unusedVariables false
set_option linter.unusedSimpArgs false
set_option maxRecDepth 20000
open Go.RowKit

theorem info_parts3 {P : Program} {t : TypeId} {z : Value} {s b : Nat} (h : (P.info? t).map (fun i => (i.zero, i.size, i.bytes)) = some (some z, s, b)) : ∃ i, P.info? t = some i ∧ i.zero = some z ∧ i.size = s ∧ i.bytes = b := by
  cases hq : P.info? t with
  | none => rw [hq] at h; cases h
  | some i => rw [hq] at h; exact ⟨i, rfl, by simpa using h⟩

theorem nw_trans {a b c : World} (h : Nw a b) (k : Nw b c) : Nw a c := Fr.trans h k (fun _ => False.elim)
theorem nw_refl (a : World) : Nw a a := Fr.refl _ a

theorem Try.infoC : (Try.prog.info? 33).map (fun i => (i.zero, i.size, i.bytes)) = some (some (.agg #[.int .u64 0, .int .i64 0]), 2, 16) := by kernel_rfl

/-- A category with its level. -/
abbrev Cat := Int × Int
def catV (c : Cat) : Value := .agg #[.int .u64 c.1, .int .i64 c.2]
def ccell (c : Cat) : List Value := [.int .u64 c.1, .int .i64 c.2]
def ccells (es : List Cat) : List Value := (es.map ccell).flatten

theorem ccells_nil : ccells [] = [] := rfl
theorem ccells_append (a b : List Cat) : ccells (a ++ b) = ccells a ++ ccells b := by simp [ccells]
theorem ccells_one (e : Cat) : ccells [e] = ccell e := by simp [ccells]
theorem ccells_cons (e : Cat) (es : List Cat) : ccells (e :: es) = .int .u64 e.1 :: .int .i64 e.2 :: ccells es := by simp [ccells, ccell]
theorem ccells_length : ∀ es : List Cat, (ccells es).length = es.length * 2
  | [] => rfl
  | e :: es => by
    have := ccells_length es
    rw [ccells_cons]
    simp [this]
    omega

theorem ccells_get (es : List Cat) (i : Nat) (h : i < es.length) : (ccells es)[i * 2]? = some (.int .u64 es[i].1) ∧ (ccells es)[i * 2 + 1]? = some (.int .i64 es[i].2) := by
  have e : es = es.take i ++ (es[i] :: es.drop (i + 1)) := by simp
  have e2 : ccells es = ccells (es.take i) ++ (ccell es[i] ++ ccells (es.drop (i + 1))) := by
    have := congrArg ccells e
    rw [ccells_append, show es[i] :: es.drop (i + 1) = [es[i]] ++ es.drop (i + 1) from rfl, ccells_append, ccells_one] at this
    exact this
  have hl : (ccells (es.take i)).length = i * 2 := by rw [ccells_length, List.length_take, Nat.min_eq_left (by omega)]
  rw [e2]
  constructor
  · rw [List.getElem?_append_right (by omega), hl]; simp [ccell]
  · rw [List.getElem?_append_right (by omega), hl]; simp [ccell]

theorem ccells_set : ∀ (es : List Cat) (i : Nat) (c : Cat), i < es.length → ((ccells es).set (i * 2) (.int .u64 c.1)).set (i * 2 + 1) (.int .i64 c.2) = ccells (es.set i c)
  | e :: es, 0, c, _ => by simp [ccells_cons]
  | e :: es, i + 1, c, h => by
    have := ccells_set es i c (by simpa using h)
    rw [List.set_cons_succ, ccells_cons, ccells_cons, ← this, show (i + 1) * 2 = i * 2 + 1 + 1 by omega]
    simp

theorem ccells_oneCell (es : List Cat) : ∀ u ∈ ccells es, u.oneCell' = true := by
  intro u hu
  unfold ccells at hu
  obtain ⟨l, hl, hul⟩ := List.mem_flatten.1 hu
  obtain ⟨e, _, rfl⟩ := List.mem_map.1 hl
  simp [ccell] at hul
  rcases hul with rfl | rfl <;> rfl

/-- The block g holds the categories xs, and what is behind them. -/
def CB (w : World) (g : Nat) (xs : List Cat) (tl : List Value) : Prop := w.heap[g]? = some (.cells (ccells xs ++ tl).toArray 33 (0, 0))

theorem CB.lt {w : World} {g : Nat} {xs : List Cat} {tl : List Value} (h : CB w g xs tl) : g < w.heap.size := heap_lt h

theorem CB.get {w : World} {g : Nat} {xs : List Cat} {tl : List Value} (h : CB w g xs tl) (k : Nat) (hk : k < xs.length) :
    w.cell? ⟨g, k * 2, none⟩ = some (.int .u64 xs[k].1) ∧ w.cell? ⟨g, k * 2 + 1, none⟩ = some (.int .i64 xs[k].2) := by
  obtain ⟨h1, h2⟩ := ccells_get xs k hk
  have hl := ccells_length xs
  constructor
  · refine cell_blk h ?_
    rw [List.getElem?_toArray, List.getElem?_append_left (by omega)]; exact h1
  · refine cell_blk h ?_
    rw [List.getElem?_toArray, List.getElem?_append_left (by omega)]; exact h2

theorem CB.free {w : World} {g : Nat} {xs : List Cat} {tl : List Value} (h : CB w g xs tl) (k : Nat) : w.frozen? ⟨g, k, none⟩ = false := free_blk h

theorem CB.keep {w w' : World} {g : Nat} {xs : List Cat} {tl : List Value} (h : CB w g xs tl) {T : Nat → Prop} (hf : Fr T w w') (hb : ¬ T g) : CB w' g xs tl := (hf.block g h.lt hb).trans h

theorem CB.nw {w w' : World} {g : Nat} {xs : List Cat} {tl : List Value} (h : CB w g xs tl) (hf : Nw w w') : CB w' g xs tl := h.keep hf id

/-- One laid anew. -/
theorem CB.set {w : World} {g : Nat} {xs : List Cat} {tl : List Value} (h : CB w g xs tl) (k : Nat) (hk : k < xs.length) (c : Cat) :
    CB ((w.setCell ⟨g, k * 2, none⟩ (.int .u64 c.1)).setCell ⟨g, k * 2 + 1, none⟩ (.int .i64 c.2)) g (xs.set k c) tl := by
  have hl := ccells_length xs
  unfold CB at *
  rw [blk_setCell (blk_setCell h)]
  congr 2
  apply Array.toList_inj.1
  rw [Array.toList_setIfInBounds, Array.toList_setIfInBounds, List.set_append_left _ _ (by omega), List.set_append_left _ _ (by rw [List.length_set]; omega), ccells_set xs k c hk]

theorem CB.setFr {w : World} {g : Nat} (k : Nat) (u v : Value) : Fr (fun i => i = g) w ((w.setCell ⟨g, k * 2, none⟩ u).setCell ⟨g, k * 2 + 1, none⟩ v) :=
  ((Fr.refl (fun i => i = g) w).setCell (p := ⟨g, k * 2, none⟩) (.inl rfl) _).setCell (p := ⟨g, k * 2 + 1, none⟩) (.inl rfl) _

/-- The slice ao of n categories is written in place: its block, or none. -/
def DB (w : World) (ao : Option Addr) (xs : List Cat) (tl : List Value) : Prop := (ao = none ∧ xs = [] ∧ tl = []) ∨ ∃ g, ao = some ⟨g, 0, none⟩ ∧ CB w g xs tl

/-- All stays but the block of ao. -/
def Of (ao : Option Addr) (k : Nat) : Prop := ao = some ⟨k, 0, none⟩

theorem DB.keep {w w' : World} {ao : Option Addr} {xs : List Cat} {tl : List Value} (h : DB w ao xs tl) (hf : Nw w w') : DB w' ao xs tl := by
  rcases h with h | ⟨g, rfl, h⟩
  · exact .inl h
  · exact .inr ⟨g, rfl, h.nw hf⟩

theorem DB.at {w : World} {ao : Option Addr} {xs : List Cat} {tl : List Value} (h : DB w ao xs tl) (hx : 0 < xs.length) : ∃ g, ao = some ⟨g, 0, none⟩ ∧ CB w g xs tl := by
  rcases h with ⟨_, rfl, _⟩ | h
  · simp at hx
  · exact h

theorem fr_of_nw {S : Nat → Prop} {w w' : World} (h : Nw w w') : Fr S w w' := h.mono (fun _ => False.elim)
theorem fr_nw {S : Nat → Prop} {a w w' : World} (h : Fr S a w) (k : Nw w w') : Fr S a w' := h.trans k (fun _ => False.elim)
theorem nw_drew {w w' : World} (h : Nw w.drew w') : Nw w w' := nw_trans (Fr.drew (Fr.refl _ w)) h
end Go.Proofs.Ytimgelekpghklaa
