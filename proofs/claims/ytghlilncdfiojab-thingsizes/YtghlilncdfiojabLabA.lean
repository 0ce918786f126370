/-
  LabM, LabPlain, LabPlain2, LabS5, LabPlain3, LabC1, LabC3, LabPlain4, LabD1, LabD2, LabD3, LabPlain5, LabD4, LabD5, LabR60, LabOpen, LabPlain6, LabR1, LabR2: in one text.
-/
import Derived.Test.YtghlilncdfiojabChecked
import Derived.Test.YtghlilncdfiojabRows
import Derived.Test.YtghlilncdfiojabLibA
import Derived.BigRegion
import Derived.BigQuiet
import Derived.Shelf.Abstract
import Derived.Deep.DeepCutAuto
import Derived.Deep.CutBlock
import Derived.Lib.SliceRun
import Derived.Deep.QuietTactic
import Derived.Deep.Slices
import Derived.ProofKit
import Derived.OpenShut
import Derived.SizedLaws
import Derived.Laws.StructEq
namespace Go.Proofs.Ytghlilncdfiojab
set_option linter.unusedVariables false
set_option linter.unusedSimpArgs false
set_option maxRecDepth 20000
open Go.RowKit

theorem info_parts3 {P : Program} {t : TypeId} {z : Value} {s b : Nat} (h : (P.info? t).map (fun i => (i.zero, i.size, i.bytes)) = some (some z, s, b)) : ∃ i, P.info? t = some i ∧ i.zero = some z ∧ i.size = s ∧ i.bytes = b := by
  cases hq : P.info? t with
  | none => rw [hq] at h; cases h
  | some i => rw [hq] at h; exact ⟨i, rfl, by simpa using h⟩

theorem nw_trans {a b c : World} (h : Nw a b) (k : Nw b c) : Nw a c := Fr.trans h k (fun _ => False.elim)
theorem nw_refl (a : World) : Nw a a := Fr.refl _ a

/-- A category with its level. -/
abbrev Cat := Int × Int
def ccell (c : Cat) : List Value := [.int .u64 c.1, .int .i64 c.2]
def ccells (es : List Cat) : List Value := (es.map ccell).flatten

theorem ccells_append (a b : List Cat) : ccells (a ++ b) = ccells a ++ ccells b := by simp [ccells]
theorem ccells_one (e : Cat) : ccells [e] = ccell e := by simp [ccells]
theorem ccells_cons (e : Cat) (es : List Cat) : ccells (e :: es) = .int .u64 e.1 :: .int .i64 e.2 :: ccells es := by simp [ccells, ccell]
theorem ccells_length : ∀ es : List Cat, (ccells es).length = es.length * 2
  | [] => rfl
  | e :: es => by
    have := ccells_length es
    rw [ccells_cons]
    simp [this]
    omega

theorem ccells_get (es : List Cat) (i : Nat) (h : i < es.length) : (ccells es)[i * 2]? = some (.int .u64 es[i].1) ∧ (ccells es)[i * 2 + 1]? = some (.int .i64 es[i].2) := by
  have e : es = es.take i ++ (es[i] :: es.drop (i + 1)) := by simp
  have e2 : ccells es = ccells (es.take i) ++ (ccell es[i] ++ ccells (es.drop (i + 1))) := by
    have := congrArg ccells e
    rw [ccells_append, show es[i] :: es.drop (i + 1) = [es[i]] ++ es.drop (i + 1) from rfl, ccells_append, ccells_one] at this
    exact this
  have hl : (ccells (es.take i)).length = i * 2 := by rw [ccells_length, List.length_take, Nat.min_eq_left (by omega)]
  rw [e2]
  constructor
  · rw [List.getElem?_append_right (by omega), hl]; simp [ccell]
  · rw [List.getElem?_append_right (by omega), hl]; simp [ccell]

theorem ccells_set : ∀ (es : List Cat) (i : Nat) (c : Cat), i < es.length → ((ccells es).set (i * 2) (.int .u64 c.1)).set (i * 2 + 1) (.int .i64 c.2) = ccells (es.set i c)
  | e :: es, 0, c, _ => by simp [ccells_cons]
  | e :: es, i + 1, c, h => by
    have := ccells_set es i c (by simpa using h)
    rw [List.set_cons_succ, ccells_cons, ccells_cons, ← this, show (i + 1) * 2 = i * 2 + 1 + 1 by omega]
    simp

/-- The block g holds the categories xs, and what is behind them. -/
def CB (w : World) (g : Nat) (xs : List Cat) (tl : List Value) : Prop := w.heap[g]? = some (.cells (ccells xs ++ tl).toArray 61 (0, 0))

theorem CB.lt {w : World} {g : Nat} {xs : List Cat} {tl : List Value} (h : CB w g xs tl) : g < w.heap.size := heap_lt h

theorem CB.get {w : World} {g : Nat} {xs : List Cat} {tl : List Value} (h : CB w g xs tl) (k : Nat) (hk : k < xs.length) :
    w.cell? ⟨g, k * 2, none⟩ = some (.int .u64 xs[k].1) ∧ w.cell? ⟨g, k * 2 + 1, none⟩ = some (.int .i64 xs[k].2) := by
  obtain ⟨h1, h2⟩ := ccells_get xs k hk
  have hl := ccells_length xs
  constructor
  · refine cell_blk h ?_
    rw [List.getElem?_toArray, List.getElem?_append_left (by omega)]; exact h1
  · refine cell_blk h ?_
    rw [List.getElem?_toArray, List.getElem?_append_left (by omega)]; exact h2

theorem CB.free {w : World} {g : Nat} {xs : List Cat} {tl : List Value} (h : CB w g xs tl) (k : Nat) : w.frozen? ⟨g, k, none⟩ = false := free_blk h

theorem CB.keep {w w' : World} {g : Nat} {xs : List Cat} {tl : List Value} (h : CB w g xs tl) {T : Nat → Prop} (hf : Fr T w w') (hb : ¬ T g) : CB w' g xs tl := (hf.block g h.lt hb).trans h

theorem CB.nw {w w' : World} {g : Nat} {xs : List Cat} {tl : List Value} (h : CB w g xs tl) (hf : Nw w w') : CB w' g xs tl := h.keep hf id

/-- One laid anew. -/
theorem CB.set {w : World} {g : Nat} {xs : List Cat} {tl : List Value} (h : CB w g xs tl) (k : Nat) (hk : k < xs.length) (c : Cat) :
    CB ((w.setCell ⟨g, k * 2, none⟩ (.int .u64 c.1)).setCell ⟨g, k * 2 + 1, none⟩ (.int .i64 c.2)) g (xs.set k c) tl := by
  have hl := ccells_length xs
  unfold CB at *
  rw [blk_setCell (blk_setCell h)]
  congr 2
  apply Array.toList_inj.1
  rw [Array.toList_setIfInBounds, Array.toList_setIfInBounds, List.set_append_left _ _ (by omega), List.set_append_left _ _ (by rw [List.length_set]; omega), ccells_set xs k c hk]

/-- The slice ao of n categories is written in place: its block, or none. -/
def DB (w : World) (ao : Option Addr) (xs : List Cat) (tl : List Value) : Prop := (ao = none ∧ xs = [] ∧ tl = []) ∨ ∃ g, ao = some ⟨g, 0, none⟩ ∧ CB w g xs tl

theorem DB.keep {w w' : World} {ao : Option Addr} {xs : List Cat} {tl : List Value} (h : DB w ao xs tl) (hf : Nw w w') : DB w' ao xs tl := by
  rcases h with h | ⟨g, rfl, h⟩
  · exact .inl h
  · exact .inr ⟨g, rfl, h.nw hf⟩

theorem DB.at {w : World} {ao : Option Addr} {xs : List Cat} {tl : List Value} (h : DB w ao xs tl) (hx : 0 < xs.length) : ∃ g, ao = some ⟨g, 0, none⟩ ∧ CB w g xs tl := by
  rcases h with ⟨_, rfl, _⟩ | h
  · simp at hx
  · exact h

theorem fr_of_nw {S : Nat → Prop} {w w' : World} (h : Nw w w') : Fr S w w' := h.mono (fun _ => False.elim)
end Go.Proofs.Ytghlilncdfiojab

namespace Go.Proofs.Ytghlilncdfiojab
set_option linter.unusedVariables false
set_option linter.unusedSimpArgs false
set_option maxRecDepth 20000

def gt (xs : List Cat) (i : Nat) : Cat := (xs[i]?).getD (0, 0)
def ky (xs : List Cat) (i : Nat) : Int := (gt xs i).1
def swp (xs : List Cat) (i j : Nat) : List Cat := (xs.set i (gt xs j)).set j (gt xs i)
def Srt (xs : List Cat) (a b : Nat) : Prop := ∀ i j, a ≤ i → i < j → j < b → ky xs i ≤ ky xs j
def seg (xs : List Cat) (a b : Nat) : List Cat := (xs.take b).drop a
def Sw (a b : Nat) (xs ys : List Cat) : Prop := ys.length = xs.length ∧ (∀ i, i < a ∨ b ≤ i → ys[i]? = xs[i]?) ∧ ∀ id : Int, (seg ys a b).filter (fun c => c.1 == id) = (seg xs a b).filter (fun c => c.1 == id)

theorem gt_of {xs : List Cat} {i : Nat} (h : i < xs.length) : gt xs i = xs[i] := by simp [gt, h]
theorem get_gt {xs : List Cat} {i : Nat} (h : i < xs.length) : xs[i]? = some (gt xs i) := by simp [gt, h]
theorem gt_eq {xs ys : List Cat} {i j : Nat} (h : xs[i]? = ys[j]?) : gt xs i = gt ys j := by simp [gt, h]
theorem ky_eq {xs ys : List Cat} {i j : Nat} (h : xs[i]? = ys[j]?) : ky xs i = ky ys j := by simp [ky, gt_eq h]

theorem seg_get (xs : List Cat) (a b i : Nat) : (seg xs a b)[i]? = if a + i < b then xs[a + i]? else none := by
  unfold seg
  rw [List.getElem?_drop, List.getElem?_take]

theorem seg_append (xs : List Cat) {a b c : Nat} (h1 : a ≤ b) (h2 : b ≤ c) (h3 : c ≤ xs.length) : seg xs a c = seg xs a b ++ seg xs b c := by
  apply List.ext_getElem?
  intro i
  have hl : (seg xs a b).length = b - a := by simp [seg]; omega
  rw [List.getElem?_append, hl, seg_get]
  split
  · rename_i h
    split
    · rw [seg_get, if_pos (by omega)]
    · rw [seg_get, if_pos (by omega)]
      congr 1
      omega
  · rename_i h
    split
    · omega
    · rw [seg_get, if_neg (by omega)]

theorem seg_length (xs : List Cat) {a b : Nat} (h : b ≤ xs.length) : (seg xs a b).length = b - a := by simp [seg]; omega

theorem Sw.refl (a b : Nat) (xs : List Cat) : Sw a b xs xs := ⟨rfl, fun _ _ => rfl, fun _ => rfl⟩
theorem Sw.trans {a b : Nat} {xs ys zs : List Cat} (h : Sw a b xs ys) (k : Sw a b ys zs) : Sw a b xs zs := ⟨k.1.trans h.1, fun i hi => (k.2.1 i hi).trans (h.2.1 i hi), fun id => (k.2.2 id).trans (h.2.2 id)⟩

/-- What lies within lay within. -/
theorem Sw.mem {a b : Nat} {xs ys : List Cat} (h : Sw a b xs ys) (hb : b ≤ xs.length) {i : Nat} (h1 : a ≤ i) (h2 : i < b) : ∃ j, a ≤ j ∧ j < b ∧ ys[i]? = xs[j]? := by
  have hl := h.1
  have hy : gt ys i ∈ seg ys a b := by
    apply List.mem_of_getElem? (i := i - a)
    rw [seg_get, if_pos (by omega), show a + (i - a) = i by omega]
    exact get_gt (by omega)
  have hf : gt ys i ∈ (seg ys a b).filter (fun c => c.1 == (gt ys i).1) := List.mem_filter.2 ⟨hy, by simp⟩
  rw [h.2.2] at hf
  obtain ⟨j, hj⟩ := List.getElem?_of_mem (List.mem_filter.1 hf).1
  rw [seg_get] at hj
  split at hj
  · exact ⟨a + j, by omega, by omega, by rw [hj, get_gt (by omega)]⟩
  · cases hj

theorem swp_length (xs : List Cat) (i j : Nat) : (swp xs i j).length = xs.length := by simp [swp]

theorem swp_get (xs : List Cat) {i j : Nat} (hi : i < xs.length) (hj : j < xs.length) (k : Nat) : (swp xs i j)[k]? = if k = j then xs[i]? else if k = i then xs[j]? else xs[k]? := by
  unfold swp
  rw [List.getElem?_set, List.getElem?_set]
  by_cases h1 : j = k
  · subst h1
    simp [hj, get_gt hi]
  · by_cases h2 : i = k
    · subst h2
      have h3 : ¬ i = j := fun h => h1 h.symm
      simp [h1, h3, hi, get_gt hj]
    · have h3 : ¬ k = j := fun h => h1 h.symm
      have h4 : ¬ k = i := fun h => h2 h.symm
      simp [h1, h2, h3, h4]

/-! ### By insertion -/
structure Ins (a i j : Nat) (zs : List Cat) : Prop where
  aj : a ≤ j
  ji : j ≤ i
  il : i < zs.length
  rest : ∀ p q, a ≤ p → p < q → q ≤ i → p ≠ j → q ≠ j → ky zs p ≤ ky zs q
  behind : ∀ q, j < q → q ≤ i → ky zs j ≤ ky zs q

theorem Ins.fin {a i j : Nat} {zs : List Cat} (h : Ins a i j zs) (hk : j = a ∨ ky zs (j - 1) ≤ ky zs j) : Srt zs a (i + 1) := by
  obtain ⟨h1, h3, h4, h5, h6⟩ := h
  intro p q hp hpq hq
  by_cases e1 : p = j
  · subst e1; exact h6 q hpq (by omega)
  · by_cases e2 : q = j
    · subst e2
      rcases hk with hk | hk
      · omega
      · by_cases e3 : p = q - 1
        · subst e3; exact hk
        · exact Int.le_trans (h5 p (q - 1) hp (by omega) (by omega) e1 (by omega)) hk
    · exact h5 p q hp hpq (by omega) e1 e2

end Go.Proofs.Ytghlilncdfiojab

namespace Go.Proofs.Ytghlilncdfiojab
set_option linter.unusedVariables false
set_option linter.unusedSimpArgs false
set_option maxRecDepth 20000

/-- Two ranges of n exchanged. -/
def ExR (xs ys : List Cat) (a b n : Nat) : Prop := ys.length = xs.length ∧ ∀ k, ys[k]? = if a ≤ k ∧ k < a + n then xs[k - a + b]? else if b ≤ k ∧ k < b + n then xs[k - b + a]? else xs[k]?

theorem ExR.zero (xs : List Cat) (a b : Nat) : ExR xs xs a b 0 := ⟨rfl, fun k => by rw [if_neg (by omega), if_neg (by omega)]⟩

/-- Two blocks side by side turned round. -/
def Rot (xs ys : List Cat) (a m b : Nat) : Prop := ys.length = xs.length ∧ ∀ k, ys[k]? = if a ≤ k ∧ k < a + (b - m) then xs[k - a + m]? else if a + (b - m) ≤ k ∧ k < b then xs[k - (b - m)]? else xs[k]?

theorem Rot.left (xs : List Cat) (s m : Nat) : Rot xs xs s m m := ⟨rfl, fun k => by
  rw [if_neg (by omega)]
  split
  · congr 1; omega
  · rfl⟩

/-- The first one goes up. -/
theorem Rot.up {xs zs : List Cat} {a k : Nat} (h : Rot xs zs a (a + 1) (k + 1)) (hk : a ≤ k) (hl : k + 1 < xs.length) : Rot xs (swp zs k (k + 1)) a (a + 1) (k + 2) := by
  obtain ⟨h1, h2⟩ := h
  refine ⟨by rw [swp_length, h1], fun q => ?_⟩
  rw [swp_get zs (by omega) (by omega)]
  simp only [h2]
  repeat' split
  all_goals first | rfl | (exfalso; omega) | (congr 1; omega)

theorem Rot.ky {xs ys : List Cat} {a m b : Nat} (h : Rot xs ys a m b) (k : Nat) : ky ys k = if a ≤ k ∧ k < a + (b - m) then Proofs.Ytghlilncdfiojab.ky xs (k - a + m) else if a + (b - m) ≤ k ∧ k < b then Proofs.Ytghlilncdfiojab.ky xs (k - (b - m)) else Proofs.Ytghlilncdfiojab.ky xs k := by
  have h2 := h.2 k
  split
  · rename_i h1; rw [if_pos h1] at h2; exact ky_eq h2
  · rename_i h1
    rw [if_neg h1] at h2
    split
    · rename_i h3; rw [if_pos h3] at h2; exact ky_eq h2
    · rename_i h3; rw [if_neg h3] at h2; exact ky_eq h2

/-- Blocks with unlike keys may be turned round. -/
theorem Rot.sw {xs ys : List Cat} {s m e : Nat} (h : Rot xs ys s m e) (h1 : s ≤ m) (h2 : m ≤ e) (h3 : e ≤ xs.length) (hk : ∀ p q, s ≤ p → p < m → m ≤ q → q < e → Proofs.Ytghlilncdfiojab.ky xs q < Proofs.Ytghlilncdfiojab.ky xs p) : Sw s e xs ys := by
  refine ⟨h.1, fun i hi => ?_, fun id => ?_⟩
  · rw [h.2, if_neg (by omega), if_neg (by omega)]
  · have e1 : seg ys s e = seg xs m e ++ seg xs s m := by
      apply List.ext_getElem?
      intro i
      rw [List.getElem?_append, seg_length xs h3, seg_get, seg_get, seg_get, h.2]
      repeat' split
      all_goals first | rfl | (exfalso; omega) | (congr 1; omega)
    rw [e1, seg_append xs h1 h2 h3, List.filter_append, List.filter_append]
    by_cases hv : (seg xs m e).filter (fun c => c.1 == id) = []
    · rw [hv]; simp
    · have hu : (seg xs s m).filter (fun c => c.1 == id) = [] := by
        rw [List.filter_eq_nil_iff]
        intro c hc hci
        obtain ⟨d, hd⟩ := List.exists_mem_of_ne_nil _ hv
        obtain ⟨hd1, hd2⟩ := List.mem_filter.1 hd
        obtain ⟨i, hi⟩ := List.getElem?_of_mem hc
        obtain ⟨j, hj⟩ := List.getElem?_of_mem hd1
        rw [seg_get] at hi hj
        split at hi
        · split at hj
          · have := hk (s + i) (m + j) (by omega) (by omega) (by omega) (by omega)
            unfold Proofs.Ytghlilncdfiojab.ky gt at this
            rw [hi, hj] at this
            simp at this hci hd2
            omega
          · cases hj
        · cases hi
      rw [hu]; simp

theorem Srt.le {xs : List Cat} {a b i j : Nat} (h : Srt xs a b) (h1 : a ≤ i) (h2 : i ≤ j) (h3 : j < b) : ky xs i ≤ ky xs j := by
  by_cases e : i = j
  · subst e; exact Int.le_refl _
  · exact h i j h1 (by omega) h3

structure Halved (xs zs : List Cat) (a s mid e b : Nat) : Prop where
  sw : Sw a b xs zs
  s1 : Srt zs a s
  s2 : Srt zs s mid
  s3 : Srt zs mid e
  s4 : Srt zs e b
  low : ∀ p q, a ≤ p → p < mid → mid ≤ q → q < b → ky zs p ≤ ky zs q

end Go.Proofs.Ytghlilncdfiojab

namespace Go.Proofs.Ytghlilncdfiojab
set_option linter.unusedVariables false
set_option linter.unusedSimpArgs false
set_option maxRecDepth 20000
open Go.RowKit

/-- How far the search between the two parts has come. -/
structure Mid (xs : List Cat) (n s0 r0 s r : Nat) : Prop where
  lo : ∀ k, s0 ≤ k → k < s → ky xs k ≤ ky xs (n - 1 - k)
  hi : ∀ k, r ≤ k → k < r0 → ky xs (n - 1 - k) < ky xs k

theorem Mid.le {xs : List Cat} {a m b mid s0 r0 s r c : Nat} (h : Mid xs (mid + m) s0 r0 s r) (ha : Srt xs a m) (hb : Srt xs m b) (h0 : a ≤ s0) (h1 : r0 ≤ m) (h2 : r0 ≤ mid) (h3 : mid + m ≤ b + s0) (hc1 : s0 ≤ c) (hc2 : c < r0) (hk : ky xs c ≤ ky xs (mid + m - 1 - c)) : Mid xs (mid + m) s0 r0 (c + 1) r := by
  refine ⟨fun k k1 k2 => ?_, h.hi⟩
  have a1 := ha.le (i := k) (j := c) (by omega) (by omega) (by omega)
  have a2 := hb.le (i := mid + m - 1 - c) (j := mid + m - 1 - k) (by omega) (by omega) (by omega)
  omega

theorem Mid.gt {xs : List Cat} {a m b mid s0 r0 s r c : Nat} (h : Mid xs (mid + m) s0 r0 s r) (ha : Srt xs a m) (hb : Srt xs m b) (h0 : a ≤ s0) (h1 : r0 ≤ m) (h2 : r0 ≤ mid) (h3 : mid + m ≤ b + s0) (hc1 : s0 ≤ c) (hc2 : c < r0) (hk : ky xs (mid + m - 1 - c) < ky xs c) : Mid xs (mid + m) s0 r0 s c := by
  refine ⟨h.lo, fun k k1 k2 => ?_⟩
  have a1 := ha.le (i := c) (j := k) (by omega) (by omega) (by omega)
  have a2 := hb.le (i := mid + m - 1 - k) (j := mid + m - 1 - c) (by omega) (by omega) (by omega)
  omega

end Go.Proofs.Ytghlilncdfiojab

namespace Go.Proofs.Ytghlilncdfiojab
set_option linter.unusedVariables false
set_option linter.unusedSimpArgs false
set_option maxRecDepth 20000

/-- Sorted in blocks of s, as far as n. -/
def Blk (s n : Nat) (xs : List Cat) : Prop := ∀ i j, i < j → j < n → i / s = j / s → ky xs i ≤ ky xs j

/-- A wider block is sorted: those ahead of it stay, those behind it too. -/
theorem Blk.one {s n : Nat} {xs ys : List Cat} (h : Blk s n xs) : ∀ i j, i < j → j < n → i / s = j / s → ky xs i ≤ ky xs j := h

/-- Merged as far as a, in blocks of 2 s; behind it in blocks of s. -/
structure Mrg (s n a : Nat) (xs : List Cat) : Prop where
  lo : ∀ i j, i < j → j < a → i / (2 * s) = j / (2 * s) → ky xs i ≤ ky xs j
  hi : ∀ i j, a ≤ i → i < j → j < n → i / s = j / s → ky xs i ≤ ky xs j

theorem div_in {q s i : Nat} (h1 : q * s ≤ i) (h2 : i < (q + 1) * s) : i / s = q := Nat.div_eq_of_lt_le (by simpa using h1) h2

theorem Mrg.left {s n q : Nat} {xs : List Cat} (h : Mrg s n (q * (2 * s)) xs) (hs : 0 < s) {b : Nat} (hb : b ≤ n) (hq : b ≤ q * (2 * s) + s) : Srt xs (q * (2 * s)) b := by
  intro i j h1 h2 h3
  have e : q * (2 * s) = (2 * q) * s := by rw [← Nat.mul_assoc, Nat.mul_comm q 2]
  have e2 : (2 * q + 1) * s = q * (2 * s) + s := by rw [e, Nat.succ_mul]
  refine h.hi i j h1 h2 (by omega) ?_
  rw [div_in (q := 2 * q) (by omega) (by omega), div_in (q := 2 * q) (by omega) (by omega)]

/-- The last ones, fewer than a block. -/
theorem Mrg.last {s n q : Nat} {xs ys : List Cat} (h : Mrg s n (q * (2 * s)) xs) (hq : n < (q + 1) * (2 * s)) (k : Sw (q * (2 * s)) n xs ys) (hst : Srt ys (q * (2 * s)) n) : Blk (2 * s) n ys := by
  intro i j h1 h2 h3
  by_cases hj : j < q * (2 * s)
  · rw [ky_eq (k.2.1 i (.inl (by omega))), ky_eq (k.2.1 j (.inl hj))]
    exact h.lo i j h1 hj h3
  · by_cases hi : q * (2 * s) ≤ i
    · exact hst i j hi h1 h2
    · have e1 : j / (2 * s) = q := div_in (by omega) (by omega)
      have e2 : i / (2 * s) < q := Nat.div_lt_of_lt_mul (by rw [Nat.mul_comm]; omega)
      omega

/-- Nothing is left to be merged. -/
theorem Mrg.none {s n q : Nat} {xs : List Cat} (h : Mrg s n (q * (2 * s)) xs) (hs : 0 < s) (hq : n ≤ q * (2 * s) + s) : Blk (2 * s) n xs := by
  refine h.last (by rw [Nat.succ_mul]; omega) (Sw.refl _ _ _) ?_
  exact h.left hs (Nat.le_refl _) hq

theorem Blk.all {s n : Nat} {xs : List Cat} (h : Blk s n xs) (hs : n ≤ s) : Srt xs 0 n := by
  intro i j _ h1 h2
  refine h i j h1 h2 ?_
  rw [Nat.div_eq_of_lt (by omega), Nat.div_eq_of_lt (by omega)]

/-- The first blocks, by insertion. -/
structure Fst (s a : Nat) (xs : List Cat) : Prop where
  lo : ∀ i j, i < j → j < a → i / s = j / s → ky xs i ≤ ky xs j

end Go.Proofs.Ytghlilncdfiojab

namespace Go.Proofs.Ytghlilncdfiojab
set_option linter.unusedVariables false
set_option linter.unusedSimpArgs false
set_option maxRecDepth 20000
open Go.RowKit

theorem blk_setCells {g : Nat} {t : TypeId} (post : List Value) : ∀ (vs pre mid : List Value) (w : World), mid.length = vs.length → w.heap[g]? = some (.cells (pre ++ mid ++ post).toArray t (0, 0)) → (w.setCells g pre.length vs).heap[g]? = some (.cells (pre ++ vs ++ post).toArray t (0, 0))
  | [], pre, mid, w, h1, h2 => by
    have : mid = [] := List.eq_nil_of_length_eq_zero (by simpa using h1)
    subst this
    simpa [World.setCells] using h2
  | v :: vs, pre, [], w, h1, h2 => by simp at h1
  | v :: vs, pre, m :: mid, w, h1, h2 => by
    rw [World.setCells]
    have h3 : (w.setCell ⟨g, pre.length, none⟩ v).heap[g]? = some (.cells ((pre ++ [v]) ++ mid ++ post).toArray t (0, 0)) := by
      rw [blk_setCell h2]
      congr 2
      apply Array.toList_inj.1
      simp
    have h4 := blk_setCells post vs (pre ++ [v]) mid (w.setCell ⟨g, pre.length, none⟩ v) (by simpa using h1) h3
    rw [List.length_append] at h4
    simpa using h4

/-- What is behind k is cleared. -/
theorem CB.clear {w : World} {g : Nat} {zs : List Cat} {tl : List Value} (h : CB w g zs tl) (k : Nat) (hk : k ≤ zs.length) : CB (w.setCells g (k * 2) (ccells (List.replicate (zs.length - k) (0, 0)))) g (zs.take k) (ccells (List.replicate (zs.length - k) (0, 0)) ++ tl) := by
  have e : zs = zs.take k ++ zs.drop k := (List.take_append_drop k zs).symm
  have e2 : ccells zs = ccells (zs.take k) ++ ccells (zs.drop k) := by rw [← ccells_append, ← e]
  unfold CB at *
  rw [e2] at h
  have hl : (ccells (zs.take k)).length = k * 2 := by rw [ccells_length, List.length_take, Nat.min_eq_left hk]
  have := blk_setCells tl (ccells (List.replicate (zs.length - k) (0, 0))) (ccells (zs.take k)) (ccells (zs.drop k)) w (by rw [ccells_length, ccells_length]; simp) h
  rw [hl] at this
  rw [this, List.append_assoc]

/-! ### The first of each run -/
def ddT (xs : List Cat) : Nat → List Cat
  | 0 => []
  | k + 1 => if k = 0 ∨ ky xs k ≠ ky xs (k - 1) then ddT xs k ++ [gt xs k] else ddT xs k

/-- So far packed together. -/
structure Cmp (xs zs : List Cat) (j k : Nat) : Prop where
  len : zs.length = xs.length
  k1 : k + 1 ≤ j
  dd : (ddT xs j).length = k
  low : zs.take k = ddT xs j
  high : ∀ i, j ≤ i + 1 → zs[i]? = xs[i]?

theorem Cmp.skip {xs zs : List Cat} {j k : Nat} (h : Cmp xs zs j k) (he : ky xs j = ky xs (j - 1)) : Cmp xs zs (j + 1) k := by
  have e : ddT xs (j + 1) = ddT xs j := by
    rw [ddT, if_neg]
    rintro (h1 | h1)
    · have := h.k1; omega
    · exact h1 he
  exact ⟨h.len, by have := h.k1; omega, by rw [e]; exact h.dd, by rw [e]; exact h.low, fun i hi => h.high i (by omega)⟩

theorem take_set_snoc (zs : List Cat) (k : Nat) (c : Cat) (h : k < zs.length) : (zs.set k c).take (k + 1) = zs.take k ++ [c] := by
  rw [List.take_succ_eq_append_getElem (by simpa using h), List.take_set_of_le (Nat.le_refl k)]
  simp

theorem Cmp.put {xs zs : List Cat} {j k : Nat} (h : Cmp xs zs j k) (hj : j < xs.length) (he : ky xs j ≠ ky xs (j - 1)) : Cmp xs (zs.set k (gt xs j)) (j + 1) (k + 1) := by
  have e : ddT xs (j + 1) = ddT xs j ++ [gt xs j] := by rw [ddT, if_pos (.inr he)]
  have h1 := h.k1
  refine ⟨by rw [List.length_set]; exact h.len, by omega, by rw [e]; simp [h.dd], ?_, fun i hi => ?_⟩
  · rw [e, take_set_snoc _ _ _ (by have := h.len; omega), h.low]
  · rw [List.getElem?_set_ne (by omega)]
    exact h.high i (by omega)
end Go.Proofs.Ytghlilncdfiojab

namespace Go.Proofs.Ytghlilncdfiojab
set_option linter.unusedVariables false
set_option linter.unusedSimpArgs false
set_option maxRecDepth 20000
open Go.RowKit

def keepC (d : Int) (c : Cat) : Bool := !(c.2 == d)

structure Dl (d : Int) (xs zs : List Cat) (j i : Nat) : Prop where
  len : zs.length = xs.length
  ij : i < j
  low : zs.take i = (xs.take j).filter (keepC d)
  low2 : ((xs.take j).filter (keepC d)).length = i
  high : ∀ q, j ≤ q → zs[q]? = xs[q]?

theorem Dl.skip {d : Int} {xs zs : List Cat} {j i : Nat} (h : Dl d xs zs j i) (hj : j < xs.length) (he : (gt xs j).2 = d) : Dl d xs zs (j + 1) i := by
  have e : (xs.take (j + 1)).filter (keepC d) = (xs.take j).filter (keepC d) := by
    rw [List.take_succ_eq_append_getElem hj, List.filter_append, ← gt_of hj]
    simp [keepC, he]
  exact ⟨h.len, by have := h.ij; omega, by rw [e]; exact h.low, by rw [e]; exact h.low2, fun q hq => h.high q (by omega)⟩

theorem Dl.put {d : Int} {xs zs : List Cat} {j i : Nat} (h : Dl d xs zs j i) (hj : j < xs.length) (he : (gt xs j).2 ≠ d) : Dl d xs (zs.set i (gt xs j)) (j + 1) (i + 1) := by
  have e : (xs.take (j + 1)).filter (keepC d) = (xs.take j).filter (keepC d) ++ [gt xs j] := by
    rw [List.take_succ_eq_append_getElem hj, List.filter_append, ← gt_of hj]
    simp [keepC, he]
  have h1 := h.ij
  refine ⟨by rw [List.length_set]; exact h.len, by omega, ?_, by rw [e, List.length_append, h.low2]; rfl, fun q hq => ?_⟩
  · rw [e, take_set_snoc _ _ _ (by have := h.len; omega), h.low]
  · rw [List.getElem?_set_ne (by omega)]
    exact h.high q (by omega)

end Go.Proofs.Ytghlilncdfiojab

namespace Go.Proofs.Ytghlilncdfiojab
set_option linter.unusedVariables false
set_option linter.unusedSimpArgs false
set_option maxRecDepth 20000

def lev (d : Int) : List Cat → Int → Int
  | [], _ => d
  | c :: r, id => if c.1 = id then c.2 else lev d r id

def Rs (xs : List Cat) : Prop := xs.Pairwise (fun a b => a.1 < b.1)
structure Fm (d : Int) (xs : List Cat) : Prop where
  rs : Rs xs
  ne : ∀ c ∈ xs, c.2 ≠ d

theorem lev_none {d : Int} {id : Int} : ∀ {a : List Cat}, (∀ c ∈ a, c.1 ≠ id) → lev d a id = d
  | [], _ => rfl
  | e :: a, h => by
    rw [lev, if_neg (h e List.mem_cons_self)]
    exact lev_none (fun c hc => h c (List.mem_cons_of_mem _ hc))

end Go.Proofs.Ytghlilncdfiojab

namespace Go.Proofs.Ytghlilncdfiojab
set_option linter.unusedVariables false
set_option linter.unusedSimpArgs false
set_option maxRecDepth 20000
open Go.RowKit

/-- The slice v holds the categories xs, in blocks of the class X. -/
def CSl (X : Nat → Prop) (w : World) (v : Value) (es : List Cat) : Prop := Slp X w v es.length (ccells es)

theorem CSl.form {X : Nat → Prop} {w : World} {v : Value} {es : List Cat} (h : CSl X w v es) : ∃ ao cap, v = .slice ao es.length cap ∧ es.length ≤ cap ∧ cap ≤ 9223372036854775807 := by
  obtain ⟨ao, cap, rfl, ⟨h1, h2⟩, _⟩ := h
  exact ⟨ao, cap, rfl, h1, h2⟩

theorem CSl.get {X : Nat → Prop} {w : World} {ao : Option Addr} {n cap : Nat} {es : List Cat} (h : CSl X w (.slice ao n cap) es) (k : Nat) (hk : k < es.length) :
    ∃ q off, ao = some ⟨q, off, none⟩ ∧ X q ∧ w.cell? ⟨q, off + k * 2, none⟩ = some (.int .u64 es[k].1) ∧ w.cell? ⟨q, off + k * 2 + 1, none⟩ = some (.int .i64 es[k].2) := by
  obtain ⟨ao', cap', hv, _, _, hcs⟩ := h
  simp only [Value.slice.injEq] at hv
  obtain ⟨rfl, _, rfl⟩ := hv
  obtain ⟨h1, h2⟩ := ccells_get es k hk
  obtain ⟨q, off, h3, h4, h5⟩ := hcs _ _ h1
  obtain ⟨q', off', h3', _, h5'⟩ := hcs _ _ h2
  rw [h3] at h3'
  simp only [Option.some.injEq, Addr.mk.injEq, and_true] at h3'
  obtain ⟨rfl, rfl⟩ := h3'
  exact ⟨q, off, h3, h4, h5, by rw [Nat.add_assoc]; exact h5'⟩

theorem CSl.keep {X X' : Nat → Prop} {w w' : World} {v : Value} {es : List Cat} (h : CSl X w v es) {T : Nat → Prop} (hf : Fr T w w') (hT : ∀ b, X b → b < w.heap.size → ¬ T b) (hX : ∀ b, X b → b < w.heap.size → X' b) : CSl X' w' v es := by
  obtain ⟨ao, cap, hv, hc, hn, hcs⟩ := h
  refine ⟨ao, cap, hv, hc, hn, fun i c hi => ?_⟩
  obtain ⟨b, off, h1, h2, h3⟩ := hcs i c hi
  have hb : b < w.heap.size := World.block_lt_of_cell? w _ h3
  exact ⟨b, off, h1, hX b h2 hb, by rw [World.cell?_of_block (w := w) (hf.block b hb (hT b h2 hb))]; exact h3⟩

theorem CSl.nw {X : Nat → Prop} {w w' : World} {v : Value} {es : List Cat} (h : CSl X w v es) (hf : Nw w w') : CSl X w' v es := h.keep hf (fun _ _ _ => id) (fun _ h _ => h)
theorem CSl.mono {X X' : Nat → Prop} {w : World} {v : Value} {es : List Cat} (h : CSl X w v es) (hX : ∀ b, X b → b < w.heap.size → X' b) : CSl X' w v es := h.keep (Fr.refl (fun _ => False) w) (fun _ _ _ => id) hX
theorem CSl.any {X : Nat → Prop} {w : World} {v : Value} {es : List Cat} (h : CSl X w v es) : CSl (fun _ => True) w v es := h.mono (fun _ _ _ => trivial)

theorem CSl.sl {X : Nat → Prop} {w : World} {v : Value} {es : List Cat} (h : CSl X w v es) : Sl w.heap.size w v es.length (ccells es) := by
  obtain ⟨ao, cap, hv, hc, hn, hcs⟩ := h
  refine ⟨ao, cap, hv, hc, hn, fun i c hi => ?_⟩
  obtain ⟨b, off, h1, h2, h3⟩ := hcs i c hi
  exact ⟨b, off, h1, World.block_lt_of_cell? w _ h3, h3⟩

theorem csl_nil (X : Nat → Prop) (w : World) : CSl X w (.slice none 0 0) [] := ⟨none, 0, rfl, ⟨Nat.le_refl _, Nat.zero_le _⟩, fun _ => rfl, fun i c h => by simp [ccells] at h⟩

/-- A slice of one's own, written in place. -/
def MkAt (base : Nat) (w : World) (u : Value) (ys : List Cat) : Prop :=
  (u = .slice none 0 0 ∧ ys = []) ∨ ∃ g n cap tl, u = .slice (some ⟨g, 0, none⟩) n cap ∧ Hid (ys.length = n) ∧ n ≤ cap ∧ cap ≤ 9223372036854775807 ∧ base ≤ g ∧ CB w g ys tl

theorem MkAt.keep {base : Nat} {w w' : World} {u : Value} {ys : List Cat} (h : MkAt base w u ys) (hf : Nw w w') : MkAt base w' u ys := by
  rcases h with h | ⟨g, n, cap, tl, h1, h2, h3, h4, h5, h6⟩
  · exact .inl h
  · exact .inr ⟨g, n, cap, tl, h1, h2, h3, h4, h5, h6.nw hf⟩

theorem nw_alloc {a w : World} (h : Nw a w) (o : Obj) : Nw a (w.alloc o) := Fr.alloc h o

end Go.Proofs.Ytghlilncdfiojab

namespace Go.Proofs.Ytghlilncdfiojab
set_option linter.unusedVariables false
set_option linter.unusedSimpArgs false
set_option maxRecDepth 20000
open Go.RowKit

theorem Try.rowL : (Try.prog.underlying 25).map TypeDesc.isRow = some true := by kernel_rfl
theorem Try.sizeL : (Try.prog.info? 25).map (·.size) = some 2 := by kernel_rfl

/-- A label as a value. -/
def labV (d : Int) (u : Value) : Value := .agg #[.int .i64 d, u]

end Go.Proofs.Ytghlilncdfiojab

namespace Go.Proofs.Ytghlilncdfiojab
set_option linter.unusedVariables false
set_option linter.unusedSimpArgs false
set_option maxRecDepth 20000
open Go.RowKit

theorem nw_drewN (w : World) (q : Nat) : Nw w (w.drewN q) := ⟨rfl, rfl, rfl, Nat.le_refl _, fun _ _ _ => rfl⟩

/-- The form so far. -/
def FmT (d : Int) (xs : List Cat) (k : Nat) : Prop := ∀ i, i < k → (gt xs i).2 ≠ d ∧ (0 < i → ky xs (i - 1) < ky xs i)

theorem fm_of {d : Int} {xs : List Cat} (h : FmT d xs xs.length) : Fm d xs := by
  refine ⟨List.pairwise_iff_getElem.2 (fun i j hi hj hij => ?_), fun c hc => ?_⟩
  · have key : ∀ m, i + m + 1 < xs.length → ky xs i < ky xs (i + m + 1) := by
      intro m
      induction m with
      | zero => intro hm; have := (h (i + 1) hm).2 (by omega); simpa using this
      | succ m ih => intro hm; have h1 := ih (by omega); have h2 := (h (i + (m + 1) + 1) hm).2 (by omega); rw [show i + (m + 1) + 1 - 1 = i + m + 1 by omega] at h2; omega
    have := key (j - i - 1) (by omega)
    rw [show i + (j - i - 1) + 1 = j by omega] at this
    unfold ky at this
    rwa [gt_of hi, gt_of hj] at this
  · obtain ⟨i, hi, rfl⟩ := List.getElem_of_mem hc
    have := (h i hi).1
    rwa [gt_of hi] at this

theorem of_fm {d : Int} {xs : List Cat} (h : Fm d xs) : FmT d xs xs.length := by
  intro i hi
  refine ⟨by rw [gt_of hi]; exact h.ne _ (List.getElem_mem hi), fun h0 => ?_⟩
  have := List.pairwise_iff_getElem.1 h.rs (i - 1) i (by omega) hi (by omega)
  unfold ky
  rwa [gt_of hi, gt_of (by omega)]

set_option maxHeartbeats 1600000 in
theorem c_hasForm {X : Nat → Prop} {v : Value} {xs : List Cat} (d : Int) (w : World) (h : CSl X w v xs) :
    Calls Try.prog 39 #[labV d v] w fun e w' => ∃ r : Bool, e = .returned (.bool r) ∧ (r = true ↔ Fm d xs) ∧ Nw w w' := by
  unfold labV
  obtain ⟨ao, cap, rfl, hcl, hcm⟩ := h.form
  have hB : (w.alloc (.cells #[.int .i64 d, .slice ao xs.length cap] 25)).heap[w.heap.size]? = some (.cells #[.int .i64 d, .slice ao xs.length cap] 25 (0, 0)) := heap_alloc_new w _
  have hnw : Nw w (w.alloc (.cells #[.int .i64 d, .slice ao xs.length cap] 25)) := nw_alloc (nw_refl w) _
  have hc1 := h.nw hnw
  go_enter Try.func39, Try.ntmps39
  go_upto_region 1 with fail
  generalize w.alloc (.cells #[.int .i64 d, .slice ao xs.length cap] 25) = W at *
  generalize hBB : w.heap.size = B at *
  replace hBB : Hid _ := hBB
  have b1 : W.cell? ⟨B, 1, none⟩ = some (.slice ao xs.length cap) := cell_blk hB rfl
  go_wp2
  clear b1
  go_loopw [8] (fun kv wr => ∃ k : Nat, k ≤ xs.length ∧ kv = .int .i64 k ∧ Hid (FmT d xs k) ∧ Nw W wr) (fun kv _ => xs.length - (intOf kv).toNat)
  case atStart => exact ⟨0, Nat.zero_le _, rfl, fun i hi => by omega, nw_refl _⟩
  case round =>
    obtain ⟨k, hk, rfl, hl, hw⟩ := hrel
    have hcr := hc1.nw hw
    by_cases hlt : k < xs.length
    · obtain ⟨q, off, rfl, _, d1, d2⟩ := hcr.get k hlt
      have hg : Hid (gt xs k = xs[k]) := gt_of hlt
      have hA : Hid (∀ o, Nw W (wr.alloc o)) := fun o => nw_alloc hw o
      have hBr := (hw.block B (heap_lt hB) (fun h => h)).trans hB
      have hBl := heap_lt hBr
      generalize hcc : xs[k] = c at *
      have hV : (wr.alloc (.cells #[.int .u64 c.1, .int .i64 c.2] 61)).heap[wr.heap.size]? = some (.cells #[.int .u64 c.1, .int .i64 c.2] 61 (0, 0)) := heap_alloc_new wr _
      have hcA := hcr.nw (nw_alloc (nw_refl wr) (.cells #[.int .u64 c.1, .int .i64 c.2] 61))
      have hBA : (wr.alloc (.cells #[.int .u64 c.1, .int .i64 c.2] 61)).heap[B]? = some (.cells #[.int .i64 d, .slice (some ⟨q, off, none⟩) xs.length cap] 25 (0, 0)) := (Below.heap_alloc _ _ _ hBl).trans hBr
      have hnA := hA.out (.cells #[.int .u64 c.1, .int .i64 c.2] 61)
      replace hcc : Hid _ := hcc
      clear hA hBr hw hcr
      go_upto_region 4 with fail
      generalize wr.alloc (.cells #[.int .u64 c.1, .int .i64 c.2] 61) = U at *
      generalize wr.heap.size = V at *
      clear d1 d2
      have v0 : ∀ q, (U.drewN q).cell? ⟨V, 0, none⟩ = some (.int .u64 c.1) := fun q => cell_blk (w := U.drewN q) hV rfl
      have v1 : ∀ q, (U.drewN q).cell? ⟨V, 1, none⟩ = some (.int .i64 c.2) := fun q => cell_blk (w := U.drewN q) hV rfl
      have b0 : ∀ q, (U.drewN q).cell? ⟨B, 0, none⟩ = some (.int .i64 d) := fun q => cell_blk (w := U.drewN q) hBA rfl
      by_cases hcd : c.2 = d
      · have hb : (c.2 == d) = true := by simp [hcd]
        have hno : Hid (¬ Fm d xs) := fun hf => ((of_fm hf) k hlt).1 (by rw [hg.out]; exact hcd)
        clear hcd hl
        go_quiet (fail)
        go_wp2
        go_ret
        exact ⟨false, rfl, ⟨(fun h => Bool.noConfusion h), (fun h => absurd h hno.out)⟩, nw_trans hnw (nw_trans hnA (nw_drewN U _))⟩
      · have hb : (c.2 == d) = false := by simp [hcd]
        by_cases hk0 : 0 < k
        · obtain ⟨k, rfl⟩ : ∃ k' : Nat, k = k' + 1 := ⟨k - 1, by omega⟩
          obtain ⟨q', off', hq', _, d3, d4⟩ := hcA.get k (by omega)
          simp only [Option.some.injEq, Addr.mk.injEq, and_true] at hq'
          obtain ⟨rfl, rfl⟩ := hq'
          have hg2 : Hid (gt xs k = xs[k]'(by omega)) := gt_of (by omega)
          generalize xs[k]'(by omega) = e at *
          have e0 : ∀ z, (U.drewN z).cell? ⟨q, off + k * 2, none⟩ = some (.int .u64 e.1) := fun z => d3
          have b1 : ∀ z, (U.drewN z).cell? ⟨B, 1, none⟩ = some (.slice (some ⟨q, off, none⟩) xs.length cap) := fun z => cell_blk (w := U.drewN z) hBA rfl
          clear d3 d4
          by_cases hce : c.1 ≤ e.1
          · have hno : Hid (¬ Fm d xs) := fun hf => by
              have := ((of_fm hf) (k + 1) hlt).2 (by omega)
              unfold ky at this
              rw [Nat.add_sub_cancel, hg.out, hg2.out] at this
              omega
            clear hcd hl
            go_quiet (fail)
            go_wp2
            go_ret
            exact ⟨false, rfl, ⟨(fun h => Bool.noConfusion h), (fun h => absurd h hno.out)⟩, nw_trans hnw (nw_trans hnA (nw_drewN U _))⟩
          · have hl' : Hid (FmT d xs (k + 1 + 1)) := fun i hi => by
              by_cases hik : i = k + 1
              · subst hik
                exact ⟨by rw [hg.out]; exact hcd, fun _ => by unfold ky; rw [Nat.add_sub_cancel, hg.out, hg2.out]; omega⟩
              · exact hl.out i (by omega)
            clear hcd hl
            go_quiet (fail)
            go_wp2
            go_roundw
            case rel => exact ⟨k + 1 + 1, by omega, by go_num, hl', nw_trans hnA (nw_drewN U _)⟩
            case measure => simp [intOf]; omega
        · have hl' : Hid (FmT d xs (k + 1)) := fun i hi => by
            have : i = k := by omega
            subst this
            exact ⟨by rw [hg.out]; exact hcd, fun h => absurd h hk0⟩
          clear hcd hl
          go_quiet (fail)
          go_wp2
          go_roundw
          case rel => exact ⟨k + 1, by omega, by go_num, hl', nw_trans hnA (nw_drewN U _)⟩
          case measure => simp [intOf]; omega
    · have hfin : Hid (FmT d xs xs.length) := by
        have : k = xs.length := by omega
        subst this; exact hl
      clear hl
      go_wp2
      go_ret
      exact ⟨true, rfl, ⟨fun _ => fm_of hfin.out, fun _ => rfl⟩, nw_trans hnw hw⟩
end Go.Proofs.Ytghlilncdfiojab

namespace Go.Proofs.Ytghlilncdfiojab
set_option linter.unusedVariables false
set_option linter.unusedSimpArgs false
set_option maxRecDepth 20000

theorem noM {p : Prop} {α : Type} {a : α} (h : a ∈ ([] : List α)) : p := absurd h List.not_mem_nil

abbrev Vs := Int × Int × Int

/-- Walked so far: D visited, xs and ys left. -/
structure Wk (da db : Int) (fa fb : List Cat) (D : List Vs) (xs ys : List Cat) : Prop where
  pa : ∃ p, fa = p ++ xs ∧ ∀ c ∈ p, ∃ v ∈ D, v.1 = c.1
  pb : ∃ p, fb = p ++ ys ∧ ∀ c ∈ p, ∃ v ∈ D, v.1 = c.1
  rs : D.Pairwise (fun u v => u.1 < v.1)
  la : ∀ v ∈ D, ∀ c ∈ xs, v.1 < c.1
  lb : ∀ v ∈ D, ∀ c ∈ ys, v.1 < c.1
  va : ∀ v ∈ D, v.2.1 = lev da fa v.1 ∧ v.2.2 = lev db fb v.1
  len : D.length + xs.length + ys.length ≤ fa.length + fb.length

/-- All that was visited. -/
structure Vis (da db : Int) (f g : Int → Int) (D : List Vs) : Prop where
  rs : D.Pairwise (fun u v => u.1 < v.1)
  va : ∀ v ∈ D, v.2.1 = f v.1 ∧ v.2.2 = g v.1
  all : ∀ id, (∃ v ∈ D, v.1 = id) ∨ (f id = da ∧ g id = db)
  out : ∃ id, f id = da ∧ g id = db

theorem far (xs : List Cat) : ∃ m : Int, ∀ c ∈ xs, c.1 < m := by
  induction xs with
  | nil => exact ⟨0, fun c h => noM h⟩
  | cons c r ih =>
    obtain ⟨m, hm⟩ := ih
    refine ⟨max m (c.1 + 1), fun x hx => ?_⟩
    rcases List.mem_cons.1 hx with rfl | hx
    · omega
    · have := hm x hx; omega

/-- Held everywhere. -/
theorem Vis.holds {da db : Int} {f g : Int → Int} {D : List Vs} (h : Vis da db f g D) (R : Int → Int → Bool) : (R da db && D.all (fun v => R v.2.1 v.2.2)) = true ↔ ∀ id, R (f id) (g id) = true := by
  rw [Bool.and_eq_true, List.all_eq_true]
  constructor
  · rintro ⟨h1, h2⟩ id
    rcases h.all id with ⟨v, hv, rfl⟩ | ⟨e1, e2⟩
    · have := h2 v hv
      rwa [(h.va v hv).1, (h.va v hv).2] at this
    · rw [e1, e2]; exact h1
  · intro hall
    obtain ⟨id, e1, e2⟩ := h.out
    refine ⟨by have := hall id; rwa [e1, e2] at this, fun v hv => ?_⟩
    rw [(h.va v hv).1, (h.va v hv).2]
    exact hall v.1

/-- What is chosen. -/
def chs (c : Int → Int → Int) (d : Int) (D : List Vs) : List Cat := (D.filter (fun v => !(c v.2.1 v.2.2 == d))).map (fun v => (v.1, c v.2.1 v.2.2))

theorem chs_lev (c : Int → Int → Int) (d id : Int) : ∀ D : List Vs, D.Pairwise (fun u v => u.1 < v.1) → ∀ v ∈ D, v.1 = id → lev d (chs c d D) id = c v.2.1 v.2.2
  | u :: D, hp, v, hv, he => by
    have h1 := List.pairwise_cons.1 hp
    have hc : chs c d (u :: D) = if c u.2.1 u.2.2 = d then chs c d D else (u.1, c u.2.1 u.2.2) :: chs c d D := by
      unfold chs
      rw [List.filter_cons]
      by_cases h : c u.2.1 u.2.2 = d <;> simp [h]
    rw [hc]
    rcases List.mem_cons.1 hv with rfl | hv
    · by_cases h : c v.2.1 v.2.2 = d
      · rw [if_pos h, h]
        apply lev_none
        intro x hx
        unfold chs at hx
        obtain ⟨y, hy, rfl⟩ := List.mem_map.1 hx
        have := h1.1 y (List.mem_filter.1 hy).1
        show y.1 ≠ id
        omega
      · rw [if_neg h, lev, if_pos he]
    · have hne : u.1 ≠ id := by have := h1.1 v hv; omega
      split
      · exact chs_lev c d id D h1.2 v hv he
      · rw [lev, if_neg hne]
        exact chs_lev c d id D h1.2 v hv he

theorem Vis.chosen {da db : Int} {f g : Int → Int} {D : List Vs} (h : Vis da db f g D) (c : Int → Int → Int) : Fm (c da db) (chs c (c da db) D) ∧ ∀ id, lev (c da db) (chs c (c da db) D) id = c (f id) (g id) := by
  refine ⟨⟨?_, fun x hx => ?_⟩, fun id => ?_⟩
  · unfold chs
    exact List.pairwise_map.2 (List.Pairwise.filter _ h.rs)
  · unfold chs at hx
    obtain ⟨y, hy, rfl⟩ := List.mem_map.1 hx
    have := (List.mem_filter.1 hy).2
    simpa using this
  · by_cases hid : ∃ v ∈ D, v.1 = id
    · obtain ⟨v, hv, he⟩ := hid
      rw [chs_lev c _ id D h.rs v hv he, (h.va v hv).1, (h.va v hv).2, he]
    · rcases h.all id with q | ⟨e1, e2⟩
      · exact absurd q hid
      · rw [e1, e2]
        apply lev_none
        intro x hx he
        unfold chs at hx
        obtain ⟨y, hy, rfl⟩ := List.mem_map.1 hx
        exact hid ⟨y, (List.mem_filter.1 hy).1, he⟩
end Go.Proofs.Ytghlilncdfiojab

namespace Go.Proofs.Ytghlilncdfiojab
set_option linter.unusedVariables false
set_option linter.unusedSimpArgs false
set_option maxRecDepth 20000
open Go.RowKit

theorem CSl.tail {X : Nat → Prop} {w : World} {q off n cap : Nat} {c : Cat} {r : List Cat} (h : CSl X w (.slice (some ⟨q, off, none⟩) n cap) (c :: r)) (hc : ¬ cap = 1) : CSl X w (.slice (some ⟨q, off + 2, none⟩) (n - 1) (cap - 1)) r := by
  obtain ⟨ao, cap', hv, ⟨h1, h2⟩, h3, h4⟩ := h
  simp only [Value.slice.injEq] at hv
  obtain ⟨rfl, rfl, rfl⟩ := hv
  refine ⟨_, _, by rw [List.length_cons, Nat.add_sub_cancel], ⟨by simp at h1; omega, by omega⟩, fun h => by simp at h, fun i x hi => ?_⟩
  obtain ⟨b, o, e1, e2, e3⟩ := h4 (i + 2) x (by rw [ccells_cons]; simpa using hi)
  simp only [Option.some.injEq, Addr.mk.injEq, and_true] at e1
  obtain ⟨rfl, rfl⟩ := e1
  exact ⟨q, off + 2, rfl, e2, by rw [show off + 2 + i = off + (i + 2) by omega]; exact e3⟩

end Go.Proofs.Ytghlilncdfiojab

namespace Go.Proofs.Ytghlilncdfiojab
set_option linter.unusedVariables false
set_option linter.unusedSimpArgs false
set_option maxRecDepth 20000
open Go.RowKit

def lenV : Value → Nat
  | .slice _ n _ => n
  | _ => 0

theorem CSl.len {X : Nat → Prop} {w : World} {v : Value} {es : List Cat} (h : CSl X w v es) : lenV v = es.length := by
  obtain ⟨ao, cap, rfl, _⟩ := h.form
  rfl

end Go.Proofs.Ytghlilncdfiojab

namespace Go.Proofs.Ytghlilncdfiojab
set_option linter.unusedVariables false
set_option linter.unusedSimpArgs false
set_option maxRecDepth 20000
open Go.RowKit

/-- Which labels may be an object's. -/
structure Rgt (d : Int) (xs : List Cat) : Prop where
  lo : 1 ≤ d
  hi : d ≤ 4
  len : xs.length ≤ 6
  fm : Fm d xs
  each : ∀ i (h : i < xs.length), 1 ≤ xs[i].1 ∧ xs[i].1 ≤ 2305843009213693951 ∧ 0 ≤ xs[i].2 ∧ xs[i].2 ≤ 4

def RgtP (d : Int) (xs : List Cat) (w : World) (e : Ending) (w' : World) : Prop := ∃ r : Bool, e = .returned (.bool r) ∧ (r = true ↔ Rgt d xs) ∧ Nw w w'

theorem rgt_no {d : Int} {xs : List Cat} {w w' : World} (h : ¬ Rgt d xs) (n : Nw w w') : RgtP d xs w (.returned (.bool false)) w' := ⟨false, rfl, ⟨(fun h => Bool.noConfusion h), (fun h' => absurd h' h)⟩, n⟩

set_option maxHeartbeats 6400000 in
theorem c_right {X : Nat → Prop} {v : Value} {xs : List Cat} (d : Int) (w : World) (h : CSl X w v xs) (hl : xs.length ≤ 8796093022208) :
    Calls Try.prog 18 #[labV d v] w (RgtP d xs w) := by
  obtain ⟨ao, cap, rfl, ha1, ha2⟩ := h.form
  have hA : (w.alloc (.cells #[.int .i64 d, .slice ao xs.length cap] 25)).heap[w.heap.size]? = some (.cells #[.int .i64 d, .slice ao xs.length cap] 25 (0, 0)) := heap_alloc_new w _
  have nW : Nw w (w.alloc (.cells #[.int .i64 d, .slice ao xs.length cap] 25)) := nw_alloc (nw_refl w) _
  replace h := h.nw nW
  unfold labV
  go_enter Try.func18, Try.ntmps18
  go_upto_region 1 with fail
  generalize w.alloc (.cells #[.int .i64 d, .slice ao xs.length cap] 25) = W at *
  generalize w.heap.size = N at *
  have a0 : W.cell? ⟨N, 0, none⟩ = some (.int .i64 d) := cell_blk hA rfl
  have a1 : W.cell? ⟨N, 1, none⟩ = some (.slice ao xs.length cap) := cell_blk hA rfl
  by_cases g1 : d < 1
  · have hno : Hid (¬ Rgt d xs) := fun h => by have := h.lo; omega
    go_wp2
    go_ret
    exact rgt_no hno.out nW
  · by_cases g2 : 4 < d
    · have hno : Hid (¬ Rgt d xs) := fun h => by have := h.hi; omega
      go_wp2
      go_ret
      exact rgt_no hno.out nW
    · by_cases g3 : 6 < xs.length
      · have hno : Hid (¬ Rgt d xs) := fun h => by have := h.len; omega
        go_wp2
        go_ret
        exact rgt_no hno.out nW
      · have hcon : Hid _ := c_hasForm d W h
        unfold labV at hcon
        go_wp2_with (go_at_call 39; refine Calls.mono hcon.out ?_; rintro e V ⟨r, rfl, q1, n1⟩; refine stop_here ?_)
        unfold Hid
        clear hcon
        replace hA := (n1.block _ (heap_lt hA) (fun h => h)).trans hA
        replace h := h.nw n1
        have nV := nw_trans nW n1
        clear n1 nW
        cases r with
        | false =>
          have hno : Hid (¬ Rgt d xs) := fun h => by have := q1.2 h.fm; cases this
          clear q1
          go_wp2
          go_ret
          exact rgt_no hno.out nV
        | true =>
          have hfm : Hid (Fm d xs) := q1.1 rfl
          clear q1
          clear a0 a1
          have b1 : V.cell? ⟨N, 1, none⟩ = some (.slice ao xs.length cap) := cell_blk hA rfl
          go_wp2
          clear b1
          go_loopw [27] (fun kv wr => ∃ k : Nat, k ≤ xs.length ∧ kv = .int .i64 k ∧ Hid (∀ i (h : i < xs.length), i < k → 1 ≤ xs[i].1 ∧ xs[i].1 ≤ 2305843009213693951 ∧ 0 ≤ xs[i].2 ∧ xs[i].2 ≤ 4) ∧ Nw V wr) (fun kv _ => xs.length - (intOf kv).toNat)
          case atStart => exact ⟨0, Nat.zero_le _, rfl, fun i _ h => by omega, nw_refl _⟩
          case round =>
            obtain ⟨k, hk, rfl, hall, hw⟩ := hrel
            by_cases hlt : k < xs.length
            · obtain ⟨q, off, rfl, _, d1, d2⟩ := (h.nw hw).get k hlt
              have hbad : Hid (¬ (1 ≤ xs[k].1 ∧ xs[k].1 ≤ 2305843009213693951 ∧ 0 ≤ xs[k].2 ∧ xs[k].2 ≤ 4) → ¬ Rgt d xs) := fun h1 h2 => h1 (h2.each k hlt)
              have hgood : Hid (1 ≤ xs[k].1 ∧ xs[k].1 ≤ 2305843009213693951 ∧ 0 ≤ xs[k].2 ∧ xs[k].2 ≤ 4 → ∀ i (h : i < xs.length), i < k + 1 → 1 ≤ xs[i].1 ∧ xs[i].1 ≤ 2305843009213693951 ∧ 0 ≤ xs[i].2 ∧ xs[i].2 ≤ 4) := fun h1 i hi hik => by
                by_cases e : i = k
                · subst e; exact h1
                · exact hall.out i hi (by omega)
              generalize xs[k] = c at *
              have hnA : Hid (∀ o, Nw w (wr.alloc o) ∧ Nw V (wr.alloc o)) := fun o => ⟨nw_alloc (nw_trans nV hw) o, nw_alloc hw o⟩
              clear hall
              by_cases c1 : c.1 < 1
              · have hno : Hid _ := hbad.out (by omega)
                clear hbad hgood
                go_wp2
                go_ret
                exact rgt_no hno.out (hnA.out _).1
              · by_cases c2 : 2305843009213693951 < c.1
                · have hno : Hid _ := hbad.out (by omega)
                  clear hbad hgood
                  go_wp2
                  go_ret
                  exact rgt_no hno.out (hnA.out _).1
                · by_cases c3 : c.2 < 0
                  · have hno : Hid _ := hbad.out (by omega)
                    clear hbad hgood
                    go_wp2
                    go_ret
                    exact rgt_no hno.out (hnA.out _).1
                  · by_cases c4 : 4 < c.2
                    · have hno : Hid _ := hbad.out (by omega)
                      clear hbad hgood
                      go_wp2
                      go_ret
                      exact rgt_no hno.out (hnA.out _).1
                    · have hyes : Hid _ := hgood.out (by omega)
                      clear hbad hgood
                      go_wp2
                      go_roundw
                      case rel => exact ⟨k + 1, by omega, by go_num, hyes, (hnA.out _).2⟩
                      case measure => simp [intOf]; omega
            · have hfin : Hid (Rgt d xs) := ⟨by omega, by omega, by omega, hfm.out, fun i hi => hall.out i hi (by omega)⟩
              clear hall
              go_wp2
              go_ret
              exact ⟨true, rfl, ⟨(fun _ => hfin.out), (fun _ => rfl)⟩, nw_trans nV hw⟩
end Go.Proofs.Ytghlilncdfiojab

namespace Go.Proofs.Ytghlilncdfiojab
set_option linter.unusedVariables false
set_option linter.unusedSimpArgs false
set_option maxRecDepth 20000
open Go.RowKit Go.ChangeShapes Go.WideShapes Go.Deep

theorem plain_of_cell {w : World} {a : Addr} {v : Value} (h : w.cell? a = some v) : a = ⟨a.block, a.off, none⟩ := by
  obtain ⟨b, o, s⟩ := a
  cases s with
  | none => rfl
  | some s =>
    unfold World.cell? at h
    split at h <;> simp at h

theorem bulk_one {H : Type} (d : DataW H) : 1 ≤ Rows.uptoBulk d := by
  cases d with
  | lit l => cases l <;> simp [Rows.uptoBulk]
  | nil => simp [Rows.uptoBulk]
  | ptr d => simp [Rows.uptoBulk]
  | slice elems spare => simp [Rows.uptoBulk]
  | agg parts => simp [Rows.uptoBulk]
  | iface t d => simp [Rows.uptoBulk]
  | map entries => simp [Rows.uptoBulk]
  | held h => simp [Rows.uptoBulk]

theorem bulk_length {H : Type} (l : List (DataW H)) : l.length ≤ Rows.uptoBulkAll l := by
  induction l with
  | nil => simp [Rows.uptoBulkAll]
  | cons x r ih => have := bulk_one x; simp only [Rows.uptoBulkAll, List.length_cons]; omega

theorem Try.cellsInt : Try.prog.cellsOf 3 = 1 := by kernel_rfl
theorem Try.cellsU : Try.prog.cellsOf 22 = 1 := by kernel_rfl
theorem Try.cellsC : Try.prog.cellsOf 61 = 2 := by kernel_rfl
theorem Try.bytesC : Try.prog.bytesOf 61 = 16 := by kernel_rfl
theorem Try.cellsCs : Try.prog.cellsOf 23 = 1 := by kernel_rfl
theorem Try.cellsL : Try.prog.cellsOf 25 = 2 := by kernel_rfl

theorem list2 {l : List Value} (h : l.length = 2) : ∃ a b, l = [a, b] := by
  match l, h with
  | [a, b], _ => exact ⟨a, b, rfl⟩

/-- A category's cells. -/
theorem open_cat0 {H : Type} {enc : TypeId × Value → H} {W : World} {fuel : Nat} {b0 b1 : Value} {x : DataW H × List MemPlace}
    (h2 : DataW.trod enc Try.prog W 0 (fun _ => true) true fuel 61 [b0, b1] = some x) : ∃ c : Cat, b0 = .int .u64 c.1 ∧ b1 = .int .i64 c.2 := by
  obtain ⟨xs, k, hk, hxy, _, hxl, hf⟩ := DataW.trod_struct Try.underlying61 h2
  obtain ⟨y0, y1, rfl⟩ : ∃ y0 y1, xs = [y0, y1] := by
    match xs, hxl with
    | [y0, y1], _ => exact ⟨y0, y1, rfl⟩
  have g0 : DataW.trod enc Try.prog W 0 (fun _ => true) true k 22 (([b0, b1].drop 0).take (Try.prog.cellsOf 22)) = some y0 := hf 0 _ rfl
  have g1 : DataW.trod enc Try.prog W 0 (fun _ => true) true k 3 (([b0, b1].drop 1).take (Try.prog.cellsOf 3)) = some y1 := hf 1 _ rfl
  rw [Try.cellsU] at g0
  rw [Try.cellsInt] at g1
  obtain ⟨z0, e0, _, wf0⟩ := DataW.trod_int Try.underlying22 g0
  obtain ⟨z1, e1, _, wf1⟩ := DataW.trod_int Try.underlying3 g1
  exact ⟨(z0, z1), (List.cons.inj (show [b0] = [Value.int .u64 z0] from e0)).1, (List.cons.inj (show [b1] = [Value.int .i64 z1] from e1)).1⟩

/-- Categories that came in. -/
theorem open_cats {H : Type} {enc : TypeId × Value → H} {W : World} {fuel : Nat} {v : Value} {d : DataW H} {p : List MemPlace}
    (h : DataW.trod enc Try.prog W 0 (fun _ => true) true fuel 23 [v] = some (d, p)) (hw : ∀ n ∈ d.weights Try.prog 23, n ≤ reachBytes) :
    ∃ xs : List Cat, CSl (fun b => b < W.heap.size) W v xs ∧ xs.length ≤ 8796093021952 ∧ xs.length + 1 ≤ Rows.uptoBulk d := by
  rcases open_slice Try.underlying23 h with ⟨hcs, hd⟩ | ⟨a, len, cap, m, n, D, Pl, hcs, _, hl, hm, hmm, hx, hall⟩
  · simp only [List.cons.injEq, and_true] at hcs
    subst hcs
    exact ⟨[], csl_nil _ _, by simp, by have := bulk_one d; simp; omega⟩
  · simp only [List.cons.injEq, and_true] at hcs
    subst hcs
    simp only [if_true] at hmm
    subst hmm
    simp only [Prod.mk.injEq] at hx
    obtain ⟨rfl, _⟩ := hx
    have hwl := hw ((((List.range len).map D).length + ((List.range (m - len)).map fun j => D (len + j)).length) * 16) (by simp [DataW.weights, Try.underlying23, Try.bytesC])
    have each : ∀ i, i < len → ∃ c : Cat, W.cell? (a.add (i * 2)) = some (.int .u64 c.1) ∧ W.cell? ((a.add (i * 2)).add 1) = some (.int .i64 c.2) := by
      intro i hi
      obtain ⟨cs', h1, h2⟩ := hall i (by omega)
      rw [Try.cellsC] at h1
      obtain ⟨_, hlen, hcell⟩ := World.cells?_some h1
      obtain ⟨b0, b1, rfl⟩ := list2 hlen
      obtain ⟨c, rfl, rfl⟩ := open_cat0 h2
      have h0 := hcell 0 (by omega)
      have e : (a.add (i * 2)).add 0 = a.add (i * 2) := by simp [Addr.add]
      rw [e] at h0
      exact ⟨c, h0, hcell 1 (by omega)⟩
    haveI : Inhabited Cat := ⟨(0, 0)⟩
    obtain ⟨F, hF⟩ := choose_lt each
    refine ⟨(List.range len).map F, ?_, ?_, ?_⟩
    · have hpos : 0 < len → a = ⟨a.block, a.off, none⟩ := fun h0 => by
        have h1 := (hF 0 h0).1
        have e : a.add (0 * 2) = a := by simp [Addr.add]
        rw [e] at h1
        exact plain_of_cell h1
      refine ⟨some a, m, by simp, ⟨by simpa using hl, hm⟩, fun h => by simp at h, fun i c hi => ?_⟩
      have hil : i < len * 2 := by
        have := (List.getElem?_eq_some_iff.1 hi).1
        rw [ccells_length] at this
        simpa using this
      have ha := hpos (by omega)
      obtain ⟨h1, h2⟩ := hF (i / 2) (by omega)
      rw [ha, add_plain] at h1 h2
      rw [add_plain] at h2
      have hlt := World.block_lt_of_cell? W _ h1
      have hli : i / 2 < ((List.range len).map F).length := by simp; omega
      obtain ⟨g1, g2⟩ := ccells_get ((List.range len).map F) (i / 2) hli
      rw [show ((List.range len).map F)[i / 2] = F (i / 2) by simp] at g1 g2
      refine ⟨a.block, a.off, by rw [← ha], hlt, ?_⟩
      rcases Nat.mod_two_eq_zero_or_one i with hm2 | hm2
      · have e : i = i / 2 * 2 := by omega
        have hi' : (ccells ((List.range len).map F))[i / 2 * 2]? = some c := by rw [← e]; exact hi
        rw [g1] at hi'
        rw [show a.off + i = a.off + i / 2 * 2 by omega, h1, ← hi']
      · have e : i = i / 2 * 2 + 1 := by omega
        have hi' : (ccells ((List.range len).map F))[i / 2 * 2 + 1]? = some c := by rw [← e]; exact hi
        rw [g2] at hi'
        rw [show a.off + i = a.off + i / 2 * 2 + 1 by omega, h2, ← hi']
    · simp only [List.length_map, List.length_range] at hwl ⊢
      unfold reachBytes at hwl
      omega
    · simp only [Rows.uptoBulk, List.length_map, List.length_range]
      have := bulk_length ((List.range len).map D)
      simp at this
      omega

end Go.Proofs.Ytghlilncdfiojab

namespace Go.Proofs.Ytghlilncdfiojab
set_option linter.unusedVariables false
set_option linter.unusedSimpArgs false
set_option maxRecDepth 20000

structure InsI (c : Int) (pre : List Int) (s : List Int × Bool) : Prop where
  rs : s.1.Pairwise (· < ·)
  mem : ∀ x, x ∈ s.1 ↔ x ∈ pre ∨ (s.2 = true ∧ x = c)
  no : s.2 = false → ∀ x ∈ pre, x < c
  len : s.1.length ≤ pre.length + 1 ∧ (s.2 = false → s.1.length ≤ pre.length)
  hi : s.2 = true → ∃ x ∈ pre, c ≤ x

end Go.Proofs.Ytghlilncdfiojab

namespace Go.Proofs.Ytghlilncdfiojab
set_option linter.unusedVariables false
set_option linter.unusedSimpArgs false
set_option maxRecDepth 20000
open Go.RowKit

def uv (x : Int) : Value := .int .u64 x
/-- The slice v holds the numbers xs. -/
def USl (X : Nat → Prop) (w : World) (v : Value) (xs : List Int) : Prop := Slp X w v xs.length (xs.map uv)

theorem USl.form {X : Nat → Prop} {w : World} {v : Value} {es : List Int} (h : USl X w v es) : ∃ ao cap, v = .slice ao es.length cap ∧ es.length ≤ cap ∧ cap ≤ 9223372036854775807 := by
  obtain ⟨ao, cap, rfl, ⟨h1, h2⟩, _⟩ := h
  exact ⟨ao, cap, rfl, h1, h2⟩

theorem USl.get {X : Nat → Prop} {w : World} {ao : Option Addr} {n cap : Nat} {es : List Int} (h : USl X w (.slice ao n cap) es) (k : Nat) (hk : k < es.length) :
    ∃ q off, ao = some ⟨q, off, none⟩ ∧ X q ∧ w.cell? ⟨q, off + k, none⟩ = some (.int .u64 es[k]) := by
  obtain ⟨ao', cap', hv, _, _, hcs⟩ := h
  simp only [Value.slice.injEq] at hv
  obtain ⟨rfl, _, rfl⟩ := hv
  obtain ⟨q, off, h3, h4, h5⟩ := hcs k (uv es[k]) (by simp [hk])
  exact ⟨q, off, h3, h4, h5⟩

theorem USl.keep {X X' : Nat → Prop} {w w' : World} {v : Value} {es : List Int} (h : USl X w v es) {T : Nat → Prop} (hf : Fr T w w') (hT : ∀ b, X b → b < w.heap.size → ¬ T b) (hX : ∀ b, X b → b < w.heap.size → X' b) : USl X' w' v es := by
  obtain ⟨ao, cap, hv, hc, hn, hcs⟩ := h
  refine ⟨ao, cap, hv, hc, hn, fun i c hi => ?_⟩
  obtain ⟨b, off, h1, h2, h3⟩ := hcs i c hi
  have hb : b < w.heap.size := World.block_lt_of_cell? w _ h3
  exact ⟨b, off, h1, hX b h2 hb, by rw [World.cell?_of_block (w := w) (hf.block b hb (hT b h2 hb))]; exact h3⟩

theorem USl.nw {X : Nat → Prop} {w w' : World} {v : Value} {es : List Int} (h : USl X w v es) (hf : Nw w w') : USl X w' v es := h.keep hf (fun _ _ _ => fun h => h) (fun _ h _ => h)
theorem USl.mono {X X' : Nat → Prop} {w : World} {v : Value} {es : List Int} (h : USl X w v es) (hX : ∀ b, X b → b < w.heap.size → X' b) : USl X' w v es := h.keep (Fr.refl (fun _ => False) w) (fun _ _ _ => fun h => h) hX

end Go.Proofs.Ytghlilncdfiojab

namespace Go.Proofs.Ytghlilncdfiojab
set_option linter.unusedVariables false
set_option linter.unusedSimpArgs false
set_option maxRecDepth 20000
open Go.RowKit

theorem take_eq_succ {xa xb : List Cat} {k : Nat} (h : xa.take k = xb.take k) (h1 : k < xa.length) (h2 : k < xb.length) (he : xa[k] = xb[k]) : xa.take (k + 1) = xb.take (k + 1) := by
  rw [List.take_succ_eq_append_getElem h1, List.take_succ_eq_append_getElem h2, h, he]

end Go.Proofs.Ytghlilncdfiojab
