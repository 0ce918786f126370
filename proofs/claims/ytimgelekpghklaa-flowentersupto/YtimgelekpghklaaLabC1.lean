/-
  Categories in memory: what is cleared; the closures of Make; what stands at the first of each run, plainly.
-/
import Derived.Test.YtimgelekpghklaaLabS6
import Derived.Lib.SliceRun
namespace Go.Proofs.Ytimgelekpghklaa
set_option linter.unusedVariables false
set_option linter.unusedSimpArgs false
set_option maxRecDepth 20000
open Go.RowKit

theorem zeroCells_two (n : Nat) : (Builtin.zeroCells (Value.agg #[.int .u64 0, .int .i64 0]).cells n).toList = ccells (List.replicate n (0, 0)) := by
  apply List.ext_getElem?
  intro i
  have hl : (ccells (List.replicate n ((0, 0) : Cat))).length = n * 2 := by rw [ccells_length, List.length_replicate]
  by_cases hi : i < n * 2
  · have h2 : i / 2 < (List.replicate n ((0, 0) : Cat)).length := by rw [List.length_replicate]; omega
    obtain ⟨g1, g2⟩ := ccells_get (List.replicate n ((0, 0) : Cat)) (i / 2) h2
    rw [List.getElem_replicate] at g1 g2
    rcases Nat.mod_two_eq_zero_or_one i with hm | hm
    · have e : i = i / 2 * 2 := by omega
      have : (ccells (List.replicate n ((0, 0) : Cat)))[i]? = some (.int .u64 0) := by rw [e]; exact g1
      rw [this]
      have hi' : i < n * (Value.agg #[.int .u64 0, .int .i64 0]).cells.size := hi
      unfold Builtin.zeroCells
      rw [Array.getElem?_toList, Array.getElem?_map, Array.getElem?_eq_getElem (by simpa using hi'), Array.getElem_range]
      show some ((#[Value.int .u64 0, Value.int .i64 0])[i % 2]!) = _
      rw [hm]
      rfl
    · have e : i = i / 2 * 2 + 1 := by omega
      have : (ccells (List.replicate n ((0, 0) : Cat)))[i]? = some (.int .i64 0) := by rw [e]; exact g2
      rw [this]
      have hi' : i < n * (Value.agg #[.int .u64 0, .int .i64 0]).cells.size := hi
      unfold Builtin.zeroCells
      rw [Array.getElem?_toList, Array.getElem?_map, Array.getElem?_eq_getElem (by simpa using hi'), Array.getElem_range]
      show some ((#[Value.int .u64 0, Value.int .i64 0])[i % 2]!) = _
      rw [hm]
      rfl
  · rw [List.getElem?_eq_none (by omega : (ccells (List.replicate n ((0, 0) : Cat))).length ≤ i)]
    apply List.getElem?_eq_none
    simp [Builtin.zeroCells, Value.cells]
    omega

theorem blk_setCells {g : Nat} {t : TypeId} (post : List Value) : ∀ (vs pre mid : List Value) (w : World), mid.length = vs.length → w.heap[g]? = some (.cells (pre ++ mid ++ post).toArray t (0, 0)) → (w.setCells g pre.length vs).heap[g]? = some (.cells (pre ++ vs ++ post).toArray t (0, 0))
  | [], pre, mid, w, h1, h2 => by
    have : mid = [] := List.eq_nil_of_length_eq_zero (by simpa using h1)
    subst this
    simpa [World.setCells] using h2
  | v :: vs, pre, [], w, h1, h2 => by simp at h1
  | v :: vs, pre, m :: mid, w, h1, h2 => by
    rw [World.setCells]
    have h3 : (w.setCell ⟨g, pre.length, none⟩ v).heap[g]? = some (.cells ((pre ++ [v]) ++ mid ++ post).toArray t (0, 0)) := by
      rw [blk_setCell h2]
      congr 2
      apply Array.toList_inj.1
      simp
    have h4 := blk_setCells post vs (pre ++ [v]) mid (w.setCell ⟨g, pre.length, none⟩ v) (by simpa using h1) h3
    rw [List.length_append] at h4
    simpa using h4

theorem fr_setCells {g : Nat} {S : Nat → Prop} {a : World} (hp : S g ∨ a.heap.size ≤ g) : ∀ (vs : List Value) (o : Nat) (w : World), Fr S a w → Fr S a (w.setCells g o vs)
  | [], o, w, h => h
  | v :: vs, o, w, h => fr_setCells hp vs (o + 1) _ (h.setCell (p := ⟨g, o, none⟩) hp v)

/-- What is behind k is cleared. -/
theorem CB.clear {w : World} {g : Nat} {zs : List Cat} {tl : List Value} (h : CB w g zs tl) (k : Nat) (hk : k ≤ zs.length) : CB (w.setCells g (k * 2) (ccells (List.replicate (zs.length - k) (0, 0)))) g (zs.take k) (ccells (List.replicate (zs.length - k) (0, 0)) ++ tl) := by
  have e : zs = zs.take k ++ zs.drop k := (List.take_append_drop k zs).symm
  have e2 : ccells zs = ccells (zs.take k) ++ ccells (zs.drop k) := by rw [← ccells_append, ← e]
  unfold CB at *
  rw [e2] at h
  have hl : (ccells (zs.take k)).length = k * 2 := by rw [ccells_length, List.length_take, Nat.min_eq_left hk]
  have := blk_setCells tl (ccells (List.replicate (zs.length - k) (0, 0))) (ccells (zs.take k)) (ccells (zs.drop k)) w (by rw [ccells_length, ccells_length]; simp) h
  rw [hl] at this
  rw [this, List.append_assoc]

theorem CB.cellAll {w : World} {g : Nat} {xs : List Cat} {tl : List Value} (h : CB w g xs tl) (j : Nat) (hj : j < xs.length * 2) : (w.cell? ⟨g, j, none⟩).isSome = true := by
  have hl := ccells_length xs
  rw [cell_blk h (v := (ccells xs ++ tl)[j]'(by simp; omega)) (by simp)]
  rfl

theorem run_clear2 {w : World} {g : Nat} {zs : List Cat} {tl : List Value} (h : CB w g zs tl) (k c : Nat) (ty : TypeId) (hk : k < zs.length) :
    (Builtin.clear_ #[22] ty #[.slice (some ⟨g, k * 2, none⟩) (zs.length - k) c]).run Try.prog w = .ok (.tuple #[]) (w.setCells g (k * 2) (ccells (List.replicate (zs.length - k) (0, 0)))) := by
  have hv : ∀ w, (zeroValue 33).run Try.prog w = .ok (.agg #[.int .u64 0, .int .i64 0]) w := fun w => Try.zeroValue33 w
  have hst := run_storeCells_cells (P := Try.prog) g (k * 2) (ccells (List.replicate (zs.length - k) (0, 0))) 0 w
    (by intro j hj; rw [ccells_length, List.length_replicate] at hj; exact h.cellAll _ (by omega))
    (by intro j hj; exact h.free _)
    (ccells_oneCell _)
  simp only [Nat.add_zero] at hst
  obtain ⟨m, hm⟩ : ∃ m, zs.length - k = m + 1 := ⟨zs.length - k - 1, by omega⟩
  rw [hm] at hst ⊢
  simp [Builtin.clear_, run_underlying Try.underlying22, hv, zeroCells_two, hst]

theorem c_mk2 (x y : Cat) (w : World) : Calls Try.prog 46 #[catV x, catV y] w fun e w' => e = .returned (.bool (x.1 == y.1)) ∧ Nw w w' := by
  unfold catV
  have hn : Hid (∀ o1 o2, Nw w ((w.alloc o1).alloc o2)) := fun o1 o2 => ((Fr.refl _ w).alloc _).alloc _
  go_enter Try.func46, Try.ntmps46
  go_wp2
  go_ret
  exact ⟨rfl, hn.out _ _⟩

theorem c_mk3 (x : Cat) (d : Int) (p : Nat) (w : World) (hd : w.cell? ⟨p, 0, none⟩ = some (.int .i64 d)) : Calls Try.prog 48 #[catV x, .pointer (some ⟨p, 0, none⟩)] w fun e w' => e = .returned (.bool (x.2 == d)) ∧ Nw w w' := by
  unfold catV
  have hn : Hid (∀ o1, Nw w (w.alloc o1)) := fun o1 => (Fr.refl _ w).alloc _
  have hlt : p < w.heap.size := World.block_lt_of_cell? w _ hd
  go_enter Try.func48, Try.ntmps48
  go_wp2
  go_ret
  exact ⟨rfl, hn.out _⟩

/-! ### The first of each run -/
def ddT (xs : List Cat) : Nat → List Cat
  | 0 => []
  | k + 1 => if k = 0 ∨ ky xs k ≠ ky xs (k - 1) then ddT xs k ++ [gt xs k] else ddT xs k

theorem ddT_le (xs : List Cat) : ∀ k, (ddT xs k).length ≤ k
  | 0 => by simp [ddT]
  | k + 1 => by
    have := ddT_le xs k
    rw [ddT]
    split <;> simp <;> omega

theorem ddT_take (xs : List Cat) : ∀ k, k ≤ xs.length → (∀ i, 0 < i → i < k → ky xs i ≠ ky xs (i - 1)) → ddT xs k = xs.take k
  | 0, _, _ => by simp [ddT]
  | k + 1, hk, h => by
    rw [ddT, if_pos, ddT_take xs k (by omega) (fun i h1 h2 => h i h1 (by omega)), List.take_succ_eq_append_getElem (by omega), gt_of (by omega)]
    by_cases h0 : k = 0
    · exact .inl h0
    · exact .inr (h k (by omega) (by omega))

/-- So far packed together. -/
structure Cmp (xs zs : List Cat) (j k : Nat) : Prop where
  len : zs.length = xs.length
  k1 : k + 1 ≤ j
  dd : (ddT xs j).length = k
  low : zs.take k = ddT xs j
  high : ∀ i, j ≤ i + 1 → zs[i]? = xs[i]?

theorem Cmp.start {xs : List Cat} {k : Nat} (hk : 0 < k) (hl : k < xs.length) (h : ∀ i, 0 < i → i < k → ky xs i ≠ ky xs (i - 1)) (he : ky xs k = ky xs (k - 1)) : Cmp xs xs (k + 1) k := by
  have e : ddT xs (k + 1) = xs.take k := by
    rw [ddT, if_neg, ddT_take xs k (by omega) h]
    rintro (h1 | h1)
    · omega
    · exact h1 he
  exact ⟨rfl, Nat.le_refl _, by rw [e]; simp; omega, e.symm, fun _ _ => rfl⟩

theorem Cmp.skip {xs zs : List Cat} {j k : Nat} (h : Cmp xs zs j k) (he : ky xs j = ky xs (j - 1)) : Cmp xs zs (j + 1) k := by
  have e : ddT xs (j + 1) = ddT xs j := by
    rw [ddT, if_neg]
    rintro (h1 | h1)
    · have := h.k1; omega
    · exact h1 he
  exact ⟨h.len, by have := h.k1; omega, by rw [e]; exact h.dd, by rw [e]; exact h.low, fun i hi => h.high i (by omega)⟩

theorem take_set_snoc (zs : List Cat) (k : Nat) (c : Cat) (h : k < zs.length) : (zs.set k c).take (k + 1) = zs.take k ++ [c] := by
  rw [List.take_succ_eq_append_getElem (by simpa using h), List.take_set_of_le (Nat.le_refl k)]
  simp

theorem Cmp.put {xs zs : List Cat} {j k : Nat} (h : Cmp xs zs j k) (hj : j < xs.length) (he : ky xs j ≠ ky xs (j - 1)) : Cmp xs (zs.set k (gt xs j)) (j + 1) (k + 1) := by
  have e : ddT xs (j + 1) = ddT xs j ++ [gt xs j] := by rw [ddT, if_pos (.inr he)]
  have h1 := h.k1
  refine ⟨by rw [List.length_set]; exact h.len, by omega, by rw [e]; simp [h.dd], ?_, fun i hi => ?_⟩
  · rw [e, take_set_snoc _ _ _ (by have := h.len; omega), h.low]
  · rw [List.getElem?_set_ne (by omega)]
    exact h.high i (by omega)
end Go.Proofs.Ytimgelekpghklaa
