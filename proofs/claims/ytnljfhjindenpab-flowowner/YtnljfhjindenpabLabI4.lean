/-
  slices.Insert at 0, where there is too little room: a new row.
-/
import Derived.Test.YtnljfhjindenpabLabI3
import Derived.Deep.DeepAppendWide
namespace Go.Proofs.Ytnljfhjindenpab
set_option linter.unusedVariables false
set_option linter.unusedSimpArgs false
set_option maxRecDepth 20000
open Go.RowKit

theorem ccell_len (c : Cat) : (ccell c).length = 2 := rfl
theorem ccell_one (c : Cat) : ∀ v ∈ ccell c, v.oneCell' = true := fun v hv => by simp [ccell] at hv; rcases hv with rfl | rfl <;> rfl

/-- A row, its first cells written over twice. -/
theorem blk_two {W0 W1 : World} {g : Nat} {ROW : Array Value} {xs : List Cat} {c : Cat} (h : W0.heap[g]? = some (.cells ROW 35 (0, 0))) (hR : (xs.length + 1) * 2 ≤ ROW.size) (h1 : W1.heap = (W0.setCells g 0 (ccell c)).heap) :
    (W1.setCells g 2 (ccells xs)).heap[g]? = some (.cells (ccells (c :: xs) ++ ROW.toList.drop ((xs.length + 1) * 2)).toArray 35 (0, 0)) := by
  obtain ⟨a, b, t, hl⟩ : ∃ a b t, ROW.toList = a :: b :: t := by
    match hq : ROW.toList with
    | [] => have : ROW.toList.length = 0 := by rw [hq]; rfl
            simp at this; rw [this] at hR; simp at hR
    | [a] => have : ROW.toList.length = 1 := by rw [hq]; rfl
             simp at this; rw [this] at hR; omega
    | a :: b :: t => exact ⟨a, b, t, rfl⟩
  have hsz : ROW.size = t.length + 2 := by rw [← Array.length_toList, hl]; rfl
  have e0 : ROW = (([] : List Value) ++ [a, b] ++ t).toArray := by apply Array.toList_inj.1; simpa using hl
  rw [e0] at h
  have s1 := blk_setCells t (ccell c) [] [a, b] W0 rfl h
  rw [show ([] : List Value).length = 0 from rfl, ← h1] at s1
  have e1 : t = t.take (xs.length * 2) ++ t.drop (xs.length * 2) := (List.take_append_drop _ _).symm
  have e2 : ([] ++ ccell c ++ t) = ccell c ++ t.take (xs.length * 2) ++ t.drop (xs.length * 2) := by show ccell c ++ t = _; rw [List.append_assoc, ← e1]
  rw [e2] at s1
  have s2 := blk_setCells (t.drop (xs.length * 2)) (ccells xs) (ccell c) (t.take (xs.length * 2)) W1 (by rw [List.length_take, ccells_length]; omega) s1
  rw [ccell_len] at s2
  rw [s2, hl, show (xs.length + 1) * 2 = xs.length * 2 + 2 by omega]
  rfl

set_option maxHeartbeats 1600000 in
theorem c_insGrow {g q n cap : Nat} {cur : Array Value} {xs : List Cat} {c : Cat} (w : World) (hx : xs.length = n) (h0 : 0 < n) (hn : n ≤ 8796093022208) (hnc : n ≤ cap) (hroom : cap < n + 1) (hg : w.heap[g]? = some (.cells cur 35 (0, 0))) (ht : cur.toList.take (n * 2) = ccells xs)
    (hq : w.heap[q]? = some (.cells (ccell c).toArray 35 (0, 0))) :
    Calls Try.prog 34 #[.slice (some ⟨g, 0, none⟩) n cap, .int .i64 0, .slice (some ⟨q, 0, none⟩) 1 1] w fun e w' => ∃ G tl, e = .returned (.slice (some ⟨w.heap.size, 0, none⟩) (n + 1) G) ∧ n + 1 ≤ G ∧ G ≤ 9223372036854775807 ∧ CB w' w.heap.size (c :: xs) tl ∧ Nw w w' := by
  obtain ⟨i0, hi0, hz0, hs0, hb0⟩ := info_parts3 Try.infoC
  have hlx : (ccells xs).length = n * 2 := by rw [ccells_length, hx]
  have hgl : g < w.heap.size := heap_lt hg
  have hql : q < w.heap.size := heap_lt hq
  have hxs : ∀ j v, (ccells xs)[j]? = some v → w.cell? ⟨g, j, none⟩ = some v := fun j v hj => by
    refine cell_blk hg ?_
    have hjl := (List.getElem?_eq_some_iff.1 hj).1
    rw [← ht, List.getElem?_take_of_lt (by omega)] at hj
    simpa using hj
  have hcs2 : ∀ j v, (ccell c)[j]? = some v → w.cell? ⟨q, j, none⟩ = some v := fun j v hj => cell_blk hq (by simpa using hj)
  have hsz : (Try.prog.info? 35).map (·.size) = some 2 := by kernel_rfl
  obtain ⟨G, hG⟩ : ∃ G, G = grownCap w (n + 1) cap 35 := ⟨_, rfl⟩
  obtain ⟨ROW, hROW⟩ : ∃ ROW : Array Value, ROW = Builtin.zeroCells (Value.agg #[.int .u64 0, .int .i64 0]).cells (n + 1) ++ Builtin.zeroCells (Value.agg #[.int .u64 0, .int .i64 0]).cells (G - (n + 1)) := ⟨_, rfl⟩
  have hRl : (n + 1) * 2 ≤ ROW.size := by
    rw [hROW]
    simp [Builtin.zeroCells, Value.cells]
  obtain ⟨W1, hW1⟩ : ∃ W1, W1 = w.drew.alloc (.cells ROW 35) := ⟨_, rfl⟩
  have hrz : ∀ ty, (Builtin.append_ #[22, 3] ty #[.slice (some ⟨g, 0, none⟩) 0 cap, .int .i64 ((n : Int) + 1)]).run Try.prog w = .ok (.slice (some ⟨w.heap.size, 0, none⟩) (n + 1) G) W1 := fun ty => by
    rw [hW1, hROW, hG]
    have hnx := nextslicecap_le_wide hroom
    exact run_append_zeros_onto w 22 3 ty 35 i0 _ .i64 .i64 Try.underlying22 Try.underlying3 hi0 hz0 ⟨g, 0, none⟩ cap (n + 1) hroom (by omega) (by omega) (by rw [hb0]; omega) (by rw [hb0]; omega)
  have hN : ∀ j, j < (n + 1) * 2 → (W1.cell? ⟨w.heap.size, j, none⟩).isSome = true := fun j hj => by
    rw [hW1, World.cell?_alloc_at (w := w.drew) ROW _ w.heap.size j rfl, Array.getElem?_eq_getElem (by omega)]; rfl
  have hNf : ∀ j, W1.frozen? ⟨w.heap.size, j, none⟩ = false := fun j => by rw [hW1]; exact World.frozen?_alloc_at (w := w.drew) ROW _ w.heap.size j rfl
  have hOb : ∀ j v, w.cell? ⟨g, j, none⟩ = some v → W1.cell? ⟨g, j, none⟩ = some v := fun j v h => by rw [hW1, World.cell?_alloc_past (w := w.drew) _ g j hgl]; exact h
  have hOv : ∀ j v, w.cell? ⟨q, j, none⟩ = some v → W1.cell? ⟨q, j, none⟩ = some v := fun j v h => by rw [hW1, World.cell?_alloc_past (w := w.drew) _ q j hql]; exact h
  have hcpA : ∀ (W : World), (∀ x, W.cell? x = W1.cell? x) → (∀ x, W.frozen? x = W1.frozen? x) → ∀ ty dc, (Builtin.copy_ #[22, 22] ty #[.slice (some ⟨w.heap.size, 0, none⟩) (n + 1) dc, .slice (some ⟨q, 0, none⟩) 1 1]).run Try.prog W = .ok (goInt 1) (W.setCells w.heap.size 0 (ccell c)) := fun W hWc hWf ty dc => by
    have hmin : Nat.min 1 (n + 1) = 1 := Nat.min_eq_left (by omega)
    have := run_copy_sized (P := Try.prog) W 22 22 ty 35 w.heap.size 0 (n + 1) dc ⟨q, 0, none⟩ 1 1 2 (ccell c) Try.underlying22 hsz (by rw [hmin]; rfl)
      (fun j v hj => by rw [Addr.add_lit, Nat.zero_add, hWc]; exact hOv _ v (hcs2 j v hj))
      (fun j hj => by have hj2 : j < 2 := hj; rw [hWc]; exact hN _ (by omega))
      (fun j hj => by rw [hWf]; exact hNf _) (ccell_one c)
    rw [hmin] at this
    exact this
  have hcpB : ∀ (W : World), (∀ x, W.cell? x = (W1.setCells w.heap.size 0 (ccell c)).cell? x) → (∀ x, W.frozen? x = (W1.setCells w.heap.size 0 (ccell c)).frozen? x) → ∀ ty dc sc, (Builtin.copy_ #[22, 22] ty #[.slice (some ⟨w.heap.size, 2, none⟩) n dc, .slice (some ⟨g, 0, none⟩) n sc]).run Try.prog W = .ok (goInt n) (W.setCells w.heap.size 2 (ccells xs)) := fun W hWc hWf ty dc sc => by
    have hmin : Nat.min n n = n := Nat.min_self n
    have := run_copy_sized (P := Try.prog) W 22 22 ty 35 w.heap.size 2 n dc ⟨g, 0, none⟩ n sc 2 (ccells xs) Try.underlying22 hsz (by rw [hmin, hlx])
      (fun j v hj => by
        rw [Addr.add_lit, Nat.zero_add, hWc, World.cell?_setCells_out _ _ _ _ _ (fun h _ => absurd h (by show g ≠ _; omega))]
        exact hOb _ v (hxs j v hj))
      (fun j hj => by rw [hWc]; exact isSome_setCells _ (ccell c) 0 W1 (fun t ht => hN _ (by have : t < 2 := ht; omega)) _ (hN _ (by omega)))
      (fun j hj => by rw [hWf, World.frozen?_setCells]; exact hNf _) (ccells_oneCell xs)
    rw [hmin] at this
    exact this
  have hGn : n + 1 ≤ G := by rw [hG]; exact grownCap_ge w _ _ _
  have hG63 : G ≤ 9223372036854775807 := by
    have := grownCap_le_maxLen w (n + 1) cap 35 (by unfold maxLen; omega)
    rw [← hG] at this
    unfold maxLen at this
    omega
  subst hW1
  have hfin : Hid (∀ W2 : World, W2.heap = ((w.drew.alloc (.cells ROW 35)).setCells w.heap.size 0 (ccell c)).heap → Nw w W2 → CB (W2.setCells w.heap.size 2 (ccells xs)) w.heap.size (c :: xs) (ROW.toList.drop ((xs.length + 1) * 2)) ∧ Nw w (W2.setCells w.heap.size 2 (ccells xs))) := fun W2 h1 h2 =>
    ⟨blk_two (heap_alloc_new w.drew (.cells ROW 35)) (by rw [hx]; exact hRl) h1, fr_setCells (.inr (Nat.le_refl _)) _ _ _ h2⟩
  have hfr : Hid (Nw w ((w.alloc (.cells ROW 35)).drew.setCells w.heap.size 0 (ccell c)).drew) := Fr.drew (fr_setCells (.inr (Nat.le_refl _)) _ _ _ (Fr.drew (nw_alloc (nw_refl w) _)))
  have hE1 : ∀ x, ((w.alloc (.cells ROW 35)).drew).cell? x = (w.drew.alloc (.cells ROW 35)).cell? x := fun x => rfl
  have hE2 : ∀ x, ((w.alloc (.cells ROW 35)).drew).frozen? x = (w.drew.alloc (.cells ROW 35)).frozen? x := fun x => rfl
  have hF1 : ∀ x, (((w.alloc (.cells ROW 35)).drew.setCells w.heap.size 0 (ccell c)).drew).cell? x = ((w.drew.alloc (.cells ROW 35)).setCells w.heap.size 0 (ccell c)).cell? x := fun x => rfl
  have hF2 : ∀ x, (((w.alloc (.cells ROW 35)).drew.setCells w.heap.size 0 (ccell c)).drew).frozen? x = ((w.drew.alloc (.cells ROW 35)).setCells w.heap.size 0 (ccell c)).frozen? x := fun x => rfl
  have hz1 : ¬ ((n : Int) = 0) := by omega
  have hz2 : ¬ ((0 : Int) = (n : Int)) := by omega
  have hz3 : (cap : Int) < (n : Int) + 1 := by omega
  have hw1 : IntKind.i64.wrap 1 = 1 := by decide
  have hb1 : (1 : Int) ≤ (n : Int) + 1 := by omega
  have hb2 : ¬ (G = 1) := by omega
  have hb3 : ¬ (G = 0) := by omega
  have hb4 : (0 : Int) ≤ (n : Int) + 1 := by omega
  have hb5 : ¬ (cap = 0) := by omega
  clear hxs hcs2 hlx hsz hROW hG hRl hN hNf hOb hOv hg hq ht hi0 hz0 hs0 hb0
  go_enter Try.func34, Try.ntmps34
  go_wp2_with (first
    | (at_builtin; refine Lib.wpList_append_run _ rfl _ _ _ _ rfl _ _ rfl rfl _ _ (hrz _) ?_)
    | (at_builtin; refine wpList_copy_run _ rfl _ _ 22 22 rfl _ _ rfl rfl _ _ (hcpA _ hE1 hE2 _ _) ?_))
  go_region_law (refine step_copy_run rfl _ _ 22 22 rfl (.slice (some ⟨w.heap.size, 2, none⟩) n (G - 1)) (.slice (some ⟨g, 0, none⟩) n cap) (by simp [Act.eval, Act.put]) (by simp [Act.eval, Act.put]) (hcpB _ hF1 hF2 3 (G - 1) cap) ?_)
  go_wp2
  go_ret
  exact ⟨G, _, rfl, hGn, hG63, hfin.out ((w.alloc (.cells ROW 35)).drew.setCells w.heap.size 0 (ccell c)).drew rfl hfr.out⟩
end Go.Proofs.Ytnljfhjindenpab
