/-
  slices.Insert at 0, where there is room: in place.
-/
import Derived.Test.YtnljfhjindenpabLabI2
namespace Go.Proofs.Ytnljfhjindenpab
set_option linter.unusedVariables false
set_option linter.unusedSimpArgs false
set_option maxRecDepth 20000
open Go.RowKit

theorem isSome_setCells (b : Nat) (vs : List Value) (o : Nat) (w : World) (h : ∀ j, j < vs.length → (w.cell? ⟨b, o + j, none⟩).isSome = true) (k : Nat) (hk : (w.cell? ⟨b, k, none⟩).isSome = true) : ((w.setCells b o vs).cell? ⟨b, k, none⟩).isSome = true := by
  by_cases hin : o ≤ k ∧ k < o + vs.length
  · have := World.cell?_setCells_in b vs o w h (k - o) (by omega)
    rw [show o + (k - o) = k by omega] at this
    rw [this]; rfl
  · rw [World.cell?_setCells_out b vs o w ⟨b, k, none⟩ (fun _ _ => by show k < o ∨ o + vs.length ≤ k; omega)]
    exact hk

set_option maxHeartbeats 1600000 in
theorem c_insShift {g q n cap : Nat} {cur : Array Value} {xs : List Cat} {c : Cat} (w : World) (hx : xs.length = n) (h0 : 0 < n) (hroom : n + 1 ≤ cap) (hm : cap ≤ 9223372036854775807) (hg : w.heap[g]? = some (.cells cur 35 (0, 0))) (hcs : cur.size = cap * 2) (ht : cur.toList.take (n * 2) = ccells xs)
    (hq : w.heap[q]? = some (.cells (ccell c).toArray 35 (0, 0))) (hne : q ≠ g) :
    Calls Try.prog 34 #[.slice (some ⟨g, 0, none⟩) n cap, .int .i64 0, .slice (some ⟨q, 0, none⟩) 1 1] w fun e w' => e = .returned (.slice (some ⟨g, 0, none⟩) (n + 1) cap) ∧ w' = (w.drew.setCells g 2 (ccells xs)).setCells g 0 (ccell c) := by
  have hlx : (ccells xs).length = n * 2 := by rw [ccells_length, hx]
  have hsp : ∀ j, j < cap * 2 → (w.cell? ⟨g, j, none⟩).isSome = true := fun j hj => by
    rw [cell_blk hg (v := cur[j]'(by omega)) (by simp [hcs, hj])]
    rfl
  have hfz : ∀ j, w.frozen? ⟨g, j, none⟩ = false := fun j => free_blk hg
  have hxs : ∀ j v, (ccells xs)[j]? = some v → w.cell? ⟨g, j, none⟩ = some v := fun j v hj => by
    refine cell_blk hg ?_
    have hjl := (List.getElem?_eq_some_iff.1 hj).1
    rw [← ht, List.getElem?_take_of_lt (by omega)] at hj
    simpa using hj
  have hcs2 : ∀ j v, (ccell c)[j]? = some v → w.cell? ⟨q, j, none⟩ = some v := fun j v hj => cell_blk hq (by simpa using hj)
  have hsz : (Try.prog.info? 35).map (·.size) = some 2 := by kernel_rfl
  have hov : ∀ lb cb, (callFunc 60 #[.slice (some ⟨q, 0, none⟩) 1 1, .slice (some ⟨g, 2, none⟩) lb cb]).run Try.prog w = .ok (.value (.bool false)) w := fun lb cb =>
    c_overlaps w ⟨q, 0, none⟩ ⟨g, 2, none⟩ 1 1 lb cb hne 35 35 2 (cap * 2) (by simp [World.shape?, hq, ccell]) (by simp [World.shape?, hg, hcs]) (by omega) (free_blk hq) (free_blk hq)
  obtain ⟨W1, hW1⟩ : ∃ W1, W1 = w.drew.setCells g 2 (ccells xs) := ⟨_, rfl⟩
  have hcp1 : ∀ ty dc sc, (Builtin.copy_ #[22, 22] ty #[.slice (some ⟨g, 2, none⟩) n dc, .slice (some ⟨g, 0, none⟩) (n + 1) sc]).run Try.prog w.drew = .ok (goInt n) W1 := fun ty dc sc => by
    have hmin : Nat.min (n + 1) n = n := Nat.min_eq_right (by omega)
    have := run_copy_sized (P := Try.prog) w.drew 22 22 ty 35 g 2 n dc ⟨g, 0, none⟩ (n + 1) sc 2 (ccells xs) Try.underlying22 hsz (by rw [hmin, hlx])
      (fun j v hj => by rw [Addr.add_lit, Nat.zero_add]; exact hxs j v hj) (fun j hj => hsp _ (by omega)) (fun j hj => hfz _) (ccells_oneCell xs)
    rw [hmin] at this
    rw [hW1]
    exact this
  have hcp2 : ∀ (W : World), (∀ x, W.cell? x = W1.cell? x) → (∀ x, W.frozen? x = W1.frozen? x) → ∀ ty dc, (Builtin.copy_ #[22, 22] ty #[.slice (some ⟨g, 0, none⟩) (n + 1) dc, .slice (some ⟨q, 0, none⟩) 1 1]).run Try.prog W = .ok (goInt 1) (W.setCells g 0 (ccell c)) := fun W hWc hWf ty dc => by
    have hmin : Nat.min 1 (n + 1) = 1 := Nat.min_eq_left (by omega)
    have := run_copy_sized (P := Try.prog) W 22 22 ty 35 g 0 (n + 1) dc ⟨q, 0, none⟩ 1 1 2 (ccell c) Try.underlying22 hsz (by rw [hmin]; rfl)
      (fun j v hj => by
        rw [Addr.add_lit, Nat.zero_add, hWc, hW1, World.cell?_setCells_out g _ _ _ _ (fun h _ => absurd h hne)]
        exact hcs2 j v hj)
      (fun j hj => by
        rw [hWc, hW1]
        have hj2 : j < 2 := hj
        exact isSome_setCells g (ccells xs) 2 w.drew (fun i hi => hsp (2 + i) (by omega)) (0 + j) (hsp (0 + j) (by omega)))
      (fun j hj => by rw [hWf, hW1, World.frozen?_setCells]; exact hfz _) (fun v hv => by simp [ccell] at hv; rcases hv with rfl | rfl <;> rfl)
    rw [hmin] at this
    exact this
  have hz1 : ¬ ((n : Int) = 0) := by omega
  have hz2 : ¬ ((0 : Int) = (n : Int)) := by omega
  have hw1 : IntKind.i64.wrap 1 = 1 := by decide
  have hb1 : (1 : Int) ≤ (n : Int) + 1 := by omega
  have hb2 : ¬ (cap = 1) := by omega
  have hb3 : ¬ (cap = 0) := by omega
  have hb4 : (0 : Int) ≤ (n : Int) + 1 := by omega
  clear hxs hcs2 hsp hfz hlx hsz
  go_enter Try.func34, Try.ntmps34
  go_wp2_with (simp only [hov])
  go_region_law (refine step_copy_run rfl _ _ 22 22 rfl _ _ (by simp [Act.eval, Act.put]) (by simp [Act.eval, Act.put]) (hcp1 _ _ _) ?_)
  go_wp2_with (at_builtin; refine wpList_copy_run _ rfl _ _ 22 22 rfl _ _ rfl rfl _ _ (hcp2 _ (fun _ => rfl) (fun _ => rfl) _ _) ?_)
  go_ret
  exact ⟨rfl, rfl⟩
end Go.Proofs.Ytnljfhjindenpab
