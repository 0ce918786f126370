/-
  slices.Insert of one link, anywhere: in place where there is room.
-/
import Derived.ArgAppend
import Derived.Lib.AppendZerosOnto
import Derived.Test.YtppfcdnhmieejaaDrPlainS
import Derived.Test.YtppfcdnhmieejaaThC1S
import Derived.Test.YtppfcdnhmieejaaLabS
namespace Go.Proofs.Ytppfcdnhmieejaa
set_option linter.unusedVariables false
set_option linter.unusedSimpArgs false
set_option maxRecDepth 20000
open Go.RowKit

theorem c_overL (w : World) (a b : Addr) (la ca lb cb : Nat) (hne : a.block ≠ b.block) (tA tB : TypeId) (kA kB : Nat)
    (hsa : w.shape? a.block = some (tA, kA)) (hsb : w.shape? b.block = some (tB, kB)) (hkB : kB ≠ 0) (hfa : w.frozen? a = false) (hfe : w.frozen? { block := a.block, off := kA } = false) :
    (callFunc 44 #[.slice (some a) la ca, .slice (some b) lb cb]).run Try.prog w = .ok (.value (.bool false)) w := by
  obtain ⟨i0, hi0, _, hs0, _⟩ := info_parts3 Try.infoLk
  have hz : ∀ w, (Go.sizeOf 65).run Try.prog w = .ok 2 w := fun w => by simp [sizeOf, typeInfo, hi0, hs0]
  rw [run_callFunc_extern Try.func44 (by kernel_rfl) (by kernel_rfl) (by kernel_rfl) (e := Extern.SlicesOverlaps.overlaps #[27, 27] #[4]) (by kernel_rfl),
    Lib.run_overlaps_apart w 27 4 65 Try.underlying27 2 hz a b la ca lb cb hne tA tB kA kB hsa hsb hkB hfa hfe]
  rfl

/-- The cells of a list with one more. -/
theorem cells_ins {xs : List Cat} {i : Nat} {c : Cat} (hi : i ≤ xs.length) (j : Nat) (v : Value) (h : (ccells (xs.take i ++ c :: xs.drop i))[j]? = some v) :
    (j < i * 2 ∧ (ccells xs)[j]? = some v) ∨ (∃ t, j = i * 2 + t ∧ (ccell c)[t]? = some v) ∨ (∃ t, j = (i + 1) * 2 + t ∧ (ccells (xs.drop i))[t]? = some v) := by
  have e : ccells (xs.take i ++ c :: xs.drop i) = ccells (xs.take i) ++ (ccell c ++ ccells (xs.drop i)) := by
    rw [ccells_append, show c :: xs.drop i = [c] ++ xs.drop i from rfl, ccells_append, ccells_one]
  have e2 : ccells xs = ccells (xs.take i) ++ ccells (xs.drop i) := by rw [← ccells_append, List.take_append_drop]
  have hl : (ccells (xs.take i)).length = i * 2 := by rw [ccells_length, List.length_take, Nat.min_eq_left hi]
  have hc : (ccell c).length = 2 := rfl
  rw [e] at h
  by_cases h1 : j < i * 2
  · rw [List.getElem?_append_left (by omega)] at h
    exact .inl ⟨h1, by rw [e2, List.getElem?_append_left (by omega)]; exact h⟩
  · rw [List.getElem?_append_right (by omega), hl] at h
    by_cases h2 : j - i * 2 < 2
    · rw [List.getElem?_append_left (by omega)] at h
      exact .inr (.inl ⟨_, by omega, h⟩)
    · rw [List.getElem?_append_right (by omega), hc] at h
      exact .inr (.inr ⟨_, by omega, h⟩)

theorem cells_drop {xs : List Cat} {i : Nat} (hi : i ≤ xs.length) (t : Nat) (v : Value) (h : (ccells (xs.drop i))[t]? = some v) : (ccells xs)[i * 2 + t]? = some v := by
  have e2 : ccells xs = ccells (xs.take i) ++ ccells (xs.drop i) := by rw [← ccells_append, List.take_append_drop]
  have hl : (ccells (xs.take i)).length = i * 2 := by rw [ccells_length, List.length_take, Nat.min_eq_left hi]
  rw [e2, List.getElem?_append_right (by omega), hl]
  rw [show i * 2 + t - i * 2 = t by omega]
  exact h

set_option maxHeartbeats 1600000 in
theorem c_insLShift {g q n cap i : Nat} {cur : Array Value} {xs : List Cat} {c : Cat} (w : World) (hx : xs.length = n) (hin : i < n) (hroom : n + 1 ≤ cap) (hm : cap ≤ 9223372036854775807) (hg : w.heap[g]? = some (.cells cur 65 (0, 0))) (hcs : cur.size = cap * 2) (ht : cur.toList.take (n * 2) = ccells xs)
    (hq : w.heap[q]? = some (.cells (ccell c).toArray 65 (0, 0))) (hne : q ≠ g) :
    Calls Try.prog 30 #[.slice (some ⟨g, 0, none⟩) n cap, .int .i64 i, .slice (some ⟨q, 0, none⟩) 1 1] w fun e w' => e = .returned (.slice (some ⟨g, 0, none⟩) (n + 1) cap) ∧ w' = (w.drew.setCells g ((i + 1) * 2) (ccells (xs.drop i))).setCells g (i * 2) (ccell c) := by
  have hld : (ccells (xs.drop i)).length = (n - i) * 2 := by rw [ccells_length, List.length_drop, hx]
  have hsp : ∀ j, j < cap * 2 → (w.cell? ⟨g, j, none⟩).isSome = true := fun j hj => by
    rw [cell_blk hg (v := cur[j]'(by omega)) (by simp [hcs, hj])]
    rfl
  have hfz : ∀ j, w.frozen? ⟨g, j, none⟩ = false := fun j => free_blk hg
  have hxs : ∀ j v, (ccells xs)[j]? = some v → w.cell? ⟨g, j, none⟩ = some v := fun j v hj => by
    refine cell_blk hg ?_
    have hjl := (List.getElem?_eq_some_iff.1 hj).1
    rw [ccells_length, hx] at hjl
    rw [← ht, List.getElem?_take_of_lt (by omega)] at hj
    simpa using hj
  have hcs2 : ∀ j v, (ccell c)[j]? = some v → w.cell? ⟨q, j, none⟩ = some v := fun j v hj => cell_blk hq (by simpa using hj)
  have hsz : (Try.prog.info? 65).map (·.size) = some 2 := by kernel_rfl
  have hov : ∀ lb cb, (callFunc 44 #[.slice (some ⟨q, 0, none⟩) 1 1, .slice (some ⟨g, (i + 1) * 2, none⟩) lb cb]).run Try.prog w = .ok (.value (.bool false)) w := fun lb cb =>
    c_overL w ⟨q, 0, none⟩ ⟨g, (i + 1) * 2, none⟩ 1 1 lb cb hne 65 65 2 (cap * 2) (by simp [World.shape?, hq, ccell]) (by simp [World.shape?, hg, hcs]) (by omega) (free_blk hq) (free_blk hq)
  obtain ⟨W1, hW1⟩ : ∃ W1, W1 = w.drew.setCells g ((i + 1) * 2) (ccells (xs.drop i)) := ⟨_, rfl⟩
  have hcp1 : ∀ ty dc sc, (Builtin.copy_ #[27, 27] ty #[.slice (some ⟨g, (i + 1) * 2, none⟩) (n - i) dc, .slice (some ⟨g, i * 2, none⟩) (n + 1 - i) sc]).run Try.prog w.drew = .ok (goInt (n - i : Nat)) W1 := fun ty dc sc => by
    have hmin : Nat.min (n + 1 - i) (n - i) = n - i := by simp only [Nat.min_def]; split <;> omega
    have := run_copy_sized (P := Try.prog) w.drew 27 27 ty 65 g ((i + 1) * 2) (n - i) dc ⟨g, i * 2, none⟩ (n + 1 - i) sc 2 (ccells (xs.drop i)) Try.underlying27 hsz (by rw [hmin, hld])
      (fun j v hj => by rw [Addr.add_lit]; exact hxs _ v (cells_drop (by omega) j v hj)) (fun j hj => hsp _ (by omega)) (fun j hj => hfz _) (ccells_oneCell _)
    rw [hmin] at this
    rw [hW1]
    exact this
  have hcp2 : ∀ (W : World), (∀ x, W.cell? x = W1.cell? x) → (∀ x, W.frozen? x = W1.frozen? x) → ∀ ty dc, (Builtin.copy_ #[27, 27] ty #[.slice (some ⟨g, i * 2, none⟩) (n + 1 - i) dc, .slice (some ⟨q, 0, none⟩) 1 1]).run Try.prog W = .ok (goInt 1) (W.setCells g (i * 2) (ccell c)) := fun W hWc hWf ty dc => by
    have hmin : Nat.min 1 (n + 1 - i) = 1 := Nat.min_eq_left (by omega)
    have := run_copy_sized (P := Try.prog) W 27 27 ty 65 g (i * 2) (n + 1 - i) dc ⟨q, 0, none⟩ 1 1 2 (ccell c) Try.underlying27 hsz (by rw [hmin]; rfl)
      (fun j v hj => by
        rw [Addr.add_lit, Nat.zero_add, hWc, hW1, World.cell?_setCells_out g _ _ _ _ (fun h _ => absurd h hne)]
        exact hcs2 j v hj)
      (fun j hj => by
        rw [hWc, hW1]
        have hj2 : j < 2 := hj
        exact isSome_setCells g (ccells (xs.drop i)) ((i + 1) * 2) w.drew (fun k hk => hsp _ (by omega)) (i * 2 + j) (hsp (i * 2 + j) (by omega)))
      (fun j hj => by rw [hWf, hW1, World.frozen?_setCells]; exact hfz _) (ccell_one c)
    rw [hmin] at this
    exact this
  have hz2 : ¬ ((i : Int) = (n : Int)) := by omega
  have hw1 : IntKind.i64.wrap ((i : Int) + 1) = (i : Int) + 1 := by rw [IntKind.wrap_i64]; omega
  have hb1 : (0 : Int) ≤ (i : Int) + 1 := by omega
  have hb2 : ¬ (cap = i + 1) := by omega
  have hb3 : (i : Int) ≤ (n : Int) + 1 := by omega
  have hb4 : ¬ (cap = i) := by omega
  have hb5 : (i : Int) + 1 ≤ (n : Int) + 1 := by omega
  have hb6 : i ≤ n := by omega
  have htn : ((i : Int) + 1).toNat = i + 1 := by omega
  clear hxs hcs2 hsp hfz hld hsz
  go_enter Try.func30, Try.ntmps30
  go_wp2_with (simp only [hov])
  go_region_law (refine step_copy_run rfl _ _ 27 27 rfl _ _ (by simp [Act.eval, Act.put]) (by simp [Act.eval, Act.put]) (hcp1 _ _ _) ?_)
  go_wp2_with (at_builtin; refine wpList_copy_run _ rfl _ _ 27 27 rfl _ _ rfl rfl _ _ (hcp2 _ (fun _ => rfl) (fun _ => rfl) _ _) ?_)
  go_ret
  first | exact ⟨rfl, rfl⟩ | exact ⟨rfl, by rw [hW1]⟩
end Go.Proofs.Ytppfcdnhmieejaa
