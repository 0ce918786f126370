/-
  Arguments opened: categories and labels, as they came in.
-/
import Derived.Test.YtimgelekpghklaaLabD8
import Derived.Deep.Slices
import Derived.ProofKit
import Derived.OpenShut
import Derived.SizedLaws
namespace Go.Proofs.Ytimgelekpghklaa
set_option linter.unusedVariables false
set_option linter.unusedSimpArgs false
set_option maxRecDepth 20000
open Go.RowKit Go.ChangeShapes Go.WideShapes Go.Deep

theorem plain_of_cell {w : World} {a : Addr} {v : Value} (h : w.cell? a = some v) : a = ⟨a.block, a.off, none⟩ := by
  obtain ⟨b, o, s⟩ := a
  cases s with
  | none => rfl
  | some s =>
    unfold World.cell? at h
    split at h <;> simp at h

theorem bulk_one {H : Type} (d : DataW H) : 1 ≤ Rows.uptoBulk d := by
  cases d with
  | lit l => cases l <;> simp [Rows.uptoBulk]
  | nil => simp [Rows.uptoBulk]
  | ptr d => simp [Rows.uptoBulk]
  | slice elems spare => simp [Rows.uptoBulk]
  | agg parts => simp [Rows.uptoBulk]
  | iface t d => simp [Rows.uptoBulk]
  | map entries => simp [Rows.uptoBulk]
  | held h => simp [Rows.uptoBulk]

theorem bulk_length {H : Type} (l : List (DataW H)) : l.length ≤ Rows.uptoBulkAll l := by
  induction l with
  | nil => simp [Rows.uptoBulkAll]
  | cons x r ih => have := bulk_one x; simp only [Rows.uptoBulkAll, List.length_cons]; omega

theorem Try.cellsInt : Try.prog.cellsOf 3 = 1 := by kernel_rfl
theorem Try.cellsU : Try.prog.cellsOf 31 = 1 := by kernel_rfl
theorem Try.cellsC : Try.prog.cellsOf 33 = 2 := by kernel_rfl
theorem Try.bytesC : Try.prog.bytesOf 33 = 16 := by kernel_rfl
theorem Try.cellsCs : Try.prog.cellsOf 22 = 1 := by kernel_rfl
theorem Try.cellsL : Try.prog.cellsOf 24 = 2 := by kernel_rfl

theorem list2 {l : List Value} (h : l.length = 2) : ∃ a b, l = [a, b] := by
  match l, h with
  | [a, b], _ => exact ⟨a, b, rfl⟩

/-- A category's cells. -/
theorem open_cat0 {H : Type} {enc : TypeId × Value → H} {W : World} {fuel : Nat} {b0 b1 : Value} {x : DataW H × List MemPlace}
    (h2 : DataW.trod enc Try.prog W 0 (fun _ => true) true fuel 33 [b0, b1] = some x) : ∃ c : Cat, b0 = .int .u64 c.1 ∧ b1 = .int .i64 c.2 := by
  obtain ⟨xs, k, hk, hxy, _, hxl, hf⟩ := DataW.trod_struct Try.underlying33 h2
  obtain ⟨y0, y1, rfl⟩ : ∃ y0 y1, xs = [y0, y1] := by
    match xs, hxl with
    | [y0, y1], _ => exact ⟨y0, y1, rfl⟩
  have g0 : DataW.trod enc Try.prog W 0 (fun _ => true) true k 31 (([b0, b1].drop 0).take (Try.prog.cellsOf 31)) = some y0 := hf 0 _ rfl
  have g1 : DataW.trod enc Try.prog W 0 (fun _ => true) true k 3 (([b0, b1].drop 1).take (Try.prog.cellsOf 3)) = some y1 := hf 1 _ rfl
  rw [Try.cellsU] at g0
  rw [Try.cellsInt] at g1
  obtain ⟨z0, e0, _, wf0⟩ := DataW.trod_int Try.underlying31 g0
  obtain ⟨z1, e1, _, wf1⟩ := DataW.trod_int Try.underlying3 g1
  exact ⟨(z0, z1), (List.cons.inj (show [b0] = [Value.int .u64 z0] from e0)).1, (List.cons.inj (show [b1] = [Value.int .i64 z1] from e1)).1⟩

/-- Categories that came in. -/
theorem open_cats {H : Type} {enc : TypeId × Value → H} {W : World} {fuel : Nat} {v : Value} {d : DataW H} {p : List MemPlace}
    (h : DataW.trod enc Try.prog W 0 (fun _ => true) true fuel 22 [v] = some (d, p)) (hw : ∀ n ∈ d.weights Try.prog 22, n ≤ reachBytes) :
    ∃ xs : List Cat, CSl (fun b => b < W.heap.size) W v xs ∧ xs.length ≤ 8796093021952 ∧ xs.length + 1 ≤ Rows.uptoBulk d := by
  rcases open_slice Try.underlying22 h with ⟨hcs, hd⟩ | ⟨a, len, cap, m, n, D, Pl, hcs, _, hl, hm, hmm, hx, hall⟩
  · simp only [List.cons.injEq, and_true] at hcs
    subst hcs
    exact ⟨[], csl_nil _ _, by simp, by have := bulk_one d; simp; omega⟩
  · simp only [List.cons.injEq, and_true] at hcs
    subst hcs
    simp only [if_true] at hmm
    subst hmm
    simp only [Prod.mk.injEq] at hx
    obtain ⟨rfl, _⟩ := hx
    have hwl := hw ((((List.range len).map D).length + ((List.range (m - len)).map fun j => D (len + j)).length) * 16) (by simp [DataW.weights, Try.underlying22, Try.bytesC])
    have each : ∀ i, i < len → ∃ c : Cat, W.cell? (a.add (i * 2)) = some (.int .u64 c.1) ∧ W.cell? ((a.add (i * 2)).add 1) = some (.int .i64 c.2) := by
      intro i hi
      obtain ⟨cs', h1, h2⟩ := hall i (by omega)
      rw [Try.cellsC] at h1
      obtain ⟨_, hlen, hcell⟩ := World.cells?_some h1
      obtain ⟨b0, b1, rfl⟩ := list2 hlen
      obtain ⟨c, rfl, rfl⟩ := open_cat0 h2
      have h0 := hcell 0 (by omega)
      have e : (a.add (i * 2)).add 0 = a.add (i * 2) := by simp [Addr.add]
      rw [e] at h0
      exact ⟨c, h0, hcell 1 (by omega)⟩
    haveI : Inhabited Cat := ⟨(0, 0)⟩
    obtain ⟨F, hF⟩ := choose_lt each
    refine ⟨(List.range len).map F, ?_, ?_, ?_⟩
    · have hpos : 0 < len → a = ⟨a.block, a.off, none⟩ := fun h0 => by
        have h1 := (hF 0 h0).1
        have e : a.add (0 * 2) = a := by simp [Addr.add]
        rw [e] at h1
        exact plain_of_cell h1
      refine ⟨some a, m, by simp, ⟨by simpa using hl, hm⟩, fun h => by simp at h, fun i c hi => ?_⟩
      have hil : i < len * 2 := by
        have := (List.getElem?_eq_some_iff.1 hi).1
        rw [ccells_length] at this
        simpa using this
      have ha := hpos (by omega)
      obtain ⟨h1, h2⟩ := hF (i / 2) (by omega)
      rw [ha, add_plain] at h1 h2
      rw [add_plain] at h2
      have hlt := World.block_lt_of_cell? W _ h1
      have hli : i / 2 < ((List.range len).map F).length := by simp; omega
      obtain ⟨g1, g2⟩ := ccells_get ((List.range len).map F) (i / 2) hli
      rw [show ((List.range len).map F)[i / 2] = F (i / 2) by simp] at g1 g2
      refine ⟨a.block, a.off, by rw [← ha], hlt, ?_⟩
      rcases Nat.mod_two_eq_zero_or_one i with hm2 | hm2
      · have e : i = i / 2 * 2 := by omega
        have hi' : (ccells ((List.range len).map F))[i / 2 * 2]? = some c := by rw [← e]; exact hi
        rw [g1] at hi'
        rw [show a.off + i = a.off + i / 2 * 2 by omega, h1, ← hi']
      · have e : i = i / 2 * 2 + 1 := by omega
        have hi' : (ccells ((List.range len).map F))[i / 2 * 2 + 1]? = some c := by rw [← e]; exact hi
        rw [g2] at hi'
        rw [show a.off + i = a.off + i / 2 * 2 + 1 by omega, h2, ← hi']
    · simp only [List.length_map, List.length_range] at hwl ⊢
      unfold reachBytes at hwl
      omega
    · simp only [Rows.uptoBulk, List.length_map, List.length_range]
      have := bulk_length ((List.range len).map D)
      simp at this
      omega

/-- A category that came in. -/
theorem open_cat {H : Type} {enc : TypeId × Value → H} {W : World} {b0 : Nat} {v : Value} {d : DataW H} {p : List MemPlace} (hval : Value.okWide Try.prog W .any b0 33 v) (h : DataW.Trod enc Try.prog W 0 (fun _ => true) true 33 v d p) :
    ∃ c : Cat, v = catV c := by
  obtain ⟨⟨l⟩, rfl, hsz⟩ := okWide_struct Try.underlying33 hval
  rw [Try.cellsC] at hsz
  obtain ⟨b0, b1, rfl⟩ := list2 (l := l) (by simpa using hsz)
  obtain ⟨fuel, hf⟩ := h
  obtain ⟨c, rfl, rfl⟩ := open_cat0 (show DataW.trod enc Try.prog W 0 (fun _ => true) true fuel 33 [b0, b1] = some (d, p) from hf)
  exact ⟨c, rfl⟩

/-- A label that came in. -/
theorem open_label {H : Type} {enc : TypeId × Value → H} {W : World} {b0 : Nat} {v : Value} {d : DataW H} {p : List MemPlace} (hval : Value.okWide Try.prog W .any b0 24 v) (h : DataW.Trod enc Try.prog W 0 (fun _ => true) true 24 v d p)
    (hw : ∀ n ∈ d.weights Try.prog 24, n ≤ reachBytes) :
    ∃ (z : Int) (u : Value) (xs : List Cat), v = labV z u ∧ CSl (fun b => b < W.heap.size) W u xs ∧ xs.length ≤ 8796093021952 ∧ xs.length + 1 ≤ Rows.uptoBulk d := by
  obtain ⟨⟨l⟩, rfl, hsz⟩ := okWide_struct Try.underlying24 hval
  rw [Try.cellsL] at hsz
  obtain ⟨b0, b1, rfl⟩ := list2 (l := l) (by simpa using hsz)
  obtain ⟨fuel, hf⟩ := h
  obtain ⟨xs, k, hk, hxy, _, hxl, hf⟩ := DataW.trod_struct Try.underlying24 (show DataW.trod enc Try.prog W 0 (fun _ => true) true fuel 24 [b0, b1] = some (d, p) from hf)
  obtain ⟨y0, y1, rfl⟩ : ∃ y0 y1, xs = [y0, y1] := by
    match xs, hxl with
    | [y0, y1], _ => exact ⟨y0, y1, rfl⟩
  have g0 : DataW.trod enc Try.prog W 0 (fun _ => true) true k 3 (([b0, b1].drop 0).take (Try.prog.cellsOf 3)) = some y0 := hf 0 _ rfl
  have g1 : DataW.trod enc Try.prog W 0 (fun _ => true) true k 22 (([b0, b1].drop 1).take (Try.prog.cellsOf 22)) = some y1 := hf 1 _ rfl
  rw [Try.cellsInt] at g0
  rw [Try.cellsCs] at g1
  obtain ⟨z0, e0, _, wf0⟩ := DataW.trod_int Try.underlying3 g0
  have q0 : b0 = .int .i64 z0 := (List.cons.inj (show [b0] = [Value.int .i64 z0] from e0)).1
  subst q0
  have g1 : DataW.trod enc Try.prog W 0 (fun _ => true) true k 22 [b1] = some (y1.1, y1.2) := g1
  simp only [Prod.mk.injEq] at hxy
  have hd : d = .agg [y0.1, y1.1] := by simpa using hxy.1
  obtain ⟨xs, k1, k2, k3⟩ := open_cats g1 (fun n hn => hw n (by
    rw [hd]
    simp [DataW.weights, Try.underlying24, DataW.weightsEach, hn]))
  refine ⟨z0, b1, xs, rfl, k1, k2, ?_⟩
  rw [hd]
  simp only [Rows.uptoBulk, Rows.uptoBulkAll]
  omega
end Go.Proofs.Ytimgelekpghklaa
