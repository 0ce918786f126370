/-
  Slices that came in, opened: one law for elements of any size. It names nothing of the program.
-/
import Derived.Test.YtnljfhjindenpabRows
import Derived.Test.YtnljfhjindenpabChecked
import Derived.Test.YtnljfhjindenpabLibFr
import Derived.Deep.Slices
import Derived.ProofKit
import Derived.OpenShut
import Derived.SizedLaws
namespace Go.Proofs.Ytnljfhjindenpab
set_option linter.unusedVariables false
set_option linter.unusedSimpArgs false
set_option maxRecDepth 20000
open Go.RowKit Go.ChangeShapes Go.WideShapes Go.Deep

theorem weights_mem {H : Type} {P : Program} {e : TypeId} : ∀ {l : List (DataW H)} {d : DataW H} {n : Nat}, d ∈ l → n ∈ d.weights P e → n ∈ DataW.weightsAll P e l
  | [], _, _, h, _ => by simp at h
  | x :: l, d, n, h, hn => by
    simp only [DataW.weightsAll, List.mem_append]
    rcases List.mem_cons.1 h with rfl | h
    · exact .inl hn
    · exact .inr (weights_mem h hn)

theorem plain_of {w : World} {a : Addr} {v : Value} (h : w.cell? a = some v) : a = ⟨a.block, a.off, none⟩ := by
  obtain ⟨b, o, s⟩ := a
  cases s with
  | none => rfl
  | some s =>
    unfold World.cell? at h
    split at h <;> simp at h

theorem flat_get {α : Type} {f : α → List Value} {s : Nat} (hf : ∀ x, (f x).length = s) : ∀ {xs : List α} {i : Nat} {c : Value}, (xs.flatMap f)[i]? = some c → ∃ k j, ∃ h : k < xs.length, j < s ∧ i = k * s + j ∧ (f xs[k])[j]? = some c
  | [], i, c, h => by simp at h
  | x :: xs, i, c, h => by
    rw [List.flatMap_cons] at h
    by_cases hi : i < s
    · rw [List.getElem?_append_left (by rw [hf]; exact hi)] at h
      exact ⟨0, i, by simp, hi, by omega, by simpa using h⟩
    · rw [List.getElem?_append_right (by rw [hf]; omega), hf] at h
      obtain ⟨k, j, hk, hj, he, hc⟩ := flat_get hf h
      exact ⟨k + 1, j, by simpa using hk, hj, by rw [Nat.add_mul]; omega, by simpa using hc⟩

theorem bulk_le {H : Type} (d : DataW H) : 1 ≤ Rows.uptoBulk d := by
  cases d with
  | lit l => cases l <;> simp [Rows.uptoBulk]
  | nil => simp [Rows.uptoBulk]
  | ptr d => simp [Rows.uptoBulk]
  | slice elems spare => simp [Rows.uptoBulk]
  | agg parts => simp [Rows.uptoBulk]
  | iface t d => simp [Rows.uptoBulk]
  | map entries => simp [Rows.uptoBulk]
  | held h => simp [Rows.uptoBulk]

theorem bulk_len {H : Type} (l : List (DataW H)) : l.length ≤ Rows.uptoBulkAll l := by
  induction l with
  | nil => simp [Rows.uptoBulkAll]
  | cons x r ih => have := bulk_le x; simp only [Rows.uptoBulkAll, List.length_cons]; omega

theorem bulk_sum {H : Type} {α : Type} (z : α → Nat) : ∀ (l : List (DataW H)) (xs : List α), l.length = xs.length → (∀ i (h1 : i < l.length) (h2 : i < xs.length), z xs[i] ≤ Rows.uptoBulk l[i]) → (xs.map z).sum ≤ Rows.uptoBulkAll l
  | [], [], _, _ => by simp
  | d :: l, x :: xs, hl, h => by
    have h0 := h 0 (by simp) (by simp)
    have ih := bulk_sum z l xs (by simpa using hl) (fun i h1 h2 => h (i + 1) (by simpa using h1) (by simpa using h2))
    simp only [List.map_cons, List.sum_cons, Rows.uptoBulkAll]
    simp at h0
    omega
  | [], _ :: _, hl, _ => by simp at hl
  | _ :: _, [], hl, _ => by simp at hl

/-- What a slice that came in holds: z says how much of the bulk an element pays. -/
theorem open_rows {H : Type} {enc : TypeId × Value → H} {W : World} {fuel : Nat} {v : Value} {d : DataW H} {p : List MemPlace} {T e : TypeId} {α : Type} (x0 : α) (f : α → List Value) (s by' : Nat) (Q : α → Prop) (z : α → Nat)
    (hu : Try.prog.underlying T = some (.slice e)) (hc : Try.prog.cellsOf e = s) (hby : Try.prog.bytesOf e = by') (hs : 0 < s) (hf : ∀ x, (f x).length = s)
    (h : DataW.trod enc Try.prog W 0 (fun _ => true) true fuel T [v] = some (d, p)) (hw : ∀ n ∈ d.weights Try.prog T, n ≤ reachBytes)
    (each : ∀ (k : Nat) (cs : List Value) (dd : DataW H) (pp : List MemPlace), DataW.trod enc Try.prog W 0 (fun _ => true) true k e cs = some (dd, pp) → cs.length = s → (∀ n ∈ dd.weights Try.prog e, n ≤ reachBytes) → ∃ x : α, cs = f x ∧ Q x ∧ z x ≤ Rows.uptoBulk dd) :
    ∃ xs : List α, Slp (fun b => b < W.heap.size) W v xs.length (xs.flatMap f) ∧ xs.length * by' ≤ reachBytes ∧ (∀ x ∈ xs, Q x) ∧ xs.length + 1 ≤ Rows.uptoBulk d ∧ (xs.map z).sum + 1 ≤ Rows.uptoBulk d := by
  rcases open_slice hu h with ⟨hcs, hd⟩ | ⟨a, len, cap, m, n, D, Pl, hcs, _, hl, hm, hmm, hx, hall⟩
  · simp only [List.cons.injEq, and_true] at hcs
    subst hcs
    have := bulk_le d
    exact ⟨[], ⟨none, 0, rfl, ⟨Nat.le_refl _, Nat.zero_le _⟩, fun _ => rfl, fun i c hi => by simp at hi⟩, by simp, fun x hx => by simp at hx, by simpa using this, by simpa using this⟩
  · simp only [List.cons.injEq, and_true] at hcs
    subst hcs
    simp only [if_true] at hmm
    subst hmm
    simp only [Prod.mk.injEq] at hx
    obtain ⟨rfl, _⟩ := hx
    rw [hc] at hall
    have hwD : ∀ i, i < len → ∀ n ∈ (D i).weights Try.prog e, n ≤ reachBytes := fun i hi n hn => hw n (by
      simp only [DataW.weights, hu, List.mem_cons, List.mem_append]
      exact .inr (.inl (weights_mem (List.mem_map.2 ⟨i, List.mem_range.2 hi, rfl⟩) hn)))
    have hlen := hw ((((List.range len).map D).length + ((List.range (m - len)).map fun j => D (len + j)).length) * Try.prog.bytesOf e) (by simp [DataW.weights, hu])
    have ex : ∀ i, i < len → ∃ x : α, Q x ∧ z x ≤ Rows.uptoBulk (D i) ∧ ∀ j c, (f x)[j]? = some c → W.cell? ((a.add (i * s)).add j) = some c := by
      intro i hi
      obtain ⟨cs', h1, h2⟩ := hall i (by omega)
      obtain ⟨_, hlen, hcell⟩ := World.cells?_some h1
      obtain ⟨x, rfl, hq, hz⟩ := each _ cs' (D i) (Pl i) h2 hlen (hwD i hi)
      refine ⟨x, hq, hz, fun j c hj => ?_⟩
      have hjl : j < (f x).length := (List.getElem?_eq_some_iff.1 hj).1
      have := hcell j (by rw [hf] at hjl; exact hjl)
      rw [this]
      exact hj
    haveI : Inhabited α := ⟨x0⟩
    obtain ⟨F, hF⟩ := choose_lt ex
    have hxl : ((List.range len).map F).length = len := by simp
    have hpos : 0 < len → a = ⟨a.block, a.off, none⟩ := fun h0 => by
      have hfl : 0 < (f (F 0)).length := by rw [hf]; exact hs
      have h1 := (hF 0 h0).2.2 0 _ (List.getElem?_eq_getElem hfl)
      have e1 : (a.add (0 * s)).add 0 = a := by simp [Addr.add]
      rw [e1] at h1
      exact plain_of h1
    refine ⟨(List.range len).map F, ?_, ?_, ?_, ?_, ?_⟩
    · rw [hxl]
      refine ⟨some a, m, rfl, ⟨hl, hm⟩, fun h => by simp at h, fun i c hi => ?_⟩
      obtain ⟨k, j, hk, hj, rfl, hcj⟩ := flat_get hf hi
      rw [hxl] at hk
      have hg := (hF k hk).2.2 j c (by simpa using hcj)
      have ha := hpos (by omega)
      rw [ha, add_plain, add_plain] at hg
      refine ⟨a.block, a.off, by rw [← ha], World.block_lt_of_cell? W ⟨a.block, a.off + k * s + j, none⟩ hg, ?_⟩
      rw [← Nat.add_assoc]
      exact hg
    · rw [hxl, ← hby]
      simp only [List.length_map, List.length_range] at hlen
      exact Nat.le_trans (Nat.mul_le_mul_right _ (by omega)) hlen
    · intro x hx
      obtain ⟨i, hi, rfl⟩ := List.mem_map.1 hx
      exact (hF i (List.mem_range.1 hi)).1
    · rw [hxl]
      simp only [Rows.uptoBulk]
      have := bulk_len ((List.range len).map D)
      simp at this
      omega
    · simp only [Rows.uptoBulk]
      have := bulk_sum z ((List.range len).map D) ((List.range len).map F) (by simp) (fun i h1 h2 => by
        simp only [List.getElem_map, List.getElem_range]
        exact (hF i (by simpa using h2)).2.1)
      omega
end Go.Proofs.Ytnljfhjindenpab
