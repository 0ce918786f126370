/-
  Arguments opened: bytes, parts, as they came in.
-/
import Derived.Test.YtflmeaekgkckjaaN1
import Derived.Deep.Slices
import Derived.ProofKit
import Derived.SizedLaws
namespace Go.Proofs.Ytflmeaekgkckjaa
set_option linter.unusedVariables false
set_option linter.unusedSimpArgs false
open Go.RowKit Go.ChangeShapes Go.WideShapes Go.Deep

theorem Try.cells5 : Try.prog.cellsOf 5 = 1 := by kernel_rfl
theorem Try.cells24 : Try.prog.cellsOf 24 = 1 := by kernel_rfl
theorem Try.bytes5 : Try.prog.bytesOf 5 = 1 := by kernel_rfl
theorem Try.bytes24 : Try.prog.bytesOf 24 = 24 := by kernel_rfl
theorem Try.info5 : (Try.prog.info? 5).map (fun i => (i.zero, i.size, i.bytes)) = some (some (.int .u8 0), 1, 1) := by kernel_rfl

theorem weightsAll_mem {H : Type} {P : Program} {e : TypeId} : ∀ {l : List (DataW H)} {d : DataW H} {n : Nat}, d ∈ l → n ∈ d.weights P e → n ∈ DataW.weightsAll P e l
  | [], _, _, h, _ => by simp at h
  | x :: l, d, n, h, hn => by
    simp only [DataW.weightsAll, List.mem_append]
    rcases List.mem_cons.1 h with rfl | h
    · exact .inl hn
    · exact .inr (weightsAll_mem h hn)

theorem plain_of_cell {w : World} {a : Addr} {v : Value} (h : w.cell? a = some v) : a = ⟨a.block, a.off, none⟩ := by
  obtain ⟨b, o, s⟩ := a
  cases s with
  | none => rfl
  | some s =>
    unfold World.cell? at h
    split at h <;> simp at h

theorem u8_of_wf {z : Int} (h : (Lit.int .u8 z).wf = true) : ((UInt8.ofNat z.toNat).toNat : Int) = z := by
  have e1 : IntKind.u8.min = 0 := rfl
  have e2 : IntKind.u8.max = 255 := rfl
  simp only [Lit.wf, Bool.and_eq_true, decide_eq_true_eq, e1, e2] at h
  have : (UInt8.ofNat z.toNat).toNat = z.toNat := by simp; omega
  omega

theorem u32_of_wf {z : Int} (h : (Lit.int .u32 z).wf = true) : tn (BitVec.ofInt 32 z) = z := by
  have e1 : IntKind.u32.min = 0 := rfl
  have e2 : IntKind.u32.max = 4294967295 := rfl
  simp only [Lit.wf, Bool.and_eq_true, decide_eq_true_eq, e1, e2] at h
  exact tn_of h.1 h.2

theorem i64_of_wf {z : Int} (h : (Lit.int .i64 z).wf = true) : -9223372036854775808 ≤ z ∧ z ≤ 9223372036854775807 := by
  have e1 : IntKind.i64.min = -9223372036854775808 := rfl
  have e2 : IntKind.i64.max = 9223372036854775807 := rfl
  simp only [Lit.wf, Bool.and_eq_true, decide_eq_true_eq, e1, e2] at h
  exact h

theorem bulk_one {H : Type} (d : DataW H) : 1 ≤ Rows.uptoBulk d := by
  cases d with
  | lit l => cases l <;> simp [Rows.uptoBulk]
  | nil => simp [Rows.uptoBulk]
  | ptr d => simp [Rows.uptoBulk]
  | slice elems spare => simp [Rows.uptoBulk]
  | agg parts => simp [Rows.uptoBulk]
  | iface t d => simp [Rows.uptoBulk]
  | map entries => simp [Rows.uptoBulk]
  | held h => simp [Rows.uptoBulk]

theorem bulk_length {H : Type} (l : List (DataW H)) : l.length ≤ Rows.uptoBulkAll l := by
  induction l with
  | nil => simp [Rows.uptoBulkAll]
  | cons x r ih => have := bulk_one x; simp only [Rows.uptoBulkAll, List.length_cons]; omega

/-- Bytes that came in. -/
theorem open_bytes {H : Type} {enc : TypeId × Value → H} {W : World} {fuel : Nat} {v : Value} {d : DataW H} {p : List MemPlace}
    (h : DataW.trod enc Try.prog W 0 (fun _ => true) true fuel 24 [v] = some (d, p)) (hw : ∀ n ∈ d.weights Try.prog 24, n ≤ reachBytes) :
    ∃ xs : List UInt8, Sl W.heap.size W v xs.length (xs.map bv) ∧ xs.length ≤ 140737488351232 ∧ xs.length + 1 ≤ Rows.uptoBulk d := by
  rcases open_ints Try.underlying24 Try.underlying5 Try.cells5 h with ⟨hcs, hd⟩ | ⟨a, len, cap, zs, hcs, _, hl, hm, hz, hx, hcell, hwz⟩
  · simp only [List.cons.injEq, and_true] at hcs
    subst hcs
    exact ⟨[], Sl.nil _ _, by simp, bulk_one _⟩
  · simp only [List.cons.injEq, and_true] at hcs
    subst hcs
    simp only [if_true] at hz
    simp only [Prod.mk.injEq] at hx
    obtain ⟨rfl, _⟩ := hx
    have hlen : ((zs.take len).map fun z => UInt8.ofNat z.toNat).length = len := by simp; omega
    refine ⟨(zs.take len).map fun z => UInt8.ofNat z.toNat, ?_, ?_, ?_⟩
    · rw [hlen]
      refine ⟨some a, cap, rfl, ⟨hl, hm⟩, fun h => by simp at h, fun i c hi => ?_⟩
      have hil : i < len := by
        have := (List.getElem?_eq_some_iff.1 hi).1
        rw [List.length_map, List.length_map, List.length_take] at this
        omega
      have hiz : i < zs.length := by omega
      have hc0 := hcell 0 (by omega)
      have ha : a = ⟨a.block, a.off, none⟩ := by
        have e : a.add 0 = a := by simp [Addr.add]
        rw [e] at hc0
        exact plain_of_cell hc0
      have hci := hcell i hiz
      rw [ha, add_plain] at hci
      refine ⟨a.block, a.off, by rw [← ha], World.block_lt_of_cell? W ⟨a.block, a.off + i, none⟩ hci, ?_⟩
      rw [hci]
      have hz' : zs.getD i 0 = zs[i] := by simp [List.getD, hiz]
      have e : c = bv (UInt8.ofNat (zs[i]).toNat) := by
        simp [hil, hiz] at hi
        exact hi.symm
      rw [e, bv, u8_of_wf (hwz _ (List.getElem_mem hiz)), hz']
    · rw [hlen]
      have := hw ((zs.take len).length + (zs.drop len).length) (by simp [DataW.weights, Try.underlying24, Try.bytes5, lits])
      unfold reachBytes at this
      rw [List.length_take, List.length_drop] at this
      omega
    · rw [hlen]
      simp only [Rows.uptoBulk]
      have := bulk_length (lits (H := H) .u8 (zs.take len))
      have e : (lits (H := H) .u8 (zs.take len)).length = len := by simp [lits]; omega
      omega

/-- Parts that came in. -/
theorem open_parts {H : Type} {enc : TypeId × Value → H} {W : World} {fuel : Nat} {v : Value} {d : DataW H} {p : List MemPlace}
    (h : DataW.trod enc Try.prog W 0 (fun _ => true) true fuel 28 [v] = some (d, p)) (hw : ∀ n ∈ d.weights Try.prog 28, n ≤ reachBytes) :
    ∃ ps : List (List UInt8), Parts W.heap.size W v ps ∧ ps.length ≤ 140737488351232 ∧ ps.flatten.length ≤ Rows.uptoBulk d := by
  rcases open_slice1 Try.underlying28 Try.cells24 h with ⟨hcs, _⟩ | ⟨a, len, cap, m, n, V, D, Pl, hcs, _, hl, hm, hmm, hx, hall⟩
  · simp only [List.cons.injEq, and_true] at hcs
    subst hcs
    exact ⟨[], Parts.nil _ _, by simp, by simp⟩
  · simp only [List.cons.injEq, and_true] at hcs
    subst hcs
    simp only [if_true] at hmm
    subst hmm
    simp only [Prod.mk.injEq] at hx
    obtain ⟨rfl, _⟩ := hx
    have hwl := hw ((((List.range len).map D).length + ((List.range (m - len)).map fun j => D (len + j)).length) * 24) (by simp [DataW.weights, Try.underlying28, Try.bytes24])
    have each : ∀ i, i < len → ∃ x : List UInt8, Sl W.heap.size W (V i) x.length (x.map bv) ∧ x.length ≤ 140737488351232 ∧ x.length + 1 ≤ Rows.uptoBulk (D i) := by
      intro i hi
      obtain ⟨_, h1⟩ := hall i (by omega)
      exact open_bytes h1 (fun q hq => hw q (by
        simp only [DataW.weights, Try.underlying28, List.mem_cons, List.mem_append]
        exact .inr (.inl (weightsAll_mem (List.mem_map.2 ⟨i, List.mem_range.2 hi, rfl⟩) hq))))
    obtain ⟨F, hF⟩ := choose_lt each
    refine ⟨(List.range len).map F, ?_, ?_, ?_⟩
    · refine ⟨some a, m, by simp, by simp; omega, fun i f hi => ?_⟩
      have hil : i < len := by
        have := (List.getElem?_eq_some_iff.1 hi).1
        simpa using this
      have hf : F i = f := by
        rw [List.getElem?_map, List.getElem?_range hil] at hi
        simpa using hi
      subst hf
      obtain ⟨hc0, _⟩ := hall i (by omega)
      obtain ⟨hs, hb, _⟩ := hF i hil
      have ha : a = ⟨a.block, a.off, none⟩ := by
        obtain ⟨hc00, _⟩ := hall 0 (by omega)
        have e : a.add 0 = a := by simp [Addr.add]
        rw [e] at hc00
        exact plain_of_cell hc00
      rw [ha, add_plain] at hc0
      exact ⟨a.block, a.off, V i, by rw [← ha], World.block_lt_of_cell? W ⟨a.block, a.off + i, none⟩ hc0, hc0, hs, by omega⟩
    · simp only [List.length_map, List.length_range] at hwl ⊢
      unfold reachBytes at hwl
      omega
    · simp only [Rows.uptoBulk]
      have : ∀ l : List Nat, (∀ i ∈ l, i < len) → ((l.map F).flatten).length ≤ Rows.uptoBulkAll (l.map D) := by
        intro l
        induction l with
        | nil => intro _; simp
        | cons i l ih =>
          intro hi
          have h1 := ih (fun j hj => hi j (List.mem_cons_of_mem _ hj))
          obtain ⟨_, _, h2⟩ := hF i (hi i List.mem_cons_self)
          simp only [List.map_cons, List.flatten_cons, List.length_append, Rows.uptoBulkAll]
          omega
      have := this (List.range len) (fun i hi => List.mem_range.1 hi)
      omega

theorem below_cut {w w1 w2 : World} (h1 : Below w.heap.size w w1) (h2 : Below w1.heap.size w1 w2) : Below w.heap.size w w2 := h1.trans (h2.mono h1.size)
end Go.Proofs.Ytflmeaekgkckjaa
