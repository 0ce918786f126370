/-
  Arguments opened: bytes, fields, as they came in.
-/
import Derived.Test.YtfnokdgfbhlccaaRows
import Derived.Test.YtfnokdgfbhlccaaFld
import Derived.Deep.SlicePairs
import Derived.ProofKit
import Derived.SizedLaws
namespace Go.Proofs.Ytfnokdgfbhlccaa
set_option linter.unusedVariables false
set_option linter.unusedSimpArgs false
open Go.RowKit Go.ChangeShapes Go.WideShapes Go.Deep

theorem Try.cells5 : Try.prog.cellsOf 5 = 1 := by kernel_rfl
theorem Try.cells40 : Try.prog.cellsOf 40 = 2 := by kernel_rfl
theorem Try.cells38 : Try.prog.cellsOf 38 = 1 := by kernel_rfl
theorem Try.cells22 : Try.prog.cellsOf 22 = 1 := by kernel_rfl
theorem Try.bytes5 : Try.prog.bytesOf 5 = 1 := by kernel_rfl
theorem Try.bytes40 : Try.prog.bytesOf 40 = 32 := by kernel_rfl

theorem weightsAll_mem {H : Type} {P : Program} {e : TypeId} : ∀ {l : List (DataW H)} {d : DataW H} {n : Nat}, d ∈ l → n ∈ d.weights P e → n ∈ DataW.weightsAll P e l
  | [], _, _, h, _ => by simp at h
  | x :: l, d, n, h, hn => by
    simp only [DataW.weightsAll, List.mem_append]
    rcases List.mem_cons.1 h with rfl | h
    · exact .inl hn
    · exact .inr (weightsAll_mem h hn)

theorem plain_of_cell {w : World} {a : Addr} {v : Value} (h : w.cell? a = some v) : a = ⟨a.block, a.off, none⟩ := by
  obtain ⟨b, o, s⟩ := a
  cases s with
  | none => rfl
  | some s =>
    unfold World.cell? at h
    split at h <;> simp at h

theorem u8_of_wf {z : Int} (h : (Lit.int .u8 z).wf = true) : ((UInt8.ofNat z.toNat).toNat : Int) = z := by
  have e1 : IntKind.u8.min = 0 := rfl
  have e2 : IntKind.u8.max = 255 := rfl
  simp only [Lit.wf, Bool.and_eq_true, decide_eq_true_eq, e1, e2] at h
  have : (UInt8.ofNat z.toNat).toNat = z.toNat := by simp; omega
  omega

/-- Bytes that came in. -/
theorem open_bytes {H : Type} {enc : TypeId × Value → H} {W : World} {fuel : Nat} {v : Value} {d : DataW H} {p : List MemPlace}
    (h : DataW.trod enc Try.prog W 0 (fun _ => true) true fuel 22 [v] = some (d, p)) (hw : ∀ n ∈ d.weights Try.prog 22, n ≤ reachBytes) :
    ∃ xs : List UInt8, Sl W.heap.size W v xs.length (xs.map bv) ∧ xs.length ≤ 140737488351232 := by
  rcases open_ints Try.underlying22 Try.underlying5 Try.cells5 h with ⟨hcs, _⟩ | ⟨a, len, cap, zs, hcs, _, hl, hm, hz, hx, hcell, hwz⟩
  · simp only [List.cons.injEq, and_true] at hcs
    subst hcs
    exact ⟨[], Sl.nil _ _, by simp⟩
  · simp only [List.cons.injEq, and_true] at hcs
    subst hcs
    simp only [if_true] at hz
    simp only [Prod.mk.injEq] at hx
    obtain ⟨rfl, _⟩ := hx
    have hlen : ((zs.take len).map fun z => UInt8.ofNat z.toNat).length = len := by simp; omega
    refine ⟨(zs.take len).map fun z => UInt8.ofNat z.toNat, ?_, ?_⟩
    · rw [hlen]
      refine ⟨some a, cap, rfl, ⟨hl, hm⟩, fun h => by simp at h, fun i c hi => ?_⟩
      have hil : i < len := by
        have := (List.getElem?_eq_some_iff.1 hi).1
        rw [List.length_map, List.length_map, List.length_take] at this
        omega
      have hiz : i < zs.length := by omega
      have hc0 := hcell 0 (by omega)
      have ha : a = ⟨a.block, a.off, none⟩ := by
        have e : a.add 0 = a := by simp [Addr.add]
        rw [e] at hc0
        exact plain_of_cell hc0
      have hci := hcell i hiz
      rw [ha, add_plain] at hci
      refine ⟨a.block, a.off, by rw [← ha], World.block_lt_of_cell? W ⟨a.block, a.off + i, none⟩ hci, ?_⟩
      rw [hci]
      have hz' : zs.getD i 0 = zs[i] := by simp [List.getD, hiz]
      have e : c = bv (UInt8.ofNat (zs[i]).toNat) := by
        simp [hil, hiz] at hi
        exact hi.symm
      rw [e, bv, u8_of_wf (hwz _ (List.getElem_mem hiz)), hz']
    · rw [hlen]
      have := hw ((zs.take len).length + (zs.drop len).length) (by simp [DataW.weights, Try.underlying22, Try.bytes5, lits])
      unfold reachBytes at this
      rw [List.length_take, List.length_drop] at this
      omega

theorem u64_of_wf {z : Int} (h : (Lit.int .u64 z).wf = true) : 0 ≤ z ∧ z < 18446744073709551616 := by
  have e1 : IntKind.u64.min = 0 := rfl
  have e2 : IntKind.u64.max = 18446744073709551615 := rfl
  simp only [Lit.wf, Bool.and_eq_true, decide_eq_true_eq, e1, e2] at h
  omega

/-- Fields that came in. -/
theorem open_fields {H : Type} {enc : TypeId × Value → H} {W : World} {fuel : Nat} {v : Value} {d : DataW H} {p : List MemPlace}
    (h : DataW.trod enc Try.prog W 0 (fun _ => true) true fuel 26 [v] = some (d, p)) (hw : ∀ n ∈ d.weights Try.prog 26, n ≤ reachBytes) :
    ∃ fs : List Fld, FieldsAt W.heap.size W v fs ∧ fs.length * 32 ≤ 140737488351232 := by
  rcases open_slice_pairs Try.underlying26 Try.underlying40 Try.cells40 rfl rfl Try.cells38 Try.cells22 h with ⟨hcs, _⟩ | ⟨a, len, cap, m, n, V0, V1, D0, D1, P0, P1, hcs, _, hl, hm, hmm, hx, hall⟩
  · simp only [List.cons.injEq, and_true] at hcs
    subst hcs
    exact ⟨[], ⟨none, 0, rfl, Nat.le_refl _, fun _ => rfl, fun i f h => by simp at h⟩, by simp⟩
  · simp only [List.cons.injEq, and_true] at hcs
    subst hcs
    simp only [if_true] at hmm
    subst hmm
    simp only [Prod.mk.injEq] at hx
    obtain ⟨rfl, _⟩ := hx
    have hwl := hw ((((List.range len).map fun i => DataW.agg [D0 i, D1 i]).length + ((List.range (m - len)).map fun j => DataW.agg [D0 (len + j), D1 (len + j)]).length) * 32) (by simp [DataW.weights, Try.underlying26, Try.bytes40])
    have each : ∀ i, i < len → ∃ f : Fld, V0 i = .int .u64 (f.num : Nat) ∧ Sl W.heap.size W (V1 i) f.bytes.length (f.bytes.map bv) ∧ f.num < 18446744073709551616 ∧ f.bytes.length ≤ 140737488355328 := by
      intro i hi
      obtain ⟨_, _, h0, h1⟩ := hall i (by omega)
      obtain ⟨z, hz, _, hwf⟩ := DataW.trod_int Try.underlying38 h0
      simp only [List.cons.injEq, and_true] at hz
      have hb := u64_of_wf hwf
      obtain ⟨xs, hs, hxl⟩ := open_bytes h1 (fun q hq => hw q (by
        simp only [DataW.weights, Try.underlying26, List.mem_cons, List.mem_append]
        refine .inr (.inl (weightsAll_mem (d := .agg [D0 i, D1 i]) (List.mem_map.2 ⟨i, List.mem_range.2 hi, rfl⟩) ?_))
        simp only [DataW.weights, Try.underlying40, DataW.weightsEach, List.map_cons, List.map_nil, List.mem_append]
        exact .inr (.inl hq)))
      exact ⟨⟨z.toNat, xs⟩, by rw [hz]; simp; omega, hs, by show z.toNat < _; omega, by show xs.length ≤ _; omega⟩
    haveI : Inhabited Fld := ⟨⟨0, []⟩⟩
    obtain ⟨F, hF⟩ := choose_lt each
    refine ⟨(List.range len).map F, ?_, ?_⟩
    · refine ⟨some a, m, by simp, by simp; omega, fun h => by simp at h, fun i f hi => ?_⟩
      have hil : i < len := by
        have := (List.getElem?_eq_some_iff.1 hi).1
        simpa using this
      have hf : F i = f := by
        rw [List.getElem?_map, List.getElem?_range hil] at hi
        simpa using hi
      subst hf
      obtain ⟨hc0, hc1, _, _⟩ := hall i (by omega)
      obtain ⟨e0, hs, hn, hb⟩ := hF i hil
      have ha : a = ⟨a.block, a.off, none⟩ := by
        obtain ⟨hc00, _⟩ := hall 0 (by omega)
        have e : a.add (0 * 2) = a := by simp [Addr.add]
        rw [e] at hc00
        exact plain_of_cell hc00
      rw [ha, add_plain] at hc0 hc1
      exact ⟨a.block, a.off, V1 i, by rw [← ha], World.block_lt_of_cell? W ⟨a.block, a.off + i * 2, none⟩ hc0, by rw [hc0, e0], by rw [← hc1, Nat.add_assoc], hs, hn, hb⟩
    · simp only [List.length_map, List.length_range] at hwl ⊢
      unfold reachBytes at hwl
      omega
end Go.Proofs.Ytfnokdgfbhlccaa
