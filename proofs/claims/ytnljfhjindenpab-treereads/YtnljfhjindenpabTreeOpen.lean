/-
  Arguments opened: what is done to a tree, as it came in.
-/
import Derived.Test.YtnljfhjindenpabTreeR2
import Derived.Deep.Slices
import Derived.ProofKit
import Derived.OpenShut
import Derived.SizedLaws
namespace Go.Proofs.Ytnljfhjindenpab
set_option linter.unusedVariables false
set_option linter.unusedSimpArgs false
set_option maxRecDepth 20000
open Go.RowKit Go.ChangeShapes Go.WideShapes Go.Deep

theorem plain_of_cell {w : World} {a : Addr} {v : Value} (h : w.cell? a = some v) : a = ⟨a.block, a.off, none⟩ := by
  obtain ⟨b, o, s⟩ := a
  cases s with
  | none => rfl
  | some s =>
    unfold World.cell? at h
    split at h <;> simp at h

theorem i64_of_wf {z : Int} (h : (Lit.int .i64 z).wf = true) : -9223372036854775808 ≤ z ∧ z ≤ 9223372036854775807 := by
  have e1 : IntKind.i64.min = -9223372036854775808 := rfl
  have e2 : IntKind.i64.max = 9223372036854775807 := rfl
  simp only [Lit.wf, Bool.and_eq_true, decide_eq_true_eq, e1, e2] at h
  exact h

structure TAct where
  kind : Int
  key : Int
  s : Int
  l : Int

def tacell (a : TAct) : List Value := [.int .i64 a.kind, .int .u64 a.key, .int .i64 a.s, .int .i64 a.l]

structure TAct.Ok (a : TAct) : Prop where
  k : -9223372036854775808 ≤ a.kind ∧ a.kind ≤ 9223372036854775807
  n : 0 ≤ a.key ∧ a.key < 18446744073709551616
  s : -9223372036854775808 ≤ a.s ∧ a.s ≤ 9223372036854775807
  l : -9223372036854775808 ≤ a.l ∧ a.l ≤ 9223372036854775807

/-- The slice value v holds the acts ac, all below K. -/
def TActsAt (K : Nat) (w : World) (v : Value) (ac : List TAct) : Prop :=
  ∃ ao cap, v = .slice ao ac.length cap ∧ ac.length ≤ cap ∧ cap ≤ maxLen ∧
    ∀ (i : Nat) (a : TAct), ac[i]? = some a → ∃ b off, ao = some ⟨b, off, none⟩ ∧ b < K ∧ w.rangeAt b (off + i * 4) (tacell a) ∧ a.Ok

theorem Try.cellsInt : Try.prog.cellsOf 3 = 1 := by kernel_rfl
theorem Try.cellsU : Try.prog.cellsOf 27 = 1 := by kernel_rfl

theorem u64_of_wf {z : Int} (h : (Lit.int .u64 z).wf = true) : 0 ≤ z ∧ z < 18446744073709551616 := by
  have e1 : IntKind.u64.min = 0 := rfl
  have e2 : IntKind.u64.max = 18446744073709551615 := rfl
  simp only [Lit.wf, Bool.and_eq_true, decide_eq_true_eq, e1, e2] at h
  omega

theorem Try.cells75 : Try.prog.cellsOf 75 = 4 := by kernel_rfl

theorem Try.bytes75 : Try.prog.bytesOf 75 = 32 := by kernel_rfl

theorem Try.cells58 : Try.prog.cellsOf 58 = 2 := by kernel_rfl

theorem list4 {l : List Value} (h : l.length = 4) : ∃ a b c d, l = [a, b, c, d] := by
  match l, h with
  | [a, b, c, d], _ => exact ⟨a, b, c, d, rfl⟩

/-- Acts that came in. -/
theorem open_tacts {H : Type} {enc : TypeId × Value → H} {W : World} {fuel : Nat} {v : Value} {d : DataW H} {p : List MemPlace}
    (h : DataW.trod enc Try.prog W 0 (fun _ => true) true fuel 39 [v] = some (d, p)) (hw : ∀ n ∈ d.weights Try.prog 39, n ≤ reachBytes) :
    ∃ ac : List TAct, TActsAt W.heap.size W v ac ∧ ac.length ≤ 140737488351232 := by
  rcases open_slice Try.underlying39 h with ⟨hcs, hd⟩ | ⟨a, len, cap, m, n, D, Pl, hcs, _, hl, hm, hmm, hx, hall⟩
  · simp only [List.cons.injEq, and_true] at hcs
    subst hcs
    exact ⟨[], ⟨none, 0, rfl, Nat.le_refl _, Nat.zero_le _, fun i a h => by simp at h⟩, by simp⟩
  · simp only [List.cons.injEq, and_true] at hcs
    subst hcs
    simp only [if_true] at hmm
    subst hmm
    simp only [Prod.mk.injEq] at hx
    obtain ⟨rfl, _⟩ := hx
    have hwl := hw ((((List.range len).map D).length + ((List.range (m - len)).map fun j => D (len + j)).length) * 32) (by simp [DataW.weights, Try.underlying39, Try.bytes75])
    have each : ∀ i, i < len → ∃ f : TAct, (∀ j, j < 4 → W.cell? ((a.add (i * 4)).add j) = (tacell f)[j]?) ∧ f.Ok := by
      intro i hi
      obtain ⟨cs', h1, h2⟩ := hall i (by omega)
      rw [Try.cells75] at h1
      obtain ⟨_, hlen, hcell⟩ := World.cells?_some h1
      obtain ⟨b0, b1, b2, b3, rfl⟩ := list4 hlen
      obtain ⟨xs, k, hk, hxy, _, hxl, hf⟩ := DataW.trod_struct Try.underlying75 h2
      obtain ⟨y0, y1, y2, rfl⟩ : ∃ y0 y1 y2, xs = [y0, y1, y2] := by
        match xs, hxl with
        | [y0, y1, y2], _ => exact ⟨y0, y1, y2, rfl⟩
      have g0 : DataW.trod enc Try.prog W 0 (fun _ => true) true k 3 (([b0, b1, b2, b3].drop 0).take (Try.prog.cellsOf 3)) = some y0 := hf 0 _ rfl
      have g1 : DataW.trod enc Try.prog W 0 (fun _ => true) true k 27 (([b0, b1, b2, b3].drop 1).take (Try.prog.cellsOf 27)) = some y1 := hf 1 _ rfl
      have g2 : DataW.trod enc Try.prog W 0 (fun _ => true) true k 58 (([b0, b1, b2, b3].drop 2).take (Try.prog.cellsOf 58)) = some y2 := hf 2 _ rfl
      rw [Try.cellsInt] at g0
      rw [Try.cellsU] at g1
      rw [Try.cells58] at g2
      have g2 : DataW.trod enc Try.prog W 0 (fun _ => true) true k 58 [b2, b3] = some y2 := g2
      obtain ⟨xs2, k2, _, _, _, hxl2, hf2⟩ := DataW.trod_struct Try.underlying58 g2
      obtain ⟨y3, y4, rfl⟩ : ∃ y3 y4, xs2 = [y3, y4] := by
        match xs2, hxl2 with
        | [y3, y4], _ => exact ⟨y3, y4, rfl⟩
      have g3 : DataW.trod enc Try.prog W 0 (fun _ => true) true k2 3 (([b2, b3].drop 0).take (Try.prog.cellsOf 3)) = some y3 := hf2 0 _ rfl
      have g4 : DataW.trod enc Try.prog W 0 (fun _ => true) true k2 3 (([b2, b3].drop 1).take (Try.prog.cellsOf 3)) = some y4 := hf2 1 _ rfl
      rw [Try.cellsInt] at g3 g4
      obtain ⟨z0, e0, _, wf0⟩ := DataW.trod_int Try.underlying3 g0
      obtain ⟨z1, e1, _, wf1⟩ := DataW.trod_int Try.underlying27 g1
      obtain ⟨z2, e2, _, wf2⟩ := DataW.trod_int Try.underlying3 g3
      obtain ⟨z3, e3, _, wf3⟩ := DataW.trod_int Try.underlying3 g4
      have q0 : b0 = .int .i64 z0 := (List.cons.inj (show [b0] = [Value.int .i64 z0] from e0)).1
      have q1 : b1 = .int .u64 z1 := (List.cons.inj (show [b1] = [Value.int .u64 z1] from e1)).1
      have q2 : b2 = .int .i64 z2 := (List.cons.inj (show [b2] = [Value.int .i64 z2] from e2)).1
      have q3 : b3 = .int .i64 z3 := (List.cons.inj (show [b3] = [Value.int .i64 z3] from e3)).1
      clear e0 e1 e2 e3
      subst q0 q1 q2 q3
      exact ⟨⟨z0, z1, z2, z3⟩, fun j hj => hcell j hj, ⟨i64_of_wf wf0, u64_of_wf wf1, i64_of_wf wf2, i64_of_wf wf3⟩⟩
    haveI : Inhabited TAct := ⟨⟨0, 0, 0, 0⟩⟩
    obtain ⟨F, hF⟩ := choose_lt each
    refine ⟨(List.range len).map F, ?_, ?_⟩
    · refine ⟨some a, m, by simp, by simpa using hl, hm, fun i f hi => ?_⟩
      have hil : i < len := by
        have := (List.getElem?_eq_some_iff.1 hi).1
        simpa using this
      have hf : F i = f := by
        rw [List.getElem?_map, List.getElem?_range hil] at hi
        simpa using hi
      subst hf
      obtain ⟨hc, hok⟩ := hF i hil
      have ha : a = ⟨a.block, a.off, none⟩ := by
        have h0 := (hF 0 (by omega)).1 0 (by omega)
        have e : (a.add (0 * 4)).add 0 = a := by simp [Addr.add]
        rw [e] at h0
        exact plain_of_cell (v := .int .i64 (F 0).kind) h0
      have hr : W.rangeAt a.block (a.off + i * 4) (tacell (F i)) := fun j v hv => by
        have hj : j < 4 := (List.getElem?_eq_some_iff.1 hv).1
        have := hc j hj
        rw [ha, add_plain, add_plain] at this
        rw [this]; exact hv
      exact ⟨a.block, a.off, by rw [← ha], World.block_lt_of_cell? W ⟨a.block, a.off + i * 4 + 0, none⟩ (hr 0 _ rfl), hr, hok⟩
    · simp only [List.length_map, List.length_range] at hwl ⊢
      unfold reachBytes at hwl
      omega

/-- One act, where it lies. -/
theorem TActsAt.get {K : Nat} {w : World} {ao : Option Addr} {n cap : Nat} {ac : List TAct} (h : TActsAt K w (.slice ao n cap) ac) (k : Nat) (hk : k < ac.length) :
    ∃ q off, ao = some ⟨q, off, none⟩ ∧ q < K ∧ (∀ w', Below K w w' → w'.cell? ⟨q, off + k * 4, none⟩ = some (.int .i64 ac[k].kind) ∧ w'.cell? ⟨q, off + k * 4 + 1, none⟩ = some (.int .u64 ac[k].key) ∧ w'.cell? ⟨q, off + k * 4 + 2, none⟩ = some (.int .i64 ac[k].s) ∧ w'.cell? ⟨q, off + k * 4 + 3, none⟩ = some (.int .i64 ac[k].l)) ∧ ac[k].Ok := by
  obtain ⟨ao', cap', hv, _, _, hcs⟩ := h
  simp only [Value.slice.injEq] at hv
  obtain ⟨rfl, _, rfl⟩ := hv
  obtain ⟨q, off, h1, h2, h3, h4⟩ := hcs k ac[k] (List.getElem?_eq_getElem hk)
  refine ⟨q, off, h1, h2, fun w' hb => ?_, h4⟩
  have hc : ∀ j v, (tacell ac[k])[j]? = some v → w'.cell? ⟨q, off + k * 4 + j, none⟩ = some v := fun j v hv => by
    rw [hb.cell (p := ⟨q, _, none⟩) h2]; exact h3 j v hv
  exact ⟨hc 0 _ rfl, hc 1 _ rfl, hc 2 _ rfl, hc 3 _ rfl⟩
end Go.Proofs.Ytnljfhjindenpab
