/-
  Arguments opened: deeds that came in.
-/
import Derived.Deep.Slices
import Derived.ProofKit
import Derived.OpenShut
import Derived.SizedLaws
import Derived.Test.YtppfcdnhmieejaaLibS
import Derived.Test.YtppfcdnhmieejaaLabS
namespace Go.Proofs.Ytppfcdnhmieejaa
set_option linter.unusedVariables false
set_option linter.unusedSimpArgs false
set_option maxRecDepth 20000
open Go.RowKit Go.ChangeShapes Go.WideShapes Go.Deep

theorem i64_of_wf {z : Int} (h : (Lit.int .i64 z).wf = true) : -9223372036854775808 ≤ z ∧ z ≤ 9223372036854775807 := by
  have e1 : IntKind.i64.min = -9223372036854775808 := rfl
  have e2 : IntKind.i64.max = 9223372036854775807 := rfl
  simp only [Lit.wf, Bool.and_eq_true, decide_eq_true_eq, e1, e2] at h
  exact h
theorem u64_of_wf {z : Int} (h : (Lit.int .u64 z).wf = true) : 0 ≤ z ∧ z ≤ 18446744073709551615 := by
  have e1 : IntKind.u64.min = 0 := rfl
  have e2 : IntKind.u64.max = 18446744073709551615 := rfl
  simp only [Lit.wf, Bool.and_eq_true, decide_eq_true_eq, e1, e2] at h
  exact h

/-- A deed: its kind, its quota, its ID. -/
structure DAct where
  kind : Int
  quota : Int
  id : Int

def dacell (a : DAct) : List Value := [.int .i64 a.kind, .int .i64 a.quota, .int .u64 a.id]

def DAct.Ok (a : DAct) : Prop := (-9223372036854775808 ≤ a.quota ∧ a.quota ≤ 9223372036854775807) ∧ 0 ≤ a.id ∧ a.id ≤ 18446744073709551615

/-- The slice value v holds the deeds ac, all below K. -/
def DActsAt (K : Nat) (w : World) (v : Value) (ac : List DAct) : Prop := Slp (fun b => b < K) w v ac.length (ac.flatMap dacell) ∧ ∀ a ∈ ac, a.Ok

theorem Try.cDA : Try.prog.cellsOf 60 = 3 := by kernel_rfl
theorem Try.bDA : Try.prog.bytesOf 60 = 24 := by kernel_rfl
theorem Try.cDi : Try.prog.cellsOf 3 = 1 := by kernel_rfl
theorem Try.cDu : Try.prog.cellsOf 23 = 1 := by kernel_rfl

theorem open_dacts {H : Type} {enc : TypeId × Value → H} {W : World} {fuel : Nat} {v : Value} {d : DataW H} {p : List MemPlace}
    (h : DataW.trod enc Try.prog W 0 (fun _ => true) true fuel 56 [v] = some (d, p)) (hw : ∀ n ∈ d.weights Try.prog 56, n ≤ reachBytes) :
    ∃ ac : List DAct, DActsAt W.heap.size W v ac ∧ ac.length ≤ 140737488351232 := by
  obtain ⟨xs, h1, h2, h3, _⟩ := open_rows (α := DAct) ⟨0, 0, 0⟩ dacell 3 24 DAct.Ok (fun _ => 0) Try.underlying56 Try.cDA Try.bDA (by decide) (fun _ => rfl) h hw (fun k cs dd pp ht hl hwd => by
    obtain ⟨b0, b1, b2, rfl⟩ : ∃ b0 b1 b2, cs = [b0, b1, b2] := by
      match cs, hl with
      | [a, b, c], _ => exact ⟨a, b, c, rfl⟩
    obtain ⟨ys, k', hk, hxy, _, hxl, hf⟩ := DataW.trod_struct Try.underlying60 ht
    obtain ⟨y0, y1, y2, rfl⟩ : ∃ y0 y1 y2, ys = [y0, y1, y2] := by
      match ys, hxl with
      | [y0, y1, y2], _ => exact ⟨y0, y1, y2, rfl⟩
    have g0 : DataW.trod enc Try.prog W 0 (fun _ => true) true k' 3 (([b0, b1, b2].drop 0).take (Try.prog.cellsOf 3)) = some y0 := hf 0 _ rfl
    have g1 : DataW.trod enc Try.prog W 0 (fun _ => true) true k' 3 (([b0, b1, b2].drop 1).take (Try.prog.cellsOf 3)) = some y1 := hf 1 _ rfl
    have g2 : DataW.trod enc Try.prog W 0 (fun _ => true) true k' 23 (([b0, b1, b2].drop 2).take (Try.prog.cellsOf 23)) = some y2 := hf 2 _ rfl
    rw [Try.cDi] at g0 g1
    rw [Try.cDu] at g2
    obtain ⟨z0, e0, _, wf0⟩ := DataW.trod_int Try.underlying3 g0
    obtain ⟨z1, e1, _, wf1⟩ := DataW.trod_int Try.underlying3 g1
    obtain ⟨z2, e2, _, wf2⟩ := DataW.trod_int Try.underlying23 g2
    have q0 : b0 = .int .i64 z0 := (List.cons.inj (show [b0] = [Value.int .i64 z0] from e0)).1
    have q1 : b1 = .int .i64 z1 := (List.cons.inj (show [b1] = [Value.int .i64 z1] from e1)).1
    have q2 : b2 = .int .u64 z2 := (List.cons.inj (show [b2] = [Value.int .u64 z2] from e2)).1
    clear e0 e1 e2
    subst q0 q1 q2
    exact ⟨⟨z0, z1, z2⟩, rfl, ⟨i64_of_wf wf1, u64_of_wf wf2⟩, Nat.zero_le _⟩)
  refine ⟨xs, ⟨h1, h3⟩, ?_⟩
  unfold reachBytes at h2
  omega

theorem dacells_get (es : List DAct) (i : Nat) (h : i < es.length) (j : Nat) (v : Value) (hv : (dacell es[i])[j]? = some v) : (es.flatMap dacell)[i * 3 + j]? = some v := by
  have e : es = es.take i ++ (es[i] :: es.drop (i + 1)) := by simp
  have hl : ∀ l : List DAct, (l.flatMap dacell).length = l.length * 3 := by
    intro l
    induction l with
    | nil => rfl
    | cons a l ih => rw [List.flatMap_cons, List.length_append, ih]; simp [dacell]; omega
  have hj : j < 3 := (List.getElem?_eq_some_iff.1 hv).1
  have h1 := hl (es.take i)
  rw [List.length_take, Nat.min_eq_left (by omega)] at h1
  have e2 := congrArg (List.flatMap dacell) e
  rw [List.flatMap_append, List.flatMap_cons] at e2
  rw [e2, List.getElem?_append_right (by omega), List.getElem?_append_left (by rw [h1]; show _ < 3; omega), h1, show i * 3 + j - i * 3 = j by omega]
  exact hv

/-- One deed, where it lies. -/
theorem DActsAt.get {K : Nat} {w : World} {ao : Option Addr} {n cap : Nat} {ac : List DAct} (h : DActsAt K w (.slice ao n cap) ac) (k : Nat) (hk : k < ac.length) :
    ∃ q off, ao = some ⟨q, off, none⟩ ∧ q < K ∧ w.rangeAt q (off + k * 3) (dacell ac[k]) ∧ ac[k].Ok := by
  obtain ⟨⟨ao', cap', hv, _, _, hcs⟩, hok⟩ := h
  simp only [Value.slice.injEq] at hv
  obtain ⟨rfl, _, rfl⟩ := hv
  obtain ⟨q, off, h3, h4, h5⟩ := hcs _ _ (dacells_get ac k hk 0 _ rfl)
  refine ⟨q, off, h3, h4, fun j v hv => ?_, hok _ (List.getElem_mem hk)⟩
  obtain ⟨q', off', h3', _, h5'⟩ := hcs _ _ (dacells_get ac k hk j v hv)
  rw [h3] at h3'
  simp only [Option.some.injEq, Addr.mk.injEq, and_true] at h3'
  obtain ⟨rfl, rfl⟩ := h3'
  rw [Nat.add_assoc]
  exact h5'

/-! ### A pair of numbers by value -/
theorem Try.cDp : Try.prog.cellsOf 62 = 2 := by kernel_rfl
theorem list2d {l : List Value} (h : l.length = 2) : ∃ a b, l = [a, b] := by
  match l, h with
  | [a, b], _ => exact ⟨a, b, rfl⟩

theorem open_pair {H : Type} {enc : TypeId × Value → H} {W : World} {b0 : Nat} {v : Value} {d : DataW H} {p : List MemPlace} (hval : Value.okWide Try.prog W .any b0 62 v) (h : DataW.Trod enc Try.prog W 0 (fun _ => true) true 62 v d p) :
    ∃ a b : Int, v = .agg #[.int .i64 a, .int .i64 b] ∧ d = .agg [.lit (.int .i64 a), .lit (.int .i64 b)] ∧ p = [] ∧ (Lit.int .i64 a).wf = true ∧ (Lit.int .i64 b).wf = true := by
  unfold Value.okWide at hval
  rw [Try.underlying62] at hval
  obtain ⟨⟨l⟩, rfl, hsz, _⟩ := hval
  rw [Try.cDp] at hsz
  obtain ⟨c0, c1, rfl⟩ := list2d (l := l) (by simpa using hsz)
  obtain ⟨fuel, hf⟩ := h
  have hf : DataW.trod enc Try.prog W 0 (fun _ => true) true fuel 62 [c0, c1] = some (d, p) := hf
  obtain ⟨xs, m, _, hx, _, hxl, hall⟩ := DataW.trod_array Try.underlying62 hf
  obtain ⟨y0, y1, rfl⟩ : ∃ y0 y1, xs = [y0, y1] := by
    match xs, hxl with
    | [y0, y1], _ => exact ⟨y0, y1, rfl⟩
  have g0 := hall 0 (by omega)
  have g1 := hall 1 (by omega)
  rw [Try.cDi] at g0 g1
  have g0 : DataW.trod enc Try.prog W 0 (fun _ => true) true m 3 [c0] = some y0 := g0
  have g1 : DataW.trod enc Try.prog W 0 (fun _ => true) true m 3 [c1] = some y1 := g1
  obtain ⟨z0, e0, f0, wf0⟩ := DataW.trod_int Try.underlying3 g0
  obtain ⟨z1, e1, f1, wf1⟩ := DataW.trod_int Try.underlying3 g1
  simp only [List.cons.injEq, and_true] at e0 e1
  subst e0
  subst e1
  subst f0
  subst f1
  simp only [Prod.mk.injEq] at hx
  exact ⟨z0, z1, rfl, by simpa using hx.1, by simpa using hx.2, wf0, wf1⟩

theorem shut_pair {H : Type} {enc : TypeId × Value → H} {W : World} {spare : Nat → Bool} {a b : Int} (ha : (Lit.int .i64 a).wf = true) (hb : (Lit.int .i64 b).wf = true) :
    DataW.Trod enc Try.prog W 0 spare true 62 (.agg #[.int .i64 a, .int .i64 b]) (.agg [.lit (.int .i64 a), .lit (.int .i64 b)]) [] := by
  refine ⟨2, ?_⟩
  show DataW.trod enc Try.prog W 0 spare true 2 62 [.int .i64 a, .int .i64 b] = _
  simp [DataW.trod, Try.underlying62, Try.underlying3, Try.cDp, Try.cDi, ha, hb, show List.range 2 = [0, 1] from rfl]

end Go.Proofs.Ytppfcdnhmieejaa
