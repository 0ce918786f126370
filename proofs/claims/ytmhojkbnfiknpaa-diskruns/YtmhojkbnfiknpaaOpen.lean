/-
  Arguments opened: bools, acts, as they came in.
-/
import Derived.Test.YtmhojkbnfiknpaaA1
import Derived.Deep.Slices
import Derived.ProofKit
import Derived.OpenShut
import Derived.SizedLaws
namespace Go.Proofs.Ytmhojkbnfiknpaa
set_option linter.unusedVariables false
set_option linter.unusedSimpArgs false
open Go.RowKit Go.ChangeShapes Go.WideShapes Go.Deep

theorem Try.cells3 : Try.prog.cellsOf 3 = 1 := by kernel_rfl
theorem Try.cells4 : Try.prog.cellsOf 4 = 1 := by kernel_rfl
theorem Try.cells33 : Try.prog.cellsOf 33 = 128 := by kernel_rfl
theorem Try.cells34 : Try.prog.cellsOf 34 = 1 := by kernel_rfl
theorem Try.cells36 : Try.prog.cellsOf 36 = 132 := by kernel_rfl
theorem Try.bytes4 : Try.prog.bytesOf 4 = 1 := by kernel_rfl
theorem Try.bytes36 : Try.prog.bytesOf 36 = 176 := by kernel_rfl

theorem weightsAll_mem {H : Type} {P : Program} {e : TypeId} : ∀ {l : List (DataW H)} {d : DataW H} {n : Nat}, d ∈ l → n ∈ d.weights P e → n ∈ DataW.weightsAll P e l
  | [], _, _, h, _ => by simp at h
  | x :: l, d, n, h, hn => by
    simp only [DataW.weightsAll, List.mem_append]
    rcases List.mem_cons.1 h with rfl | h
    · exact .inl hn
    · exact .inr (weightsAll_mem h hn)

theorem plain_of_cell {w : World} {a : Addr} {v : Value} (h : w.cell? a = some v) : a = ⟨a.block, a.off, none⟩ := by
  obtain ⟨b, o, s⟩ := a
  cases s with
  | none => rfl
  | some s =>
    unfold World.cell? at h
    split at h <;> simp at h

theorem u8_of_wf {z : Int} (h : (Lit.int .u8 z).wf = true) : ((UInt8.ofNat z.toNat).toNat : Int) = z := by
  have e1 : IntKind.u8.min = 0 := rfl
  have e2 : IntKind.u8.max = 255 := rfl
  simp only [Lit.wf, Bool.and_eq_true, decide_eq_true_eq, e1, e2] at h
  have : (UInt8.ofNat z.toNat).toNat = z.toNat := by simp; omega
  omega

theorem i64_of_wf {z : Int} (h : (Lit.int .i64 z).wf = true) : -9223372036854775808 ≤ z ∧ z ≤ 9223372036854775807 := by
  have e1 : IntKind.i64.min = -9223372036854775808 := rfl
  have e2 : IntKind.i64.max = 9223372036854775807 := rfl
  simp only [Lit.wf, Bool.and_eq_true, decide_eq_true_eq, e1, e2] at h
  exact h

theorem trod_bool' {H : Type} {enc : TypeId × Value → H} {P : Program} {w : World} {base : Nat} {spare : Nat → Bool} {held : Bool} {fuel : Nat} {t : TypeId} {cs : List Value} {x : DataW H × List MemPlace}
    (ht : P.underlying t = some .bool) (h : DataW.trod enc P w base spare held fuel t cs = some x) : ∃ b, cs = [.bool b] := by
  cases fuel with
  | zero => simp [DataW.trod] at h
  | succ n =>
    unfold DataW.trod at h
    rw [ht] at h
    split at h <;> simp_all

/-- Bools that came in. -/
theorem open_bools {H : Type} {enc : TypeId × Value → H} {W : World} {fuel : Nat} {v : Value} {d : DataW H} {p : List MemPlace}
    (h : DataW.trod enc Try.prog W 0 (fun _ => true) true fuel 34 [v] = some (d, p)) (hw : ∀ n ∈ d.weights Try.prog 34, n ≤ reachBytes) :
    ∃ xs : List Bool, Sl W.heap.size W v xs.length (xs.map Value.bool) ∧ xs.length ≤ 140737488351232 := by
  rcases open_slice1 Try.underlying34 Try.cells4 h with ⟨hcs, hd⟩ | ⟨a, len, cap, m, n, V, D, Pl, hcs, _, hl, hm, hmm, hx, hall⟩
  · simp only [List.cons.injEq, and_true] at hcs
    subst hcs
    exact ⟨[], Sl.nil _ _, by simp⟩
  · simp only [List.cons.injEq, and_true] at hcs
    subst hcs
    simp only [if_true] at hmm
    subst hmm
    simp only [Prod.mk.injEq] at hx
    obtain ⟨rfl, _⟩ := hx
    have hwl := hw ((((List.range len).map D).length + ((List.range (m - len)).map fun j => D (len + j)).length) * 1) (by simp [DataW.weights, Try.underlying34, Try.bytes4])
    have each : ∀ i, i < len → ∃ x : Bool, V i = .bool x := by
      intro i hi
      obtain ⟨_, h1⟩ := hall i (by omega)
      obtain ⟨b, hb⟩ := trod_bool' Try.underlying4 h1
      simp only [List.cons.injEq, and_true] at hb
      exact ⟨b, hb⟩
    obtain ⟨F, hF⟩ := choose_lt each
    refine ⟨(List.range len).map F, ?_, ?_⟩
    · refine ⟨some a, m, by simp, by simpa using ⟨hl, hm⟩, fun h => by simp at h, fun i c hi => ?_⟩
      have hil : i < len := by
        have := (List.getElem?_eq_some_iff.1 hi).1
        simpa using this
      have hf : c = .bool (F i) := by
        rw [List.getElem?_map, List.getElem?_map, List.getElem?_range hil] at hi
        simpa using hi.symm
      subst hf
      obtain ⟨hc0, _⟩ := hall i (by omega)
      have ha : a = ⟨a.block, a.off, none⟩ := by
        obtain ⟨hc00, _⟩ := hall 0 (by omega)
        have e : a.add 0 = a := by simp [Addr.add]
        rw [e] at hc00
        exact plain_of_cell hc00
      rw [ha, add_plain, hF i hil] at hc0
      exact ⟨a.block, a.off, by rw [← ha], World.block_lt_of_cell? W ⟨a.block, a.off + i, none⟩ hc0, hc0⟩
    · simp only [List.length_map, List.length_range] at hwl ⊢
      unfold reachBytes at hwl
      omega

/-- A sector that came in, by value. -/
theorem open_sector {H : Type} {enc : TypeId × Value → H} {W : World} {fuel : Nat} {cs : List Value} {x : DataW H × List MemPlace}
    (h : DataW.trod enc Try.prog W 0 (fun _ => true) true fuel 33 cs = some x) : ∃ s : List UInt8, s.length = 128 ∧ cs = s.map bv := by
  obtain ⟨xs, m, _, _, hl, hxl, hall⟩ := DataW.trod_array Try.underlying33 h
  rw [Try.cells33] at hl
  refine ⟨cs.map fun v => match v with | .int _ z => UInt8.ofNat z.toNat | _ => 0, by simp [hl], ?_⟩
  apply List.ext_getElem (by simp)
  intro i h1 h2
  have hi : i < 128 := by omega
  have hx := hall i hi
  rw [Try.cells5, Nat.mul_one, List.getElem?_eq_getElem (by omega)] at hx
  obtain ⟨z, hz, _, hwf⟩ := DataW.trod_int Try.underlying5 hx
  have e : cs[i] = .int .u8 z := by
    have : (List.take 1 (List.drop i cs))[0]? = some (Value.int .u8 z) := by rw [hz]; rfl
    rw [List.getElem?_take, if_pos (by omega), List.getElem?_drop, Nat.add_zero, List.getElem?_eq_getElem h1] at this
    exact Option.some.inj this
  rw [List.getElem_map, List.getElem_map, e]
  show _ = bv (UInt8.ofNat z.toNat)
  unfold bv
  rw [u8_of_wf hwf]

/-- Something done with a disk. -/
structure Actt where
  kind : Int
  place : Int
  cut : Int
  data : List UInt8
  keep : List Bool
  kv : Value

def acell (a : Actt) : List Value := [Value.int .i64 a.kind, Value.int .i64 a.place, Value.int .i64 a.cut] ++ a.data.map bv ++ [a.kv]
def actv (a : Actt) : Value := .agg (acell a).toArray

structure Actt.Ok (K : Nat) (w : World) (a : Actt) : Prop where
  k : -9223372036854775808 ≤ a.kind ∧ a.kind ≤ 9223372036854775807
  p : -9223372036854775808 ≤ a.place ∧ a.place ≤ 9223372036854775807
  c : -9223372036854775808 ≤ a.cut ∧ a.cut ≤ 9223372036854775807
  d : a.data.length = 128
  s : Sl K w a.kv a.keep.length (a.keep.map Value.bool)
  l : a.keep.length ≤ 140737488351232

theorem Actt.Ok.keep' {K : Nat} {w w' : World} {a : Actt} (h : a.Ok K w) (hb : Below K w w') : a.Ok K w' := ⟨h.k, h.p, h.c, h.d, h.s.keep hb, h.l⟩

theorem acell_length {a : Actt} (h : a.data.length = 128) : (acell a).length = 132 := by simp [acell, h]

/-- The slice value v holds the acts ac, all below K. -/
def ActsAt (K : Nat) (w : World) (v : Value) (ac : List Actt) : Prop :=
  ∃ ao cap, v = .slice ao ac.length cap ∧ ac.length ≤ cap ∧ cap ≤ maxLen ∧
    ∀ i a, ac[i]? = some a → ∃ b off, ao = some ⟨b, off, none⟩ ∧ b < K ∧ w.rangeAt b (off + i * 132) (acell a) ∧ a.Ok K w

theorem ActsAt.keep {K : Nat} {w w' : World} {v : Value} {ac : List Actt} (h : ActsAt K w v ac) (hb : Below K w w') : ActsAt K w' v ac := by
  obtain ⟨ao, cap, hv, hc, hm, hcs⟩ := h
  refine ⟨ao, cap, hv, hc, hm, fun i a hi => ?_⟩
  obtain ⟨b, off, ha, hbk, hr, hok⟩ := hcs i a hi
  exact ⟨b, off, ha, hbk, fun j v hv => (World.cell?_of_block (w := w) (a := ⟨b, off + i * 132 + j, none⟩) (hb.block b hbk)).trans (hr j v hv), hok.keep' hb⟩

theorem cut132 {l D : List Value} {a b c e : Value} (hl : l.length = 132) (h0 : (l.drop 0).take 1 = [a]) (h1 : (l.drop 1).take 1 = [b]) (h2 : (l.drop 2).take 1 = [c]) (h3 : (l.drop 3).take 128 = D) (h4 : (l.drop 131).take 1 = [e]) :
    l = [a, b, c] ++ D ++ [e] := by
  have s0 : l = (l.drop 0).take 1 ++ l.drop 1 := by rw [List.drop_zero]; exact (List.take_append_drop 1 l).symm
  have s1 : l.drop 1 = (l.drop 1).take 1 ++ l.drop 2 := by have := (List.take_append_drop 1 (l.drop 1)).symm; rwa [List.drop_drop] at this
  have s2 : l.drop 2 = (l.drop 2).take 1 ++ l.drop 3 := by have := (List.take_append_drop 1 (l.drop 2)).symm; rwa [List.drop_drop] at this
  have s3 : l.drop 3 = (l.drop 3).take 128 ++ l.drop 131 := by have := (List.take_append_drop 128 (l.drop 3)).symm; rwa [List.drop_drop] at this
  have s4 : l.drop 131 = (l.drop 131).take 1 := (List.take_of_length_le (by rw [List.length_drop, hl]; omega)).symm
  rw [h0] at s0
  rw [h1] at s1
  rw [h2] at s2
  rw [h3] at s3
  rw [h4] at s4
  rw [s0, s1, s2, s3, s4]
  simp

/-- Acts that came in. -/
theorem open_acts {H : Type} {enc : TypeId × Value → H} {W : World} {fuel : Nat} {v : Value} {d : DataW H} {p : List MemPlace}
    (h : DataW.trod enc Try.prog W 0 (fun _ => true) true fuel 26 [v] = some (d, p)) (hw : ∀ n ∈ d.weights Try.prog 26, n ≤ reachBytes) :
    ∃ ac : List Actt, ActsAt W.heap.size W v ac ∧ ac.length ≤ 140737488351232 := by
  rcases open_slice Try.underlying26 h with ⟨hcs, hd⟩ | ⟨a, len, cap, m, n, D, Pl, hcs, _, hl, hm, hmm, hx, hall⟩
  · simp only [List.cons.injEq, and_true] at hcs
    subst hcs
    exact ⟨[], ⟨none, 0, rfl, Nat.le_refl _, Nat.zero_le _, fun i a h => by simp at h⟩, by simp⟩
  · simp only [List.cons.injEq, and_true] at hcs
    subst hcs
    simp only [if_true] at hmm
    subst hmm
    simp only [Prod.mk.injEq] at hx
    obtain ⟨rfl, _⟩ := hx
    have hwl := hw ((((List.range len).map D).length + ((List.range (m - len)).map fun j => D (len + j)).length) * 176) (by simp [DataW.weights, Try.underlying26, Try.bytes36])
    have each : ∀ i, i < len → ∃ f : Actt, (∀ j, j < 132 → W.cell? ((a.add (i * 132)).add j) = (acell f)[j]?) ∧ f.Ok W.heap.size W := by
      intro i hi
      obtain ⟨cs', h1, h2⟩ := hall i (by omega)
      rw [Try.cells36] at h1
      obtain ⟨_, hlen, hcell⟩ := World.cells?_some h1
      obtain ⟨xs, k, hk, hxy, _, hxl, hf⟩ := DataW.trod_struct Try.underlying36 h2
      obtain ⟨y0, y1, y2, y3, y4, rfl⟩ : ∃ y0 y1 y2 y3 y4, xs = [y0, y1, y2, y3, y4] := by
        match xs, hxl with
        | [y0, y1, y2, y3, y4], _ => exact ⟨y0, y1, y2, y3, y4, rfl⟩
      have g0 : DataW.trod enc Try.prog W 0 (fun _ => true) true k 3 ((cs'.drop 0).take (Try.prog.cellsOf 3)) = some y0 := hf 0 _ rfl
      have g1 : DataW.trod enc Try.prog W 0 (fun _ => true) true k 3 ((cs'.drop 1).take (Try.prog.cellsOf 3)) = some y1 := hf 1 _ rfl
      have g2 : DataW.trod enc Try.prog W 0 (fun _ => true) true k 3 ((cs'.drop 2).take (Try.prog.cellsOf 3)) = some y2 := hf 2 _ rfl
      have g3 : DataW.trod enc Try.prog W 0 (fun _ => true) true k 33 ((cs'.drop 3).take (Try.prog.cellsOf 33)) = some y3 := hf 3 _ rfl
      have g4 : DataW.trod enc Try.prog W 0 (fun _ => true) true k 34 ((cs'.drop 131).take (Try.prog.cellsOf 34)) = some y4 := hf 4 _ rfl
      rw [Try.cells3] at g0 g1 g2
      rw [Try.cells33] at g3
      rw [Try.cells34] at g4
      obtain ⟨z0, e0, _, wf0⟩ := DataW.trod_int Try.underlying3 g0
      obtain ⟨z1, e1, _, wf1⟩ := DataW.trod_int Try.underlying3 g1
      obtain ⟨z2, e2, _, wf2⟩ := DataW.trod_int Try.underlying3 g2
      obtain ⟨s, hs, e3⟩ := open_sector g3
      obtain ⟨kv, e4⟩ : ∃ kv, (cs'.drop 131).take 1 = [kv] := by
        have : ((cs'.drop 131).take 1).length = 1 := by simp [hlen]
        match hq : (cs'.drop 131).take 1, this with
        | [kv], _ => exact ⟨kv, rfl⟩
      rw [e4] at g4
      have hDi : D i = .agg [y0.1, y1.1, y2.1, y3.1, y4.1] := by
        simp only [Prod.mk.injEq] at hxy
        simpa using hxy.1
      obtain ⟨ks, hks, hkl⟩ := open_bools (d := y4.1) (p := y4.2) g4 (fun q hq => hw q (by
        simp only [DataW.weights, Try.underlying26, List.mem_cons, List.mem_append]
        refine .inr (.inl (weightsAll_mem (d := D i) (List.mem_map.2 ⟨i, List.mem_range.2 hi, rfl⟩) ?_))
        rw [hDi]
        simp only [DataW.weights, Try.underlying36, DataW.weightsEach, List.map_cons, List.map_nil, List.mem_append]
        exact .inr (.inr (.inr (.inr (.inl hq))))))
      refine ⟨⟨z0, z1, z2, s, ks, kv⟩, fun j hj => ?_, ⟨i64_of_wf wf0, i64_of_wf wf1, i64_of_wf wf2, hs, hks, hkl⟩⟩
      rw [hcell j hj]
      have := cut132 hlen e0 e1 e2 e3 e4
      rw [this]
      rfl
    haveI : Inhabited Actt := ⟨⟨0, 0, 0, [], [], undef⟩⟩
    obtain ⟨F, hF⟩ := choose_lt each
    refine ⟨(List.range len).map F, ?_, ?_⟩
    · refine ⟨some a, m, by simp, by simpa using hl, hm, fun i f hi => ?_⟩
      have hil : i < len := by
        have := (List.getElem?_eq_some_iff.1 hi).1
        simpa using this
      have hf : F i = f := by
        rw [List.getElem?_map, List.getElem?_range hil] at hi
        simpa using hi
      subst hf
      obtain ⟨hc, hok⟩ := hF i hil
      have ha : a = ⟨a.block, a.off, none⟩ := by
        have h0 := (hF 0 (by omega)).1 0 (by omega)
        have e : (a.add (0 * 132)).add 0 = a := by simp [Addr.add]
        rw [e] at h0
        exact plain_of_cell (v := .int .i64 (F 0).kind) h0
      have hr : W.rangeAt a.block (a.off + i * 132) (acell (F i)) := fun j v hv => by
        have hj : j < 132 := by
          have := (List.getElem?_eq_some_iff.1 hv).1
          rwa [acell_length hok.d] at this
        have := hc j hj
        rw [ha, add_plain, add_plain] at this
        rw [this]; exact hv
      exact ⟨a.block, a.off, by rw [← ha], World.block_lt_of_cell? W ⟨a.block, a.off + i * 132 + 0, none⟩ (hr 0 _ rfl), hr, hok⟩
    · simp only [List.length_map, List.length_range] at hwl ⊢
      unfold reachBytes at hwl
      omega
end Go.Proofs.Ytmhojkbnfiknpaa
