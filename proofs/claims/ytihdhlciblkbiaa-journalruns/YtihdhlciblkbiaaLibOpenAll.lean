/-
  LibOpen, LibOpen2: in one text.
-/
import Derived.Test.YtihdhlciblkbiaaLibSec
import Derived.Deep.Slices
import Derived.ProofKit
import Derived.OpenShut
import Derived.SizedLaws
import Derived.Test.YtihdhlciblkbiaaCrcW2
namespace Go.Proofs.Ytihdhlciblkbiaa
set_option linter.unusedVariables false
set_option linter.unusedSimpArgs false
set_option maxRecDepth 20000
open Go.RowKit Go.ChangeShapes Go.WideShapes Go.Deep

theorem Try.bytes5 : Try.prog.bytesOf 5 = 1 := by kernel_rfl

theorem weightsAll_mem {H : Type} {P : Program} {e : TypeId} : ∀ {l : List (DataW H)} {d : DataW H} {n : Nat}, d ∈ l → n ∈ d.weights P e → n ∈ DataW.weightsAll P e l
  | [], _, _, h, _ => by simp at h
  | x :: l, d, n, h, hn => by
    simp only [DataW.weightsAll, List.mem_append]
    rcases List.mem_cons.1 h with rfl | h
    · exact .inl hn
    · exact .inr (weightsAll_mem h hn)

theorem plain_of_cell {w : World} {a : Addr} {v : Value} (h : w.cell? a = some v) : a = ⟨a.block, a.off, none⟩ := by
  obtain ⟨b, o, s⟩ := a
  cases s with
  | none => rfl
  | some s =>
    unfold World.cell? at h
    split at h <;> simp at h

theorem u8_of_wf {z : Int} (h : (Lit.int .u8 z).wf = true) : ((UInt8.ofNat z.toNat).toNat : Int) = z := by
  have e1 : IntKind.u8.min = 0 := rfl
  have e2 : IntKind.u8.max = 255 := rfl
  simp only [Lit.wf, Bool.and_eq_true, decide_eq_true_eq, e1, e2] at h
  have : (UInt8.ofNat z.toNat).toNat = z.toNat := by simp; omega
  omega

theorem i64_of_wf {z : Int} (h : (Lit.int .i64 z).wf = true) : -9223372036854775808 ≤ z ∧ z ≤ 9223372036854775807 := by
  have e1 : IntKind.i64.min = -9223372036854775808 := rfl
  have e2 : IntKind.i64.max = 9223372036854775807 := rfl
  simp only [Lit.wf, Bool.and_eq_true, decide_eq_true_eq, e1, e2] at h
  exact h

theorem bulk_one {H : Type} (d : DataW H) : 1 ≤ Rows.uptoBulk d := by
  cases d with
  | lit l => cases l <;> simp [Rows.uptoBulk]
  | nil => simp [Rows.uptoBulk]
  | ptr d => simp [Rows.uptoBulk]
  | slice elems spare => simp [Rows.uptoBulk]
  | agg parts => simp [Rows.uptoBulk]
  | iface t d => simp [Rows.uptoBulk]
  | map entries => simp [Rows.uptoBulk]
  | held h => simp [Rows.uptoBulk]

theorem bulk_length {H : Type} (l : List (DataW H)) : l.length ≤ Rows.uptoBulkAll l := by
  induction l with
  | nil => simp [Rows.uptoBulkAll]
  | cons x r ih => have := bulk_one x; simp only [Rows.uptoBulkAll, List.length_cons]; omega

/-- Bytes that came in. -/
theorem open_bytes {H : Type} {enc : TypeId × Value → H} {W : World} {fuel : Nat} {v : Value} {d : DataW H} {p : List MemPlace}
    (h : DataW.trod enc Try.prog W 0 (fun _ => true) true fuel 37 [v] = some (d, p)) (hw : ∀ n ∈ d.weights Try.prog 37, n ≤ reachBytes) :
    ∃ xs : List UInt8, Sl W.heap.size W v xs.length (xs.map bv) ∧ xs.length ≤ 140737488351232 ∧ xs.length + 1 ≤ Rows.uptoBulk d := by
  rcases open_ints Try.underlying37 Try.underlying5 Try.cells5 h with ⟨hcs, hd⟩ | ⟨a, len, cap, zs, hcs, _, hl, hm, hz, hx, hcell, hwz⟩
  · simp only [List.cons.injEq, and_true] at hcs
    subst hcs
    exact ⟨[], Sl.nil _ _, by simp, bulk_one _⟩
  · simp only [List.cons.injEq, and_true] at hcs
    subst hcs
    simp only [if_true] at hz
    simp only [Prod.mk.injEq] at hx
    obtain ⟨rfl, _⟩ := hx
    have hlen : ((zs.take len).map fun z => UInt8.ofNat z.toNat).length = len := by simp; omega
    refine ⟨(zs.take len).map fun z => UInt8.ofNat z.toNat, ?_, ?_, ?_⟩
    · rw [hlen]
      refine ⟨some a, cap, rfl, ⟨hl, hm⟩, fun h => by simp at h, fun i c hi => ?_⟩
      have hil : i < len := by
        have := (List.getElem?_eq_some_iff.1 hi).1
        rw [List.length_map, List.length_map, List.length_take] at this
        omega
      have hiz : i < zs.length := by omega
      have hc0 := hcell 0 (by omega)
      have ha : a = ⟨a.block, a.off, none⟩ := by
        have e : a.add 0 = a := by simp [Addr.add]
        rw [e] at hc0
        exact plain_of_cell hc0
      have hci := hcell i hiz
      rw [ha, add_plain] at hci
      refine ⟨a.block, a.off, by rw [← ha], World.block_lt_of_cell? W ⟨a.block, a.off + i, none⟩ hci, ?_⟩
      rw [hci]
      have hz' : zs.getD i 0 = zs[i] := by simp [List.getD, hiz]
      have e : c = bv (UInt8.ofNat (zs[i]).toNat) := by
        simp [hil, hiz] at hi
        exact hi.symm
      rw [e, bv, u8_of_wf (hwz _ (List.getElem_mem hiz)), hz']
    · rw [hlen]
      have := hw ((zs.take len).length + (zs.drop len).length) (by simp [DataW.weights, Try.underlying37, Try.bytes5, lits])
      unfold reachBytes at this
      rw [List.length_take, List.length_drop] at this
      omega
    · rw [hlen]
      simp only [Rows.uptoBulk]
      have := bulk_length (lits (H := H) .u8 (zs.take len))
      have e : (lits (H := H) .u8 (zs.take len)).length = len := by simp [lits]; omega
      omega

theorem Try.cells55 : Try.prog.cellsOf 55 = 128 := by kernel_rfl

/-- A sector that came in, by value. -/
theorem open_secs {H : Type} {enc : TypeId × Value → H} {W : World} {fuel : Nat} {cs : List Value} {x : DataW H × List MemPlace}
    (h : DataW.trod enc Try.prog W 0 (fun _ => true) true fuel 55 cs = some x) : ∃ s : List UInt8, s.length = 128 ∧ cs = s.map bv := by
  obtain ⟨xs, m, _, _, hl, hxl, hall⟩ := DataW.trod_array Try.underlying55 h
  rw [Try.cells55] at hl
  refine ⟨cs.map fun v => match v with | .int _ z => UInt8.ofNat z.toNat | _ => 0, by simp [hl], ?_⟩
  apply List.ext_getElem (by simp)
  intro i h1 h2
  have hi : i < 128 := by omega
  have hx := hall i hi
  rw [Try.cells5, Nat.mul_one, List.getElem?_eq_getElem (by omega)] at hx
  obtain ⟨z, hz, _, hwf⟩ := DataW.trod_int Try.underlying5 hx
  have e : cs[i] = .int .u8 z := by
    have : (List.take 1 (List.drop i cs))[0]? = some (Value.int .u8 z) := by rw [hz]; rfl
    rw [List.getElem?_take, if_pos (by omega), List.getElem?_drop, Nat.add_zero, List.getElem?_eq_getElem h1] at this
    exact Option.some.inj this
  rw [List.getElem_map, List.getElem_map, e]
  show _ = bv (UInt8.ofNat z.toNat)
  unfold bv
  rw [u8_of_wf hwf]

/-- A sector that came in. -/
theorem open_sector {H : Type} {enc : TypeId × Value → H} {W : World} {b0 : Nat} {v : Value} {d : DataW H} {p : List MemPlace} (hval : Value.okWide Try.prog W .any b0 55 v) (h : DataW.Trod enc Try.prog W 0 (fun _ => true) true 55 v d p) :
    ∃ s : List UInt8, v = sec s ∧ s.length = 128 := by
  unfold Value.okWide at hval
  rw [Try.underlying55] at hval
  obtain ⟨⟨l⟩, rfl, hsz, _⟩ := hval
  obtain ⟨fuel, hf⟩ := h
  have hf : DataW.trod enc Try.prog W 0 (fun _ => true) true fuel 55 l = some (d, p) := hf
  obtain ⟨s, hs, rfl⟩ := open_secs hf
  exact ⟨s, rfl, hs⟩

theorem u64_of_wf {z : Int} (h : (Lit.int .u64 z).wf = true) : ((z.toNat : Nat) : Int) = z ∧ z.toNat < 18446744073709551616 := by
  have e1 : IntKind.u64.min = 0 := rfl
  have e2 : IntKind.u64.max = 18446744073709551615 := rfl
  simp only [Lit.wf, Bool.and_eq_true, decide_eq_true_eq, e1, e2] at h
  omega

theorem list2 {l : List Value} (h : l.length = 2) : ∃ a b, l = [a, b] := by
  match l, h with
  | [a, b], _ => exact ⟨a, b, rfl⟩

theorem Try.cells23 : Try.prog.cellsOf 23 = 1 := by kernel_rfl
theorem Try.cells37 : Try.prog.cellsOf 37 = 1 := by kernel_rfl

end Go.Proofs.Ytihdhlciblkbiaa

namespace Go.Proofs.Ytihdhlciblkbiaa
set_option linter.unusedVariables false
set_option linter.unusedSimpArgs false
set_option maxRecDepth 20000
open Go.RowKit Go.ChangeShapes Go.WideShapes Go.Deep

theorem Try.bytesB : Try.prog.bytesOf 37 = 24 := by kernel_rfl

/-- Parts that came in. -/
theorem open_parts {H : Type} {enc : TypeId × Value → H} {W : World} {fuel : Nat} {v : Value} {d : DataW H} {p : List MemPlace}
    (h : DataW.trod enc Try.prog W 0 (fun _ => true) true fuel 51 [v] = some (d, p)) (hw : ∀ n ∈ d.weights Try.prog 51, n ≤ reachBytes) :
    ∃ ps : List (List UInt8), Parts W.heap.size W v ps ∧ ps.length ≤ 140737488351232 ∧ ps.flatten.length ≤ Rows.uptoBulk d := by
  rcases open_slice1 Try.underlying51 Try.cells37 h with ⟨hcs, _⟩ | ⟨a, len, cap, m, n, V, D, Pl, hcs, _, hl, hm, hmm, hx, hall⟩
  · simp only [List.cons.injEq, and_true] at hcs
    subst hcs
    exact ⟨[], Parts.nil _ _, by simp, by simp⟩
  · simp only [List.cons.injEq, and_true] at hcs
    subst hcs
    simp only [if_true] at hmm
    subst hmm
    simp only [Prod.mk.injEq] at hx
    obtain ⟨rfl, _⟩ := hx
    have hwl := hw ((((List.range len).map D).length + ((List.range (m - len)).map fun j => D (len + j)).length) * 24) (by simp [DataW.weights, Try.underlying51, Try.bytesB])
    have each : ∀ i, i < len → ∃ x : List UInt8, Sl W.heap.size W (V i) x.length (x.map bv) ∧ x.length ≤ 140737488351232 ∧ x.length + 1 ≤ Rows.uptoBulk (D i) := by
      intro i hi
      obtain ⟨_, h1⟩ := hall i (by omega)
      exact open_bytes h1 (fun q hq => hw q (by
        simp only [DataW.weights, Try.underlying51, List.mem_cons, List.mem_append]
        exact .inr (.inl (weightsAll_mem (List.mem_map.2 ⟨i, List.mem_range.2 hi, rfl⟩) hq))))
    obtain ⟨F, hF⟩ := choose_lt each
    refine ⟨(List.range len).map F, ?_, ?_, ?_⟩
    · refine ⟨some a, m, by simp, by simp; omega, fun i f hi => ?_⟩
      have hil : i < len := by
        have := (List.getElem?_eq_some_iff.1 hi).1
        simpa using this
      have hf : F i = f := by
        rw [List.getElem?_map, List.getElem?_range hil] at hi
        simpa using hi
      subst hf
      obtain ⟨hc0, _⟩ := hall i (by omega)
      obtain ⟨hs, hb, _⟩ := hF i hil
      have ha : a = ⟨a.block, a.off, none⟩ := by
        obtain ⟨hc00, _⟩ := hall 0 (by omega)
        have e : a.add 0 = a := by simp [Addr.add]
        rw [e] at hc00
        exact plain_of_cell hc00
      rw [ha, add_plain] at hc0
      exact ⟨a.block, a.off, V i, by rw [← ha], World.block_lt_of_cell? W ⟨a.block, a.off + i, none⟩ hc0, hc0, hs, by omega⟩
    · simp only [List.length_map, List.length_range] at hwl ⊢
      unfold reachBytes at hwl
      omega
    · simp only [Rows.uptoBulk]
      have : ∀ l : List Nat, (∀ i ∈ l, i < len) → ((l.map F).flatten).length ≤ Rows.uptoBulkAll (l.map D) := by
        intro l
        induction l with
        | nil => intro _; simp
        | cons i l ih =>
          intro hi
          have h1 := ih (fun j hj => hi j (List.mem_cons_of_mem _ hj))
          obtain ⟨_, _, h2⟩ := hF i (hi i List.mem_cons_self)
          simp only [List.map_cons, List.flatten_cons, List.length_append, Rows.uptoBulkAll]
          omega
      have := this (List.range len) (fun i hi => List.mem_range.1 hi)
      omega

theorem Try.cellsInt : Try.prog.cellsOf 3 = 1 := by kernel_rfl

theorem Try.cells4 : Try.prog.cellsOf 4 = 1 := by kernel_rfl

theorem Try.bytes4 : Try.prog.bytesOf 4 = 1 := by kernel_rfl

theorem trod_bool' {H : Type} {enc : TypeId × Value → H} {P : Program} {w : World} {base : Nat} {spare : Nat → Bool} {held : Bool} {fuel : Nat} {t : TypeId} {cs : List Value} {x : DataW H × List MemPlace}
    (ht : P.underlying t = some .bool) (h : DataW.trod enc P w base spare held fuel t cs = some x) : ∃ b, cs = [.bool b] := by
  cases fuel with
  | zero => simp [DataW.trod] at h
  | succ n =>
    unfold DataW.trod at h
    rw [ht] at h
    split at h <;> simp_all

/-- Bools that came in. -/
theorem open_bools {H : Type} {enc : TypeId × Value → H} {W : World} {fuel : Nat} {v : Value} {d : DataW H} {p : List MemPlace}
    (h : DataW.trod enc Try.prog W 0 (fun _ => true) true fuel 38 [v] = some (d, p)) (hw : ∀ n ∈ d.weights Try.prog 38, n ≤ reachBytes) :
    ∃ xs : List Bool, Sl W.heap.size W v xs.length (xs.map Value.bool) ∧ xs.length ≤ 140737488351232 := by
  rcases open_slice1 Try.underlying38 Try.cells4 h with ⟨hcs, hd⟩ | ⟨a, len, cap, m, n, V, D, Pl, hcs, _, hl, hm, hmm, hx, hall⟩
  · simp only [List.cons.injEq, and_true] at hcs
    subst hcs
    exact ⟨[], Sl.nil _ _, by simp⟩
  · simp only [List.cons.injEq, and_true] at hcs
    subst hcs
    simp only [if_true] at hmm
    subst hmm
    simp only [Prod.mk.injEq] at hx
    obtain ⟨rfl, _⟩ := hx
    have hwl := hw ((((List.range len).map D).length + ((List.range (m - len)).map fun j => D (len + j)).length) * 1) (by simp [DataW.weights, Try.underlying38, Try.bytes4])
    have each : ∀ i, i < len → ∃ x : Bool, V i = .bool x := by
      intro i hi
      obtain ⟨_, h1⟩ := hall i (by omega)
      obtain ⟨b, hb⟩ := trod_bool' Try.underlying4 h1
      simp only [List.cons.injEq, and_true] at hb
      exact ⟨b, hb⟩
    obtain ⟨F, hF⟩ := choose_lt each
    refine ⟨(List.range len).map F, ?_, ?_⟩
    · refine ⟨some a, m, by simp, by simpa using ⟨hl, hm⟩, fun h => by simp at h, fun i c hi => ?_⟩
      have hil : i < len := by
        have := (List.getElem?_eq_some_iff.1 hi).1
        simpa using this
      have hf : c = .bool (F i) := by
        rw [List.getElem?_map, List.getElem?_map, List.getElem?_range hil] at hi
        simpa using hi.symm
      subst hf
      obtain ⟨hc0, _⟩ := hall i (by omega)
      have ha : a = ⟨a.block, a.off, none⟩ := by
        obtain ⟨hc00, _⟩ := hall 0 (by omega)
        have e : a.add 0 = a := by simp [Addr.add]
        rw [e] at hc00
        exact plain_of_cell hc00
      rw [ha, add_plain, hF i hil] at hc0
      exact ⟨a.block, a.off, by rw [← ha], World.block_lt_of_cell? W ⟨a.block, a.off + i, none⟩ hc0, hc0⟩
    · simp only [List.length_map, List.length_range] at hwl ⊢
      unfold reachBytes at hwl
      omega

/-! ### Pairs -/
theorem Try.cells60 : Try.prog.cellsOf 60 = 2 := by kernel_rfl

theorem Try.bytes60 : Try.prog.bytesOf 60 = 16 := by kernel_rfl

def pairC (p : Int × Int) : List Value := [.int .i64 p.1, .int .i64 p.2]

def PairOk (p : Int × Int) : Prop := (-9223372036854775808 ≤ p.1 ∧ p.1 ≤ 9223372036854775807) ∧ (-9223372036854775808 ≤ p.2 ∧ p.2 ≤ 9223372036854775807)

/-- The slice value v holds the pairs ps, all below K. -/
def PairsAt (K : Nat) (w : World) (v : Value) (ps : List (Int × Int)) : Prop :=
  ∃ ao cap, v = .slice ao ps.length cap ∧ ps.length ≤ cap ∧ cap ≤ maxLen ∧
    ∀ (i : Nat) (p : Int × Int), ps[i]? = some p → ∃ b off, ao = some ⟨b, off, none⟩ ∧ b < K ∧ w.rangeAt b (off + i * 2) (pairC p) ∧ PairOk p

/-- Pairs that came in. -/
theorem open_pairs {H : Type} {enc : TypeId × Value → H} {W : World} {fuel : Nat} {v : Value} {d : DataW H} {p : List MemPlace}
    (h : DataW.trod enc Try.prog W 0 (fun _ => true) true fuel 59 [v] = some (d, p)) (hw : ∀ n ∈ d.weights Try.prog 59, n ≤ reachBytes) :
    ∃ ps : List (Int × Int), PairsAt W.heap.size W v ps ∧ ps.length ≤ 140737488351232 := by
  rcases open_slice Try.underlying59 h with ⟨hcs, hd⟩ | ⟨a, len, cap, m, n, D, Pl, hcs, _, hl, hm, hmm, hx, hall⟩
  · simp only [List.cons.injEq, and_true] at hcs
    subst hcs
    exact ⟨[], ⟨none, 0, rfl, Nat.le_refl _, Nat.zero_le _, fun i a h => by simp at h⟩, by simp⟩
  · simp only [List.cons.injEq, and_true] at hcs
    subst hcs
    simp only [if_true] at hmm
    subst hmm
    simp only [Prod.mk.injEq] at hx
    obtain ⟨rfl, _⟩ := hx
    have hwl := hw ((((List.range len).map D).length + ((List.range (m - len)).map fun j => D (len + j)).length) * 16) (by simp [DataW.weights, Try.underlying59, Try.bytes60])
    have each : ∀ i, i < len → ∃ f : Int × Int, (∀ j, j < 2 → W.cell? ((a.add (i * 2)).add j) = (pairC f)[j]?) ∧ PairOk f := by
      intro i hi
      obtain ⟨cs', h1, h2⟩ := hall i (by omega)
      rw [Try.cells60] at h1
      obtain ⟨_, hlen, hcell⟩ := World.cells?_some h1
      obtain ⟨c0, c1, rfl⟩ := list2 (l := cs') hlen
      obtain ⟨xs, k, _, _, _, hxl, hf⟩ := DataW.trod_array Try.underlying60 h2
      obtain ⟨y0, y1, rfl⟩ : ∃ y0 y1, xs = [y0, y1] := by
        match xs, hxl with
        | [y0, y1], _ => exact ⟨y0, y1, rfl⟩
      have g0 := hf 0 (by omega)
      have g1 := hf 1 (by omega)
      rw [Try.cellsInt] at g0 g1
      have g0 : DataW.trod enc Try.prog W 0 (fun _ => true) true k 3 [c0] = some y0 := g0
      have g1 : DataW.trod enc Try.prog W 0 (fun _ => true) true k 3 [c1] = some y1 := g1
      obtain ⟨z0, e0, -, wf0⟩ := DataW.trod_int Try.underlying3 g0
      obtain ⟨z1, e1, -, wf1⟩ := DataW.trod_int Try.underlying3 g1
      simp only [List.cons.injEq, and_true] at e0 e1
      subst e0
      subst e1
      exact ⟨(z0, z1), fun j hj => hcell j hj, i64_of_wf wf0, i64_of_wf wf1⟩
    haveI : Inhabited (Int × Int) := ⟨(0, 0)⟩
    obtain ⟨F, hF⟩ := choose_lt each
    refine ⟨(List.range len).map F, ?_, ?_⟩
    · refine ⟨some a, m, by simp, by simpa using hl, hm, fun i f hi => ?_⟩
      have hil : i < len := by
        have := (List.getElem?_eq_some_iff.1 hi).1
        simpa using this
      have hf : F i = f := by
        rw [List.getElem?_map, List.getElem?_range hil] at hi
        simpa using hi
      subst hf
      obtain ⟨hc, hok⟩ := hF i hil
      have ha : a = ⟨a.block, a.off, none⟩ := by
        have h0 := (hF 0 (by omega)).1 0 (by omega)
        have e : (a.add (0 * 2)).add 0 = a := by simp [Addr.add]
        rw [e] at h0
        exact plain_of_cell (v := .int .i64 (F 0).1) h0
      have hr : W.rangeAt a.block (a.off + i * 2) (pairC (F i)) := fun j v hv => by
        have hj : j < 2 := (List.getElem?_eq_some_iff.1 hv).1
        have := hc j hj
        rw [ha, add_plain, add_plain] at this
        rw [this]; exact hv
      exact ⟨a.block, a.off, by rw [← ha], World.block_lt_of_cell? W ⟨a.block, a.off + i * 2 + 0, none⟩ (hr 0 _ rfl), hr, hok⟩
    · simp only [List.length_map, List.length_range] at hwl ⊢
      unfold reachBytes at hwl
      omega

/-! ### What is done with a journal -/
structure JAct where
  kind : Int
  place : Int
  cut : Int
  text : List UInt8
  tv : Value
  keep : List Bool
  kv : Value

def jacell (a : JAct) : List Value := [.int .i64 a.kind, .int .i64 a.place, .int .i64 a.cut, a.tv, a.kv]
def jactv (a : JAct) : Value := .agg (jacell a).toArray

structure JAct.Ok (K : Nat) (w : World) (a : JAct) : Prop where
  k : -9223372036854775808 ≤ a.kind ∧ a.kind ≤ 9223372036854775807
  p : -9223372036854775808 ≤ a.place ∧ a.place ≤ 9223372036854775807
  c : -9223372036854775808 ≤ a.cut ∧ a.cut ≤ 9223372036854775807
  t : Sl K w a.tv a.text.length (a.text.map bv)
  tl : a.text.length ≤ 140737488351232
  s : Sl K w a.kv a.keep.length (a.keep.map Value.bool)
  l : a.keep.length ≤ 140737488351232

theorem JAct.Ok.keep' {K : Nat} {w w' : World} {a : JAct} (h : a.Ok K w) (hb : Below K w w') : a.Ok K w' := ⟨h.k, h.p, h.c, h.t.keep hb, h.tl, h.s.keep hb, h.l⟩

/-- The slice value v holds the acts ac, all below K. -/
def JActsAt (K : Nat) (w : World) (v : Value) (ac : List JAct) : Prop :=
  ∃ ao cap, v = .slice ao ac.length cap ∧ ac.length ≤ cap ∧ cap ≤ maxLen ∧
    ∀ (i : Nat) (a : JAct), ac[i]? = some a → ∃ b off, ao = some ⟨b, off, none⟩ ∧ b < K ∧ w.rangeAt b (off + i * 5) (jacell a) ∧ a.Ok K w

theorem Try.cells40 : Try.prog.cellsOf 40 = 5 := by kernel_rfl

theorem Try.bytes40 : Try.prog.bytesOf 40 = 72 := by kernel_rfl

theorem Try.cells38 : Try.prog.cellsOf 38 = 1 := by kernel_rfl

theorem list5 {l : List Value} (h : l.length = 5) : ∃ a b c d e, l = [a, b, c, d, e] := by
  match l, h with
  | [a, b, c, d, e], _ => exact ⟨a, b, c, d, e, rfl⟩

/-- Acts that came in. -/
theorem open_jacts {H : Type} {enc : TypeId × Value → H} {W : World} {fuel : Nat} {v : Value} {d : DataW H} {p : List MemPlace}
    (h : DataW.trod enc Try.prog W 0 (fun _ => true) true fuel 24 [v] = some (d, p)) (hw : ∀ n ∈ d.weights Try.prog 24, n ≤ reachBytes) :
    ∃ ac : List JAct, JActsAt W.heap.size W v ac ∧ ac.length ≤ 140737488351232 := by
  rcases open_slice Try.underlying24 h with ⟨hcs, hd⟩ | ⟨a, len, cap, m, n, D, Pl, hcs, _, hl, hm, hmm, hx, hall⟩
  · simp only [List.cons.injEq, and_true] at hcs
    subst hcs
    exact ⟨[], ⟨none, 0, rfl, Nat.le_refl _, Nat.zero_le _, fun i a h => by simp at h⟩, by simp⟩
  · simp only [List.cons.injEq, and_true] at hcs
    subst hcs
    simp only [if_true] at hmm
    subst hmm
    simp only [Prod.mk.injEq] at hx
    obtain ⟨rfl, _⟩ := hx
    have hwl := hw ((((List.range len).map D).length + ((List.range (m - len)).map fun j => D (len + j)).length) * 72) (by simp [DataW.weights, Try.underlying24, Try.bytes40])
    have each : ∀ i, i < len → ∃ f : JAct, (∀ j, j < 5 → W.cell? ((a.add (i * 5)).add j) = (jacell f)[j]?) ∧ f.Ok W.heap.size W := by
      intro i hi
      obtain ⟨cs', h1, h2⟩ := hall i (by omega)
      rw [Try.cells40] at h1
      obtain ⟨_, hlen, hcell⟩ := World.cells?_some h1
      obtain ⟨b0, b1, b2, b3, b4, rfl⟩ := list5 hlen
      obtain ⟨xs, k, hk, hxy, _, hxl, hf⟩ := DataW.trod_struct Try.underlying40 h2
      obtain ⟨y0, y1, y2, y3, y4, rfl⟩ : ∃ y0 y1 y2 y3 y4, xs = [y0, y1, y2, y3, y4] := by
        match xs, hxl with
        | [y0, y1, y2, y3, y4], _ => exact ⟨y0, y1, y2, y3, y4, rfl⟩
      have g0 : DataW.trod enc Try.prog W 0 (fun _ => true) true k 3 (([b0, b1, b2, b3, b4].drop 0).take (Try.prog.cellsOf 3)) = some y0 := hf 0 _ rfl
      have g1 : DataW.trod enc Try.prog W 0 (fun _ => true) true k 3 (([b0, b1, b2, b3, b4].drop 1).take (Try.prog.cellsOf 3)) = some y1 := hf 1 _ rfl
      have g2 : DataW.trod enc Try.prog W 0 (fun _ => true) true k 3 (([b0, b1, b2, b3, b4].drop 2).take (Try.prog.cellsOf 3)) = some y2 := hf 2 _ rfl
      have g3 : DataW.trod enc Try.prog W 0 (fun _ => true) true k 37 (([b0, b1, b2, b3, b4].drop 3).take (Try.prog.cellsOf 37)) = some y3 := hf 3 _ rfl
      have g4 : DataW.trod enc Try.prog W 0 (fun _ => true) true k 38 (([b0, b1, b2, b3, b4].drop 4).take (Try.prog.cellsOf 38)) = some y4 := hf 4 _ rfl
      rw [Try.cellsInt] at g0 g1 g2
      rw [Try.cells37] at g3
      rw [Try.cells38] at g4
      have g3 : DataW.trod enc Try.prog W 0 (fun _ => true) true k 37 [b3] = some y3 := g3
      have g4 : DataW.trod enc Try.prog W 0 (fun _ => true) true k 38 [b4] = some y4 := g4
      obtain ⟨z0, e0, _, wf0⟩ := DataW.trod_int Try.underlying3 g0
      obtain ⟨z1, e1, _, wf1⟩ := DataW.trod_int Try.underlying3 g1
      obtain ⟨z2, e2, _, wf2⟩ := DataW.trod_int Try.underlying3 g2
      have q0 : b0 = .int .i64 z0 := (List.cons.inj (show [b0] = [Value.int .i64 z0] from e0)).1
      have q1 : b1 = .int .i64 z1 := (List.cons.inj (show [b1] = [Value.int .i64 z1] from e1)).1
      have q2 : b2 = .int .i64 z2 := (List.cons.inj (show [b2] = [Value.int .i64 z2] from e2)).1
      clear e0 e1 e2
      subst q0 q1 q2
      have hDi : D i = .agg [y0.1, y1.1, y2.1, y3.1, y4.1] := by
        simp only [Prod.mk.injEq] at hxy
        simpa using hxy.1
      have hsub : ∀ q, q ∈ (D i).weights Try.prog 40 → q ∈ (DataW.slice ((List.range len).map D) ((List.range (m - len)).map fun j => D (len + j))).weights Try.prog 24 := fun q hq => by
        simp only [DataW.weights, Try.underlying24, List.mem_cons, List.mem_append]
        exact .inr (.inl (weightsAll_mem (d := D i) (List.mem_map.2 ⟨i, List.mem_range.2 hi, rfl⟩) hq))
      obtain ⟨ts, hts, htl, _⟩ := open_bytes (d := y3.1) (p := y3.2) g3 (fun q hq => hw q (hsub q (by
        rw [hDi]
        simp only [DataW.weights, Try.underlying40, DataW.weightsEach, List.map_cons, List.map_nil, List.mem_append]
        exact .inr (.inr (.inr (.inl hq))))))
      obtain ⟨ks, hks, hkl⟩ := open_bools (d := y4.1) (p := y4.2) g4 (fun q hq => hw q (hsub q (by
        rw [hDi]
        simp only [DataW.weights, Try.underlying40, DataW.weightsEach, List.map_cons, List.map_nil, List.mem_append]
        exact .inr (.inr (.inr (.inr (.inl hq)))))))
      exact ⟨⟨z0, z1, z2, ts, b3, ks, b4⟩, fun j hj => hcell j hj, ⟨i64_of_wf wf0, i64_of_wf wf1, i64_of_wf wf2, hts, htl, hks, hkl⟩⟩
    haveI : Inhabited JAct := ⟨⟨0, 0, 0, [], undef, [], undef⟩⟩
    obtain ⟨F, hF⟩ := choose_lt each
    refine ⟨(List.range len).map F, ?_, ?_⟩
    · refine ⟨some a, m, by simp, by simpa using hl, hm, fun i f hi => ?_⟩
      have hil : i < len := by
        have := (List.getElem?_eq_some_iff.1 hi).1
        simpa using this
      have hf : F i = f := by
        rw [List.getElem?_map, List.getElem?_range hil] at hi
        simpa using hi
      subst hf
      obtain ⟨hc, hok⟩ := hF i hil
      have ha : a = ⟨a.block, a.off, none⟩ := by
        have h0 := (hF 0 (by omega)).1 0 (by omega)
        have e : (a.add (0 * 5)).add 0 = a := by simp [Addr.add]
        rw [e] at h0
        exact plain_of_cell (v := .int .i64 (F 0).kind) h0
      have hr : W.rangeAt a.block (a.off + i * 5) (jacell (F i)) := fun j v hv => by
        have hj : j < 5 := (List.getElem?_eq_some_iff.1 hv).1
        have := hc j hj
        rw [ha, add_plain, add_plain] at this
        rw [this]; exact hv
      exact ⟨a.block, a.off, by rw [← ha], World.block_lt_of_cell? W ⟨a.block, a.off + i * 5 + 0, none⟩ (hr 0 _ rfl), hr, hok⟩
    · simp only [List.length_map, List.length_range] at hwl ⊢
      unfold reachBytes at hwl
      omega
end Go.Proofs.Ytihdhlciblkbiaa
