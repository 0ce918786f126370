/-
  Arguments opened: nodes, as they came in.
-/
import Derived.Test.YtnljfhjindenpabTreeOpen2
import Derived.Test.YtnljfhjindenpabTreeN3
import Derived.Test.YtnljfhjindenpabLibSlc
namespace Go.Proofs.Ytnljfhjindenpab
set_option linter.unusedVariables false
set_option linter.unusedSimpArgs false
set_option maxRecDepth 20000
open Go.RowKit Go.ChangeShapes Go.WideShapes Go.Deep

theorem Try.cN1 : Try.prog.cellsOf 27 = 1 := by kernel_rfl
theorem Try.bN1 : Try.prog.bytesOf 27 = 8 := by kernel_rfl
theorem Try.cN2 : Try.prog.cellsOf 58 = 2 := by kernel_rfl
theorem Try.bN2 : Try.prog.bytesOf 58 = 16 := by kernel_rfl
theorem Try.cN3 : Try.prog.cellsOf 3 = 1 := by kernel_rfl
theorem Try.bN3 : Try.prog.bytesOf 3 = 8 := by kernel_rfl
theorem Try.cN4 : Try.prog.cellsOf 92 = 3 := by kernel_rfl
theorem Try.bN4 : Try.prog.bytesOf 92 = 72 := by kernel_rfl
theorem Try.cN5 : Try.prog.cellsOf 88 = 1 := by kernel_rfl
theorem Try.cN6 : Try.prog.cellsOf 89 = 1 := by kernel_rfl
theorem Try.cN7 : Try.prog.cellsOf 90 = 1 := by kernel_rfl

theorem flat_one {α : Type} (f : α → Value) (xs : List α) : (xs.flatMap fun x => [f x]) = xs.map f := by
  induction xs with
  | nil => rfl
  | cons x xs ih => rw [List.flatMap_cons, ih]; rfl

theorem slp_any {X : Nat → Prop} {w : World} {v : Value} {n : Nat} {cs : List Value} (h : Slp X w v n cs) : Slp (fun _ => True) w v n cs := h.stay (fun _ _ _ => ⟨trivial, rfl⟩)

section
variable {H : Type} {enc : TypeId × Value → H} {W : World} {fuel : Nat} {v : Value} {d : DataW H} {p : List MemPlace}

theorem open_u64s (h : DataW.trod enc Try.prog W 0 (fun _ => true) true fuel 88 [v] = some (d, p)) (hw : ∀ n ∈ d.weights Try.prog 88, n ≤ reachBytes) :
    ∃ ks : List Int, Slp (fun _ => True) W v ks.length (ks.map kcell) ∧ ks.length * 8 ≤ reachBytes ∧ ∀ k ∈ ks, 0 ≤ k ∧ k < 18446744073709551616 := by
  obtain ⟨xs, h1, h2, h3, _⟩ := open_rows (0 : Int) (fun k => [kcell k]) 1 8 (fun k => 0 ≤ k ∧ k < 18446744073709551616) (fun _ => 0) Try.underlying88 Try.cN1 Try.bN1 (by decide) (fun _ => rfl) h hw (fun k cs dd pp ht hl _ => by
    obtain ⟨z, e, _, wf⟩ := DataW.trod_int Try.underlying27 ht
    have := u64_of_wf wf
    exact ⟨z, e, by omega, Nat.zero_le _⟩)
  rw [flat_one] at h1
  exact ⟨xs, slp_any h1, h2, h3⟩

theorem open_is (h : DataW.trod enc Try.prog W 0 (fun _ => true) true fuel 90 [v] = some (d, p)) (hw : ∀ n ∈ d.weights Try.prog 90, n ≤ reachBytes) :
    ∃ ks : List Int, Slp (fun _ => True) W v ks.length (ks.map icell) ∧ ks.length * 8 ≤ reachBytes := by
  obtain ⟨xs, h1, h2, h3, _⟩ := open_rows (0 : Int) (fun k => [icell k]) 1 8 (fun _ => True) (fun _ => 0) Try.underlying90 Try.cN3 Try.bN3 (by decide) (fun _ => rfl) h hw (fun k cs dd pp ht hl _ => by
    obtain ⟨z, e, _, wf⟩ := DataW.trod_int Try.underlying3 ht
    exact ⟨z, e, trivial, Nat.zero_le _⟩)
  rw [flat_one] at h1
  exact ⟨xs, slp_any h1, h2⟩

theorem open_exts (h : DataW.trod enc Try.prog W 0 (fun _ => true) true fuel 89 [v] = some (d, p)) (hw : ∀ n ∈ d.weights Try.prog 89, n ≤ reachBytes) :
    ∃ es : List Ext, Slp (fun _ => True) W v es.length (ecells es) ∧ es.length * 16 ≤ reachBytes := by
  obtain ⟨xs, h1, h2, h3, _⟩ := open_rows ((0, 0) : Ext) ecell 2 16 (fun _ => True) (fun _ => 0) Try.underlying89 Try.cN2 Try.bN2 (by decide) (fun _ => rfl) h hw (fun k cs dd pp ht hl _ => by
    obtain ⟨b0, b1, rfl⟩ : ∃ b0 b1, cs = [b0, b1] := by
      match cs, hl with
      | [a, b], _ => exact ⟨a, b, rfl⟩
    obtain ⟨xs, k', hk, hxy, _, hxl, hf⟩ := DataW.trod_struct Try.underlying58 ht
    obtain ⟨y0, y1, rfl⟩ : ∃ y0 y1, xs = [y0, y1] := by
      match xs, hxl with
      | [y0, y1], _ => exact ⟨y0, y1, rfl⟩
    have g0 : DataW.trod enc Try.prog W 0 (fun _ => true) true k' 3 (([b0, b1].drop 0).take (Try.prog.cellsOf 3)) = some y0 := hf 0 _ rfl
    have g1 : DataW.trod enc Try.prog W 0 (fun _ => true) true k' 3 (([b0, b1].drop 1).take (Try.prog.cellsOf 3)) = some y1 := hf 1 _ rfl
    rw [Try.cN3] at g0 g1
    obtain ⟨z0, e0, _, _⟩ := DataW.trod_int Try.underlying3 g0
    obtain ⟨z1, e1, _, _⟩ := DataW.trod_int Try.underlying3 g1
    have q0 : b0 = .int .i64 z0 := (List.cons.inj (show [b0] = [Value.int .i64 z0] from e0)).1
    have q1 : b1 = .int .i64 z1 := (List.cons.inj (show [b1] = [Value.int .i64 z1] from e1)).1
    exact ⟨(z0, z1), by rw [q0, q1]; rfl, trivial, Nat.zero_le _⟩)
  exact ⟨xs, slp_any h1, h2⟩

/-- What a node that came in keeps. -/
structure NodeIn (W : World) (x : Tv × Nv) : Prop where
  ct : Ct (fun _ => True) W x.1 x.2
  ks : ∀ k ∈ x.2.1, 0 ≤ k ∧ k < 18446744073709551616
  lk : x.2.1.length * 8 ≤ reachBytes
  le : x.2.2.1.length * 16 ≤ reachBytes
  li : x.2.2.2.length * 8 ≤ reachBytes

theorem open_nodes (h : DataW.trod enc Try.prog W 0 (fun _ => true) true fuel 46 [v] = some (d, p)) (hw : ∀ n ∈ d.weights Try.prog 46, n ≤ reachBytes) :
    ∃ nds : List Nv, Nds W v nds ∧ (∀ nd ∈ nds, ∀ k ∈ nd.1, 0 ≤ k ∧ k < 18446744073709551616) ∧ ∀ nd ∈ nds, nd.1.length * 8 ≤ reachBytes ∧ nd.2.1.length * 16 ≤ reachBytes ∧ nd.2.2.length * 8 ≤ reachBytes := by
  obtain ⟨xs, h1, h2, h3, _⟩ := open_rows (α := Tv × Nv) ((.slice none 0 0, .slice none 0 0, .slice none 0 0), ([], [], [])) (fun x => tcell x.1) 3 72 (NodeIn W) (fun _ => 0) Try.underlying46 Try.cN4 Try.bN4 (by decide) (fun _ => rfl) h hw (fun k cs dd pp ht hl hwd => by
    obtain ⟨b0, b1, b2, rfl⟩ : ∃ b0 b1 b2, cs = [b0, b1, b2] := by
      match cs, hl with
      | [a, b, c], _ => exact ⟨a, b, c, rfl⟩
    obtain ⟨ys, k', hk, hxy, _, hxl, hf⟩ := DataW.trod_struct Try.underlying92 ht
    obtain ⟨y0, y1, y2, rfl⟩ : ∃ y0 y1 y2, ys = [y0, y1, y2] := by
      match ys, hxl with
      | [y0, y1, y2], _ => exact ⟨y0, y1, y2, rfl⟩
    have g0 : DataW.trod enc Try.prog W 0 (fun _ => true) true k' 88 (([b0, b1, b2].drop 0).take (Try.prog.cellsOf 88)) = some y0 := hf 0 _ rfl
    have g1 : DataW.trod enc Try.prog W 0 (fun _ => true) true k' 89 (([b0, b1, b2].drop 1).take (Try.prog.cellsOf 89)) = some y1 := hf 1 _ rfl
    have g2 : DataW.trod enc Try.prog W 0 (fun _ => true) true k' 90 (([b0, b1, b2].drop 2).take (Try.prog.cellsOf 90)) = some y2 := hf 2 _ rfl
    rw [Try.cN5] at g0
    rw [Try.cN6] at g1
    rw [Try.cN7] at g2
    have g0 : DataW.trod enc Try.prog W 0 (fun _ => true) true k' 88 [b0] = some (y0.1, y0.2) := g0
    have g1 : DataW.trod enc Try.prog W 0 (fun _ => true) true k' 89 [b1] = some (y1.1, y1.2) := g1
    have g2 : DataW.trod enc Try.prog W 0 (fun _ => true) true k' 90 [b2] = some (y2.1, y2.2) := g2
    simp only [Prod.mk.injEq] at hxy
    have hd : dd = .agg [y0.1, y1.1, y2.1] := by simpa using hxy.1
    obtain ⟨ks, k1, k2, k3⟩ := open_u64s g0 (fun n hn => hwd n (by rw [hd]; simp [DataW.weights, Try.underlying92, DataW.weightsEach, hn]))
    obtain ⟨es, e1, e2⟩ := open_exts g1 (fun n hn => hwd n (by rw [hd]; simp [DataW.weights, Try.underlying92, DataW.weightsEach, hn]))
    obtain ⟨is, i1, i2⟩ := open_is g2 (fun n hn => hwd n (by rw [hd]; simp [DataW.weights, Try.underlying92, DataW.weightsEach, hn]))
    exact ⟨((b0, b1, b2), (ks, es, is)), rfl, ⟨⟨k1, e1, i1⟩, k3, k2, e2, i2⟩, Nat.zero_le _⟩)
  have hc : ∀ ys : List (Tv × Nv), (∀ x ∈ ys, NodeIn W x) → Cts (fun _ => True) W (ys.map (·.1)) (ys.map (·.2)) := by
    intro ys
    induction ys with
    | nil => intro _; trivial
    | cons y ys ih => intro hy; exact ⟨(hy y List.mem_cons_self).ct, ih (fun x hx => hy x (List.mem_cons_of_mem _ hx))⟩
  refine ⟨xs.map (·.2), ⟨xs.map (·.1), ?_, hc xs h3⟩, fun nd hnd k hk => ?_, fun nd hnd => ?_⟩
  · have e : (xs.flatMap fun x => tcell x.1) = tcells (xs.map (·.1)) := by unfold tcells; rw [List.flatMap_map]
    rw [e] at h1
    rw [List.length_map]
    exact h1.hs
  · obtain ⟨x, hx, rfl⟩ := List.mem_map.1 hnd
    exact (h3 x hx).ks k hk
  · obtain ⟨x, hx, rfl⟩ := List.mem_map.1 hnd
    exact ⟨(h3 x hx).lk, (h3 x hx).le, (h3 x hx).li⟩
end
end Go.Proofs.Ytnljfhjindenpab
