/-
  Operations on structs and arrays by value, no cell of them opened. It names nothing of the program.
-/
import Derived.WalkKit
import Derived.WalkSpells
import Derived.WalkLawsBesides
import Derived.Deep.MidRow
import Derived.Laws.CopyOwn
import Derived.Great.BuildSlice
import Derived.Laws.OwnMore
import Derived.Laws.MakeOwn
namespace Go.Proofs.Ytimgelekpghklaa
set_option linter.unusedVariables false
set_option linter.unusedSimpArgs false
set_option maxRecDepth 20000
open Go.RowKit
section
variable {P : Program} {w : World} {ops : Array Oper} {rest : List Oper} {o : Oper} {a : Act} {Q : Exit → Act → World → Prop}

theorem wpList_do (hw : Region.wanted o (yielded ops a.tmps) = true) (h : o.wp P a w (wpList P ops Q rest) Q) : wpList P ops Q (o :: rest) a w := by
  unfold wpList
  rw [if_pos hw]
  exact .inl h

theorem wpList_alloc_agg (hw : Region.wanted o (yielded ops a.tmps) = true) (t : TypeId) (ho : o.op = .alloc t) (cells : Array Value) (hz : (P.info? t).bind (·.zero) = some (.agg cells))
    (h : wpList P ops Q rest (a.put o.dst (.pointer (some ⟨w.heap.size, 0, none⟩))) (w.alloc (.cells cells t))) : wpList P ops Q (o :: rest) a w := by
  refine wpList_do hw ?_
  unfold Oper.wp execOp
  cases hi : P.info? t with
  | none => simp [hi] at hz
  | some i =>
    have hz' : i.zero = some (.agg cells) := by simpa [hi] using hz
    simp [ho, Instr.alloc, zeroValue, typeInfo, hi, hz', newVar, newRow, Value.cells]
    exact h

theorem wpList_box_agg (hw : Region.wanted o (yielded ops a.tmps) = true) (t : TypeId) (x : Operand) (ho : o.op = .box t x) (v : Value) (cells : Array Value) (hx : a.eval x = v) (hv : v = .agg cells)
    (h : wpList P ops Q rest (a.put o.dst (.pointer (some ⟨w.heap.size, 0, none⟩))) (w.alloc (.cells cells t))) : wpList P ops Q (o :: rest) a w := by
  subst hv
  refine wpList_do hw ?_
  unfold Oper.wp execOp
  simp [ho, hx, Instr.box, newVar, newRow, Value.cells]
  exact h

theorem wpList_build_as (hw : Region.wanted o (yielded ops a.tmps) = true) (t : TypeId) (parts : Array (Nat × Operand)) (ho : o.op = .build t parts) (v : Value) (cells : Array Value) (hv : v = .agg cells)
    (hf : P.built t (parts.toList.map fun x => (x.1, a.eval x.2)) = some cells) (h : wpList P ops Q rest (a.put o.dst v) w) : wpList P ops Q (o :: rest) a w := by
  subst hv
  have hf : P.built t (parts.map fun (i, x) => (i, a.eval x)).toList = some cells := by rw [Array.toList_map]; exact hf
  refine wpList_do hw ?_
  unfold Oper.wp execOp
  simp only [ho, Sem.run_bind, run_build w t _ _ hf, Result.andThen_ok]
  exact h

theorem wpList_load_as (hw : Region.wanted o (yielded ops a.tmps) = true) (ty : TypeId) (x : Operand) (ho : o.op = .load ty x) (b off : Nat) (hx : a.eval x = .pointer (some ⟨b, off, none⟩)) (v : Value) (cs : List Value)
    (hv : v = .agg cs.toArray) (hc : w.rangeAt b off cs) (hu : (P.underlying ty).map TypeDesc.isRow = some true) (hi : (P.info? ty).map (·.size) = some cs.length)
    (h : wpList P ops Q rest (a.put o.dst v) w) : wpList P ops Q (o :: rest) a w := by
  subst hv
  refine wpList_do hw ?_
  cases hd : P.underlying ty with
  | none => simp [hd] at hu
  | some d => exact wp_load_mid ty x ho b off hx cs d hc hd (by simpa [hd] using hu) hi h

theorem wpList_store_as (hw : Region.wanted o (yielded ops a.tmps) = true) (ty : TypeId) (x y : Operand) (ho : o.op = .store ty x y) (g off : Nat) (hx : a.eval x = .pointer (some ⟨g, off, none⟩)) (v : Value) (hy : a.eval y = v) (cs : List Value)
    (hv : v = .agg cs.toArray) (C : List Value) (t : TypeId) (hg : w.heap[g]? = some (.cells C.toArray t (0, 0))) (hfit : off + cs.length ≤ C.length) (h1 : ∀ v ∈ cs, v.oneCell' = true) (hi : (P.info? ty).map (·.size) = some cs.length)
    (h : wpList P ops Q rest (a.put o.dst undef) (w.setRow g (splice C off cs).toArray)) : wpList P ops Q (o :: rest) a w := by
  subst hv
  refine wpList_do hw ?_
  have hs := run_storeCells_at P g off t cs 0 C.toArray w hg (by simpa using hfit) h1
  simp only [Nat.add_zero, List.append_assoc] at hs
  cases hq : P.info? ty with
  | none => simp [hq] at hi
  | some i =>
    have hsz : i.size = cs.length := by simpa [hq] using hi
    have hst : (storeVar ty ⟨g, off, none⟩ (.agg cs.toArray)).run P w = .ok () (w.setRow g (splice C off cs).toArray) := by
      simp [storeVar, sizeOf, typeInfo, hq, hsz, Value.cells, hs, splice]
    unfold Oper.wp execOp
    simp only [ho, hx, hy, Instr.storeAt, Instr.sureAddr, Sem.run_bind, Sem.run_pure, Result.andThen_ok, hst]
    exact h

theorem splice_all {α : Type} (L cs : List α) (h : cs.length = L.length) : splice L 0 cs = cs := by
  unfold splice; simp [h]

/-- A whole variable written. -/
theorem wpList_store_all (hw : Region.wanted o (yielded ops a.tmps) = true) (ty : TypeId) (x y : Operand) (ho : o.op = .store ty x y) (g : Nat) (hx : a.eval x = .pointer (some ⟨g, 0, none⟩)) (v : Value) (hy : a.eval y = v) (cs : List Value)
    (hv : v = .agg cs.toArray) (C : List Value) (t : TypeId) (hg : w.heap[g]? = some (.cells C.toArray t (0, 0))) (hfit : cs.length = C.length) (h1 : ∀ v ∈ cs, v.oneCell' = true) (hi : (P.info? ty).map (·.size) = some cs.length)
    (h : wpList P ops Q rest (a.put o.dst undef) (w.setRow g cs.toArray)) : wpList P ops Q (o :: rest) a w :=
  wpList_store_as hw ty x y ho g 0 hx v hy cs hv C t hg (by omega) h1 hi (by rw [splice_all C cs hfit]; exact h)

theorem run_load_quiet (ty : TypeId) (x : Operand) (w : World) (ho : o.op = .load ty x) (b off : Nat) (hx : a.eval x = .pointer (some ⟨b, off, none⟩)) (cs : List Value)
    (hc : w.rangeAt b off cs) (hu : (P.underlying ty).map TypeDesc.isRow = some true) (hi : (P.info? ty).map (·.size) = some cs.length) : (execOp a.eval o).run P w = .ok (.value (.agg cs.toArray)) w := by
  cases hd : P.underlying ty with
  | none => simp [hd] at hu
  | some d =>
    unfold execOp
    simp only [ho, hx, Sem.run_bind, run_loadAt_mid w b off ty cs d hc hd (by simpa [hd] using hu) hi, Result.andThen_ok, Sem.run_pure]

theorem run_build_quiet (t : TypeId) (parts : Array (Nat × Operand)) (w : World) (ho : o.op = .build t parts) (cells : Array Value) (hf : P.built t (parts.toList.map fun x => (x.1, a.eval x.2)) = some cells) :
    (execOp a.eval o).run P w = .ok (.value (.agg cells)) w := by
  have hf : P.built t (parts.map fun (i, x) => (i, a.eval x)).toList = some cells := by rw [Array.toList_map]; exact hf
  unfold execOp
  simp only [ho, Sem.run_bind, run_build w t _ _ hf, Result.andThen_ok, Sem.run_pure]

theorem results_cell1 {fn : Func} {p : Tmp} {ty : TypeId} (h : fn.results = #[.cell p ty]) (tmps : Array Value) (g : Nat) (cs : List Value) (v : Value) (hv : v = .agg cs.toArray)
    (hp : tmps.getD p undef = .pointer (some ⟨g, 0, none⟩)) (hc : w.rangeAt g 0 cs) (hu : (P.underlying ty).map TypeDesc.isRow = some true) (hi : (P.info? ty).map (·.size) = some cs.length) :
    (results fn tmps).run P w = .ok v w := by
  subst hv
  have hp' : tmps[p]?.getD undef = .pointer (some ⟨g, 0, none⟩) := by simpa using hp
  cases hd : P.underlying ty with
  | none => simp [hd] at hu
  | some d => simp [results, h, hp', asAddr, run_loadVar_mid w g 0 ty cs d hc hd (by simpa [hd] using hu) hi]

theorem results_cell2 {fn : Func} {p u : Tmp} {ty : TypeId} (h : fn.results = #[.cell p ty, .tmp u]) (tmps : Array Value) (g : Nat) (cs : List Value) (v : Value) (hv : v = .agg cs.toArray)
    (hp : tmps.getD p undef = .pointer (some ⟨g, 0, none⟩)) (hc : w.rangeAt g 0 cs) (hu : (P.underlying ty).map TypeDesc.isRow = some true) (hi : (P.info? ty).map (·.size) = some cs.length) :
    (results fn tmps).run P w = .ok (.tuple #[v, tmps.getD u undef]) w := by
  subst hv
  have hp' : tmps[p]?.getD undef = .pointer (some ⟨g, 0, none⟩) := by simpa using hp
  cases hd : P.underlying ty with
  | none => simp [hd] at hu
  | some d => simp [results, h, hp', asAddr, run_loadVar_mid w g 0 ty cs d hc hd (by simpa [hd] using hu) hi]

theorem range_blk {g : Nat} {C : List Value} {t : TypeId} {fr : Nat × Nat} (hb : w.heap[g]? = some (.cells C.toArray t fr)) (off : Nat) (cs : List Value) (h : ∀ j v, cs[j]? = some v → C[off + j]? = some v) : w.rangeAt g off cs := fun j v hv => by
  rw [cell_of_row w g (off + j) _ t fr hb]
  simpa using h j v hv

theorem range_all {g : Nat} {C : List Value} {t : TypeId} {fr : Nat × Nat} (hb : w.heap[g]? = some (.cells C.toArray t fr)) : w.rangeAt g 0 C := range_blk hb 0 C (fun j v h => by simpa using h)

theorem fold_splice (off : Nat) : ∀ (vs : List Value) (k : Nat) (C : List Value), off + k + vs.length ≤ C.length →
    (vs.zipIdx k).foldl (fun (cs : Array Value) x => cs.setIfInBounds (off + x.2) x.1) C.toArray = (splice C (off + k) vs).toArray
  | [], k, C, _ => by simp [splice]
  | v :: vs, k, C, h => by
    simp only [List.length_cons] at h
    have ih := fold_splice off vs (k + 1) (C.set (off + k) v) (by simp; omega)
    simp only [List.zipIdx_cons, List.foldl_cons, List.setIfInBounds_toArray]
    rw [ih]
    congr 1
    have := list_seg_step C (off + k) v vs (by omega)
    simpa [splice, Nat.add_assoc, Nat.add_comm, Nat.add_left_comm] using this

theorem fill_cons (place : Nat → Option (Nat × Nat)) (C : List Value) (i : Nat) (v : Value) (vs : List Value) (off : Nat) (rest : List (Nat × Value)) (hp : place i = some (off, vs.length)) (hv : v.cells = vs.toArray) (hfit : off + vs.length ≤ C.length) :
    Instr.fill place C.toArray ((i, v) :: rest) = Instr.fill place (splice C off vs).toArray rest := by
  have h1 : ¬ (off + vs.length > C.length) := by omega
  rw [Instr.fill]
  simp only [hp, hv, List.size_toArray, ne_eq, not_true_eq_false, decide_false, Bool.false_or, h1, Bool.false_eq_true, if_false]
  congr 1
  have := fold_splice off vs 0 C (by simpa using hfit)
  simp only [Nat.add_zero] at this
  rw [← this]
  rw [← Array.foldl_toList, Array.toList_zipIdx]

theorem wpList_buildSlice1 (hw : Region.wanted o (yielded ops a.tmps) = true) (t e : TypeId) (x : Operand) (ho : o.op = .buildSlice t 1 #[(0, x)]) (v : Value) (hx : a.eval x = v) (cs : List Value) (hv : v = .agg cs.toArray)
    (hu : P.underlying t = some (.slice e)) (hsz : (P.info? e).map (·.size) = some cs.length) (hz : ((P.info? e).bind (·.zero)).isSome = true) (hpos : 0 < cs.length) (hsm : cs.length ≤ 1000000)
    (h : wpList P ops Q rest (a.put o.dst (.slice (some ⟨w.heap.size, 0, none⟩) 1 1)) (w.alloc (.cells cs.toArray e))) : wpList P ops Q (o :: rest) a w := by
  refine wpList_do hw ?_
  cases hie : P.info? e with
  | none => simp [hie] at hsz
  | some ie =>
    simp only [hie, Option.map_some, Option.some.injEq, Option.bind_some] at hsz hz
    obtain ⟨z, hzz⟩ := Option.isSome_iff_exists.1 hz
    refine wp_buildSlice t e 1 _ ho cs.toArray ie z hu hie hzz (by rw [hsz]; omega) (by rw [hsz]; omega) ?_ h
    subst hv
    rw [hsz]
    simp only [List.map_toArray, List.map_cons, List.map_nil, hx]
    generalize hC : (Array.map (fun x => z.cells[x % z.cells.size]!) (Array.range (1 * cs.length))) = C
    have hCl : C.toList.length = cs.length := by rw [← hC]; simp
    have := fill_cons (fun i => some (i * cs.length, cs.length)) C.toList 0 (.agg cs.toArray) cs 0 [] (by simp) rfl (by omega)
    simp only [Array.toArray_toList] at this
    rw [this, splice_all _ _ (by omega)]
    rfl

theorem wpList_buildSlice0 (hw : Region.wanted o (yielded ops a.tmps) = true) (t e : TypeId) (ho : o.op = .buildSlice t 0 #[]) (hu : P.underlying t = some (.slice e)) (hsz : ((P.info? e).map (·.size)).isSome = true)
    (h : wpList P ops Q rest (a.put o.dst (.slice (some ⟨w.heap.size, 0, none⟩) 0 0)) (w.alloc (.cells #[] e))) : wpList P ops Q (o :: rest) a w := by
  refine wpList_do hw ?_
  cases hie : P.info? e with
  | none => simp [hie] at hsz
  | some ie =>
    have hr : (Instr.buildSlice t 0 #[]).run P w = .ok (.slice (some ⟨w.heap.size, 0, none⟩) 0 0) (w.alloc (.cells #[] e)) := by
      simp [Instr.buildSlice, run_underlying hu, sizeOf, typeInfo, hie, Instr.fill, newRow, Array.range_zero']
    unfold Oper.wp execOp
    simp only [ho, Array.map_empty, Sem.run_bind, hr, Result.andThen_ok, Sem.run_pure]
    exact h

theorem wpList_make_as (hw : Region.wanted o (yielded ops a.tmps) = true) (t e : TypeId) (x y : Operand) (ho : o.op = .makeSlice t x y) (n : Nat) (hx : a.eval x = .int .i64 (n : Int)) (hy : a.eval y = .int .i64 (n : Int))
    (i : TypeInfo) (z : Value) (ht : P.underlying t = some (.slice e)) (hi : P.info? e = some i) (hz : i.zero = some z) (hn : n ≤ 1000000000) (hb : i.bytes ≤ 1000) (C : Array Value) (hC : madeCells z.cells (n * i.size) = C)
    (h : wpList P ops Q rest (a.put o.dst (.slice (some ⟨w.heap.size, 0, none⟩) n n)) (w.alloc (.cells C e))) : wpList P ops Q (o :: rest) a w := by
  refine wpList_do hw ?_
  have hm : i.bytes * n ≤ 1000 * 1000000000 := Nat.mul_le_mul hb hn
  have hr := run_make (P := P) w t e i z ht hi hz .i64 .i64 (n : Int) (n : Int) (by omega) (by omega) (by have : ((i.bytes * n : Nat) : Int) ≤ 281474976710656 := by omega
                                                                                                          rwa [Int.natCast_mul] at this) (by omega)
  simp only [Int.toNat_natCast, hC] at hr
  unfold Oper.wp execOp
  simp only [ho, hx, hy, Sem.run_bind, hr, Sem.run_pure, Result.andThen_ok]
  exact h
end
end Go.Proofs.Ytimgelekpghklaa
