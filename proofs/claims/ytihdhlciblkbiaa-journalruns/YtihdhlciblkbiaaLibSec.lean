/-
  Sectors as values: made, written, compared.
-/
import Derived.Test.YtihdhlciblkbiaaRows
import Derived.Test.YtihdhlciblkbiaaLibFr
import Derived.Test.YtihdhlciblkbiaaLibAgg
import Derived.ChangeKeysEq
import Derived.Laws.StructEq
namespace Go.Proofs.Ytihdhlciblkbiaa
set_option linter.unusedVariables false
set_option linter.unusedSimpArgs false
set_option maxRecDepth 20000
open Go.RowKit

def z128 : List UInt8 := List.replicate 128 0
theorem z128_length : z128.length = 128 := List.length_replicate ..

set_option maxRecDepth 100000 in
theorem Try.zeroS : (Try.prog.info? 55).bind (·.zero) = some (.agg (z128.map bv).toArray) := by kernel_rfl
theorem Try.rowS : (Try.prog.underlying 55).map TypeDesc.isRow = some true := by kernel_rfl
theorem Try.sizeS : (Try.prog.info? 55).map (·.size) = some 128 := by kernel_rfl
set_option maxRecDepth 100000 in
theorem Try.builtS : Try.prog.built 55 [] = some (z128.map bv).toArray := by kernel_rfl

theorem sizeS {s : List UInt8} (h : s.length = 128) : (Try.prog.info? 55).map (·.size) = some (s.map bv).length := by rw [List.length_map, h]; exact Try.sizeS

/-- A sector's variable: made, in a world where the disk stands. -/
structure Made (w W : World) : Prop where
  new : W.heap[w.heap.size]? = some (.cells (z128.map bv).toArray 55 (0, 0))
  fr : Fr (fun _ => False) w W

theorem made (w : World) : Made w (w.alloc (.cells (z128.map bv).toArray 55)) := ⟨heap_alloc_new w _, (Fr.refl _ w).alloc _⟩

theorem Made.fin {w W : World} (h : Made w W) (s : List UInt8) : Nw w (W.setRow w.heap.size (s.map bv).toArray) := h.fr.setRow (.inr (Nat.le_refl _)) _
theorem Made.row {w W : World} (h : Made w W) (s : List UInt8) : (W.setRow w.heap.size (s.map bv).toArray).rangeAt w.heap.size 0 (s.map bv) := range_all (setRow_heap W w.heap.size _ _ 55 _ h.new)
theorem sec_fit {s : List UInt8} (h : s.length = 128) : (s.map bv).length = (z128.map bv).length := by simp [h, z128_length]

theorem Try.size5 : (Try.prog.info? 5).map (·.size) = some 1 := by kernel_rfl

theorem Try.plain5 : Try.prog.plainKey 5 = true := by kernel_rfl
theorem Try.cells5 : Try.prog.cellsOf 5 = 1 := by kernel_rfl

theorem bv_inj {x y : UInt8} (h : bv x = bv y) : x = y := by
  simp only [bv, Value.int.injEq, true_and] at h
  apply UInt8.toNat_inj.1
  omega

theorem itemsS (d : Nat) (s t : List UInt8) (hs : s.length = 128) (ht : t.length = 128) (w : World) : ∀ is : List Nat, (∀ i ∈ is, i < 128) →
    (Op.eqItems (d + 1) 5 1 (s.map bv).toArray (t.map bv).toArray is).run Try.prog w = .ok (decide (∀ i ∈ is, s.getD i 0 = t.getD i 0)) w
  | [], _ => by simp [Op.eqItems]
  | i :: is, h => by
    have hi := h i List.mem_cons_self
    have ih := itemsS d s t hs ht w is (fun j hj => h j (List.mem_cons_of_mem _ hj))
    have e1 : (part 5 (s.map bv).toArray (i * 1)).run Try.prog w = .ok (bv (s.getD i 0)) w := run_part_plain w Try.plain5 (by simp [List.getElem?_eq_getElem (show i < s.length by omega), List.getD_eq_getElem?_getD])
    have e2 : (part 5 (t.map bv).toArray (i * 1)).run Try.prog w = .ok (bv (t.getD i 0)) w := run_part_plain w Try.plain5 (by simp [List.getElem?_eq_getElem (show i < t.length by omega), List.getD_eq_getElem?_getD])
    have e3 : (Op.equalIn (d + 1) 5 (bv (s.getD i 0)) (bv (t.getD i 0))).run Try.prog w = .ok (decide (s.getD i 0 = t.getD i 0)) w := by
      unfold bv
      rw [run_equalIn_int w d 5 .u8 .u8 _ _ Try.underlying5]
      congr 1
      rw [Bool.eq_iff_iff]
      simp only [beq_iff_eq, decide_eq_true_eq]
      constructor
      · intro h; apply UInt8.toNat_inj.1; omega
      · intro h; rw [h]
    simp only [Op.eqItems, Sem.run_bind, e1, e2, e3, Result.andThen_ok, List.forall_mem_cons]
    by_cases hh : s.getD i 0 = t.getD i 0
    · simp only [hh, decide_true, Bool.not_true, Bool.false_eq_true, if_false, true_and]
      exact ih
    · simp only [hh, decide_false, Bool.not_false, if_true, Sem.run_pure, false_and]

theorem eqS (s t : List UInt8) (hs : s.length = 128) (ht : t.length = 128) (w : World) : (Op.equalIn 10000 55 (sec s) (sec t)).run Try.prog w = .ok (s == t) w := by
  obtain ⟨i5, h5⟩ : ∃ i, Try.prog.info? 5 = some i := by
    cases hq : Try.prog.info? 5 with
    | none => have := Try.size5; rw [hq] at this; cases this
    | some i => exact ⟨i, rfl⟩
  unfold sec
  rw [run_equalIn_array w 9999 _ _ Try.underlying55 h5, Try.cells5, itemsS 9998 s t hs ht w _ (fun i hi => by simpa using hi)]
  congr 1
  rw [Bool.eq_iff_iff]
  simp only [decide_eq_true_eq, beq_iff_eq, List.mem_range]
  constructor
  · intro h
    apply List.ext_getElem (by omega)
    intro i h1 h2
    have := h i (by omega)
    rw [List.getD_eq_getElem?_getD, List.getD_eq_getElem?_getD, List.getElem?_eq_getElem h1, List.getElem?_eq_getElem h2] at this
    exact this
  · intro h i _; rw [h]

theorem eqlS (s t : List UInt8) (hs : s.length = 128) (ht : t.length = 128) (w : World) : (binOp .eql 55 (sec s) (sec t)).run Try.prog w = .ok (.bool (s == t)) w := by
  have := eqS s t hs ht w
  unfold sec at *
  rw [run_eql_struct, this]; rfl

theorem neqS (s t : List UInt8) (hs : s.length = 128) (ht : t.length = 128) (w : World) : (binOp .neq 55 (sec s) (sec t)).run Try.prog w = .ok (.bool (!(s == t))) w := by
  have := eqS s t hs ht w
  unfold sec at *
  rw [run_neq_struct, this]; rfl

theorem guardS (op : BinOp) (x y : Operand) (s t : List UInt8) (w : World) : (eqGuard op 55 x y (sec s) (sec t)).run Try.prog w = .ok () w := run_eqGuard_agg w op 55 x y _ _ (by kernel_rfl)

def clamp (n m : Int) : Int := max 0 (min n m)

theorem clamp_range (n m : Int) (h : 0 ≤ m) : 0 ≤ clamp n m ∧ clamp n m ≤ m := by unfold clamp; omega
end Go.Proofs.Ytihdhlciblkbiaa
