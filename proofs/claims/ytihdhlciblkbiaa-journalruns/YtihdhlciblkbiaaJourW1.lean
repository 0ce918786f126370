/-
  Package journal: Start, Len, headAt, mark, sectorsFor.
-/
import Derived.Test.YtihdhlciblkbiaaJourPlain
namespace Go.Proofs.Ytihdhlciblkbiaa
set_option linter.unusedVariables false
set_option linter.unusedSimpArgs false
set_option maxRecDepth 20000
open Go.RowKit

/-- The journal at block j: its disk's block, its first sector, its generation, how many records. -/
structure JrAt (w : World) (j b f gen cnt : Nat) : Prop where
  blk : w.heap[j]? = some (.cells #[.pointer (some ⟨b, 0, none⟩), .int .i64 (f : Int), .int .u64 (gen : Int), .int .i64 (cnt : Int)] 69 (0, 0))
  fl : f ≤ 2000
  gl : gen < 281474976710656
  cl : cnt ≤ 4

theorem JrAt.cells {w : World} {j b f gen cnt : Nat} (h : JrAt w j b f gen cnt) : w.cell? ⟨j, 0, none⟩ = some (.pointer (some ⟨b, 0, none⟩)) ∧ w.cell? ⟨j, 1, none⟩ = some (.int .i64 (f : Int)) ∧
    w.cell? ⟨j, 2, none⟩ = some (.int .u64 (gen : Int)) ∧ w.cell? ⟨j, 3, none⟩ = some (.int .i64 (cnt : Int)) ∧ w.frozen? ⟨j, 3, none⟩ = false :=
  ⟨cell_blk h.blk rfl, cell_blk h.blk rfl, cell_blk h.blk rfl, cell_blk h.blk rfl, free_blk h.blk⟩

theorem JrAt.fr {w w' : World} {j b f gen cnt : Nat} (h : JrAt w j b f gen cnt) {T : Nat → Prop} (hf : Fr T w w') (hT : ¬ T j) : JrAt w' j b f gen cnt :=
  ⟨(hf.block j (heap_lt h.blk) hT).trans h.blk, h.fl, h.gl, h.cl⟩

theorem JrAt.nw {w w' : World} {j b f gen cnt : Nat} (h : JrAt w j b f gen cnt) (hf : Nw w w') : JrAt w' j b f gen cnt := h.fr hf id

theorem JrAt.drew {w : World} {j b f gen cnt : Nat} (h : JrAt w j b f gen cnt) : JrAt w.drew j b f gen cnt := ⟨h.blk, h.fl, h.gl, h.cl⟩

theorem JrAt.next {w : World} {j b f gen cnt : Nat} (h : JrAt w j b f gen cnt) (hc : cnt < 4) : JrAt (w.setCell ⟨j, 3, none⟩ (.int .i64 ((cnt : Int) + 1))) j b f gen (cnt + 1) :=
  ⟨by rw [blk_setCell h.blk]; simp, h.fl, h.gl, by omega⟩

theorem c_sectorsFor (n : Nat) (w : World) (h : n ≤ 1000000) : Calls Try.prog 43 #[.int .i64 (n : Int)] w fun e w' => e = .returned (.int .i64 (secsN n : Nat)) ∧ w = w' := by
  go_enter Try.func43, Try.ntmps43
  go_wp2
  all_goals
    go_ret
    refine ⟨congrArg (fun z => Ending.returned (.int .i64 z)) ?_, rfl⟩
    unfold secsN
    omega

theorem c_jlen {j b f gen cnt : Nat} (w : World) (h : JrAt w j b f gen cnt) :
    Calls Try.prog 19 #[.pointer (some ⟨j, 0, none⟩)] w fun e w' => e = .returned (.int .i64 (cnt : Int)) ∧ w = w' := by
  obtain ⟨h0, h1, h2, h3, hf⟩ := h.cells
  clear h h1 h2 h0 hf
  go_enter Try.func19, Try.ntmps19
  go_wp2
  go_ret
  exact ⟨rfl, rfl⟩

theorem c_headAt {j b f gen cnt : Nat} (w : World) (h : JrAt w j b f gen cnt) :
    Calls Try.prog 29 #[.pointer (some ⟨j, 0, none⟩)] w fun e w' => e = .returned (.int .i64 ((headN f cnt : Nat) : Int)) ∧ Nw w w' := by
  obtain ⟨-, h1, -, h3, -⟩ := h.cells
  have hfl := h.fl
  have hcl := h.cl
  have hN : Hid (((headN f cnt : Nat) : Int) = (f : Int) + (cnt : Int) * 4) := by unfold Hid headN; omega
  have hnw : Nw w w.drew := (Fr.refl _ w).drew
  clear h
  go_enter Try.func29, Try.ntmps29
  go_wp2
  have hS : (fun w' : World => w'.cell? ⟨j, 1, none⟩ = some (.int .i64 (f : Int)) ∧ w'.cell? ⟨j, 3, none⟩ = some (.int .i64 (cnt : Int))) w.drew := ⟨h1, h3⟩
  refine wp_region_ord [] 10 [(0, true), (1, true), (2, true), (3, true), (4, true), (5, true), (6, true), (7, true), (8, true), (9, true)] (fun w' : World => w'.cell? ⟨j, 1, none⟩ = some (.int .i64 (f : Int)) ∧ w'.cell? ⟨j, 3, none⟩ = some (.int .i64 (cnt : Int))) (by kernel_rfl) (by kernel_rfl) ?_
  refine ord_quietL _ ?_ rfl hS rfl ?_ ?_
  rotate_left
  · rintro w' ⟨hS1, hS2⟩; go_simp; rfl
  simp only [Act.put, List.setIfInBounds_toArray, List.set_cons_zero, List.set_cons_succ]
  refine ord_quietL _ ?_ rfl hS rfl ?_ ?_
  rotate_left
  · rintro w' ⟨hS1, hS2⟩; go_simp; rfl
  simp only [Act.put, List.setIfInBounds_toArray, List.set_cons_zero, List.set_cons_succ]
  refine ord_quietL _ ?_ rfl hS rfl ?_ ?_
  rotate_left
  · rintro w' ⟨hS1, hS2⟩; go_simp; rfl
  simp only [Act.put, List.setIfInBounds_toArray, List.set_cons_zero, List.set_cons_succ]
  refine ord_quietL _ ?_ rfl hS rfl ?_ ?_
  rotate_left
  · rintro w' ⟨hS1, hS2⟩; go_simp; rfl
  simp only [Act.put, List.setIfInBounds_toArray, List.set_cons_zero, List.set_cons_succ]
  refine ord_quietL _ ?_ rfl hS rfl ?_ ?_
  rotate_left
  · rintro w' ⟨hS1, hS2⟩; go_simp; rfl
  simp only [Act.put, List.setIfInBounds_toArray, List.set_cons_zero, List.set_cons_succ]
  refine ord_quietL _ ?_ rfl hS rfl ?_ ?_
  rotate_left
  · rintro w' ⟨hS1, hS2⟩; go_simp; rfl
  simp only [Act.put, List.setIfInBounds_toArray, List.set_cons_zero, List.set_cons_succ]
  refine ord_quietL _ ?_ rfl hS rfl ?_ ?_
  rotate_left
  · rintro w' ⟨hS1, hS2⟩; go_simp; rfl
  simp only [Act.put, List.setIfInBounds_toArray, List.set_cons_zero, List.set_cons_succ]
  refine ord_quietL _ ?_ rfl hS rfl ?_ ?_
  rotate_left
  · rintro w' ⟨hS1, hS2⟩; go_simp; rfl
  simp only [Act.put, List.setIfInBounds_toArray, List.set_cons_zero, List.set_cons_succ]
  refine ord_quietL _ ?_ rfl hS rfl ?_ ?_
  rotate_left
  · rintro w' ⟨hS1, hS2⟩; go_simp; rfl
  simp only [Act.put, List.setIfInBounds_toArray, List.set_cons_zero, List.set_cons_succ]
  refine ord_quietL _ ?_ rfl hS rfl ?_ ?_
  rotate_left
  · rintro w' ⟨hS1, hS2⟩; go_simp; rfl
  simp only [Act.put, List.setIfInBounds_toArray, List.set_cons_zero, List.set_cons_succ]
  refine ord_tail ?_
  simp only [List.drop_succ_cons, List.drop_zero]
  clear hS h1 h3
  generalize w.drew = W at *
  go_wp2
  go_ret
  rw [hN.out]
  refine ⟨congrArg (fun z => Ending.returned (.int .i64 z)) (show IntKind.i64.wrap ((f : Int) + IntKind.i64.wrap ((cnt : Int) * 4)) = _ from ?_), hnw⟩
  simp only [IntKind.wrap_i64]
  omega

theorem c_mark {j b f gen cnt : Nat} (w : World) (h : JrAt w j b f gen cnt) :
    Calls Try.prog 48 #[.pointer (some ⟨j, 0, none⟩)] w fun e w' => e = .returned (.int .u64 ((hdMark gen cnt : Nat) : Int)) ∧ Nw w w' := by
  obtain ⟨-, -, h2, h3, -⟩ := h.cells
  have hgl := h.gl
  have hcl := h.cl
  have hN : Hid (((hdMark gen cnt : Nat) : Int) = (gen : Int) * 256 + ((cnt : Int) + 1)) := by unfold Hid hdMark; omega
  have hnw : Nw w w.drew := (Fr.refl _ w).drew
  clear h
  go_enter Try.func48, Try.ntmps48
  go_wp2
  have hS : (fun w' : World => w'.cell? ⟨j, 2, none⟩ = some (.int .u64 (gen : Int)) ∧ w'.cell? ⟨j, 3, none⟩ = some (.int .i64 (cnt : Int))) w.drew := ⟨h2, h3⟩
  refine wp_region_ord [] 12 [(0, true), (1, true), (2, true), (3, true), (4, true), (5, true), (6, true), (7, true), (8, true), (9, true), (10, true), (11, true)] (fun w' : World => w'.cell? ⟨j, 2, none⟩ = some (.int .u64 (gen : Int)) ∧ w'.cell? ⟨j, 3, none⟩ = some (.int .i64 (cnt : Int))) (by kernel_rfl) (by kernel_rfl) ?_
  refine ord_quietL _ ?_ rfl hS rfl ?_ ?_
  rotate_left
  · rintro w' ⟨hS1, hS2⟩; go_simp; rfl
  simp only [Act.put, List.setIfInBounds_toArray, List.set_cons_zero, List.set_cons_succ]
  refine ord_quietL _ ?_ rfl hS rfl ?_ ?_
  rotate_left
  · rintro w' ⟨hS1, hS2⟩; go_simp; rfl
  simp only [Act.put, List.setIfInBounds_toArray, List.set_cons_zero, List.set_cons_succ]
  refine ord_quietL _ ?_ rfl hS rfl ?_ ?_
  rotate_left
  · rintro w' ⟨hS1, hS2⟩; go_simp; rfl
  simp only [Act.put, List.setIfInBounds_toArray, List.set_cons_zero, List.set_cons_succ]
  refine ord_quietL _ ?_ rfl hS rfl ?_ ?_
  rotate_left
  · rintro w' ⟨hS1, hS2⟩; go_simp; rfl
  simp only [Act.put, List.setIfInBounds_toArray, List.set_cons_zero, List.set_cons_succ]
  refine ord_quietL _ ?_ rfl hS rfl ?_ ?_
  rotate_left
  · rintro w' ⟨hS1, hS2⟩; go_simp; rfl
  simp only [Act.put, List.setIfInBounds_toArray, List.set_cons_zero, List.set_cons_succ]
  refine ord_quietL _ ?_ rfl hS rfl ?_ ?_
  rotate_left
  · rintro w' ⟨hS1, hS2⟩; go_simp; rfl
  simp only [Act.put, List.setIfInBounds_toArray, List.set_cons_zero, List.set_cons_succ]
  refine ord_quietL _ ?_ rfl hS rfl ?_ ?_
  rotate_left
  · rintro w' ⟨hS1, hS2⟩; go_simp; rfl
  simp only [Act.put, List.setIfInBounds_toArray, List.set_cons_zero, List.set_cons_succ]
  refine ord_quietL _ ?_ rfl hS rfl ?_ ?_
  rotate_left
  · rintro w' ⟨hS1, hS2⟩; go_simp; rfl
  simp only [Act.put, List.setIfInBounds_toArray, List.set_cons_zero, List.set_cons_succ]
  refine ord_quietL _ ?_ rfl hS rfl ?_ ?_
  rotate_left
  · rintro w' ⟨hS1, hS2⟩; go_simp; rfl
  simp only [Act.put, List.setIfInBounds_toArray, List.set_cons_zero, List.set_cons_succ]
  refine ord_quietL _ ?_ rfl hS rfl ?_ ?_
  rotate_left
  · rintro w' ⟨hS1, hS2⟩; go_simp; rfl
  simp only [Act.put, List.setIfInBounds_toArray, List.set_cons_zero, List.set_cons_succ]
  refine ord_quietL _ ?_ rfl hS rfl ?_ ?_
  rotate_left
  · rintro w' ⟨hS1, hS2⟩; go_simp; rfl
  simp only [Act.put, List.setIfInBounds_toArray, List.set_cons_zero, List.set_cons_succ]
  refine ord_quietL _ ?_ rfl hS rfl ?_ ?_
  rotate_left
  · rintro w' ⟨hS1, hS2⟩; go_simp; rfl
  simp only [Act.put, List.setIfInBounds_toArray, List.set_cons_zero, List.set_cons_succ]
  refine ord_tail ?_
  simp only [List.drop_succ_cons, List.drop_zero]
  clear hS h2 h3
  generalize w.drew = W at *
  go_wp2
  go_ret
  rw [hN.out]
  refine ⟨congrArg (fun z => Ending.returned (.int .u64 z)) (show IntKind.u64.wrap (IntKind.u64.wrap ((gen : Int) * 256) + IntKind.u64.wrap (IntKind.i64.wrap ((cnt : Int) + 1))) = _ from ?_), hnw⟩
  simp only [IntKind.wrap_i64, IntKind.wrap_u64]
  omega

theorem c_start {b f gen : Nat} (w : World) (hf : f ≤ 2000) (hg : gen < 281474976710656) :
    Calls Try.prog 12 #[.pointer (some ⟨b, 0, none⟩), .int .i64 (f : Int), .int .u64 (gen : Int)] w fun e w' => e = .returned (.pointer (some ⟨w.heap.size, 0, none⟩)) ∧ JrAt w' w.heap.size b f gen 0 ∧ Nw w w' := by
  have hj : JrAt (w.alloc (.cells #[.pointer (some ⟨b, 0, none⟩), .int .i64 (f : Int), .int .u64 (gen : Int), .int .i64 ((0 : Nat) : Int)] 69)) w.heap.size b f gen 0 := ⟨heap_alloc_new w _, hf, hg, by omega⟩
  have hn : Nw w (w.alloc (.cells #[.pointer (some ⟨b, 0, none⟩), .int .i64 (f : Int), .int .u64 (gen : Int), .int .i64 ((0 : Nat) : Int)] 69)) := (Fr.refl _ w).alloc _
  go_enter Try.func12, Try.ntmps12
  go_wp2
  go_ret
  exact ⟨rfl, hj, hn⟩
end Go.Proofs.Ytihdhlciblkbiaa
