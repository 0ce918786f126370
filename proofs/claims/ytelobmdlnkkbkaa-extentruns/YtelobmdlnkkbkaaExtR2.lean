/-
  The document's map as a value: New, Count, List.
-/
import Derived.Test.YtelobmdlnkkbkaaExtR1
namespace Go.Proofs.Ytelobmdlnkkbkaa
set_option linter.unusedVariables false
set_option linter.unusedSimpArgs false
set_option maxRecDepth 20000
open Go.RowKit

/-- The cells of the document's map. -/
def pad (xs : List UInt8) : List UInt8 := xs ++ List.replicate (1024 - xs.length) 0
def rmc (xs : List UInt8) : List Value := Value.int .i64 (xs.length : Int) :: (pad xs).map bv
def rmv (xs : List UInt8) : Value := .agg (rmc xs).toArray

theorem pad_length {xs : List UInt8} (h : xs.length ≤ 1024) : (pad xs).length = 1024 := by unfold pad; simp; omega
theorem rmc_length {xs : List UInt8} (h : xs.length ≤ 1024) : (rmc xs).length = 1025 := by unfold rmc; simp [pad_length h]
theorem rmc_get (xs : List UInt8) (i : Nat) (hi : i < xs.length) : (rmc xs)[1 + i]? = some (.int .u8 (xs[i].toNat : Int)) := by
  unfold rmc pad
  rw [Nat.add_comm, List.getElem?_cons_succ, List.getElem?_map, List.getElem?_append_left hi, List.getElem?_eq_getElem hi]
  rfl
theorem rmc_set (xs : List UInt8) (i : Nat) (hi : i < xs.length) (v : UInt8) : (rmc xs).set (1 + i) (.int .u8 (v.toNat : Int)) = rmc (xs.set i v) := by
  unfold rmc pad
  rw [Nat.add_comm, List.set_cons_succ, List.length_set]
  congr 1
  rw [show (Value.int .u8 (v.toNat : Int)) = bv v from rfl, ← List.map_set, List.set_append_left _ _ hi]

theorem pad_rep (n : Nat) (h : n ≤ 1024) : pad (List.replicate n 0) = List.replicate 1024 0 := by
  unfold pad
  rw [List.length_replicate, List.replicate_append_replicate]
  congr 1
  omega

theorem rmc_one (xs : List UInt8) : ∀ u ∈ rmc xs, u.oneCell' = true := by
  intro u hu
  rcases List.mem_cons.1 hu with rfl | hu
  · rfl
  · exact bv_oneCell _ u hu

set_option maxRecDepth 100000 in
theorem Try.zeroR : (Try.prog.info? 31).bind (·.zero) = some (.agg (rmc []).toArray) := by
  rw [show rmc [] = Value.int .i64 0 :: (List.replicate 1024 (bv 0)) by unfold rmc; rw [show ([] : List UInt8) = List.replicate 0 0 from rfl, pad_rep 0 (by decide), List.map_replicate]; rfl]
  kernel_rfl
theorem Try.rowR : (Try.prog.underlying 31).map TypeDesc.isRow = some true := by kernel_rfl
theorem Try.sizeR : (Try.prog.info? 31).map (·.size) = some 1025 := by kernel_rfl
set_option maxRecDepth 100000 in
theorem Try.builtR (parts : List (Nat × Value)) : Try.prog.built 31 parts = Instr.fill (fun i => #[(0, 1), (1, 1024)][i]?) (rmc []).toArray parts := by
  rw [show rmc [] = Value.int .i64 0 :: (List.replicate 1024 (bv 0)) by unfold rmc; rw [show ([] : List UInt8) = List.replicate 0 0 from rfl, pad_rep 0 (by decide), List.map_replicate]; rfl]
  kernel_rfl

theorem sizeR {xs : List UInt8} (h : xs.length ≤ 1024) : (Try.prog.info? 31).map (·.size) = some (rmc xs).length := by rw [rmc_length h]; exact Try.sizeR
theorem fitR {xs ys : List UInt8} (h : xs.length ≤ 1024) (h' : ys.length ≤ 1024) : (rmc xs).length = (rmc ys).length := by rw [rmc_length h, rmc_length h']

theorem builtR (n : Nat) (h : n ≤ 1024) : Try.prog.built 31 [(0, .int .i64 (n : Int))] = some (rmc (List.replicate n 0)).toArray := by
  rw [Try.builtR, fill_cons _ _ 0 _ [.int .i64 (n : Int)] 0 _ rfl rfl (by rw [rmc_length (by simp)]; simp), Instr.fill]
  congr 2
  unfold splice rmc
  rw [pad_rep n h, show ([] : List UInt8) = List.replicate 0 0 from rfl, pad_rep 0 (by decide)]
  simp

/-- A variable of the document's map. -/
abbrev RAt (w : World) (N : Nat) (xs : List UInt8) : Prop := w.heap[N]? = some (.cells (rmc xs).toArray 31 (0, 0))

theorem RAt.c0 {w : World} {N : Nat} {xs : List UInt8} (h : RAt w N xs) : w.cell? ⟨N, 0, none⟩ = some (.int .i64 (xs.length : Int)) := cell_blk h (by simp [rmc])
theorem RAt.cell {w : World} {N : Nat} {xs : List UInt8} (h : RAt w N xs) (i : Nat) (hi : i < xs.length) : w.cell? ⟨N, 1 + i, none⟩ = some (.int .u8 (xs[i].toNat : Int)) := cell_blk h (by simpa using rmc_get xs i hi)
theorem RAt.free {w : World} {N : Nat} {xs : List UInt8} (h : RAt w N xs) (i : Nat) : w.frozen? ⟨N, i, none⟩ = false := free_blk h
theorem RAt.set {w : World} {N : Nat} {xs : List UInt8} (h : RAt w N xs) (i : Nat) (hi : i < xs.length) (v : UInt8) : RAt (w.setCell ⟨N, 1 + i, none⟩ (.int .u8 (v.toNat : Int))) N (xs.set i v) := by
  unfold RAt
  rw [blk_setCell h, ← rmc_set xs i hi v]
  simp
theorem RAt.nw {w w' : World} {N : Nat} {xs : List UInt8} (h : RAt w N xs) (hf : Nw w w') : RAt w' N xs := (hf.block N (heap_lt h) id).trans h

theorem ref_new (n : Int) : newX n = List.replicate (max 0 (min n 1024)).toNat 0 := rfl

set_option maxHeartbeats 800000 in
theorem c_rnew (n : Int) (w : World) : Calls Try.prog 12 #[.int .i64 n] w fun e w' => e = .returned (rmv (newX n)) ∧ Nw w w' := by
  have hb : RAt (w.alloc (.cells (rmc []).toArray 31)) w.heap.size [] := heap_alloc_new w _
  have hn : Nw w (w.alloc (.cells (rmc []).toArray 31)) := (Fr.refl _ w).alloc _
  generalize hW : w.alloc (.cells (rmc []).toArray 31) = W at *
  have hWH : Hid (w.alloc (.cells (rmc []).toArray 31) = W) := hW
  clear hW
  obtain ⟨k, hk, hkl⟩ : ∃ k : Nat, max 0 (min n 1024) = (k : Int) ∧ k ≤ 1024 := ⟨(max 0 (min n 1024)).toNat, by omega, by omega⟩
  have hx : newX n = List.replicate k 0 := by rw [ref_new, hk, Int.toNat_natCast]
  rw [hx]
  have hbt := builtR k hkl
  have hl : (List.replicate k (0 : UInt8)).length ≤ 1024 := by simpa using hkl
  have hr := setRow_heap W w.heap.size _ (rmc (List.replicate k 0)).toArray 31 _ hb
  have hnw : Nw w (W.setRow w.heap.size (rmc (List.replicate k 0)).toArray) := hn.setRow (.inr (Nat.le_refl _)) _
  have hkH : Hid (max 0 (min n 1024) = (k : Int)) := hk
  clear hk hx
  by_cases h1 : n < 0
  · have hk0 : k = 0 := by have := hkH.out; omega
    subst hk0
    go_enter Try.func12, Try.ntmps12
    go_wp2_with (first
      | (refine wpList_alloc_agg rfl 31 rfl _ Try.zeroR ?_; rw [hWH.out])
      | (refine wpList_build_as rfl 31 _ rfl (rmv (List.replicate 0 0)) _ rfl hbt ?_)
      | (refine wpList_store_all rfl 31 _ _ rfl w.heap.size rfl (rmv (List.replicate 0 0)) rfl _ rfl _ 31 hb (fitR hl (by simp)) (rmc_one _) (sizeR hl) ?_))
    refine bodyPost_ret (results_cell1 rfl _ w.heap.size _ _ rfl rfl (range_all hr) Try.rowR (sizeR hl)) rfl ?_
    exact ⟨rfl, hnw⟩
  · by_cases h2 : 1024 < n
    · have hk0 : k = 1024 := by have := hkH.out; omega
      subst hk0
      go_enter Try.func12, Try.ntmps12
      go_wp2_with (first
        | (refine wpList_alloc_agg rfl 31 rfl _ Try.zeroR ?_; rw [hWH.out])
        | (refine wpList_build_as rfl 31 _ rfl (rmv (List.replicate 1024 0)) _ rfl hbt ?_)
        | (refine wpList_store_all rfl 31 _ _ rfl w.heap.size rfl (rmv (List.replicate 1024 0)) rfl _ rfl _ 31 hb (fitR hl (by simp)) (rmc_one _) (sizeR hl) ?_))
      refine bodyPost_ret (results_cell1 rfl _ w.heap.size _ _ rfl rfl (range_all hr) Try.rowR (sizeR hl)) rfl ?_
      exact ⟨rfl, hnw⟩
    · have hk0 : n = (k : Int) := by have := hkH.out; omega
      subst hk0
      go_enter Try.func12, Try.ntmps12
      go_wp2_with (first
        | (refine wpList_alloc_agg rfl 31 rfl _ Try.zeroR ?_; rw [hWH.out])
        | (refine wpList_build_as rfl 31 _ rfl (rmv (List.replicate k 0)) _ rfl hbt ?_)
        | (refine wpList_store_all rfl 31 _ _ rfl w.heap.size rfl (rmv (List.replicate k 0)) rfl _ rfl _ 31 hb (fitR hl (by simp)) (rmc_one _) (sizeR hl) ?_))
      refine bodyPost_ret (results_cell1 rfl _ w.heap.size _ _ rfl rfl (range_all hr) Try.rowR (sizeR hl)) rfl ?_
      exact ⟨rfl, hnw⟩

set_option maxHeartbeats 800000 in
theorem c_rcount {xs : List UInt8} (w : World) (hx : xs.length ≤ 1024) : Calls Try.prog 26 #[rmv xs] w fun e w' => e = .returned (.int .i64 (xs.count 0 : Int)) ∧ Nw w w' := by
  have hb : RAt (w.alloc (.cells (rmc xs).toArray 31)) w.heap.size xs := heap_alloc_new w _
  have hn : Nw w (w.alloc (.cells (rmc xs).toArray 31)) := (Fr.refl _ w).alloc _
  generalize hW : w.alloc (.cells (rmc xs).toArray 31) = W at *
  have hWH : Hid (w.alloc (.cells (rmc xs).toArray 31) = W) := hW
  clear hW
  have c0 := hb.c0
  go_enter Try.func26, Try.ntmps26
  go_wp2_with (refine wpList_box_agg rfl 31 _ rfl (rmv xs) _ rfl rfl ?_; rw [hWH.out])
  go_loop [3, 4] (fun n i => ∃ k : Nat, k ≤ xs.length ∧ i = .int .i64 k ∧ n = .int .i64 ((xs.take k).count 0 : Nat)) (fun _ i => xs.length - (intOf i).toNat)
  case atStart => exact ⟨0, Nat.zero_le _, rfl, rfl⟩
  case round =>
    obtain ⟨k, hk, rfl, rfl⟩ := hrel
    have hle : (xs.take k).count 0 ≤ k := Nat.le_trans List.count_le_length (by simp; omega)
    by_cases hlt : k < xs.length
    · have hc := hb.cell k hlt
      have hs : Hid ((xs.take (k + 1)).count 0 = (xs.take k).count 0 + if xs[k] = 0 then 1 else 0) := count_take_succ xs k hlt 0
      generalize hq : (xs.take k).count 0 = q at *
      clear hq
      by_cases hx0 : xs[k] = 0
      · have he : (((xs[k].toNat : Int) == 0)) = true := by rw [hx0]; rfl
        have hs' : Hid ((xs.take (k + 1)).count 0 = q + 1) := by unfold Hid; rw [hs.out, if_pos hx0]
        clear hs hx0
        generalize (xs[k].toNat : Int) = x at *
        go_wp2
        go_round
        case rel => exact ⟨k + 1, by omega, by go_num, by rw [hs'.out]; go_num⟩
        case measure => simp [intOf]; omega
      · have he : (((xs[k].toNat : Int) == 0)) = false := by
          have := u8_beq xs[k] 0
          simp only [hx0, decide_false] at this
          simpa using this
        have hs' : Hid ((xs.take (k + 1)).count 0 = q) := by unfold Hid; rw [hs.out, if_neg hx0]; rfl
        clear hs hx0
        generalize (xs[k].toNat : Int) = x at *
        go_wp2
        go_round
        case rel => exact ⟨k + 1, by omega, by go_num, by rw [hs'.out]⟩
        case measure => simp [intOf]; omega
    · go_wp2
      go_ret
      rw [List.take_of_length_le (by omega)]
      exact ⟨rfl, hn⟩
end Go.Proofs.Ytelobmdlnkkbkaa
