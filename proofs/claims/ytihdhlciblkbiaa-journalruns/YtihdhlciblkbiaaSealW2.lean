/-
  Package seal: Make.
-/
import Derived.Test.YtihdhlciblkbiaaSealW1
namespace Go.Proofs.Ytihdhlciblkbiaa
set_option linter.unusedVariables false
set_option linter.unusedSimpArgs false
set_option maxRecDepth 20000
open Go.RowKit

/-! ### Parts of a sector's variable -/
def hdS (m n : Nat) : List UInt8 := be 8 m ++ be 2 n
theorem hdS_length (m n : Nat) : (hdS m n).length = 10 := by simp [hdS, be_length]
/-- The sector's cells behind each copy. -/
def c1S (m n : Nat) : List Value := ((be 8 m ++ be 2 n) ++ List.replicate 118 0).map bv
def c2S (m : Nat) (b : List UInt8) : List Value := (headS m b ++ List.replicate 12 0).map bv
theorem c1S_length (m n : Nat) : (c1S m n).length = 128 := by simp [c1S, be_length]
theorem c2S_length (m : Nat) (b : List UInt8) (h : b.length ≤ 106) : (c2S m b).length = 128 := by
  unfold c2S
  rw [List.length_map, List.length_append, headS_length h, List.length_replicate]

theorem splice_head (m n : Nat) : splice (z128.map bv) 0 ((hdS m n).map bv) = c1S m n := by
  unfold splice hdS c1S
  rw [List.map_append (l₂ := List.replicate 118 0), List.take_zero, List.nil_append]
  congr 1

theorem splice_body (m : Nat) (b : List UInt8) (h : b.length ≤ 106) : splice (c1S m b.length) 10 (b.map bv) = c2S m b := by
  have hl : ((be 8 m ++ be 2 b.length).map bv).length = 10 := by simp [be_length]
  unfold splice c1S c2S headS
  rw [List.map_append (l₂ := List.replicate 118 0), List.take_append_of_le_length (by omega), List.take_of_length_le (by omega), List.drop_append, List.drop_eq_nil_of_le (by omega), hl, List.nil_append]
  simp only [List.map_append, List.map_replicate, List.drop_replicate, List.length_map, List.append_assoc]
  congr 3
  rw [List.replicate_append_replicate]
  congr 1
  omega

theorem splice_tail (m : Nat) (b : List UInt8) (h : b.length ≤ 106) : splice (c2S m b) 116 ((tailS m b).map bv) = (sealOf m b).map bv := by
  have hl : ((headS m b).map bv).length = 116 := by rw [List.length_map]; exact headS_length h
  have h2 : ((tailS m b).map bv).length = 12 := by rw [List.length_map]; exact tailS_length m b
  unfold splice sealOf c2S
  rw [h2, List.map_append (l₂ := List.replicate 12 0), List.take_append_of_le_length (by omega), List.take_of_length_le (by omega), List.drop_append, List.drop_eq_nil_of_le (by omega), hl]
  simp

theorem sl_src {K n cap : Nat} {w : World} {ao : Option Addr} {cs : List Value} (h : Sl K w (.slice ao n cap) n cs) (hl : 0 < cs.length) : ∃ ad, ao = some ad ∧ ∀ j v, cs[j]? = some v → w.cell? (ad.add j) = some v := by
  obtain ⟨ao', cap', hv, hc, hn, hcs⟩ := h
  simp only [Value.slice.injEq, true_and] at hv
  obtain ⟨rfl, rfl⟩ := hv
  obtain ⟨b, off, rfl, -, -⟩ := hcs 0 cs[0] (List.getElem?_eq_getElem hl)
  refine ⟨_, rfl, fun j v hj => ?_⟩
  obtain ⟨b', off', he, _, hcell⟩ := hcs j v hj
  simp only [Option.some.injEq, Addr.mk.injEq, and_true] at he
  obtain ⟨rfl, rfl⟩ := he
  rw [add_plain]
  exact hcell

theorem sl_blk {K g : Nat} {w : World} {C : List Value} {t : TypeId} {fr : Nat × Nat} (hb : w.heap[g]? = some (.cells C.toArray t fr)) (off n cap : Nat) (cs : List Value) (hn : n ≤ cap) (hc : cap ≤ 1000000000) (hK : g < K)
    (h : ∀ j v, cs[j]? = some v → C[off + j]? = some v) : Sl K w (.slice (some ⟨g, off, none⟩) n cap) n cs :=
  ⟨_, cap, rfl, ⟨hn, by unfold maxLen; omega⟩, fun h => by simp at h, fun j v hj => ⟨g, off, rfl, hK, cell_blk hb (by simpa using h j v hj)⟩⟩

theorem pack82 (a b : Nat) (ha : a < 18446744073709551616) (hb : b < 65536) : pack [56, 50] [⟨a, []⟩, ⟨b, []⟩] = some (hdS a b) := by
  unfold hdS
  have h1 : a < 256 ^ 8 := by omega
  have h2 : b < 256 ^ 2 := by omega
  have e1 : packF 56 ⟨a, []⟩ = some (be 8 a) := by
    unfold packF
    rw [if_neg (by decide)]
    exact if_pos h1
  have e2 : packF 50 ⟨b, []⟩ = some (be 2 b) := by
    unfold packF
    rw [if_neg (by decide)]
    exact if_pos h2
  unfold pack
  rw [if_pos (by simp)]
  simp only [List.zip_cons_cons, List.zip_nil_left, packL, e1, e2, List.append_nil]

theorem pack48 (a b : Nat) (ha : a < 4294967296) (hb : b < 18446744073709551616) : pack [52, 56] [⟨a, []⟩, ⟨b, []⟩] = some (be 4 a ++ be 8 b) := by
  have h1 : a < 256 ^ 4 := by omega
  have h2 : b < 256 ^ 8 := by omega
  have e1 : packF 52 ⟨a, []⟩ = some (be 4 a) := by
    unfold packF
    rw [if_neg (by decide)]
    exact if_pos h1
  have e2 : packF 56 ⟨b, []⟩ = some (be 8 b) := by
    unfold packF
    rw [if_neg (by decide)]
    exact if_pos h2
  unfold pack
  rw [if_pos (by simp)]
  simp only [List.zip_cons_cons, List.zip_nil_left, packL, e1, e2, List.append_nil]

/-- What Make keeps: its sector's variable behind its result's. -/
structure MkAt (w wr : World) (L : List Value) : Prop where
  blk : wr.heap[w.heap.size + 1]? = some (.cells L.toArray 55 (0, 0))
  bel : Below (w.heap.size + 1) (w.alloc (.cells (z128.map bv).toArray 55)) wr

theorem MkAt.start (w : World) : MkAt w ((w.alloc (.cells (z128.map bv).toArray 55)).alloc (.cells (z128.map bv).toArray 55)) (z128.map bv) := by
  refine ⟨?_, (Below.refl _ _).alloc (by simp) _⟩
  have := heap_alloc_new (w.alloc (.cells (z128.map bv).toArray 55)) (.cells (z128.map bv).toArray 55)
  simpa using this

theorem MkAt.size {w wr : World} {L : List Value} (h : MkAt w wr L) : w.heap.size + 2 ≤ wr.heap.size := by have := heap_lt h.blk; omega

theorem MkAt.keep {w wr w1 : World} {L : List Value} (h : MkAt w wr L) (hb : Below wr.heap.size wr w1) : MkAt w w1 L :=
  ⟨(hb.block _ (heap_lt h.blk)).trans h.blk, h.bel.trans (hb.mono (by have := h.size; omega))⟩

theorem MkAt.drew {w wr : World} {L : List Value} (h : MkAt w wr L) : MkAt w wr.drew L := ⟨h.blk, h.bel.drew⟩

theorem MkAt.alloc {w wr : World} {L : List Value} (h : MkAt w wr L) (o : Obj) : MkAt w (wr.alloc o) L := h.keep ((Below.refl _ _).alloc (Nat.le_refl _) _)

theorem MkAt.below {w wr : World} {L : List Value} (h : MkAt w wr L) : Below w.heap.size w wr :=
  ((Below.refl _ _).alloc (Nat.le_refl _) _).trans (h.bel.mono (by omega))

theorem MkAt.res {w wr : World} {L : List Value} (h : MkAt w wr L) : wr.heap[w.heap.size]? = some (.cells (z128.map bv).toArray 55 (0, 0)) :=
  (h.bel.block _ (by omega)).trans (heap_alloc_new w _)

set_option maxHeartbeats 1600000 in
theorem c_make_no (m : Nat) (b : List UInt8) (ao : Option Addr) (cap : Nat) (w : World) (hm : m < 18446744073709551616) (hl : b.length ≤ 140737488355328) (h : ¬ okS m b) :
    Calls Try.prog 47 #[.int .u64 (m : Int), .slice ao b.length cap] w fun e w' => e = .returned (.tuple #[sec z128, .int .i64 51]) ∧ Below w.heap.size w w' := by
  have hmd := made w
  have hfin := hmd.fin z128
  have hrow := hmd.row z128
  generalize hW : w.alloc (.cells (z128.map bv).toArray 55) = W at *
  have hW : Hid (w.alloc (.cells (z128.map bv).toArray 55) = W) := hW
  by_cases h0 : m = 0
  · subst h0
    go_enter Try.func47, Try.ntmps47
    go_wp2_with (first
      | (refine wpList_alloc_agg rfl 55 rfl _ Try.zeroS ?_; rw [hW.out])
      | (refine wpList_build_as rfl 55 #[] rfl (sec z128) _ rfl Try.builtS ?_)
      | (refine wpList_store_all rfl 55 _ _ rfl w.heap.size rfl (sec z128) rfl _ rfl _ 55 hmd.new rfl (bv_oneCell _) (sizeS z128_length) ?_))
    refine bodyPost_ret (results_cell2 rfl _ w.heap.size _ _ rfl rfl hrow Try.rowS (sizeS z128_length)) rfl ?_
    exact ⟨rfl, hfin.below (Nat.le_refl _) (fun _ => False.elim)⟩
  · have hb : 106 < b.length := by unfold okS at h; omega
    have hd0 : ((m : Int) == 0) = false := by rw [beq_eq_false_iff_ne]; omega
    have hd1 : decide (106 < (b.length : Int)) = true := decide_eq_true (by omega)
    go_enter Try.func47, Try.ntmps47
    go_wp2_with (first
      | (refine wpList_alloc_agg rfl 55 rfl _ Try.zeroS ?_; rw [hW.out])
      | (refine wpList_build_as rfl 55 #[] rfl (sec z128) _ rfl Try.builtS ?_)
      | (refine wpList_store_all rfl 55 _ _ rfl w.heap.size rfl (sec z128) rfl _ rfl _ 55 hmd.new rfl (bv_oneCell _) (sizeS z128_length) ?_))
    refine bodyPost_ret (results_cell2 rfl _ w.heap.size _ _ rfl rfl hrow Try.rowS (sizeS z128_length)) rfl ?_
    exact ⟨rfl, hfin.below (Nat.le_refl _) (fun _ => False.elim)⟩
end Go.Proofs.Ytihdhlciblkbiaa
