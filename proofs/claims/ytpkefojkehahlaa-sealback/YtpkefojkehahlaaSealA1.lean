/-
  The chapter's example; a variable that holds a sector.
-/
import Derived.Test.YtpkefojkehahlaaSealW4
import Derived.Lib.SlBytesConst
namespace Go.Proofs.Ytpkefojkehahlaa
set_option linter.unusedVariables false
set_option linter.unusedSimpArgs false
open Go.RowKit

/-- The world behind 's, .. := ..': a new variable that holds the sector. -/
def putS (w : World) (L : List UInt8) : World := (w.alloc (.cells (z128.map bv).toArray 27)).setRow w.heap.size (L.map bv).toArray

theorem putS_blk (w : World) (L : List UInt8) : (putS w L).heap[w.heap.size]? = some (.cells (L.map bv).toArray 27 (0, 0)) := setRow_heap _ _ _ _ 27 _ (made w).new
theorem putS_below (w : World) (L : List UInt8) : Below w.heap.size w (putS w L) := ((made w).fin L).below (Nat.le_refl _) (fun _ => False.elim)

/-- A block that stays. -/
theorem keep_blk {w w' : World} {g : Nat} {o : Obj} (h : w.heap[g]? = some o) (hb : Below w.heap.size w w') : w'.heap[g]? = some o := (hb.block g (heap_lt h)).trans h

def exH : List UInt8 := [104, 105]
def exS : List UInt8 := mkS 7 exH
theorem exS_length : exS.length = 128 := mkS_length _ _
theorem ex_ok : okS 7 exH := by decide
theorem ex_open : openS exS = some (7, exH) := by
  unfold exS mkS
  rw [if_pos ex_ok]
  exact openS_seal (by decide) ex_ok
theorem ex_E : mkE 7 exH = 0 := by unfold mkE; rw [if_pos ex_ok]
theorem ex_M : oM exS = 7 := by unfold oM; rw [ex_open]; rfl
theorem ex_B : oB exS = exH := by unfold oB; rw [ex_open]; rfl
theorem ex_7 : exS[7]? = some 7 := by decide +kernel
theorem ex_9 : exS[9]? = some 2 := by decide +kernel
theorem ex_10 : exS[10]? = some 104 := by decide +kernel
theorem ex_127 : exS[127]? = some 7 := by decide +kernel

theorem sec_cell {w : World} {g : Nat} {s : List UInt8} {i : Nat} {x : UInt8} (h : w.heap[g]? = some (.cells (s.map bv).toArray 27 (0, 0))) (hx : s[i]? = some x) : w.cell? ⟨g, i, none⟩ = some (.int .u8 (x.toNat : Int)) :=
  cell_blk h (by simp [hx, bv])

set_option maxRecDepth 20000 in
set_option maxHeartbeats 3200000 in
theorem c_alive (w : World) : Calls Try.prog 11 #[] w fun e w' => e = .returned (.bool true) ∧ Below w.heap.size w w' := by
  have kc := fun (w : World) (C : Array Value) (n c : Nat) => Lib.run_convert_bytes_const (P := Try.prog) w 23 5 C n c Try.underlying23 Try.underlying5
  have hal : Try.prog.arrayLen 27 = 128 := by kernel_rfl
  go_enter Try.func11, Try.ntmps11
  go_wp2_with (go_at_call 10; refine stop_here ?_)
  unfold Hid
  have hsl : Sl (w.heap.size + 1) (w.alloc (.cells #[.int .u8 104, .int .u8 105] 5 (2, 3))) (.slice (some ⟨w.heap.size, 0, none⟩) 2 2) exH.length (exH.map bv) := sl_cells w _ 5 2 (2, 3) (by omega)
  refine (c_make 7 _ exH _ _ (by decide) hsl (by simp) (by decide)).mono ?_
  rintro e w1 ⟨rfl, hb1⟩
  have hb1 : Below w.heap.size w w1 := ((Below.refl _ _).alloc (Nat.le_refl _) _).trans (hb1.mono (by simp))
  rw [ex_E, show mkS 7 exH = exS from rfl]
  have hmd := made w1
  have hlen := exS_length
  have hblk := putS_blk w1 exS
  have hb2 := putS_below w1 exS
  have hW : Hid ((w1.alloc (.cells (z128.map bv).toArray 27)).setRow w1.heap.size (exS.map bv).toArray = putS w1 exS) := rfl
  have hr2 := range_all hblk
  clear hsl kc
  go_wp2_with (first
    | (refine wpList_alloc_agg rfl 27 rfl _ Try.zeroS ?_)
    | (refine wpList_store_all rfl 27 _ _ rfl w1.heap.size rfl (sec exS) rfl _ rfl _ 27 hmd.new (sec_fit hlen) (bv_oneCell _) (sizeS hlen) ?_; rw [hW.out])
    | (refine wpList_load_as rfl 27 _ rfl w1.heap.size 0 rfl (sec exS) _ rfl hr2 Try.rowS (sizeS hlen) ?_)
    | (go_at_call 9; refine stop_here ?_))
  unfold Hid
  refine (c_open exS _ hlen).mono ?_
  rintro e w3 ⟨v3, rfl, hs3, hb3⟩
  rw [ex_M, ex_open]
  rw [ex_B] at hs3
  have hbA : Below w.heap.size w w3 := (hb1.trans (hb2.mono hb1.size)).trans (hb3.mono (by have := hb1.size; have := hb2.size; omega))
  have hblk3 := keep_blk hblk hb3
  have q7 : w3.cell? ⟨w1.heap.size, 7, none⟩ = some (.int .u8 7) := sec_cell hblk3 ex_7
  have q9 : w3.cell? ⟨w1.heap.size, 9, none⟩ = some (.int .u8 2) := sec_cell hblk3 ex_9
  have q10 : w3.cell? ⟨w1.heap.size, 10, none⟩ = some (.int .u8 104) := sec_cell hblk3 ex_10
  have q127 : w3.cell? ⟨w1.heap.size, 127, none⟩ = some (.int .u8 7) := sec_cell hblk3 ex_127
  have hcv : (convert 23 9 v3).run Try.prog w3 = .ok (.string ⟨#[104, 105]⟩) w3 := run_string_sl 23 5 9 Try.underlying23 Try.underlying5 Try.underlying9 hs3
  obtain ⟨ao, cap, rfl⟩ := sl_form hs3
  clear hs3 hblk3 hb3 hblk hb2 hb1 hW hr2 hmd
  go_wp2
  go_ret
  exact ⟨rfl, hbA⟩
end Go.Proofs.Ytpkefojkehahlaa
