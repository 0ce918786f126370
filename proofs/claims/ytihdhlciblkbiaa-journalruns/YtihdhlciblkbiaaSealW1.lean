/-
  Package seal: numbers packed; parts of a sector's variable.
-/
import Derived.Test.YtihdhlciblkbiaaSealPlain
import Derived.Test.YtihdhlciblkbiaaCodecU4
import Derived.Test.YtihdhlciblkbiaaCrcN1
import Derived.Test.YtihdhlciblkbiaaLibOrd
namespace Go.Proofs.Ytihdhlciblkbiaa
set_option linter.unusedVariables false
set_option linter.unusedSimpArgs false
set_option maxRecDepth 20000
open Go.RowKit

def pcells2 (x y : Nat) : Array Value := #[.int .u64 (x : Int), .slice none 0 0, .int .u64 (y : Int), .slice none 0 0]

theorem made2 : madeCells (Value.agg #[.int .u64 0, .slice none 0 0]).cells (2 * 2) = pcells2 0 0 := by kernel_rfl

theorem pk_set0 (x y z : Nat) : (pcells2 x y).setIfInBounds 0 (.int .u64 (z : Int)) = pcells2 z y := rfl
theorem pk_set1 (x y z : Nat) : (pcells2 x y).setIfInBounds 2 (.int .u64 (z : Int)) = pcells2 x z := rfl

theorem pk_fields {B : Nat} {w : World} {a b : Nat} (hB : B < w.heap.size) (ha : a < 18446744073709551616) (hb : b < 18446744073709551616) (h : w.heap[B]? = some (.cells (pcells2 a b) 79 (0, 0))) :
    FieldsAt w.heap.size w (.slice (some ⟨B, 0, none⟩) 2 2) [⟨a, []⟩, ⟨b, []⟩] := by
  refine ⟨_, 2, rfl, Nat.le_refl _, fun h => by simp at h, fun i f hi => ?_⟩
  match i, hi with
  | 0, hi =>
    simp only [List.getElem?_cons_zero, Option.some.injEq] at hi
    subst hi
    exact ⟨B, 0, _, rfl, hB, cell_blk h rfl, cell_blk h rfl, Sl.nil _ _, ha, by simp⟩
  | 1, hi =>
    simp only [List.getElem?_cons_succ, List.getElem?_cons_zero, Option.some.injEq] at hi
    subst hi
    exact ⟨B, 0, _, rfl, hB, cell_blk h rfl, cell_blk h rfl, Sl.nil _ _, hb, by simp⟩
  | i + 2, hi => simp at hi

set_option maxHeartbeats 1600000 in
theorem c_packed (sh : ByteArray) (a b g : Nat) (ys : List UInt8) (w : World) (hsz : sh.size ≤ maxLen) (ha : a < 18446744073709551616) (hb : b < 18446744073709551616) (hg : g < w.heap.size)
    (c0 : w.cell? ⟨g, 0, none⟩ = some (.int .u64 (a : Int))) (c1 : w.cell? ⟨g, 1, none⟩ = some (.int .u64 (b : Int))) (hp : pack sh.data.toList [⟨a, []⟩, ⟨b, []⟩] = some ys) :
    Calls Try.prog 61 #[.string sh, .slice (some ⟨g, 0, none⟩) 2 2] w fun e w' => ∃ v, e = .returned v ∧ Sl w'.heap.size w' v ys.length (ys.map bv) ∧ Below w.heap.size w w' := by
  obtain ⟨i0, hi, hz0, hz1, hz2⟩ := info_parts Try.info79
  go_enter Try.func61, Try.ntmps61
  go_wp2_with (at_make; refine wpList_make_as rfl 82 79 _ _ rfl 2 rfl rfl i0 _ Try.underlying82 hi hz0 (by omega) (by rw [hz2]; omega) (pcells2 0 0) (by rw [hz1]; exact made2) ?_)
  go_loopw [15] (fun i wr => ∃ k x y : Nat, k ≤ 2 ∧ i = .int .i64 k ∧ Hid (0 < k → x = a) ∧ Hid (1 < k → y = b) ∧ wr.heap[w.heap.size]? = some (.cells (pcells2 x y) 79 (0, 0)) ∧ Below w.heap.size w wr) (fun i _ => 2 - (intOf i).toNat)
  case atStart => exact ⟨0, 0, 0, Nat.zero_le _, rfl, fun h => absurd h (by omega), fun h => absurd h (by omega), heap_alloc_new w _, (Below.refl _ _).alloc (Nat.le_refl _) _⟩
  case round =>
    obtain ⟨k, x, y, hk, rfl, hx, hy, hblk, hbel⟩ := hrel
    have c0 : wr.cell? ⟨g, 0, none⟩ = some (.int .u64 (a : Int)) := by rw [hbel.cell (p := ⟨g, 0, none⟩) hg]; exact c0
    have c1 : wr.cell? ⟨g, 1, none⟩ = some (.int .u64 (b : Int)) := by rw [hbel.cell (p := ⟨g, 1, none⟩) hg]; exact c1
    have f0 : wr.frozen? ⟨w.heap.size, 0, none⟩ = false := free_blk hblk
    have f1 : wr.frozen? ⟨w.heap.size, 2, none⟩ = false := free_blk hblk
    have d0 : wr.cell? ⟨w.heap.size, 0, none⟩ = some (.int .u64 (x : Int)) := cell_blk hblk rfl
    have d1 : wr.cell? ⟨w.heap.size, 2, none⟩ = some (.int .u64 (y : Int)) := cell_blk hblk rfl
    obtain rfl | rfl | rfl : k = 0 ∨ k = 1 ∨ k = 2 := by omega
    · have hn : Hid ((wr.setCell ⟨w.heap.size, 0, none⟩ (.int .u64 (a : Int))).heap[w.heap.size]? = some (.cells (pcells2 a y) 79 (0, 0))) := by unfold Hid; rw [blk_setCell hblk, pk_set0]
      have hb2 : Below w.heap.size w (wr.setCell ⟨w.heap.size, 0, none⟩ (.int .u64 (a : Int))) := hbel.setCell (Nat.le_refl _) _
      clear hblk hbel
      go_wp2
      go_roundw
      case rel => exact ⟨1, a, y, by omega, rfl, fun _ => rfl, fun h => absurd h (by omega), hn, hb2⟩
      case measure => simp [intOf]
    · have hn : Hid ((wr.setCell ⟨w.heap.size, 2, none⟩ (.int .u64 (b : Int))).heap[w.heap.size]? = some (.cells (pcells2 x b) 79 (0, 0))) := by unfold Hid; rw [blk_setCell hblk, pk_set1]
      have hb2 : Below w.heap.size w (wr.setCell ⟨w.heap.size, 2, none⟩ (.int .u64 (b : Int))) := hbel.setCell (Nat.le_refl _) _
      clear hblk hbel
      go_wp2
      go_roundw
      case rel => exact ⟨2, x, b, by omega, rfl, fun _ => hx.out (by omega), fun _ => rfl, hn, hb2⟩
      case measure => simp [intOf]
    · obtain rfl := hx.out (by omega)
      obtain rfl := hy.out (by omega)
      have hf := pk_fields (heap_lt hblk) ha hb hblk
      clear hx hy c0 c1 f0 f1 d0 d1 hblk
      go_wp2_with (go_at_call 45; refine stop_here ?_)
      unfold Hid
      refine (c_pack sh _ _ _ _ hsz (by unfold maxLen; simp) hf (Nat.le_refl _)).mono ?_
      rintro e w1 ⟨hb1, ⟨zs, v, hz, rfl, hs⟩ | ⟨hz, -⟩⟩
      · obtain rfl : ys = zs := Option.some.inj (hp.symm.trans hz)
        obtain ⟨ao, cap, rfl⟩ := sl_form hs
        have hb3 := hbel.trans (hb1.mono hbel.size)
        clear hb1 hf hbel hz
        go_wp2
        go_ret
        exact ⟨_, rfl, hs, hb3⟩
      · rw [hp] at hz; cases hz
end Go.Proofs.Ytihdhlciblkbiaa
