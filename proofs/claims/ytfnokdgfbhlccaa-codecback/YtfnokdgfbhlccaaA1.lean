/-
  The chapter's example.
-/
import Derived.Test.YtfnokdgfbhlccaaRows
import Derived.Test.YtfnokdgfbhlccaaU4
import Derived.Test.YtfnokdgfbhlccaaR2
import Derived.Lib.SlBytesConst
namespace Go.Proofs.Ytfnokdgfbhlccaa
set_option linter.unusedVariables false
set_option linter.unusedSimpArgs false
open Go.RowKit

def exF : List Fld := [⟨7, []⟩, ⟨0, [120, 121]⟩]
def exB : List UInt8 := [7, 0, 2, 120, 121]

theorem ex_pack : pack [49, 98] exF = some exB := by decide +kernel
theorem ex_unpack : unpack [49, 98] exB = some exF := rfl

theorem ex_fields (w : World) : FieldsAt (w.heap.size + 2) ((w.alloc (.cells #[.int .u8 120, .int .u8 121] 5 (2, 3))).alloc (.cells #[.int .u64 7, .slice none 0 0, .int .u64 0, .slice (some ⟨w.heap.size, 0, none⟩) 2 2] 40)) (.slice (some ⟨w.heap.size + 1, 0, none⟩) 2 2) exF := by
  have hb1 : ((w.alloc (.cells #[.int .u8 120, .int .u8 121] 5 (2, 3))).alloc (.cells #[.int .u64 7, .slice none 0 0, .int .u64 0, .slice (some ⟨w.heap.size, 0, none⟩) 2 2] 40)).heap[w.heap.size + 1]? = some (.cells #[.int .u64 7, .slice none 0 0, .int .u64 0, .slice (some ⟨w.heap.size, 0, none⟩) 2 2] 40 (0, 0)) := by
    have := heap_alloc_new (w.alloc (.cells #[.int .u8 120, .int .u8 121] 5 (2, 3))) (.cells #[.int .u64 7, .slice none 0 0, .int .u64 0, .slice (some ⟨w.heap.size, 0, none⟩) 2 2] 40)
    simpa using this
  have hb0 : ((w.alloc (.cells #[.int .u8 120, .int .u8 121] 5 (2, 3))).alloc (.cells #[.int .u64 7, .slice none 0 0, .int .u64 0, .slice (some ⟨w.heap.size, 0, none⟩) 2 2] 40)).heap[w.heap.size]? = some (.cells #[.int .u8 120, .int .u8 121] 5 (2, 3)) := by
    rw [Below.heap_alloc _ _ _ (by simp)]; exact heap_alloc_new w _
  generalize (w.alloc (.cells #[.int .u8 120, .int .u8 121] 5 (2, 3))).alloc (.cells #[.int .u64 7, .slice none 0 0, .int .u64 0, .slice (some ⟨w.heap.size, 0, none⟩) 2 2] 40) = W at *
  refine ⟨_, 2, rfl, Nat.le_refl _, fun h => by simp at h, ?_⟩
  intro i f hi
  match i, hi with
  | 0, hi =>
    simp [exF] at hi
    subst hi
    exact ⟨w.heap.size + 1, 0, .slice none 0 0, rfl, by omega, by simp [World.cell?, hb1], by simp [World.cell?, hb1], Sl.nil _ _, by show (7 : Nat) < _; omega, by simp⟩
  | 1, hi =>
    simp [exF] at hi
    subst hi
    refine ⟨w.heap.size + 1, 0, .slice (some ⟨w.heap.size, 0, none⟩) 2 2, rfl, by omega, by simp [World.cell?, hb1], by simp [World.cell?, hb1], ?_, by show (0 : Nat) < _; omega, by simp⟩
    refine ⟨_, 2, rfl, ⟨Nat.le_refl _, by unfold maxLen; omega⟩, fun h => by simp at h, fun j c hj => ⟨w.heap.size, 0, rfl, by omega, ?_⟩⟩
    rw [Nat.zero_add, cell_of_row _ w.heap.size j _ 5 (2, 3) hb0]
    match j, hj with
    | 0, hj => simp [bv] at hj ⊢; exact hj
    | 1, hj => simp [bv] at hj ⊢; exact hj
    | j + 2, hj => simp at hj
  | i + 2, hi => simp [exF] at hi

set_option maxHeartbeats 1600000 in
theorem c_alive (w : World) : Calls Try.prog 11 #[] w fun e w' => e = .returned (.bool true) ∧ Below w.heap.size w w' := by
  have kc := fun (w : World) (C : Array Value) (n c : Nat) => Lib.run_convert_bytes_const (P := Try.prog) w 22 5 C n c Try.underlying22 Try.underlying5
  go_enter Try.func11, Try.ntmps11
  go_wp2_with fail
  refine (c_pack _ _ _ exF _ (by decide) (by decide) (ex_fields w) (by simp)).mono ?_
  rintro e w1 ⟨hb1, h1⟩
  rw [show (ByteArray.data ⟨#[49, 98]⟩).toList = [49, 98] from rfl, ex_pack] at h1
  rcases h1 with ⟨ys, v1, hy, rfl, hs1⟩ | ⟨hy, _⟩
  case inr => cases hy
  obtain rfl := Option.some.inj hy
  clear hy
  go_wp2_with fail
  have hsl : Sl (w1.heap.size + 1) (w1.alloc (.cells #[.int .u8 7, .int .u8 0, .int .u8 2, .int .u8 120, .int .u8 121] 5)) (.slice (some ⟨w1.heap.size, 0, none⟩) 5 5) exB.length (exB.map bv) := (sl_lit w1 #[.int .u8 7, .int .u8 0, .int .u8 2, .int .u8 120, .int .u8 121] 5 5 (by omega))
  refine (c_unpack _ _ _ exB _ (by decide) hsl (by simp)).mono ?_
  rintro e w2 ⟨hb2, h2⟩
  rw [show (ByteArray.data ⟨#[49, 98]⟩).toList = [49, 98] from rfl, ex_unpack] at h2
  rcases h2 with ⟨fs, v2, hy, rfl, hf2⟩ | ⟨hy, _⟩
  case inr => cases hy
  obtain rfl := Option.some.inj hy
  clear hy hsl
  have hbB : Below w1.heap.size w1 w2 := ((Below.refl _ _).alloc (Nat.le_refl _) _).trans (hb2.mono (by simp))
  have hbA : Below w.heap.size w w2 := ((((Below.refl _ _).alloc (Nat.le_refl _) _).alloc (by simp) _).trans (hb1.mono (by simp; omega))).trans (hbB.mono (by have := hb1.size; simp at this; omega))
  have hcv1 := run_string_sl 22 5 9 Try.underlying22 Try.underlying5 Try.underlying9 (hs1.keep hbB)
  obtain ⟨ao, cap, rfl, h3⟩ := hf2
  have hf2 : FieldsAt w2.heap.size w2 (.slice ao exF.length cap) exF := ⟨ao, cap, rfl, h3⟩
  obtain ⟨b, off, bv0, rfl, _, hc0, hc1, _, _, _⟩ := fields_get hf2 0 (by decide)
  obtain ⟨b', off', bv1, he, _, hc2, hc3, hs3, _, _⟩ := fields_get hf2 1 (by decide)
  simp only [Option.some.injEq, Addr.mk.injEq, and_true] at he
  obtain ⟨rfl, rfl⟩ := he
  have hcv2 := run_string_sl 22 5 9 Try.underlying22 Try.underlying5 Try.underlying9 hs3
  obtain ⟨bo, bc, rfl⟩ := sl_form hs3
  have hc0 : w2.cell? ⟨b, off, none⟩ = some (.int .u64 7) := hc0
  have hc3 : w2.cell? ⟨b, off + 2 + 1, none⟩ = some (.slice bo 2 bc) := hc3
  have hcv2 : (convert 22 9 (.slice bo 2 bc)).run Try.prog w2 = .ok (.string ⟨#[120, 121]⟩) w2 := hcv2
  have hcv1 : (convert 22 9 v1).run Try.prog w2 = .ok (.string ⟨#[7, 0, 2, 120, 121]⟩) w2 := hcv1
  have hbH : Hid (Below w.heap.size w w2) := hbA
  clear hs1 hb1 hb2 hbB hbA hs3 h3 hf2 hc1 hc2 kc
  go_wp2
  go_ret
  exact ⟨rfl, hbH.out⟩
end Go.Proofs.Ytfnokdgfbhlccaa
