/-
  The reader's fields.
-/
import Derived.Test.YtihdhlciblkbiaaRows
import Derived.Test.YtihdhlciblkbiaaCodecU1
namespace Go.Proofs.Ytihdhlciblkbiaa
set_option linter.unusedVariables false
set_option linter.unusedSimpArgs false
set_option maxRecDepth 20000
open Go.RowKit

/-- w2 is w1 but for block C. -/
structure ButAt (C : Nat) (w1 w2 : World) : Prop where
  os : w2.os = w1.os
  tape : w2.tape = w1.tape
  output : w2.output = w1.output
  size : w2.heap.size = w1.heap.size
  block : ∀ k, k ≠ C → w2.heap[k]? = w1.heap[k]?

theorem butAt_two (w1 : World) (C i j : Nat) (u v : Value) : ButAt C w1 ((w1.setCell ⟨C, i, none⟩ u).setCell ⟨C, j, none⟩ v) :=
  ⟨rfl, rfl, rfl, by simp [World.setCell], fun k hk => by rw [Below.heap_setCell _ _ _ _ hk, Below.heap_setCell _ _ _ _ hk]⟩

theorem RdAt.but {K R C : Nat} {w1 w2 : World} {xs : List UInt8} {ao : Option Addr} {cap : Nat} (h : RdAt K R w1 xs ao cap) (hb : ButAt C w1 w2) (hC : K ≤ C) (hR : R ≠ C) : RdAt K R w2 xs ao cap :=
  ⟨(hb.block R hR).trans h.blk, h.sl.keep ⟨hb.os, hb.tape, hb.output, by rw [hb.size]; exact Nat.le_refl _, fun k hk => hb.block k (by omega)⟩, h.le, h.lec, h.max⟩

theorem Fresh.but {C : Nat} {w w1 w2 : World} {v : Value} {bs : List UInt8} (h : Fresh w w1 v bs) (hb : ButAt C w1 w2) (hC : C < w.heap.size) : Fresh w w2 v bs :=
  Slp.keep h fun b hx => ⟨⟨hx.1, by rw [hb.size]; exact hx.2⟩, hb.block b (by omega)⟩

theorem grown_but {R C : Nat} {w w1 w2 : World} (h : (w.grownBy w1 (some R))) (hb : ButAt C w1 w2) (hC : w.heap.size ≤ C) : w.grownBy w2 (some R) :=
  ⟨hb.os.trans h.os, hb.tape.trans h.tape, hb.output.trans h.output, by rw [hb.size]; exact h.size, fun k hk hne => (hb.block k (by omega)).trans (h.block k hk hne)⟩

theorem grown_alloc {R : Nat} {w w1 : World} {o : Obj} (h : (w.alloc o).grownBy w1 (some R)) : w.grownBy w1 (some R) :=
  grown_trans (World.grownBy_alloc w o _) h

/-- Facts on the result's cell behind a call. -/
theorem res_cells {R : Nat} {w w1 : World} {x y : Value} (h : (w.alloc (.cells #[x, y] 79)).grownBy w1 (some R)) (hR : R < w.heap.size) :
    w1.cell? ⟨w.heap.size, 0, none⟩ = some x ∧ w1.cell? ⟨w.heap.size, 1, none⟩ = some y ∧ w1.frozen? ⟨w.heap.size, 0, none⟩ = false ∧ w1.frozen? ⟨w.heap.size, 1, none⟩ = false := by
  have hb : w1.heap[w.heap.size]? = some (.cells #[x, y] 79 (0, 0)) := (h.block w.heap.size (by simp) (by simp; omega)).trans (heap_alloc_new w _)
  simp [World.cell?, World.frozen?, hb]

set_option maxHeartbeats 800000 in
theorem c_field_b {K R : Nat} {w : World} {xs : List UInt8} {ao : Option Addr} {cap : Nat} (h : RdAt K R w xs ao cap) (h2 : 2 ≤ xs.length) (h1 : val (xs.take 2) ≤ 1024) (h3 : val (xs.take 2) ≤ (xs.drop 2).length) :
    Calls Try.prog 64 #[.pointer (some ⟨R, 0, none⟩), .int .u8 98] w fun e w' => ∃ v', e = .returned (.agg #[.int .u64 0, v']) ∧ Fresh w w' v' (cntB xs) ∧ (∃ ao' cap', RdAt K R w' (cntR xs) ao' cap') ∧ w.grownBy w' (some R) := by
  have hlt := lt_of_block h.blk
  have hle := h.le
  have hA : RdAt K R (w.alloc (.cells #[.int .u64 0, .slice none 0 0] 79)) xs ao cap := rdAt_keep h ((Below.refl _ _).alloc (Nat.le_refl _) _)
  go_enter Try.func64, Try.ntmps64
  go_wp2_with fail
  refine (c_counted hA h2 h1 h3).mono ?_
  rintro e w1 ⟨v1, rfl, hf1, ⟨ao1, cap1, hr1⟩, hg1⟩
  obtain ⟨hc0, hc1, hz0, hz1⟩ := res_cells hg1 hlt
  obtain ⟨a1, l1, c1, rfl⟩ : ∃ a1 l1 c1, v1 = .slice a1 l1 c1 := by
    obtain ⟨a1, c1, hv, _⟩ := hf1
    exact ⟨a1, _, c1, hv⟩
  have hbut := butAt_two w1 w.heap.size 0 1 (.int .u64 0) (.slice a1 l1 c1)
  have hF := (Fresh.but hf1 hbut (by simp)).later (w := w) (by simp)
  have hR := hr1.but hbut (by omega) (by omega)
  have hG := grown_but (grown_alloc hg1) hbut (Nat.le_refl _)
  clear hf1 hr1 hg1 hA hbut
  go_wp2
  exact bodyPost_ret (v := .agg #[.int .u64 0, .slice a1 l1 c1]) (by simp [results, Try.results64, go_sem, hc0, hc1]) rfl ⟨_, rfl, hF, ⟨ao1, cap1, hR⟩, hG⟩

set_option maxHeartbeats 800000 in
theorem c_field_n {K R : Nat} {w : World} {xs : List UInt8} {ao : Option Addr} {cap : Nat} (c : Int) (k : Nat) (h : RdAt K R w xs ao cap) (hc98 : (c == 98) = false)
    (hc : Hid ((c = 49 ∧ (k : Int) = 1) ∨ (c = 50 ∧ (k : Int) = 2) ∨ (c = 52 ∧ (k : Int) = 4) ∨ (c = 56 ∧ (k : Int) = 8))) (hk : k ≤ xs.length) :
    Calls Try.prog 64 #[.pointer (some ⟨R, 0, none⟩), .int .u8 c] w fun e w' => e = .returned (.agg #[.int .u64 (val (xs.take k) : Nat), .slice none 0 0]) ∧ (∃ ao' cap', RdAt K R w' (xs.drop k) ao' cap') ∧ w.grownBy w' (some R) := by
  have hlt := lt_of_block h.blk
  have hle := h.le
  have hk8 : k ≤ 8 := by have := hc.out; omega
  have hA : RdAt K R (w.alloc (.cells #[.int .u64 0, .slice none 0 0] 79)) xs ao cap := rdAt_keep h ((Below.refl _ _).alloc (Nat.le_refl _) _)
  go_enter Try.func64, Try.ntmps64
  go_wp2_with (go_at_call 67; refine (c_widthOf_yes _ k hc.out _).mono ?_; rintro e w' ⟨rfl, rfl⟩)
  refine (c_number (n := k) hA hk hk8).mono ?_
  rintro e w1 ⟨rfl, ⟨ao1, hr1⟩, hg1⟩
  obtain ⟨hc0, hc1, hz0, hz1⟩ := res_cells hg1 hlt
  generalize hq : val (xs.take k) = q
  have Hq : Hid (val (xs.take k) = q) := hq
  clear hq
  have hbut := butAt_two w1 w.heap.size 0 1 (.int .u64 (q : Nat)) (.slice none 0 0)
  have hR := hr1.but hbut (by omega) (by omega)
  have hG := grown_but (grown_alloc hg1) hbut (Nat.le_refl _)
  clear hr1 hg1 hA hbut
  go_wp2
  exact bodyPost_ret (v := .agg #[.int .u64 (q : Nat), .slice none 0 0]) (by simp [results, Try.results64, go_sem, hc0, hc1]) rfl ⟨by rw [Hq.out], ⟨ao1, _, hR⟩, hG⟩

set_option maxHeartbeats 800000 in
theorem c_field_short {K R : Nat} {w : World} {xs : List UInt8} {ao : Option Addr} {cap : Nat} (c : Int) (k : Nat) (h : RdAt K R w xs ao cap) (hc98 : (c == 98) = false)
    (hc : Hid ((c = 49 ∧ (k : Int) = 1) ∨ (c = 50 ∧ (k : Int) = 2) ∨ (c = 52 ∧ (k : Int) = 4) ∨ (c = 56 ∧ (k : Int) = 8))) (hk : ¬ k ≤ xs.length) :
    Calls Try.prog 64 #[.pointer (some ⟨R, 0, none⟩), .int .u8 c] w fun e w' => e = .panicked [err21] ∧ w.grownBy w' (some R) := by
  have hA : RdAt K R (w.alloc (.cells #[.int .u64 0, .slice none 0 0] 79)) xs ao cap := rdAt_keep h ((Below.refl _ _).alloc (Nat.le_refl _) _)
  go_enter Try.func64, Try.ntmps64
  go_wp2_with (go_at_call 67; refine (c_widthOf_yes _ k hc.out _).mono ?_; rintro e w' ⟨rfl, rfl⟩)
  refine (c_number_no R k xs.length cap ao _ (cell_of_one hA.blk) (by omega) h.lec h.max).mono ?_
  rintro e w1 ⟨rfl, rfl⟩
  exact ⟨rfl, rfl, World.grownBy_alloc w _ _⟩

set_option maxHeartbeats 800000 in
theorem c_field_none {R : Nat} {w : World} (c : Int) (hc98 : (c == 98) = false) (h1 : (c == 49) = false) (h2 : (c == 50) = false) (h3 : (c == 52) = false) (h4 : (c == 56) = false) :
    Calls Try.prog 64 #[.pointer (some ⟨R, 0, none⟩), .int .u8 c] w fun e w' => e = .panicked [err21] ∧ w.grownBy w' (some R) := by
  go_enter Try.func64, Try.ntmps64
  go_wp2_with (go_at_call 67; refine (c_widthOf_no _ h1 h2 h3 h4 _).mono ?_; rintro e w' ⟨rfl, rfl⟩)
  exact ⟨rfl, rfl, World.grownBy_alloc w _ _⟩

set_option maxHeartbeats 800000 in
theorem c_field_bad {K R : Nat} {w : World} {xs : List UInt8} {ao : Option Addr} {cap : Nat} (h : RdAt K R w xs ao cap) (hb : ¬ (2 ≤ xs.length ∧ val (xs.take 2) ≤ 1024 ∧ val (xs.take 2) ≤ (xs.drop 2).length)) :
    Calls Try.prog 64 #[.pointer (some ⟨R, 0, none⟩), .int .u8 98] w fun e w' => e = .panicked [err21] ∧ w.grownBy w' (some R) := by
  have hA : RdAt K R (w.alloc (.cells #[.int .u64 0, .slice none 0 0] 79)) xs ao cap := rdAt_keep h ((Below.refl _ _).alloc (Nat.le_refl _) _)
  have hbad : Calls Try.prog 69 #[.pointer (some ⟨R, 0, none⟩)] (w.alloc (.cells #[.int .u64 0, .slice none 0 0] 79)) fun e w' => e = .panicked [err21] ∧ (w.alloc (.cells #[.int .u64 0, .slice none 0 0] 79)).grownBy w' (some R) := by
    by_cases h1 : 2 ≤ xs.length
    · by_cases h2 : val (xs.take 2) ≤ 1024
      · exact c_counted_cut hA h1 h2 (fun h3 => hb ⟨h1, h2, h3⟩)
      · exact c_counted_long hA h1 h2
    · exact c_counted_short hA h1
  have hbad : Hid (Calls Try.prog 69 #[.pointer (some ⟨R, 0, none⟩)] (w.alloc (.cells #[.int .u64 0, .slice none 0 0] 79)) fun e w' => e = .panicked [err21] ∧ (w.alloc (.cells #[.int .u64 0, .slice none 0 0] 79)).grownBy w' (some R)) := hbad
  go_enter Try.func64, Try.ntmps64
  go_wp2_with fail
  refine hbad.out.mono ?_
  rintro e w1 ⟨rfl, hg⟩
  exact ⟨rfl, rfl, grown_alloc hg⟩

/-- A field read: by the plain function, or given up. -/
def FieldRead (K R : Nat) (c : UInt8) (xs : List UInt8) (w : World) (e : Ending) (w' : World) : Prop :=
  w.grownBy w' (some R) ∧
    ((∃ f r bvv ao' cap', unpF c xs = some (f, r) ∧ e = .returned (.agg #[.int .u64 (f.num : Nat), bvv]) ∧ Fresh w w' bvv f.bytes ∧ RdAt K R w' r ao' cap' ∧ f.num < 18446744073709551616 ∧ f.bytes.length ≤ 1024) ∨
     (unpF c xs = none ∧ e = .panicked [err21]))

theorem c_field {K R : Nat} {w : World} {xs : List UInt8} {ao : Option Addr} {cap : Nat} (c : UInt8) (h : RdAt K R w xs ao cap) :
    Calls Try.prog 64 #[.pointer (some ⟨R, 0, none⟩), .int .u8 (c.toNat : Int)] w fun e w' => FieldRead K R c xs w e w' := by
  by_cases h98 : c = 98
  · subst h98
    by_cases hb : 2 ≤ xs.length ∧ val (xs.take 2) ≤ 1024 ∧ val (xs.take 2) ≤ (xs.drop 2).length
    · refine (c_field_b h hb.1 hb.2.1 hb.2.2).mono ?_
      rintro e w' ⟨v', he, hf, ⟨ao', cap', hr⟩, hg⟩
      exact ⟨hg, .inl ⟨⟨0, cntB xs⟩, cntR xs, v', ao', cap', by simp only [unpF, if_true]; rw [if_pos hb]; rfl, he, hf, hr, by show (0 : Nat) < _; omega, by show (cntB xs).length ≤ 1024; unfold cntB; rw [List.length_take]; omega⟩⟩
    · refine (c_field_bad h hb).mono ?_
      rintro e w' ⟨he, hg⟩
      exact ⟨hg, .inr ⟨by simp only [unpF, if_true]; rw [if_neg hb], he⟩⟩
  · cases hw : wdt c with
    | none =>
      obtain ⟨h1, h2, h3, h4⟩ := wdt_none hw
      refine (c_field_none (c.toNat : Int) (byte_ne h98 98 rfl) h1 h2 h3 h4).mono ?_
      rintro e w' ⟨he, hg⟩
      exact ⟨hg, .inr ⟨by simp [unpF, h98, hw], he⟩⟩
    | some k =>
      have hk := wdt_int hw
      by_cases hlt : k ≤ xs.length
      · refine (c_field_n (c.toNat : Int) k h (byte_ne h98 98 rfl) hk hlt).mono ?_
        rintro e w' ⟨he, ⟨ao', cap', hr⟩, hg⟩
        refine ⟨hg, .inl ⟨⟨val (xs.take k), []⟩, xs.drop k, _, ao', cap', by simp [unpF, h98, hw, hlt], he, fresh_nil _ _, hr, ?_, by simp⟩⟩
        have h1 := val_lt (xs.take k)
        have h2 : (xs.take k).length ≤ 8 := by rw [List.length_take]; omega
        have h3 : 256 ^ (xs.take k).length ≤ 256 ^ 8 := Nat.pow_le_pow_right (by decide) h2
        show val (xs.take k) < _
        omega
      · refine (c_field_short (c.toNat : Int) k h (byte_ne h98 98 rfl) hk hlt).mono ?_
        rintro e w' ⟨he, hg⟩
        exact ⟨hg, .inr ⟨by simp [unpF, h98, hw, hlt], he⟩⟩
end Go.Proofs.Ytihdhlciblkbiaa
