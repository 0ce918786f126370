/-
  The document's answer for layer 2: numbers as bytes; packing.
-/
import Derived.Test.YtihdhlciblkbiaaRows
import Derived.Test.YtihdhlciblkbiaaCodecW4
namespace Go.Proofs.Ytihdhlciblkbiaa
set_option linter.unusedVariables false
set_option linter.unusedSimpArgs false
set_option maxRecDepth 20000
open Go.RowKit

def numTo (k n j : Nat) : List UInt8 := List.replicate (k - j) 0 ++ (be k n).drop (k - j)

theorem numTo_length (k n j : Nat) (h : j ≤ k) : (numTo k n j).length = k := by
  unfold numTo
  rw [List.length_append, List.length_replicate, List.length_drop, be_length]
  omega

theorem numTo_zero (k n : Nat) : numTo k n 0 = List.replicate k 0 := by
  unfold numTo
  rw [Nat.sub_zero, List.drop_of_length_le (by rw [be_length]; omega), List.append_nil]

theorem numTo_all (k n : Nat) : numTo k n k = be k n := by simp [numTo]

theorem numTo_succ (k n j m : Nat) (h : m + j + 1 = k) : (numTo k n j).set m (UInt8.ofNat (n / 256 ^ j)) = numTo k n (j + 1) := by
  have hb := be_get k n m (by omega)
  rw [show k - 1 - m = j by omega] at hb
  have hd : (be k n).drop m = UInt8.ofNat (n / 256 ^ j) :: (be k n).drop (m + 1) := by
    rw [List.drop_eq_getElem_cons (by rw [be_length]; omega)]
    congr 1
    rw [List.getElem?_eq_getElem (by rw [be_length]; omega)] at hb
    exact Option.some.inj hb
  unfold numTo
  rw [show k - j = m + 1 by omega, show k - (j + 1) = m by omega, hd, List.replicate_succ', List.append_assoc, List.set_append_right _ _ (by simp)]
  simp

theorem byte_of_mod (n j : Nat) : Value.int .u8 (((n / 256 ^ j : Nat) : Int) % 256) = bv (UInt8.ofNat (n / 256 ^ j)) := by
  rw [bv]
  simp

theorem div_test (n j : Nat) : ((n : Int) / 256 ^ j == 0) = decide (n < 256 ^ j) := by
  have e : (n : Int) / 256 ^ j = ((n / 256 ^ j : Nat) : Int) := by simp
  rw [e, Bool.eq_iff_iff, beq_iff_eq, decide_eq_true_iff]
  constructor
  · intro h
    have h' : n / 256 ^ j = 0 := by omega
    rcases Nat.div_eq_zero_iff.1 h' with h0 | h0
    · have := Nat.pow_pos (n := j) (show 0 < 256 by decide); omega
    · exact h0
  · intro h
    rw [Nat.div_eq_of_lt h]; rfl

set_option maxHeartbeats 800000 in
theorem c_refNumberO (k n : Nat) (w : World) (hk : k ≤ 8) (hn : n < 18446744073709551616) :
    Calls Try.prog 51 #[.int .u64 n, .int .i64 k] w fun e w' => ∃ v', e = .returned (.tuple #[v', .bool (decide (n < 256 ^ k))]) ∧ w'.ownsRow w.heap.size 5 1 v' k ((be k n).map bv) ∧ Below w.heap.size w w' := by
  obtain ⟨i0, hi, hz0, hz1, hz2⟩ := info_parts Try.info5
  go_enter Try.func51, Try.ntmps51
  go_wp2_with (at_make; refine wpList_make_full _ rfl _ _ 37 rfl w.heap.size 5 i0 (.int .u8 0) 1 Try.underlying37 hi hz0 hz1 _ _ _ _ k rfl rfl rfl rfl (by rw [hz2]; omega) (by unfold maxLen; omega) (Nat.le_refl _) ?_)
  intro w1 hown hgrow
  have hb1 : Below w.heap.size w w1 := (Below.refl _ _).grown hgrow (Nat.le_refl _) (by intro k hk; cases hk)
  have hown : w1.ownsRow w.heap.size 5 1 (.slice (some ⟨w.heap.size, 0, none⟩) k k) k ((numTo k n 0).map bv) := by
    have e : (madeCells #[Value.int .u8 0] k).toList = (numTo k n 0).map bv := by
      rw [numTo_zero, toList_madeCells_one]
      simp [bv]
    rw [← e]
    exact hown
  clear hgrow
  go_wp2
  go_loopw [0, 7] (fun u i wr => ∃ (j : Nat) (iv : Int), j ≤ k ∧ i = .int .i64 iv ∧ iv + j + 1 = k ∧ u = .int .u64 (n / 256 ^ j : Nat) ∧ wr.ownsRow w.heap.size 5 1 (.slice (some ⟨w.heap.size, 0, none⟩) k k) k ((numTo k n j).map bv) ∧ Below w.heap.size w wr) (fun _ i _ => ((intOf i) + 1).toNat)
  case atStart => exact ⟨0, _, Nat.zero_le _, rfl, by omega, by simp, hown, hb1⟩
  case round =>
    obtain ⟨j, iv, hj, rfl, hiv, rfl, hown1, hbel⟩ := hrel
    by_cases hlt : j < k
    · obtain ⟨m, rfl⟩ : ∃ m : Nat, iv = m := ⟨iv.toNat, by omega⟩
      have hcm := hown1.cellAt m (by omega)
      rw [List.getElem?_map, List.getElem?_eq_getElem (by rw [numTo_length k n j hj]; omega)] at hcm
      simp only [Option.map_some] at hcm
      have hzm := hown1.frozenAt m
      have hst := (hown1.stored m (bv (UInt8.ofNat (n / 256 ^ j)))).1
      rw [← List.map_set, numTo_succ k n j m (by omega)] at hst
      have hb2 : Below w.heap.size w (wr.setCell ⟨w.heap.size, m, none⟩ (bv (UInt8.ofNat (n / 256 ^ j)))) := hbel.setCell (Nat.le_refl _) _
      have hdiv : Hid (n / 256 ^ j / 256 = n / 256 ^ (j + 1)) := by unfold Hid; rw [Nat.div_div_eq_div_mul, Nat.pow_succ]
      have hq : n / 256 ^ j < 18446744073709551616 := Nat.lt_of_le_of_lt (Nat.div_le_self _ _) hn
      have H : Hid ((wr.setCell ⟨w.heap.size, m, none⟩ (bv (UInt8.ofNat (n / 256 ^ j)))).ownsRow w.heap.size 5 1 (.slice (some ⟨w.heap.size, 0, none⟩) k k) k ((numTo k n (j + 1)).map bv) ∧ Below w.heap.size w (wr.setCell ⟨w.heap.size, m, none⟩ (bv (UInt8.ofNat (n / 256 ^ j))))) := ⟨hst, hb2⟩
      rw [← byte_of_mod] at H
      clear hst hb2 hown1 hbel
      generalize n / 256 ^ j = q at *
      go_wp2
      go_roundw
      case rel => exact ⟨j + 1, _, by omega, rfl, by omega, by rw [← hdiv.out]; rfl, H.out.1, H.out.2⟩
      case measure => simp [intOf]
    · have hjk : j = k := by omega
      subst hjk
      have ht := div_test n j
      rw [numTo_all] at hown1
      go_wp2
      go_ret2
      exact ⟨_, rfl, hown1, hbel⟩

theorem c_refNumber (k n : Nat) (w : World) (hk : k ≤ 8) (hn : n < 18446744073709551616) :
    Calls Try.prog 51 #[.int .u64 n, .int .i64 k] w fun e w' => ∃ v', e = .returned (.tuple #[v', .bool (decide (n < 256 ^ k))]) ∧ Sl w'.heap.size w' v' k ((be k n).map bv) ∧ Below w.heap.size w w' :=
  (c_refNumberO k n w hk hn).mono fun e w' ⟨v', h1, h2, h3⟩ => ⟨v', h1, sl_of_owns h2, h3⟩
end Go.Proofs.Ytihdhlciblkbiaa
