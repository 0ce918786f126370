/-
  What is appended: a number of so many bytes, bytes behind their count, a field.
-/
import Derived.Test.YtihdhlciblkbiaaRows
import Derived.Test.YtihdhlciblkbiaaCodecW1
namespace Go.Proofs.Ytihdhlciblkbiaa
set_option linter.unusedVariables false
set_option linter.unusedSimpArgs false
set_option maxRecDepth 20000
open Go.RowKit

theorem Try.info5 : (Try.prog.info? 5).map (fun i => (i.zero, i.size, i.bytes)) = some (some (.int .u8 0), 1, 1) := by kernel_rfl

theorem shr_test_yes (n k : Nat) (h : n < 256 ^ k) : ((n : Int) / 2 ^ (8 * k) == 0) = true := by
  have e : (2 : Int) ^ (8 * k) = ((256 ^ k : Nat) : Int) := by rw [Int.pow_mul]; simp
  rw [beq_iff_eq, e]
  exact Int.ediv_eq_zero_of_lt (by omega) (by omega)

theorem shr_test_no (n k : Nat) (h : ¬ n < 256 ^ k) : ((n : Int) / 2 ^ (8 * k) == 0) = false := by
  have e : (2 : Int) ^ (8 * k) = ((256 ^ k : Nat) : Int) := by rw [Int.pow_mul]; simp
  rw [beq_eq_false_iff_ne, e, ← Int.natCast_ediv]
  have : 0 < n / 256 ^ k := Nat.div_pos (by omega) (Nat.pow_pos (by decide))
  omega

theorem byte_of_shr (n m : Nat) : Value.int .u8 ((n : Int) / 2 ^ (8 * m) % 256) = bv (UInt8.ofNat (n / 256 ^ m)) := by
  have e : (2 : Int) ^ (8 * m) = ((256 ^ m : Nat) : Int) := by rw [Int.pow_mul]; simp
  rw [e, ← Int.natCast_ediv, bv]
  simp

/-- One round more of a number's bytes. -/
theorem owns_push {w : World} {B : Nat} {v : Value} {acc : List UInt8} {c : Value} {x : UInt8} (hc : c = bv x) (h : w.ownsRow B 5 1 v (acc.length + 1) (acc.map bv ++ [c])) :
    w.ownsRow B 5 1 v (acc ++ [x]).length ((acc ++ [x]).map bv) := by
  subst hc
  simpa using h

theorem owns_join {w : World} {B : Nat} {v : Value} {acc ys : List UInt8} (h : w.ownsRow B 5 1 v (acc.length + ys.length) (acc.map bv ++ ys.map bv)) :
    w.ownsRow B 5 1 v (acc ++ ys).length ((acc ++ ys).map bv) := by
  simpa using h

set_option maxHeartbeats 800000 in
theorem c_appendNumber_yes (B k n : Nat) (v : Value) (xs : List UInt8) (w : World) (hown : w.ownsRow B 5 1 v xs.length (xs.map bv)) (hB : B ≤ w.heap.size) (hk : k ≤ 8) (hnk : n < 256 ^ k) (hn : n < 18446744073709551616) (hx : xs.length ≤ 1000000000) :
    Calls Try.prog 66 #[v, .int .i64 k, .int .u64 n] w fun e w' => ∃ v', e = .returned v' ∧ w'.ownsRow B 5 1 v' (xs ++ be k n).length ((xs ++ be k n).map bv) ∧ Below B w w' := by
  obtain ⟨i0, hi, hz0, hz1, hz2⟩ := info_parts Try.info5
  have ht := shr_test_yes n k hnk
  go_enter Try.func66, Try.ntmps66
  go_wp2_with (go_at_call 58; refine (c_must_yes _).mono ?_; rintro e w' ⟨rfl, rfl⟩)
  go_loopw [0, 7] (fun t i wr => ∃ (j : Nat) (iv : Int) (acc : List UInt8), j ≤ k ∧ Hid (acc = xs ++ (be k n).take j) ∧ i = .int .i64 iv ∧ iv + j + 1 = k ∧ wr.ownsRow B 5 1 t acc.length (acc.map bv) ∧ Below B w wr) (fun _ i _ => ((intOf i) + 1).toNat)
  case atStart => exact ⟨0, _, xs, Nat.zero_le _, by simp [Hid], rfl, by omega, hown, Below.refl _ _⟩
  case round =>
    obtain ⟨j, iv, acc, hj, hacc, rfl, hiv, hown1, hbel⟩ := hrel
    by_cases hlt : j < k
    · obtain ⟨m, rfl⟩ : ∃ m : Nat, iv = m := ⟨iv.toNat, by omega⟩
      have hlen : acc.length ≤ 1000000008 := by rw [hacc.out, List.length_append, List.length_take, be_length]; omega
      have hsz := hbel.size
      go_wp2_with (at_builtin; refine wpList_append_sl _ rfl _ _ 37 rfl B 5 i0 (.int .u8 0) 1 1 Try.underlying37 hi hz0 hz1 hz2 rfl (by decide) _ _ _ rfl (hown1.alloc _) _ _ 1 _ rfl (sl_lit wr _ 5 1 (by omega)) rfl ?c1 ?c2 ?c3 ?c4 ?_)
      case c1 => first | rfl | (intro u hu; simp at hu; subst hu; rfl)
      case c2 => unfold maxLen; omega
      case c3 => omega
      case c4 => simp; omega
      intro v' w1 hown2 hgrow _
      have hb2 : Below B w w1 := (hbel.alloc (by omega) _).grown hgrow (by simp; omega) (owns_ge hown1)
      have hown3 := owns_push (byte_of_shr n m) hown2
      have hacc2 : Hid (acc ++ [UInt8.ofNat (n / 256 ^ m)] = xs ++ (be k n).take (j + 1)) := by
        have hb := be_get k n j hlt
        rw [show k - 1 - j = m by omega] at hb
        unfold Hid
        rw [hacc.out, List.take_add_one, hb]
        simp
      clear hown2 hgrow hown1 hbel
      go_wp2
      go_roundw
      case rel => exact ⟨j + 1, _, _, by omega, hacc2, rfl, by omega, hown3, hb2⟩
      case measure => simp [intOf]
    · have he : acc = xs ++ be k n := by rw [hacc.out, List.take_of_length_le (by rw [be_length]; omega)]
      go_wp2
      go_ret
      subst he
      exact ⟨_, rfl, hown1, hbel⟩

theorem c_appendNumber_no (k n : Nat) (v : Value) (w : World) (hk : k ≤ 8) (hnk : ¬ n < 256 ^ k) (hn : n < 18446744073709551616) :
    Calls Try.prog 66 #[v, .int .i64 k, .int .u64 n] w fun e w' => e = .panicked [err21] ∧ w = w' := by
  have ht := shr_test_no n k hnk
  go_enter Try.func66, Try.ntmps66
  go_wp2_with (go_at_call 58; refine (c_must_no _).mono ?_; rintro e w' ⟨rfl, rfl⟩)
  exact ⟨rfl, rfl, rfl⟩

set_option maxHeartbeats 800000 in
theorem c_appendBytes_yes (B K : Nat) (v bvv : Value) (xs bs : List UInt8) (w : World) (hown : w.ownsRow B 5 1 v xs.length (xs.map bv)) (hB : B ≤ w.heap.size) (hs : Sl K w bvv bs.length (bs.map bv)) (hK : K ≤ B) (hl : bs.length ≤ 1024) (hx : xs.length ≤ 1000000000) :
    Calls Try.prog 65 #[v, bvv] w fun e w' => ∃ v', e = .returned v' ∧ w'.ownsRow B 5 1 v' (xs ++ (be 2 bs.length ++ bs)).length ((xs ++ (be 2 bs.length ++ bs)).map bv) ∧ Below B w w' := by
  obtain ⟨i0, hi, hz0, hz1, hz2⟩ := info_parts Try.info5
  obtain ⟨ao, cap, rfl, hcap, hnil, hcs⟩ := hs
  have hs : Sl K w (.slice ao bs.length cap) bs.length (bs.map bv) := ⟨ao, cap, rfl, hcap, hnil, hcs⟩
  clear hcs hnil
  have hd : decide ((bs.length : Int) ≤ 1024) = true := decide_eq_true (by omega)
  go_enter Try.func65, Try.ntmps65
  go_wp2_with (first
    | (go_at_call 58; refine (c_must_yes _).mono ?_; rintro e w' ⟨rfl, rfl⟩)
    | (go_at_call 66; refine (c_appendNumber_yes B 2 bs.length v xs _ hown hB (by omega) (by omega) (by omega) hx).mono ?_; rintro e w1 ⟨v1, rfl, hown1, hb1⟩)
    | (at_builtin; refine wpList_append_sl _ rfl _ _ 37 rfl B 5 i0 (.int .u8 0) 1 1 Try.underlying37 hi hz0 hz1 hz2 rfl (by decide) _ _ _ rfl hown1 K _ _ _ rfl (hs.keep (hb1.mono hK)) (by simp) (bv_oneCell _) ?c1 ?c2 ?c3 ?_))
  case c1 => unfold maxLen; simp [be_length]; omega
  case c2 => simp [be_length]; omega
  case c3 => have := hb1.size; omega
  intro v' w2 hown2 hgrow _
  have hb2 : Below B w w2 := hb1.grown hgrow (by have := hb1.size; omega) (owns_ge hown1)
  have hown3 : w2.ownsRow B 5 1 v' (xs ++ (be 2 bs.length ++ bs)).length ((xs ++ (be 2 bs.length ++ bs)).map bv) := by simpa [Nat.add_assoc] using hown2
  clear hown2 hgrow hown1 hb1
  go_wp2
  go_ret
  exact ⟨_, rfl, hown3, hb2⟩

theorem c_appendBytes_no (v : Value) (ao : Option Addr) (len cap : Nat) (w : World) (hl : 1024 < len) (hm : len ≤ maxLen) :
    Calls Try.prog 65 #[v, .slice ao len cap] w fun e w' => e = .panicked [err21] ∧ w = w' := by
  unfold maxLen at hm
  have hd : decide ((len : Int) ≤ 1024) = false := decide_eq_false (by omega)
  go_enter Try.func65, Try.ntmps65
  go_wp2_with (go_at_call 58; refine (c_must_no _).mono ?_; rintro e w' ⟨rfl, rfl⟩)
  exact ⟨rfl, rfl, rfl⟩

set_option maxHeartbeats 800000 in
theorem c_clone (K : Nat) (ao : Option Addr) (cap : Nat) (bs : List UInt8) (w : World) (hs : Sl K w (.slice ao bs.length cap) bs.length (bs.map bv)) (hK : K ≤ w.heap.size) (hl : bs.length ≤ 1000000000) :
    Calls Try.prog 62 #[.slice ao bs.length cap] w fun e w' => ∃ v', e = .returned v' ∧ Sl w'.heap.size w' v' bs.length (bs.map bv) ∧ Below w.heap.size w w' := by
  obtain ⟨i0, hi, hz0, hz1, hz2⟩ := info_parts Try.info5
  have q22 : ∀ (w : World) (a : Option Addr) (n c n' c' : Nat), (binOp .eql 37 (.slice a n c) (.slice none n' c')).run Try.prog w = .ok (.bool a.isNone) w := fun w a n c n' c' => Lib.run_eql_slice_nil w _ _ a n c n' c' Try.underlying37
  cases ao with
  | none =>
    obtain ⟨ao', cap', hv, hcap, hnil, hcs⟩ := hs
    simp only [Value.slice.injEq, true_and] at hv
    obtain ⟨rfl, rfl⟩ := hv
    have hc0 := hnil rfl
    have hb0 : bs = [] := List.eq_nil_of_length_eq_zero (by omega)
    subst hb0
    go_enter Try.func62, Try.ntmps62
    go_wp2
    go_ret
    exact ⟨_, rfl, Sl.nil _ _, Below.refl _ _⟩
  | some ad =>
    go_enter Try.func62, Try.ntmps62
    go_wp2_with (at_builtin; refine wpList_append_sl _ rfl _ _ 37 rfl w.heap.size 5 i0 (.int .u8 0) 1 1 Try.underlying37 hi hz0 hz1 hz2 rfl (by decide) _ 0 [] rfl (World.ownsRow_lit w #[] 0 (Nat.le_refl _) (by decide) rfl) K _ bs.length (bs.map bv) rfl ?c0 (by simp) (bv_oneCell _) ?c1 ?c2 ?c3 ?_)
    case c0 => exact hs.keep ((Below.refl _ _).alloc hK _)
    case c1 => unfold maxLen; omega
    case c2 => omega
    case c3 => simp
    intro v' w2 hown2 hgrow _
    have hb2 : Below w.heap.size w w2 := ((Below.refl _ _).alloc (Nat.le_refl _) _).grown hgrow (by simp) (by intro k hk; simp [Value.ownBlock] at hk; omega)
    have hown3 : w2.ownsRow w.heap.size 5 1 v' bs.length (bs.map bv) := by simpa using hown2
    clear hown2 hgrow
    go_wp2
    go_ret
    exact ⟨_, rfl, sl_of_owns hown3, hb2⟩
end Go.Proofs.Ytihdhlciblkbiaa
