/-
  What each function of the document's answer for package num hands back, as a plain function of the bits; and Do of both.
-/
import Derived.Test.YthokoalkaolkbaaWalks
namespace Go.Proofs.Ythokoalkaolkbaa
open Go.RowKit

theorem and_low {a : Int} (h0 : 0 ≤ a) (h1 : a < 18446744073709551616) : bits .and .u64 a 4503599627370495 = a % 4503599627370496 :=
  bits_mask .u64 64 (by decide) (fun n g0 g1 => by rw [IntKind.wrap_u64]; omega) 52 (by decide) a h0 (by omega)
theorem and_exp {a : Int} (h0 : 0 ≤ a) (h1 : a < 18446744073709551616) : bits .and .u64 a 2047 = a % 2048 :=
  bits_mask .u64 64 (by decide) (fun n g0 g1 => by rw [IntKind.wrap_u64]; omega) 11 (by decide) a h0 (by omega)

theorem c_parts (a : Int) (h0 : 0 ≤ a) (h1 : a < 18446744073709551616) (w : World) :
    Calls Try.prog 25 #[.int .u64 a] w fun e w' => e = .returned (.tuple #[.int .u64 (a / 9223372036854775808), .int .u64 (a / 4503599627370496 % 2048), .int .u64 (a % 4503599627370496)]) ∧ w = w' := by
  have k1 := and_low h0 h1
  have k2 := and_exp (a := a / 4503599627370496) (by omega) (by omega)
  clear h0 h1
  go_enter Try.func25, Try.ntmps25
  go_wp2
  go_ret3
  exact ⟨rfl, rfl⟩

theorem nan_parts {a : Int} (h0 : 0 ≤ a) : nanB a.toNat = decide (a / 4503599627370496 % 2048 = 2047 ∧ a % 4503599627370496 ≠ 0) := by
  rw [nanB_iff]
  exact decide_eq_decide.2 (by omega)

theorem c_rcanon (a : Int) (h0 : 0 ≤ a) (h1 : a < 18446744073709551616) (w : World) :
    Calls Try.prog 12 #[.int .u64 a] w fun e w' => e = .returned (.int .u64 (canonV a)) ∧ w = w' := by
  have hp := c_parts a h0 h1
  have hn := nan_parts h0
  unfold canonV
  generalize a / 4503599627370496 % 2048 = e at hp hn
  generalize a % 4503599627370496 = f at hp hn
  generalize a / 9223372036854775808 = s at hp
  clear h0 h1
  by_cases he : e = 2047
  · by_cases hf : f = 0
    · have e1 : (e == 2047) = true := by simpa using he
      have f1 : (f != 0) = false := by simpa using hf
      rw [decide_eq_false (by omega)] at hn
      rw [hn]
      clear hn he hf
      go_enter Try.func12, Try.ntmps12
      go_wp2_with (go_at_call 25; refine (hp _).mono ?_; rintro _ _ ⟨rfl, rfl⟩)
      go_ret
      exact ⟨rfl, rfl⟩
    · have e1 : (e == 2047) = true := by simpa using he
      have f1 : (f != 0) = true := by simpa using hf
      rw [decide_eq_true (by omega)] at hn
      rw [hn]
      clear hn he hf
      go_enter Try.func12, Try.ntmps12
      go_wp2_with (go_at_call 25; refine (hp _).mono ?_; rintro _ _ ⟨rfl, rfl⟩)
      go_ret
      exact ⟨rfl, rfl⟩
  · have e1 : (e == 2047) = false := by simpa using he
    rw [decide_eq_false (by omega)] at hn
    rw [hn]
    clear hn he
    go_enter Try.func12, Try.ntmps12
    go_wp2_with (go_at_call 25; refine (hp _).mono ?_; rintro _ _ ⟨rfl, rfl⟩)
    go_ret
    exact ⟨rfl, rfl⟩

theorem c_rkey (a : Int) (h0 : 0 ≤ a) (h1 : a < 18446744073709551616) (w : World) :
    Calls Try.prog 17 #[.int .u64 a] w fun e w' => e = .returned (.int .u64 (keyV a)) ∧ w = w' := by
  have hc := c_rcanon a h0 h1
  have hb := canonV_bounds h0 h1
  unfold keyV
  generalize canonV a = c at *
  clear h0 h1
  by_cases g : c < 9223372036854775808
  · rw [if_pos g]
    have hx : IntKind.u64.wrap (c + 9223372036854775808) = c + 9223372036854775808 := by rw [IntKind.wrap_u64]; omega
    clear hb
    go_enter Try.func17, Try.ntmps17
    go_wp2_with (go_at_call 12; refine (hc _).mono ?_; rintro _ _ ⟨rfl, rfl⟩)
    go_ret
    exact ⟨rfl, rfl⟩
  · rw [if_neg g]
    have hx : IntKind.u64.wrap (18446744073709551615 - c) = 18446744073709551615 - c := by rw [IntKind.wrap_u64]; omega
    clear hb
    go_enter Try.func17, Try.ntmps17
    go_wp2_with (go_at_call 12; refine (hc _).mono ?_; rintro _ _ ⟨rfl, rfl⟩)
    go_ret
    exact ⟨rfl, rfl⟩

theorem c_rless (a b : Int) (h0 : 0 ≤ a) (h1 : a < 18446744073709551616) (g0 : 0 ≤ b) (g1 : b < 18446744073709551616) (w : World) :
    Calls Try.prog 18 #[.int .u64 a, .int .u64 b] w fun e w' => e = .returned (.bool (lessV a b)) ∧ w = w' := by
  rw [less_key h0 h1 g0 g1]
  go_enter Try.func18, Try.ntmps18
  go_wp2_with (go_at_call 17; refine (c_rkey _ (by assumption) (by assumption) _).mono ?_; rintro _ _ ⟨rfl, rfl⟩)
  go_ret
  exact ⟨rfl, rfl⟩

theorem c_rkind (a : Int) (h0 : 0 ≤ a) (h1 : a < 18446744073709551616) (w : World) :
    Calls Try.prog 13 #[.int .u64 a] w fun e w' => e = .returned (.int .i64 (kindV a.toNat)) ∧ w = w' := by
  have hp := c_parts a h0 h1
  have hv : kindV a.toNat = if a / 4503599627370496 % 2048 = 2047 then (if a % 4503599627370496 = 0 then 3 + a / 9223372036854775808 else 5) else (if a / 4503599627370496 % 2048 = 0 ∧ a % 4503599627370496 = 0 then 1 + a / 9223372036854775808 else 0) := by
    unfold kindV
    split <;> split <;> (try split) <;> omega
  have hs : wrap64 (a / 9223372036854775808) = a / 9223372036854775808 := by unfold wrap64; omega
  have hs1 : wrap64 (3 + a / 9223372036854775808) = 3 + a / 9223372036854775808 := by unfold wrap64; omega
  have hs2 : wrap64 (1 + a / 9223372036854775808) = 1 + a / 9223372036854775808 := by unfold wrap64; omega
  rw [hv]
  clear hv
  generalize a / 4503599627370496 % 2048 = e at *
  generalize a % 4503599627370496 = f at *
  generalize a / 9223372036854775808 = s at *
  clear h0 h1
  by_cases he : e = 2047
  · by_cases hf : f = 0
    · subst he hf
      rw [if_pos rfl, if_pos rfl]
      go_enter Try.func13, Try.ntmps13
      go_wp2_with (go_at_call 25; refine (hp _).mono ?_; rintro _ _ ⟨rfl, rfl⟩)
      go_ret
      exact ⟨by show Ending.returned (.int .i64 (wrap64 (3 + s))) = _; rw [hs1], rfl⟩
    · subst he
      have f1 : (f != 0) = true := by simpa using hf
      rw [if_pos rfl, if_neg hf]
      clear hf
      go_enter Try.func13, Try.ntmps13
      go_wp2_with (go_at_call 25; refine (hp _).mono ?_; rintro _ _ ⟨rfl, rfl⟩)
      go_ret
      exact ⟨rfl, rfl⟩
  · have e1 : (e == 2047) = false := by simpa using he
    rw [if_neg he]
    by_cases hz : e = 0
    · subst hz
      by_cases hf : f = 0
      · subst hf
        rw [if_pos ⟨rfl, rfl⟩]
        clear he
        go_enter Try.func13, Try.ntmps13
        go_wp2_with (go_at_call 25; refine (hp _).mono ?_; rintro _ _ ⟨rfl, rfl⟩)
        go_ret
        exact ⟨by show Ending.returned (.int .i64 (wrap64 (1 + s))) = _; rw [hs2], rfl⟩
      · have f1 : (f == 0) = false := by simpa using hf
        rw [if_neg (by omega)]
        clear he hf
        go_enter Try.func13, Try.ntmps13
        go_wp2_with (go_at_call 25; refine (hp _).mono ?_; rintro _ _ ⟨rfl, rfl⟩)
        go_ret
        exact ⟨rfl, rfl⟩
    · have z1 : (e == 0) = false := by simpa using hz
      rw [if_neg (by omega)]
      clear he hz
      go_enter Try.func13, Try.ntmps13
      go_wp2_with (go_at_call 25; refine (hp _).mono ?_; rintro _ _ ⟨rfl, rfl⟩)
      go_ret
      exact ⟨rfl, rfl⟩
end Go.Proofs.Ythokoalkaolkbaa
