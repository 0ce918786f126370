/-
  What the functions of package crc and of the document's answer for it hand back.
-/
import Derived.Test.YtihdhlciblkbiaaRows
import Derived.Test.YtihdhlciblkbiaaCrcPlain
import Derived.Test.YtihdhlciblkbiaaLibMem
namespace Go.Proofs.Ytihdhlciblkbiaa
set_option linter.unusedVariables false
set_option linter.unusedSimpArgs false
set_option maxRecDepth 20000
open Go.RowKit

set_option maxHeartbeats 400000 in
theorem c_move (n : BitVec 32) (w : World) :
    Calls Try.prog 68 #[.int .u32 (tn n)] w fun e w' => e = .returned (.int .u32 (tn (mv n))) ∧ w = w' := by
  go_enter Try.func68, Try.ntmps68
  go_wp2
  go_loop [0, 4] (fun u i => ∃ k : Nat, k ≤ 8 ∧ i = .int .i64 k ∧ u = .int .u32 (tn (stps k n))) (fun _ i => 8 - (intOf i).toNat)
  case atStart => exact ⟨0, Nat.zero_le _, rfl, rfl⟩
  case round =>
    obtain ⟨k, hk, rfl, rfl⟩ := hrel
    by_cases hlt : k < 8
    · have H1 : Hid (stps (k + 1) n = stp (stps k n)) := rfl
      generalize stps k n = a at *
      have ha := and_one a
      have l0 := tn_lo a
      have l1 := tn_hi a
      rcases tn_parity a with h2 | h2
      · have H2 : Hid (tn a / 2 = tn (stp a)) := close_even a h2
        rw [h2] at ha
        clear h2
        go_wp2
        go_round
        case rel => exact ⟨k + 1, by omega, by go_num, by rw [H1.out, ← H2.out]⟩
        case measure => simp [intOf]; omega
      · have H2 : bits .xor .u32 (tn a / 2) 3988292384 = tn (stp a) := close_odd a h2
        rw [h2] at ha
        clear h2
        go_wp2
        go_round
        case rel => exact ⟨k + 1, by omega, by go_num, by rw [H1.out]⟩
        case measure => simp [intOf]; omega
    · go_wp2
      go_ret
      have : k = 8 := by omega
      subst this
      exact ⟨rfl, rfl⟩

set_option maxHeartbeats 400000 in
theorem c_add (s : BitVec 32) (K : Nat) (v : Value) (xs : List UInt8) (w : World) (hs : Sl K w v xs.length (xs.map bv)) (hl : xs.length ≤ 140737488355328) :
    Calls Try.prog 60 #[.int .u32 (tn s), v] w fun e w' => e = .returned (.int .u32 (tn (crcAdd s xs))) ∧ w = w' := by
  obtain ⟨ao, cap, rfl, h3⟩ := hs
  have hs : Sl K w (.slice ao xs.length cap) xs.length (xs.map bv) := ⟨ao, cap, rfl, h3⟩
  clear h3
  have hn := bits_not_u32 s
  go_enter Try.func60, Try.ntmps60
  go_wp2
  go_loop [5, 12] (fun u i => ∃ k : Nat, k ≤ xs.length ∧ i = .int .i64 k ∧ u = .int .u32 (tn (raw (nt s) (xs.take k)))) (fun _ i => xs.length - (intOf i).toNat)
  case atStart => exact ⟨0, Nat.zero_le _, rfl, rfl⟩
  case round =>
    obtain ⟨k, hk, rfl, rfl⟩ := hrel
    by_cases hlt : k < xs.length
    · obtain ⟨b, off, rfl, hbK, hcell⟩ := sl_bytes_get hs k hlt
      have H1 : Hid (raw (nt s) (xs.take (k + 1)) = mv (xb (raw (nt s) (xs.take k)) xs[k])) := raw_take_succ _ xs k hlt
      clear hs hn
      generalize raw (nt s) (xs.take k) = a at *
      have hc := close_with a xs[k]
      go_wp2_with (go_at_call 68; refine (c_move (xb a xs[k]) _).mono ?_; rintro e w' ⟨rfl, rfl⟩)
      go_round
      case rel => exact ⟨k + 1, by omega, by go_num, by rw [H1.out]⟩
      case measure => simp [intOf]; omega
    · have e : xs.take k = xs := List.take_of_length_le (by omega)
      rw [e]
      clear e
      have hn2 := bits_not_u32 (raw (nt s) xs)
      go_wp2
      go_ret
      exact ⟨rfl, rfl⟩
end Go.Proofs.Ytihdhlciblkbiaa
