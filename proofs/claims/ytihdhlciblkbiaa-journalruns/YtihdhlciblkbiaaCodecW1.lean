/-
  What the small functions of package codec and of the document's answer for it hand back.
-/
import Derived.Test.YtihdhlciblkbiaaRows
import Derived.Test.YtihdhlciblkbiaaCodecPlain
import Derived.Test.YtihdhlciblkbiaaLibMem
namespace Go.Proofs.Ytihdhlciblkbiaa
set_option linter.unusedVariables false
set_option linter.unusedSimpArgs false
set_option maxRecDepth 20000
open Go.RowKit

def err21 : PanicEntry := { v := .iface 41 (.int .i64 21), recovered := false }

theorem c_must_yes (w : World) :
    Calls Try.prog 58 #[.bool true] w fun e w' => e = .returned (.tuple #[]) ∧ w = w' := by
  go_enter Try.func58, Try.ntmps58
  go_wp2
  go_end0
  exact ⟨rfl, rfl⟩

theorem c_must_no (w : World) :
    Calls Try.prog 58 #[.bool false] w fun e w' => e = .panicked [err21] ∧ w = w' := by
  go_enter Try.func58, Try.ntmps58
  go_wp2
  exact ⟨rfl, rfl, rfl⟩

theorem c_widthOf_yes (x k : Int) (h : (x = 49 ∧ k = 1) ∨ (x = 50 ∧ k = 2) ∨ (x = 52 ∧ k = 4) ∨ (x = 56 ∧ k = 8)) (w : World) :
    Calls Try.prog 67 #[.int .u8 x] w fun e w' => e = .returned (.int .i64 k) ∧ w = w' := by
  rcases h with ⟨rfl, rfl⟩ | ⟨rfl, rfl⟩ | ⟨rfl, rfl⟩ | ⟨rfl, rfl⟩ <;>
  · go_enter Try.func67, Try.ntmps67
    go_wp2
    go_ret
    exact ⟨rfl, rfl⟩

theorem c_widthOf_no (x : Int) (h1 : (x == 49) = false) (h2 : (x == 50) = false) (h3 : (x == 52) = false) (h4 : (x == 56) = false) (w : World) :
    Calls Try.prog 67 #[.int .u8 x] w fun e w' => e = .panicked [err21] ∧ w = w' := by
  go_enter Try.func67, Try.ntmps67
  go_wp2
  exact ⟨rfl, rfl, rfl⟩

theorem c_width_yes (x k : Int) (h : (x = 49 ∧ k = 1) ∨ (x = 50 ∧ k = 2) ∨ (x = 52 ∧ k = 4) ∨ (x = 56 ∧ k = 8) ∨ (x = 98 ∧ k = 0)) (w : World) :
    Calls Try.prog 50 #[.int .u8 x] w fun e w' => e = .returned (.int .i64 k) ∧ w = w' := by
  rcases h with ⟨rfl, rfl⟩ | ⟨rfl, rfl⟩ | ⟨rfl, rfl⟩ | ⟨rfl, rfl⟩ | ⟨rfl, rfl⟩ <;>
  · go_enter Try.func50, Try.ntmps50
    go_wp2
    go_ret
    exact ⟨rfl, rfl⟩

theorem c_width_no (x : Int) (h1 : (x == 49) = false) (h2 : (x == 50) = false) (h3 : (x == 52) = false) (h4 : (x == 56) = false) (h5 : (x == 98) = false) (w : World) :
    Calls Try.prog 50 #[.int .u8 x] w fun e w' => e = .returned (.int .i64 (-1)) ∧ w = w' := by
  go_enter Try.func50, Try.ntmps50
  go_wp2
  go_ret
  exact ⟨rfl, rfl⟩

set_option maxHeartbeats 400000 in
theorem c_take_yes (R n len cap : Nat) (ao : Option Addr) (w : World) (hr : w.cell? ⟨R, 0, none⟩ = some (.slice ao len cap)) (hf : w.frozen? ⟨R, 0, none⟩ = false)
    (hn : n ≤ len) (hc : len ≤ cap) (hm : cap ≤ maxLen) :
    Calls Try.prog 71 #[.pointer (some ⟨R, 0, none⟩), .int .i64 n] w fun e w' => e = .returned (.slice ao n cap) ∧ w' = w.setCell ⟨R, 0, none⟩ (cut1 ao n len cap) := by
  unfold maxLen at hm
  go_enter Try.func71, Try.ntmps71
  go_wp2_with (go_at_call 58; refine (c_must_yes _).mono ?_; rintro e w' ⟨rfl, rfl⟩)
  all_goals
    go_ret
    exact ⟨rfl, by simp [cut1, sliced, *]⟩

set_option maxHeartbeats 400000 in
theorem c_take_no (R n len cap : Nat) (ao : Option Addr) (w : World) (hr : w.cell? ⟨R, 0, none⟩ = some (.slice ao len cap))
    (hn : len < n) (hc : len ≤ cap) (hm : cap ≤ maxLen) :
    Calls Try.prog 71 #[.pointer (some ⟨R, 0, none⟩), .int .i64 n] w fun e w' => e = .panicked [err21] ∧ w = w' := by
  unfold maxLen at hm
  have hd : decide (n ≤ len) = false := decide_eq_false (by omega)
  go_enter Try.func71, Try.ntmps71
  go_wp2_with (go_at_call 58; refine (c_must_no _).mono ?_; rintro e w' ⟨rfl, rfl⟩)
  exact ⟨rfl, rfl, rfl⟩

theorem close_or (n : Nat) (x : UInt8) (h : Hid (n < 72057594037927936)) :
    Value.int .u64 (bits .or .u64 (IntKind.u64.wrap ((n : Int) * 256)) (IntKind.u64.wrap (x.toNat : Int))) = .int .u64 ((n * 256 + x.toNat : Nat) : Int) := by
  have h := h.out
  have hx : x.toNat < 256 := x.toNat_lt
  have e1 : IntKind.u64.wrap ((n : Int) * 256) = ((n * 256 : Nat) : Int) := by rw [IntKind.wrap_u64]; omega
  have e2 : IntKind.u64.wrap (x.toNat : Int) = (x.toNat : Int) := by rw [IntKind.wrap_u64]; omega
  rw [e1, e2, bits_or_u64_nat (n * 256) x.toNat (by omega) (by omega)]
  congr 2
  rw [show (256 : Nat) = 2 ^ 8 from rfl, Nat.mul_comm n, ← Nat.two_pow_add_eq_or_of_lt (by omega) n]

theorem close_add (n : Nat) (x : UInt8) (h : Hid (n < 72057594037927936)) :
    Value.int .u64 (IntKind.u64.wrap (IntKind.u64.wrap ((n : Int) * 256) + IntKind.u64.wrap (x.toNat : Int))) = .int .u64 ((n * 256 + x.toNat : Nat) : Int) := by
  have h := h.out
  have hx : x.toNat < 256 := x.toNat_lt
  congr 1
  rw [IntKind.wrap_u64, IntKind.wrap_u64, IntKind.wrap_u64]
  omega

theorem take_val_snoc (xs : List UInt8) (k : Nat) (h : k < xs.length) : val (xs.take (k + 1)) = val (xs.take k) * 256 + xs[k].toNat := by
  rw [List.take_succ_eq_append_getElem h, val_snoc]

theorem take_val_lt (xs : List UInt8) (k : Nat) (h : k < 8) : val (xs.take k) < 72057594037927936 := by
  have h1 := val_lt (xs.take k)
  have h2 : (xs.take k).length ≤ 7 := by rw [List.length_take]; omega
  have h3 : 256 ^ (xs.take k).length ≤ 256 ^ 7 := Nat.pow_le_pow_right (by decide) h2
  omega

set_option maxHeartbeats 800000 in
theorem c_number_yes (K R n cap : Nat) (ao : Option Addr) (xs : List UInt8) (w : World) (hr : w.cell? ⟨R, 0, none⟩ = some (.slice ao xs.length cap)) (hf : w.frozen? ⟨R, 0, none⟩ = false)
    (hs : Sl K w (.slice ao xs.length cap) xs.length (xs.map bv)) (hK : K ≤ R) (hn : n ≤ xs.length) (h8 : n ≤ 8) (hc : xs.length ≤ cap) (hm : cap ≤ maxLen) :
    Calls Try.prog 70 #[.pointer (some ⟨R, 0, none⟩), .int .i64 n] w fun e w' => e = .returned (.int .u64 (val (xs.take n) : Nat)) ∧ w' = w.setCell ⟨R, 0, none⟩ (cut1 ao n xs.length cap) := by
  go_enter Try.func70, Try.ntmps70
  go_wp2_with (go_at_call 71; refine (c_take_yes R n xs.length cap ao _ hr hf hn hc hm).mono ?_; rintro e w' ⟨rfl, rfl⟩)
  go_loop [5, 12] (fun u i => ∃ k : Nat, k ≤ n ∧ i = .int .i64 k ∧ u = .int .u64 (val (xs.take k) : Nat)) (fun _ i => n - (intOf i).toNat)
  case atStart => exact ⟨0, Nat.zero_le _, rfl, rfl⟩
  case round =>
    obtain ⟨k, hk, rfl, rfl⟩ := hrel
    by_cases hlt : k < n
    · obtain ⟨b, off, rfl, hbK, hcell⟩ := sl_bytes_get hs k (by omega)
      have hcell' : (w.setCell ⟨R, 0, none⟩ (cut1 (some ⟨b, off, none⟩) n xs.length cap)).cell? ⟨b, off + k, none⟩ = some (.int .u8 ((xs[k]'(by omega)).toNat : Int)) := by
        rw [World.cell?_setCell_other _ _ _ _ (by intro e; have := congrArg Addr.block e; simp at this; omega)]; exact hcell
      have H1 : Hid (val (xs.take (k + 1)) = val (xs.take k) * 256 + (xs[k]'(by omega)).toNat) := take_val_snoc xs k (by omega)
      have hv : Hid (val (xs.take k) < 72057594037927936) := take_val_lt xs k (by omega)
      generalize val (xs.take k) = m at *
      go_wp2
      go_round
      case rel => exact ⟨k + 1, by omega, by go_num, by rw [H1.out]; exact close_or m _ hv⟩
      case measure => simp [intOf]; omega
    · go_wp2
      go_ret
      have : k = n := by omega
      subst this
      exact ⟨rfl, rfl⟩

theorem c_number_no (R n len cap : Nat) (ao : Option Addr) (w : World) (hr : w.cell? ⟨R, 0, none⟩ = some (.slice ao len cap))
    (hn : len < n) (hc : len ≤ cap) (hm : cap ≤ maxLen) :
    Calls Try.prog 70 #[.pointer (some ⟨R, 0, none⟩), .int .i64 n] w fun e w' => e = .panicked [err21] ∧ w = w' := by
  go_enter Try.func70, Try.ntmps70
  go_wp2_with (go_at_call 71; refine (c_take_no R n len cap ao _ hr hn hc hm).mono ?_; rintro e w' ⟨rfl, rfl⟩)
  exact ⟨rfl, rfl, rfl⟩

set_option maxHeartbeats 800000 in
theorem c_refnumber (K cap : Nat) (ao : Option Addr) (xs : List UInt8) (w : World)
    (hs : Sl K w (.slice ao xs.length cap) xs.length (xs.map bv)) (h8 : xs.length ≤ 8) :
    Calls Try.prog 56 #[.slice ao xs.length cap] w fun e w' => e = .returned (.int .u64 (val xs : Nat)) ∧ w = w' := by
  go_enter Try.func56, Try.ntmps56
  go_wp2
  go_loop [3, 4] (fun u i => ∃ k : Nat, k ≤ xs.length ∧ i = .int .i64 k ∧ u = .int .u64 (val (xs.take k) : Nat)) (fun _ i => xs.length - (intOf i).toNat)
  case atStart => exact ⟨0, Nat.zero_le _, rfl, rfl⟩
  case round =>
    obtain ⟨k, hk, rfl, rfl⟩ := hrel
    by_cases hlt : k < xs.length
    · obtain ⟨b, off, rfl, hbK, hcell⟩ := sl_bytes_get hs k (by omega)
      have H1 : Hid (val (xs.take (k + 1)) = val (xs.take k) * 256 + (xs[k]'(by omega)).toNat) := take_val_snoc xs k (by omega)
      have hv : Hid (val (xs.take k) < 72057594037927936) := take_val_lt xs k (by omega)
      clear hs
      generalize val (xs.take k) = m at *
      go_wp2
      go_round
      case rel => exact ⟨k + 1, by omega, by go_num, by rw [H1.out]; exact close_add m _ hv⟩
      case measure => simp [intOf]; omega
    · go_wp2
      go_ret
      have e : xs.take k = xs := List.take_of_length_le (by omega)
      rw [e]
      exact ⟨rfl, rfl⟩
end Go.Proofs.Ytihdhlciblkbiaa
