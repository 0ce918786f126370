/-
  Ranges exchanged and blocks rotated, in memory.
-/
import Derived.Test.YtimgelekpghklaaLabS1
import Derived.Test.YtimgelekpghklaaLabPlain2
namespace Go.Proofs.Ytimgelekpghklaa
set_option linter.unusedVariables false
set_option linter.unusedSimpArgs false
set_option maxRecDepth 20000
open Go.RowKit

def mk1V : Value := .func (.func 43) #[] #[]

set_option maxHeartbeats 1600000 in
theorem c_swapR {g : Nat} {xs : List Cat} {tl : List Value} (cap a b n : Nat) (w : World) (h : CB w g xs tl) (hab : a + n ≤ b) (hb : b + n ≤ xs.length) (hc : xs.length ≤ cap) (hm : cap ≤ 9223372036854775807) :
    Calls Try.prog 65 #[.slice (some ⟨g, 0, none⟩) xs.length cap, .int .i64 a, .int .i64 b, .int .i64 n, mk1V] w fun e w' => e = .returned (.tuple #[]) ∧ ∃ ys, CB w' g ys tl ∧ ExR xs ys a b n ∧ Fr (fun k => k = g) w w' := by
  unfold mk1V
  go_enter Try.func65, Try.ntmps65
  go_wp2
  go_loopw [10] (fun iv wr => ∃ (i : Nat) (zs : List Cat), i ≤ n ∧ iv = .int .i64 i ∧ CB wr g zs tl ∧ ExR xs zs a b i ∧ Fr (fun k => k = g) w wr) (fun iv _ => n - (intOf iv).toNat)
  case atStart => exact ⟨0, xs, Nat.zero_le _, rfl, h, ExR.zero _ _ _, Fr.refl _ _⟩
  case round =>
    obtain ⟨i, zs, hin, rfl, hcb, hex, hfr⟩ := hrel
    have hl := hex.1
    by_cases hlt : i < n
    · have hex' : Hid _ := hex.step (by omega) (by omega)
      have hcb4 : Hid _ := hcb.swap (a + i) (b + i) (by omega) (by omega)
      obtain ⟨c1, c2⟩ := hcb.gets (a + i) (by omega)
      obtain ⟨c3, c4⟩ := hcb.gets (b + i) (by omega)
      generalize gt zs (a + i) = x at *
      generalize gt zs (b + i) = y at *
      have f1 : ∀ k, wr.frozen? ⟨g, k, none⟩ = false := fun k => hcb.free k
      have hfr4 : Hid (∀ u1 u2 u3 u4, Fr (fun k => k = g) w ((((wr.setCell ⟨g, (a + i) * 2, none⟩ u1).setCell ⟨g, (a + i) * 2 + 1, none⟩ u2).setCell ⟨g, (b + i) * 2, none⟩ u3).setCell ⟨g, (b + i) * 2 + 1, none⟩ u4)) := fun u1 u2 u3 u4 => (((hfr.setCell (p := ⟨g, _, none⟩) (.inl rfl) _).setCell (p := ⟨g, _, none⟩) (.inl rfl) _).setCell (p := ⟨g, _, none⟩) (.inl rfl) _).setCell (p := ⟨g, _, none⟩) (.inl rfl) _
      have hbi : b + i < xs.length := by omega
      have hai : a + i < xs.length := by omega
      clear hcb hex hfr
      go_wp2
      go_region
      all_goals go_wp2
      all_goals go_roundw
      case rel => exact ⟨i + 1, _, by omega, by go_num, hcb4.out, hex'.out, (hfr4.out _ _ _ _).drew⟩
      case measure => simp [intOf]; omega
    · go_wp2
      go_end0
      have : i = n := by omega
      subst this
      exact ⟨rfl, zs, hcb, hex, hfr⟩

set_option maxHeartbeats 1600000 in
theorem c_rotate {g : Nat} {xs : List Cat} {tl : List Value} (cap a m b : Nat) (w : World) (h : CB w g xs tl) (ham : a < m) (hmb : m < b) (hb : b ≤ xs.length) (hc : xs.length ≤ cap) (hm : cap ≤ 9223372036854775807) :
    Calls Try.prog 64 #[.slice (some ⟨g, 0, none⟩) xs.length cap, .int .i64 a, .int .i64 m, .int .i64 b, mk1V] w fun e w' => e = .returned (.tuple #[]) ∧ ∃ ys, CB w' g ys tl ∧ Rot xs ys a m b ∧ Fr (fun k => k = g) w w' := by
  go_enter Try.func64, Try.ntmps64
  go_wp2
  go_loopw [10, 11] (fun iv jv wr => ∃ (i j : Nat) (zs : List Cat), 0 < i ∧ 0 < j ∧ a + i ≤ m ∧ m + j ≤ b ∧ iv = .int .i64 i ∧ jv = .int .i64 j ∧ CB wr g zs tl ∧ zs.length = xs.length ∧ (∀ ys, Rot zs ys (m - i) m (m + j) → Rot xs ys a m b) ∧ Fr (fun k => k = g) w wr) (fun iv jv _ => (intOf iv).toNat + (intOf jv).toNat)
  case atStart => exact ⟨m - a, b - m, xs, by omega, by omega, by omega, by omega, by go_num, by go_num, h, rfl, fun ys hy => by rwa [show m - (m - a) = a by omega, show m + (b - m) = b by omega] at hy, Fr.refl _ _⟩
  case round =>
    obtain ⟨i, j, zs, hi, hj, hai, hjb, rfl, rfl, hcb, hl, hrot, hfr⟩ := hrel
    rcases Nat.lt_trichotomy i j with hij | hij | hij
    · have hcon := c_swapR cap (m - i) (m + j - i) i wr hcb (by omega) (by omega) (by omega) hm
      rw [hl, show ((m - i : Nat) : Int) = (m : Int) - (i : Int) by omega, show ((m + j - i : Nat) : Int) = (m : Int) + (j : Int) - (i : Int) by omega] at hcon
      have hcon : Hid _ := hcon
      have hst : Hid (∀ y1 ys, ExR zs y1 (m - i) (m + j - i) i → Rot y1 ys (m - i) m (m + (j - i)) → Rot xs ys a m b) := fun y1 ys h1 h2 => hrot ys (rot_lt hij (by omega) h1 h2)
      clear hrot hcb
      go_wp2_with (go_at_call 65; refine Calls.mono hcon.out ?_; rintro e w2 ⟨rfl, y1, h1, h2, h3⟩)
      go_roundw
      case rel => exact ⟨i, j - i, y1, hi, by omega, hai, by omega, rfl, by go_num, h1, h2.1.trans hl, fun ys hy => hst.out y1 ys h2 hy, hfr.trans h3 (fun _ h => .inl h)⟩
      case measure => simp [intOf]; omega
    · subst hij
      have hcon := c_swapR cap (m - i) m i wr hcb (by omega) (by omega) (by omega) hm
      rw [hl, show ((m - i : Nat) : Int) = (m : Int) - (i : Int) by omega] at hcon
      have hcon : Hid _ := hcon
      have hst : Hid (∀ y1, ExR zs y1 (m - i) m i → Rot xs y1 a m b) := fun y1 h1 => hrot y1 (rot_eq (by omega) h1)
      clear hrot hcb
      go_wp2_with (go_at_call 65; refine Calls.mono hcon.out ?_; rintro e w2 ⟨rfl, y1, h1, h2, h3⟩)
      go_end0
      exact ⟨rfl, y1, h1, hst.out y1 h2, hfr.trans h3 (fun _ h => .inl h)⟩
    · have hcon := c_swapR cap (m - i) m j wr hcb (by omega) (by omega) (by omega) hm
      rw [hl, show ((m - i : Nat) : Int) = (m : Int) - (i : Int) by omega] at hcon
      have hcon : Hid _ := hcon
      have hst : Hid (∀ y1 ys, ExR zs y1 (m - i) m j → Rot y1 ys (m - (i - j)) m (m + j) → Rot xs ys a m b) := fun y1 ys h1 h2 => hrot ys (rot_gt hij (by omega) h1 h2)
      clear hrot hcb
      go_wp2_with (go_at_call 65; refine Calls.mono hcon.out ?_; rintro e w2 ⟨rfl, y1, h1, h2, h3⟩)
      go_roundw
      case rel => exact ⟨i - j, j, y1, by omega, hj, by omega, hjb, by go_num, rfl, h1, h2.1.trans hl, fun ys hy => hst.out y1 ys h2 hy, hfr.trans h3 (fun _ h => .inl h)⟩
      case measure => simp [intOf]; omega
end Go.Proofs.Ytimgelekpghklaa
