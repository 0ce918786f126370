/-
  The stable sort of categories.
-/
import Derived.Test.YtimgelekpghklaaLabS5
import Derived.Test.YtimgelekpghklaaLabPlain3
namespace Go.Proofs.Ytimgelekpghklaa
set_option linter.unusedVariables false
set_option linter.unusedSimpArgs false
set_option maxRecDepth 20000
open Go.RowKit

set_option maxHeartbeats 3200000 in
theorem c_stable {g : Nat} {xs : List Cat} {tl : List Value} (cap n : Nat) (w : World) (h : CB w g xs tl) (hn : Hid (xs.length = n)) (hc : n ≤ cap) (hm : cap ≤ 9223372036854775807) (hbig : n ≤ 1152921504606846976) :
    Calls Try.prog 55 #[.slice (some ⟨g, 0, none⟩) n cap, .int .i64 n, mk1V] w fun e w' => e = .returned (.tuple #[]) ∧ ∃ ys, CB w' g ys tl ∧ Stab xs ys ∧ Fr (fun k => k = g) w w' := by
  go_enter Try.func55, Try.ntmps55
  go_wp2
  go_loopw [7, 8] (fun av bv wr => ∃ (q A : Nat) (zs : List Cat), Hid (A = q * 20) ∧ A ≤ n ∧ av = .int .i64 A ∧ bv = .int .i64 ((A : Int) + 20) ∧ CB wr g zs tl ∧ Hid (Sw 0 n xs zs ∧ Fst 20 (q * 20) zs) ∧ Fr (fun k => k = g) w wr) (fun av _ _ => n - (intOf av).toNat)
  case atStart => exact ⟨0, 0, xs, rfl, Nat.zero_le _, rfl, rfl, h, ⟨Sw.refl _ _ _, ⟨fun i j h1 h2 => by omega⟩⟩, Fr.refl _ _⟩
  case round =>
    clear h
    obtain ⟨q, A, zs, hA, hAn, rfl, rfl, hcb, hz, hfr⟩ := hrel
    have hzl : Hid (zs.length = n) := hz.out.1.1.trans hn.out
    by_cases hlt : A + 20 ≤ n
    · have hcon := c_insertion (xs := zs) cap A (A + 20) wr hcb (by omega) (by rw [hzl.out]; omega) (by rw [hzl.out]; exact hc) hm
      rw [hzl.out, show ((A + 20 : Nat) : Int) = (A : Int) + 20 by omega] at hcon
      have hcon : Hid _ := hcon
      have hst : Hid (∀ y1, Sw A (A + 20) zs y1 → Srt y1 A (A + 20) → Sw 0 n xs y1 ∧ Fst 20 ((q + 1) * 20) y1) := fun y1 q1 q2 => by
        have hA := hA.out
        subst hA
        refine ⟨hz.out.1.trans (q1.widen (Nat.zero_le _) (by omega) hlt (by have := hzl.out; omega)), ?_⟩
        have := Fst.step hz.out.2 (b := (q + 1) * 20) (Nat.le_refl _) (by rwa [show (q + 1) * 20 = q * 20 + 20 by omega]) (by rwa [show (q + 1) * 20 = q * 20 + 20 by omega])
        exact this
      clear hz hcb
      go_wp2_with (go_at_call 62; refine Calls.mono hcon.out ?_; rintro e w2 ⟨rfl, y1, h1, h2, h3, h4⟩)
      go_roundw
      case rel => exact ⟨q + 1, A + 20, y1, by unfold Hid; have := hA.out; omega, hlt, by go_num, by go_num, h1, hst.out y1 h2 h3, hfr.trans h4 (fun _ h => .inl h)⟩
      case measure => simp [intOf]; omega
    · have hcon := c_insertion (xs := zs) cap A n wr hcb (by omega) (by rw [hzl.out]; omega) (by rw [hzl.out]; exact hc) hm
      rw [hzl.out] at hcon
      have hcon : Hid _ := hcon
      have hst : Hid (∀ y1, Sw A n zs y1 → Srt y1 A n → Sw 0 n xs y1 ∧ Blk 20 n y1) := fun y1 q1 q2 => by
        have hA := hA.out
        subst hA
        refine ⟨hz.out.1.trans (q1.widen (Nat.zero_le _) (by omega) (Nat.le_refl _) (by have := hzl.out; omega)), ?_⟩
        exact (Fst.step hz.out.2 (b := n) (by omega) q1 q2).lo
      clear hz hcb
      go_wp2_with (go_at_call 62; refine Calls.mono hcon.out ?_; rintro e w2 ⟨rfl, y1, h1, h2, h3, h4⟩; refine stop_here ?_)
      unfold Hid
      have hb1 : Hid _ := hst.out y1 h2 h3
      have hfr1 := hfr.trans h4 (fun _ h => .inl h)
      clear hst hcon h2 h3 h4 hfr
      go_wp2
      clear hzl hlt
      go_loopw [6] (fun sv w3 => ∃ (s : Nat) (zs : List Cat), 0 < s ∧ sv = .int .i64 s ∧ (s ≤ 2 * n ∨ s = 20) ∧ CB w3 g zs tl ∧ Hid (Sw 0 n xs zs ∧ Blk s n zs) ∧ Fr (fun k => k = g) w w3) (fun sv _ => n - (intOf sv).toNat)
      case atStart => exact ⟨20, y1, by omega, rfl, .inr rfl, h1, hb1, hfr1⟩
      case round =>
        clear h1 hb1 hfr1
        obtain ⟨s, zs, hs, rfl, hs2, hcb, hz, hfr⟩ := hrel
        by_cases hlt : s < n
        · go_wp2
          go_loopw [7, 8] (fun av bv wr => ∃ (q A : Nat) (ys : List Cat), Hid (A = q * (2 * s)) ∧ A ≤ n ∧ av = .int .i64 A ∧ bv = .int .i64 ((A : Int) + 2 * (s : Int)) ∧ CB wr g ys tl ∧ Hid (Sw 0 n xs ys ∧ Mrg s n (q * (2 * s)) ys) ∧ Fr (fun k => k = g) w wr) (fun av _ _ => n - (intOf av).toNat)
          case atStart => exact ⟨0, 0, zs, by unfold Hid; omega, Nat.zero_le _, rfl, by go_num, hcb, ⟨hz.out.1, by rw [Nat.zero_mul]; exact Mrg.start hz.out.2⟩, hfr⟩
          case round =>
            clear hcb hz hfr
            obtain ⟨q, A, ys, hA, hAn, rfl, rfl, hcb, hz, hfr⟩ := hrel
            have hyl : Hid (ys.length = n) := hz.out.1.1.trans hn.out
            by_cases hlt2 : A + 2 * s ≤ n
            · have hcon : SymAt g tl n cap A (A + s) (A + 2 * s) ys wr := c_sym n cap hc hm hbig (A + 2 * s - A) A (A + s) (A + 2 * s) ys wr (Nat.le_refl _) hcb hyl.out (by omega) (by omega) (by rw [hyl.out]; exact hlt2) (by have hA := hA.out; subst hA; exact hz.out.2.left hs (by omega) (Nat.le_refl _)) (by have hA := hA.out; subst hA; exact hz.out.2.right hs (by omega) (Nat.le_refl _))
              unfold SymAt at hcon
              rw [show ((A + s : Nat) : Int) = (A : Int) + (s : Int) by omega, show ((A + 2 * s : Nat) : Int) = (A : Int) + 2 * (s : Int) by omega] at hcon
              have hcon : Hid _ := hcon
              have hst : Hid (∀ y1, Sw A (A + 2 * s) ys y1 → Srt y1 A (A + 2 * s) → Sw 0 n xs y1 ∧ Mrg s n ((q + 1) * (2 * s)) y1) := fun y1 q1 q2 => by
                have hA := hA.out
                subst hA
                have e : (q + 1) * (2 * s) = q * (2 * s) + 2 * s := Nat.succ_mul _ _
                refine ⟨hz.out.1.trans (q1.widen (Nat.zero_le _) (by omega) hlt2 (by have := hyl.out; omega)), ?_⟩
                exact hz.out.2.step hlt2 e.symm (by have := hyl.out; omega) q1 q2
              clear hz hcb
              go_wp2_with (go_at_call 63; refine Calls.mono hcon.out ?_; rintro e w2 ⟨rfl, y1, h1, h2, h3, h4⟩)
              go_roundw
              case rel => exact ⟨q + 1, A + 2 * s, y1, (congrArg (· + 2 * s) hA.out).trans (Nat.succ_mul q (2 * s)).symm, hlt2, by go_num, by go_num, h1, hst.out y1 h2 h3, hfr.trans h4 (fun _ h => .inl h)⟩
              case measure => simp [intOf]; omega
            · by_cases hlt3 : A + s < n
              · have hcon : SymAt g tl n cap A (A + s) n ys wr := c_sym n cap hc hm hbig (n - A) A (A + s) n ys wr (Nat.le_refl _) hcb hyl.out (by omega) (by omega) (by rw [hyl.out]; exact Nat.le_refl _) (by have hA := hA.out; subst hA; exact hz.out.2.left hs (by omega) (Nat.le_refl _)) (by have hA := hA.out; subst hA; exact hz.out.2.right hs (Nat.le_refl _) (by omega))
                unfold SymAt at hcon
                rw [show ((A + s : Nat) : Int) = (A : Int) + (s : Int) by omega] at hcon
                have hcon : Hid _ := hcon
                have hst : Hid (∀ y1, Sw A n ys y1 → Srt y1 A n → Sw 0 n xs y1 ∧ Blk (2 * s) n y1) := fun y1 q1 q2 => by
                  have hA := hA.out
                  subst hA
                  have e : (q + 1) * (2 * s) = q * (2 * s) + 2 * s := Nat.succ_mul _ _
                  refine ⟨hz.out.1.trans (q1.widen (Nat.zero_le _) (by omega) (Nat.le_refl _) (by have := hyl.out; omega)), ?_⟩
                  exact hz.out.2.last (by omega) q1 q2
                clear hz hcb
                go_wp2_with (go_at_call 63; refine Calls.mono hcon.out ?_; rintro e w2 ⟨rfl, y1, h1, h2, h3, h4⟩)
                go_roundw
                case rel => exact ⟨2 * s, y1, by omega, by go_num, .inl (by omega), h1, hst.out y1 h2 h3, hfr.trans h4 (fun _ h => .inl h)⟩
                case measure => simp [intOf]; omega
              · have hst : Hid (Sw 0 n xs ys ∧ Blk (2 * s) n ys) := ⟨hz.out.1, by have hA := hA.out; subst hA; exact hz.out.2.none hs (by omega)⟩
                clear hz
                go_wp2
                go_roundw
                case rel => exact ⟨2 * s, ys, by omega, by go_num, .inl (by omega), hcb, hst, hfr⟩
                case measure => simp [intOf]; omega
        · go_wp2
          go_end0
          have h1 : Sw 0 xs.length xs zs := by rw [hn.out]; exact hz.out.1
          have h2 : Srt zs 0 xs.length := by rw [hn.out]; exact hz.out.2.all (by omega)
          exact ⟨rfl, zs, hcb, stab_of h1 h2, hfr⟩
theorem c_sortS {g : Nat} {xs : List Cat} {tl : List Value} (cap n : Nat) (w : World) (h : CB w g xs tl) (hn : Hid (xs.length = n)) (hc : n ≤ cap) (hm : cap ≤ 9223372036854775807) (hbig : n ≤ 1152921504606846976) :
    Calls Try.prog 42 #[.slice (some ⟨g, 0, none⟩) n cap, mk1V] w fun e w' => e = .returned (.tuple #[]) ∧ ∃ ys, CB w' g ys tl ∧ Stab xs ys ∧ Fr (fun k => k = g) w w' := by
  have hcon : Hid _ := c_stable cap n w h hn hc hm hbig
  go_enter Try.func42, Try.ntmps42
  go_wp2_with (go_at_call 55; refine Calls.mono hcon.out ?_; rintro e w2 ⟨rfl, y1, h1, h2, h3⟩)
  go_end0
  exact ⟨rfl, y1, h1, h2, h3⟩

/-- Of nothing. -/
theorem c_insertion0 (v : Value) (w : World) :
    Calls Try.prog 62 #[v, .int .i64 0, .int .i64 0, mk1V] w fun e w' => e = .returned (.tuple #[]) ∧ w = w' := by
  go_enter Try.func62, Try.ntmps62
  go_wp2
  go_loopw [8] (fun i wr => i = .int .i64 1 ∧ w = wr) (fun _ _ => 0)
  case atStart => exact ⟨rfl, rfl⟩
  case round =>
    obtain ⟨rfl, rfl⟩ := hrel
    go_wp2
    go_end0
    exact ⟨rfl, rfl⟩

theorem c_stable0 (v : Value) (w : World) :
    Calls Try.prog 55 #[v, .int .i64 0, mk1V] w fun e w' => e = .returned (.tuple #[]) ∧ w = w' := by
  go_enter Try.func55, Try.ntmps55
  go_wp2
  go_loopw [7, 8] (fun a b wr => a = .int .i64 0 ∧ b = .int .i64 20 ∧ w = wr) (fun _ _ _ => 0)
  case atStart => exact ⟨rfl, rfl, rfl⟩
  case round =>
    obtain ⟨rfl, rfl, rfl⟩ := hrel
    go_wp2_with (go_at_call 62; refine Calls.mono (c_insertion0 _ _) ?_; rintro e w2 ⟨rfl, rfl⟩)
    go_loopw [6] (fun s wr => s = .int .i64 20 ∧ w = wr) (fun _ _ => 0)
    case atStart => exact ⟨rfl, rfl⟩
    case round =>
      obtain ⟨rfl, rfl⟩ := hrel
      go_wp2
      go_end0
      exact ⟨rfl, rfl⟩

theorem c_sortS0 (w : World) :
    Calls Try.prog 42 #[.slice none 0 0, mk1V] w fun e w' => e = .returned (.tuple #[]) ∧ w = w' := by
  go_enter Try.func42, Try.ntmps42
  go_wp2_with (go_at_call 55; refine Calls.mono (c_stable0 _ _) ?_; rintro e w2 ⟨rfl, rfl⟩)
  go_end0
  exact ⟨rfl, rfl⟩
end Go.Proofs.Ytimgelekpghklaa
