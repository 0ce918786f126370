/-
  Two sorted parts merged in place: one of them of one category.
-/
import Derived.Test.YtimgelekpghklaaLabS2
namespace Go.Proofs.Ytimgelekpghklaa
set_option linter.unusedVariables false
set_option linter.unusedSimpArgs false
set_option maxRecDepth 20000
open Go.RowKit

def SymPost (g : Nat) (tl : List Value) (xs : List Cat) (a b : Nat) (w : World) (e : Ending) (w' : World) : Prop := e = .returned (.tuple #[]) ∧ ∃ ys, CB w' g ys tl ∧ Sw a b xs ys ∧ Srt ys a b ∧ Fr (fun k => k = g) w w'

set_option maxHeartbeats 1600000 in
theorem c_sym1 {g : Nat} {xs : List Cat} {tl : List Value} (cap a m b : Nat) (w : World) (h : CB w g xs tl) (hma : m = a + 1) (hmb : m < b) (hb : b ≤ xs.length) (hc : xs.length ≤ cap) (hm : cap ≤ 9223372036854775807) (hbig : xs.length ≤ 1152921504606846976) (hs : Srt xs m b) :
    Calls Try.prog 63 #[.slice (some ⟨g, 0, none⟩) xs.length cap, .int .i64 a, .int .i64 m, .int .i64 b, mk1V] w (SymPost g tl xs a b w) := by
  obtain ⟨x, hx⟩ : ∃ x, Hid (x = gt xs a) := ⟨_, rfl⟩
  have hs : Hid (Srt xs m b) := hs
  unfold mk1V
  have hm1 : m ≤ a + 1 := by omega
  have hm2 : a < m := by omega
  have hd : (((m : Int) - (a : Int)) == 1) = true := by simp; omega
  replace hma : Hid (m = a + 1) := hma
  go_enter Try.func63, Try.ntmps63
  go_wp2
  clear hd
  go_loopw [10, 11] (fun i j wr => ∃ p q : Nat, i = .int .i64 p ∧ j = .int .i64 q ∧ m ≤ p ∧ p ≤ q ∧ q ≤ b ∧ Hid (∀ k, m ≤ k → k < p → ky xs k < ky xs a) ∧ Hid (∀ k, q ≤ k → k < b → ky xs a ≤ ky xs k) ∧ CB wr g xs tl ∧ Nw w wr) (fun i j _ => (intOf j).toNat - (intOf i).toNat)
  case atStart => exact ⟨m, b, rfl, rfl, Nat.le_refl _, by omega, Nat.le_refl _, fun k h1 h2 => by omega, fun k h1 h2 => by omega, h, nw_refl _⟩
  case round =>
    obtain ⟨p, q, rfl, rfl, h1, h2, h3, i1, i2, hcb, hnw⟩ := hrel
    clear h
    by_cases hlt : p < q
    · obtain ⟨c1, c2⟩ := hcb.gets ((p + q) / 2) (by omega)
      obtain ⟨c3, c4⟩ := hcb.gets a (by omega)
      obtain ⟨y, hy⟩ : ∃ y, Hid (y = gt xs ((p + q) / 2)) := ⟨_, rfl⟩
      rw [← hy.out] at c1 c2
      rw [← hx.out] at c3 c4
      have hmid1 : (p + q) / 2 < xs.length := by omega
      have hmt : (((p : Int) + (q : Int)) / 2).toNat = (p + q) / 2 := by omega
      have hal : a < xs.length := by omega
      go_wp2
      have hS : (fun w' : World => w'.cell? ⟨g, (p + q) / 2 * 2, none⟩ = some (.int .u64 y.1) ∧ w'.cell? ⟨g, (p + q) / 2 * 2 + 1, none⟩ = some (.int .i64 y.2) ∧ w'.cell? ⟨g, a * 2, none⟩ = some (.int .u64 x.1) ∧ w'.cell? ⟨g, a * 2 + 1, none⟩ = some (.int .i64 x.2)) wr.drew := ⟨c1, c2, c3, c4⟩
      refine wp_region_ord [] 9 [(0, true), (1, true), (2, true), (3, true), (4, true), (5, true), (6, true), (7, true), (8, true)] (fun w' : World => w'.cell? ⟨g, (p + q) / 2 * 2, none⟩ = some (.int .u64 y.1) ∧ w'.cell? ⟨g, (p + q) / 2 * 2 + 1, none⟩ = some (.int .i64 y.2) ∧ w'.cell? ⟨g, a * 2, none⟩ = some (.int .u64 x.1) ∧ w'.cell? ⟨g, a * 2 + 1, none⟩ = some (.int .i64 x.2)) (by kernel_rfl) (by kernel_rfl) ?_
      refine ord_quietL _ ?_ rfl hS rfl ?_ ?_
      rotate_left
      · rintro w' ⟨hS1, hS2, hS3, hS4⟩; go_simp; first | rfl | (rw [if_pos (by omega)]; done) | (rw [if_pos (by omega)]; rfl) | (rw [if_pos (by omega)]; go_simp; rfl)
      simp only [Act.put, List.setIfInBounds_toArray, List.set_cons_zero, List.set_cons_succ]
      refine ord_quietL _ ?_ rfl hS rfl ?_ ?_
      rotate_left
      · rintro w' ⟨hS1, hS2, hS3, hS4⟩; go_simp; first | rfl | (rw [if_pos (by omega)]; done) | (rw [if_pos (by omega)]; rfl) | (rw [if_pos (by omega)]; go_simp; rfl)
      simp only [Act.put, List.setIfInBounds_toArray, List.set_cons_zero, List.set_cons_succ]
      refine ord_quietL _ ?_ rfl hS rfl ?_ ?_
      rotate_left
      · rintro w' ⟨hS1, hS2, hS3, hS4⟩; go_simp; first | rfl | (rw [if_pos (by omega)]; done) | (rw [if_pos (by omega)]; rfl) | (rw [if_pos (by omega)]; go_simp; rfl)
      simp only [Act.put, List.setIfInBounds_toArray, List.set_cons_zero, List.set_cons_succ]
      refine ord_quietL _ ?_ rfl hS rfl ?_ ?_
      rotate_left
      · rintro w' ⟨hS1, hS2, hS3, hS4⟩; go_simp; first | rfl | (rw [if_pos (by omega)]; done) | (rw [if_pos (by omega)]; rfl) | (rw [if_pos (by omega)]; go_simp; rfl)
      simp only [Act.put, List.setIfInBounds_toArray, List.set_cons_zero, List.set_cons_succ]
      refine ord_quietL _ ?_ rfl hS rfl ?_ ?_
      rotate_left
      · rintro w' ⟨hS1, hS2, hS3, hS4⟩; go_simp; first | rfl | (rw [if_pos (by omega)]; done) | (rw [if_pos (by omega)]; rfl) | (rw [if_pos (by omega)]; go_simp; rfl)
      simp only [Act.put, List.setIfInBounds_toArray, List.set_cons_zero, List.set_cons_succ]
      refine ord_quietL _ ?_ rfl hS rfl ?_ ?_
      rotate_left
      · rintro w' ⟨hS1, hS2, hS3, hS4⟩; go_simp; first | rfl | (rw [if_pos (by omega)]; done) | (rw [if_pos (by omega)]; rfl) | (rw [if_pos (by omega)]; go_simp; rfl)
      simp only [Act.put, List.setIfInBounds_toArray, List.set_cons_zero, List.set_cons_succ]
      refine ord_quietL _ ?_ rfl hS rfl ?_ ?_
      rotate_left
      · rintro w' ⟨hS1, hS2, hS3, hS4⟩; go_simp; first | rfl | (rw [if_pos (by omega)]; done) | (rw [if_pos (by omega)]; rfl) | (rw [if_pos (by omega)]; go_simp; rfl)
      simp only [Act.put, List.setIfInBounds_toArray, List.set_cons_zero, List.set_cons_succ]
      refine ord_quietL _ ?_ rfl hS rfl ?_ ?_
      rotate_left
      · rintro w' ⟨hS1, hS2, hS3, hS4⟩; go_simp; first | rfl | (rw [if_pos (by omega)]; done) | (rw [if_pos (by omega)]; rfl) | (rw [if_pos (by omega)]; go_simp; rfl)
      simp only [Act.put, List.setIfInBounds_toArray, List.set_cons_zero, List.set_cons_succ]
      refine ord_quietL _ ?_ rfl hS rfl ?_ ?_
      rotate_left
      · rintro w' ⟨hS1, hS2, hS3, hS4⟩; go_simp; first | rfl | (rw [if_pos (by omega)]; done) | (rw [if_pos (by omega)]; rfl) | (rw [if_pos (by omega)]; go_simp; rfl)
      simp only [Act.put, List.setIfInBounds_toArray, List.set_cons_zero, List.set_cons_succ]
      refine ord_tail ?_
      simp only [List.drop_succ_cons, List.drop_zero]
      go_wp2_with (go_at_call 43; refine (c_mk1 y x _).mono ?_; rintro e w3 ⟨rfl, hnw3⟩; refine stop_here ?_)
      unfold Hid
      have hcb3 := hcb.nw (nw_drew hnw3)
      have hnw' := nw_trans hnw (nw_drew hnw3)
      have hlt0 : decide (cmpI y.1 x.1 < 0) = decide (y.1 < x.1) := cmpI_lt _ _
      have hky : Hid (ky xs ((p + q) / 2) = y.1 ∧ ky xs a = x.1) := ⟨by unfold ky; rw [hy.out], by unfold ky; rw [hx.out]⟩
      clear hcb hnw hnw3 hS c1 c2 c3 c4
      generalize cmpI y.1 x.1 = cv at *
      by_cases hxy : y.1 < x.1
      · have hcv : cv < 0 := by simpa [hxy] using hlt0
        have i1' : Hid (∀ k, m ≤ k → k < (p + q) / 2 + 1 → ky xs k < ky xs a) := fun k k1 k2 => Int.lt_of_le_of_lt (hs.out.le k1 (by omega : k ≤ (p + q) / 2) (by omega)) (by rw [hky.out.1, hky.out.2]; exact hxy)
        clear hlt0 hxy hky i1
        go_wp2
        go_roundw
        case rel => exact ⟨(p + q) / 2 + 1, q, by go_num, rfl, by omega, by omega, h3, i1', i2, hcb3, hnw'⟩
        case measure => simp [intOf]; omega
      · have hcv : ¬ cv < 0 := by simpa [hxy] using hlt0
        have i2' : Hid (∀ k, (p + q) / 2 ≤ k → k < b → ky xs a ≤ ky xs k) := fun k k1 k2 => Int.le_trans (by rw [hky.out.1, hky.out.2]; omega) (hs.out.le (by omega) k1 k2)
        clear hlt0 hxy hky i2
        go_wp2
        go_roundw
        case rel => exact ⟨p, (p + q) / 2, rfl, by go_num, h1, by omega, by omega, i1, i2', hcb3, hnw'⟩
        case measure => simp [intOf]; omega
    · have hpq : p = q := by omega
      subst hpq
      clear hlt h2
      have hfin : Hid (∀ ys, Rot xs ys a (a + 1) p → Sw a b xs ys ∧ Srt ys a b) := fun ys hr => by have hma := hma.out; subst hma; exact sym_one hr hs.out i1.out i2.out h1 h3 hb
      clear i1 i2 hs hx
      go_wp2
      go_loopw [13] (fun kv w2 => ∃ (k : Nat) (zs : List Cat), a ≤ k ∧ k + 1 ≤ p ∧ kv = .int .i64 k ∧ CB w2 g zs tl ∧ Rot xs zs a (a + 1) (k + 1) ∧ Fr (fun k => k = g) w w2) (fun kv _ => p - (intOf kv).toNat)
      case atStart => exact ⟨a, xs, Nat.le_refl _, by omega, rfl, hcb, Rot.left _ _ _, fr_of_nw hnw⟩
      case round =>
        clear hcb hnw
        obtain ⟨k, zs, h2, h4, rfl, hcb, hrot, hfr⟩ := hrel
        have hl := hrot.1
        by_cases hlt : k + 1 < p
        · have hrot' : Hid _ := hrot.up h2 (by omega)
          have hcb4 : Hid _ := hcb.swap k (k + 1) (by omega) (by omega)
          obtain ⟨c1, c2⟩ := hcb.gets k (by omega)
          obtain ⟨c3, c4⟩ := hcb.gets (k + 1) (by omega)
          generalize gt zs k = x at *
          generalize gt zs (k + 1) = y at *
          have f1 : ∀ k, wr.frozen? ⟨g, k, none⟩ = false := fun k => hcb.free k
          have hfr4 : Hid (∀ u1 u2 u3 u4, Fr (fun k => k = g) w ((((wr.setCell ⟨g, k * 2, none⟩ u1).setCell ⟨g, k * 2 + 1, none⟩ u2).setCell ⟨g, (k + 1) * 2, none⟩ u3).setCell ⟨g, (k + 1) * 2 + 1, none⟩ u4)) := fun u1 u2 u3 u4 => (((hfr.setCell (p := ⟨g, _, none⟩) (.inl rfl) _).setCell (p := ⟨g, _, none⟩) (.inl rfl) _).setCell (p := ⟨g, _, none⟩) (.inl rfl) _).setCell (p := ⟨g, _, none⟩) (.inl rfl) _
          have hki : k + 1 < xs.length := by omega
          have hkp : (k : Int) < (p : Int) - 1 := by omega
          clear hcb hrot hfr hl
          go_wp2
          go_region
          all_goals go_wp2
          all_goals go_roundw
          case rel => exact ⟨k + 1, _, by omega, by omega, by go_num, hcb4.out, hrot'.out, (hfr4.out _ _ _ _).drew⟩
          case measure => simp [intOf]; omega
        · have hkp : ¬ (k : Int) < (p : Int) - 1 := by omega
          have e1 : k + 1 = p := by omega
          rw [e1] at hrot
          go_wp2
          first | go_end0 | go_ret
          exact ⟨rfl, zs, hcb, (hfin.out zs hrot).1, (hfin.out zs hrot).2, hfr⟩
end Go.Proofs.Ytimgelekpghklaa
