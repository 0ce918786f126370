/-
  Two sorted parts merged in place.
-/
import Derived.Test.YtimgelekpghklaaLabS4
import Derived.Deep.DeepCutAuto
import Derived.Deep.CutBlock
namespace Go.Proofs.Ytimgelekpghklaa
set_option linter.unusedVariables false
set_option linter.unusedSimpArgs false
set_option maxRecDepth 20000
open Go.RowKit

/-- How far the search between the two parts has come. -/
structure Mid (xs : List Cat) (n s0 r0 s r : Nat) : Prop where
  lo : ∀ k, s0 ≤ k → k < s → ky xs k ≤ ky xs (n - 1 - k)
  hi : ∀ k, r ≤ k → k < r0 → ky xs (n - 1 - k) < ky xs k

theorem Mid.le {xs : List Cat} {a m b mid s0 r0 s r c : Nat} (h : Mid xs (mid + m) s0 r0 s r) (ha : Srt xs a m) (hb : Srt xs m b) (h0 : a ≤ s0) (h1 : r0 ≤ m) (h2 : r0 ≤ mid) (h3 : mid + m ≤ b + s0) (hc1 : s0 ≤ c) (hc2 : c < r0) (hk : ky xs c ≤ ky xs (mid + m - 1 - c)) : Mid xs (mid + m) s0 r0 (c + 1) r := by
  refine ⟨fun k k1 k2 => ?_, h.hi⟩
  have a1 := ha.le (i := k) (j := c) (by omega) (by omega) (by omega)
  have a2 := hb.le (i := mid + m - 1 - c) (j := mid + m - 1 - k) (by omega) (by omega) (by omega)
  omega

theorem Mid.gt {xs : List Cat} {a m b mid s0 r0 s r c : Nat} (h : Mid xs (mid + m) s0 r0 s r) (ha : Srt xs a m) (hb : Srt xs m b) (h0 : a ≤ s0) (h1 : r0 ≤ m) (h2 : r0 ≤ mid) (h3 : mid + m ≤ b + s0) (hc1 : s0 ≤ c) (hc2 : c < r0) (hk : ky xs (mid + m - 1 - c) < ky xs c) : Mid xs (mid + m) s0 r0 s c := by
  refine ⟨h.lo, fun k k1 k2 => ?_⟩
  have a1 := ha.le (i := c) (j := k) (by omega) (by omega) (by omega)
  have a2 := hb.le (i := mid + m - 1 - k) (j := mid + m - 1 - c) (by omega) (by omega) (by omega)
  omega

theorem Mid.halved {xs zs : List Cat} {a m b mid s0 r0 s : Nat} (h : Mid xs (mid + m) s0 r0 s s) (ha : Srt xs a m) (hb : Srt xs m b) (h0 : a ≤ s0) (h1 : r0 ≤ m) (h2 : r0 ≤ mid) (h3 : mid + m ≤ b + s0) (h4 : s0 ≤ s) (h5 : s ≤ r0) (h6 : s0 = a ∨ s0 + b = mid + m) (h7 : r0 = m ∨ r0 = mid) (h8 : mid + m - s ≤ b) (hl : b ≤ xs.length)
    (hr : Rot xs zs s m (mid + m - s)) : Halved xs zs a s mid (mid + m - s) b :=
  sym_mid hr ha hb (by omega) (by omega) (by omega) h8 hl (by omega)
    (fun q1 q2 => by have := h.hi s (Nat.le_refl _) (by omega); rwa [show mid + m - 1 - s = mid + m - s - 1 by omega] at this)
    (fun q1 q2 => by have := h.lo (s - 1) (by omega) (by omega); rwa [show mid + m - 1 - (s - 1) = mid + m - s by omega] at this)

def SymAt (g : Nat) (tl : List Value) (n cap a m b : Nat) (xs : List Cat) (w : World) : Prop := Calls Try.prog 63 #[.slice (some ⟨g, 0, none⟩) n cap, .int .i64 a, .int .i64 m, .int .i64 b, mk1V] w (SymPost g tl xs a b w)

set_option maxHeartbeats 3200000 in
theorem c_sym3 {g : Nat} {xs : List Cat} {tl : List Value} (cap a m b : Nat) (w : World) (h : CB w g xs tl) (hma : a + 1 < m) (hmb : m + 1 < b) (hb : b ≤ xs.length) (hc : xs.length ≤ cap) (hm : cap ≤ 9223372036854775807) (hbig : xs.length ≤ 1152921504606846976) (hs1 : Srt xs a m) (hs2 : Srt xs m b)
    (ih : ∀ (a' m' b' : Nat) (zs : List Cat) (w : World), b' - a' < b - a → CB w g zs tl → zs.length = xs.length → a' < m' → m' < b' → b' ≤ zs.length → Srt zs a' m' → Srt zs m' b' → SymAt g tl xs.length cap a' m' b' zs w) :
    SymAt g tl xs.length cap a m b xs w := by
  unfold SymAt mk1V
  have ih : Hid _ := ih
  have hs1 : Hid (Srt xs a m) := hs1
  have hs2 : Hid (Srt xs m b) := hs2
  obtain ⟨mid, hmid, hm1, hm2⟩ : ∃ mid : Nat, Hid (((a : Int) + (b : Int)) / 2 = (mid : Int)) ∧ 2 * mid ≤ a + b ∧ a + b ≤ 2 * mid + 1 := ⟨(a + b) / 2, by unfold Hid; omega, by omega, by omega⟩
  obtain ⟨s0, r0, hs0, hr0, hsr⟩ : ∃ s0 r0 : Nat, (s0 = a ∨ s0 + b = mid + m) ∧ (r0 = m ∨ r0 = mid) ∧ ((mid < m ∧ s0 + b = mid + m ∧ r0 = mid) ∨ (m ≤ mid ∧ s0 = a ∧ r0 = m)) := by
    by_cases hq : mid < m
    · exact ⟨mid + m - b, mid, .inr (by omega), .inr rfl, .inl ⟨hq, by omega, rfl⟩⟩
    · exact ⟨a, m, .inl rfl, .inl rfl, .inr ⟨by omega, rfl, rfl⟩⟩
  have g1 : a ≤ s0 := by omega
  have g2 : r0 ≤ m := by omega
  have g3 : r0 ≤ mid := by omega
  have g4 : mid + m ≤ b + s0 := by omega
  have g5 : s0 ≤ r0 := by omega
  have g6 : a < mid := by omega
  have g7 : mid < b := by omega
  have hd : (((m : Int) - (a : Int)) == 1) = false := by simp; omega
  have hd2 : (((b : Int) - (m : Int)) == 1) = false := by simp; omega
  have hm9 := hmid.out
  replace hs0 : Hid _ := hs0
  replace hr0 : Hid _ := hr0
  go_enter Try.func63, Try.ntmps63
  go_upto_if 140 with fail
  clear hd hd2 hm9
  go_cut [20, 21] (fun x y wc => x = .int .i64 s0 ∧ y = .int .i64 r0 ∧ wc = w)
  case first =>
    as_aux_lemma =>
      rcases hsr with ⟨q1, q2, q3⟩ | ⟨q1, q2, q3⟩
      · have q2 : Hid _ := q2
        have q3 : Hid _ := q3
        go_wp2
        go_meet
        case rel => exact ⟨by have := q2.out; go_num, by rw [q3.out], rfl⟩
      · have q2 : Hid _ := q2
        have q3 : Hid _ := q3
        go_wp2
        go_meet
        case rel => exact ⟨by rw [q2.out], by rw [q3.out], rfl⟩
  case rest =>
    as_aux_lemma =>
      obtain ⟨rfl, rfl, hw0⟩ := hcut
      have hw1 := hw0.symm
      subst hw1
      clear hsr hw0
      go_wp2
      go_loopw [20, 21] (fun i j wr => ∃ p q : Nat, i = .int .i64 p ∧ j = .int .i64 q ∧ s0 ≤ p ∧ p ≤ q ∧ q ≤ r0 ∧ Hid (Mid xs (mid + m) s0 r0 p q) ∧ CB wr g xs tl ∧ Nw w wr) (fun i j _ => (intOf j).toNat - (intOf i).toNat)
      case atStart => exact ⟨s0, r0, rfl, rfl, Nat.le_refl _, g5, Nat.le_refl _, ⟨fun k h1 h2 => by omega, fun k h1 h2 => by omega⟩, h, nw_refl _⟩
      case round =>
        as_aux_lemma =>
          obtain ⟨p, q, rfl, rfl, h1, h2, h3, hmd, hcb, hnw⟩ := hrel
          clear h
          by_cases hlt : p < q
          · obtain ⟨c1, c2⟩ := hcb.gets (mid + m - 1 - (p + q) / 2) (by omega)
            obtain ⟨c3, c4⟩ := hcb.gets ((p + q) / 2) (by omega)
            obtain ⟨x, hx⟩ : ∃ x, Hid (x = gt xs ((p + q) / 2)) := ⟨_, rfl⟩
            obtain ⟨y, hy⟩ : ∃ y, Hid (y = gt xs (mid + m - 1 - (p + q) / 2)) := ⟨_, rfl⟩
            rw [← hy.out] at c1 c2
            rw [← hx.out] at c3 c4
            have hmid1 : (p + q) / 2 < xs.length := by omega
            have hmid2 : mid + m - 1 - (p + q) / 2 < xs.length := by omega
            have hmt : (((p : Int) + (q : Int)) / 2).toNat = (p + q) / 2 := by omega
            have hmt2 : ((mid : Int) + (m : Int) - 1 - ((p : Int) + (q : Int)) / 2).toNat = mid + m - 1 - (p + q) / 2 := by omega
            have hwr : IntKind.i64.wrap ((mid : Int) + (m : Int) - 1 - ((p : Int) + (q : Int)) / 2) = (mid : Int) + (m : Int) - 1 - ((p : Int) + (q : Int)) / 2 := by rw [IntKind.wrap_i64]; omega
            go_wp2
            have hS : (fun w' : World => w'.cell? ⟨g, (mid + m - 1 - (p + q) / 2) * 2, none⟩ = some (.int .u64 y.1) ∧ w'.cell? ⟨g, (mid + m - 1 - (p + q) / 2) * 2 + 1, none⟩ = some (.int .i64 y.2) ∧ w'.cell? ⟨g, (p + q) / 2 * 2, none⟩ = some (.int .u64 x.1) ∧ w'.cell? ⟨g, (p + q) / 2 * 2 + 1, none⟩ = some (.int .i64 x.2)) wr.drew := ⟨c1, c2, c3, c4⟩
            refine wp_region_ord [] 11 [(0, true), (1, true), (2, true), (3, true), (4, true), (5, true), (6, true), (7, true), (8, true), (9, true), (10, true)] (fun w' : World => w'.cell? ⟨g, (mid + m - 1 - (p + q) / 2) * 2, none⟩ = some (.int .u64 y.1) ∧ w'.cell? ⟨g, (mid + m - 1 - (p + q) / 2) * 2 + 1, none⟩ = some (.int .i64 y.2) ∧ w'.cell? ⟨g, (p + q) / 2 * 2, none⟩ = some (.int .u64 x.1) ∧ w'.cell? ⟨g, (p + q) / 2 * 2 + 1, none⟩ = some (.int .i64 x.2)) (by kernel_rfl) (by kernel_rfl) ?_
            refine ord_quietL _ ?_ rfl hS rfl ?_ ?_
            rotate_left
            · rintro w' ⟨hS1, hS2, hS3, hS4⟩; go_simp; first | rfl | (rw [if_pos (by omega)]; done) | (rw [if_pos (by omega)]; rfl) | (rw [if_pos (by omega)]; go_simp; rfl)
            simp only [Act.put, List.setIfInBounds_toArray, List.set_cons_zero, List.set_cons_succ]
            refine ord_quietL _ ?_ rfl hS rfl ?_ ?_
            rotate_left
            · rintro w' ⟨hS1, hS2, hS3, hS4⟩; go_simp; first | rfl | (rw [if_pos (by omega)]; done) | (rw [if_pos (by omega)]; rfl) | (rw [if_pos (by omega)]; go_simp; rfl)
            simp only [Act.put, List.setIfInBounds_toArray, List.set_cons_zero, List.set_cons_succ]
            refine ord_quietL _ ?_ rfl hS rfl ?_ ?_
            rotate_left
            · rintro w' ⟨hS1, hS2, hS3, hS4⟩; go_simp; first | rfl | (rw [if_pos (by omega)]; done) | (rw [if_pos (by omega)]; rfl) | (rw [if_pos (by omega)]; go_simp; rfl)
            simp only [Act.put, List.setIfInBounds_toArray, List.set_cons_zero, List.set_cons_succ]
            refine ord_quietL _ ?_ rfl hS rfl ?_ ?_
            rotate_left
            · rintro w' ⟨hS1, hS2, hS3, hS4⟩; go_simp; first | rfl | (rw [if_pos (by omega)]; done) | (rw [if_pos (by omega)]; rfl) | (rw [if_pos (by omega)]; go_simp; rfl)
            simp only [Act.put, List.setIfInBounds_toArray, List.set_cons_zero, List.set_cons_succ]
            refine ord_quietL _ ?_ rfl hS rfl ?_ ?_
            rotate_left
            · rintro w' ⟨hS1, hS2, hS3, hS4⟩; go_simp; first | rfl | (rw [if_pos (by omega)]; done) | (rw [if_pos (by omega)]; rfl) | (rw [if_pos (by omega)]; go_simp; rfl)
            simp only [Act.put, List.setIfInBounds_toArray, List.set_cons_zero, List.set_cons_succ]
            refine ord_quietL _ ?_ rfl hS rfl ?_ ?_
            rotate_left
            · rintro w' ⟨hS1, hS2, hS3, hS4⟩; go_simp; first | rfl | (rw [if_pos (by omega)]; done) | (rw [if_pos (by omega)]; rfl) | (rw [if_pos (by omega)]; go_simp; rfl)
            simp only [Act.put, List.setIfInBounds_toArray, List.set_cons_zero, List.set_cons_succ]
            refine ord_quietL _ ?_ rfl hS rfl ?_ ?_
            rotate_left
            · rintro w' ⟨hS1, hS2, hS3, hS4⟩; go_simp; first | rfl | (rw [if_pos (by omega)]; done) | (rw [if_pos (by omega)]; rfl) | (rw [if_pos (by omega)]; go_simp; rfl)
            simp only [Act.put, List.setIfInBounds_toArray, List.set_cons_zero, List.set_cons_succ]
            refine ord_quietL _ ?_ rfl hS rfl ?_ ?_
            rotate_left
            · rintro w' ⟨hS1, hS2, hS3, hS4⟩; go_simp; first | rfl | (rw [if_pos (by omega)]; done) | (rw [if_pos (by omega)]; rfl) | (rw [if_pos (by omega)]; go_simp; rfl)
            simp only [Act.put, List.setIfInBounds_toArray, List.set_cons_zero, List.set_cons_succ]
            refine ord_quietL _ ?_ rfl hS rfl ?_ ?_
            rotate_left
            · rintro w' ⟨hS1, hS2, hS3, hS4⟩; go_simp; first | rfl | (rw [if_pos (by omega)]; done) | (rw [if_pos (by omega)]; rfl) | (rw [if_pos (by omega)]; go_simp; rfl)
            simp only [Act.put, List.setIfInBounds_toArray, List.set_cons_zero, List.set_cons_succ]
            refine ord_quietL _ ?_ rfl hS rfl ?_ ?_
            rotate_left
            · rintro w' ⟨hS1, hS2, hS3, hS4⟩; go_simp; first | rfl | (rw [if_pos (by omega)]; done) | (rw [if_pos (by omega)]; rfl) | (rw [if_pos (by omega)]; go_simp; rfl)
            simp only [Act.put, List.setIfInBounds_toArray, List.set_cons_zero, List.set_cons_succ]
            refine ord_quietL _ ?_ rfl hS rfl ?_ ?_
            rotate_left
            · rintro w' ⟨hS1, hS2, hS3, hS4⟩; go_simp; first | rfl | (rw [if_pos (by omega)]; done) | (rw [if_pos (by omega)]; rfl) | (rw [if_pos (by omega)]; go_simp; rfl)
            simp only [Act.put, List.setIfInBounds_toArray, List.set_cons_zero, List.set_cons_succ]
            refine ord_tail ?_
            simp only [List.drop_succ_cons, List.drop_zero]
            go_wp2_with (go_at_call 43; refine (c_mk1 y x _).mono ?_; rintro e w3 ⟨rfl, hnw3⟩; refine stop_here ?_)
            unfold Hid
            have hcb3 := hcb.nw (nw_drew hnw3)
            have hnw' := nw_trans hnw (nw_drew hnw3)
            have hlt0 : decide (cmpI y.1 x.1 < 0) = decide (y.1 < x.1) := cmpI_lt _ _
            have hky : Hid (ky xs (mid + m - 1 - (p + q) / 2) = y.1 ∧ ky xs ((p + q) / 2) = x.1) := ⟨by unfold ky; rw [hy.out], by unfold ky; rw [hx.out]⟩
            clear hcb hnw hnw3 hS c1 c2 c3 c4 hmt2 hwr
            generalize cmpI y.1 x.1 = cv at *
            by_cases hxy : ¬ y.1 < x.1
            · have hcv : ¬ cv < 0 := by simpa [hxy] using hlt0
              have hmd' : Hid (Mid xs (mid + m) s0 r0 ((p + q) / 2 + 1) q) := hmd.out.le hs1.out hs2.out g1 g2 g3 g4 (by omega) (by omega) (by rw [hky.out.1, hky.out.2]; omega)
              clear hlt0 hxy hky hmd
              go_wp2
              go_roundw
              case rel => exact ⟨(p + q) / 2 + 1, q, by go_num, rfl, by omega, by omega, h3, hmd', hcb3, hnw'⟩
              case measure => simp [intOf]; omega
            · have hxy : y.1 < x.1 := by omega
              have hcv : cv < 0 := by simpa [hxy] using hlt0
              have hmd' : Hid (Mid xs (mid + m) s0 r0 p ((p + q) / 2)) := hmd.out.gt hs1.out hs2.out g1 g2 g3 g4 (by omega) (by omega) (by rw [hky.out.1, hky.out.2]; exact hxy)
              clear hlt0 hxy hky hmd
              go_wp2
              go_roundw
              case rel => exact ⟨p, (p + q) / 2, rfl, by go_num, h1, by omega, by omega, hmd', hcb3, hnw'⟩
              case measure => simp [intOf]; omega
          · have hpq : p = q := by omega
            subst hpq
            clear hlt h2
            have hhv : Hid (∀ zs, Rot xs zs p m (mid + m - p) → Halved xs zs a p mid (mid + m - p) b) := fun zs hr => hmd.out.halved hs1.out hs2.out g1 g2 g3 g4 h1 h3 hs0.out hr0.out (by omega) hb hr
            clear hmd hs1 hs2 hs0 hr0
            obtain ⟨e, he⟩ : ∃ e : Nat, Hid (e = mid + m - p) := ⟨_, rfl⟩
            rw [← he.out] at hhv
            have e1 : p + e = mid + m := by have := he.out; omega
            have e2 : Hid (((mid : Int) + (m : Int)) - (p : Int) = (e : Int)) := by unfold Hid; omega
            have e3 : p ≤ m := by omega
            have e4 : m ≤ e := by omega
            have e5 : e ≤ b := by omega
            replace e1 : Hid _ := e1
            have e6 := e2.out
            go_upto_region 39 with fail
            clear e6
            have hfr : Fr (fun k => k = g) w wr := fr_of_nw hnw
            clear hnw
            go_cut [185] (fun v w2 => v = .bool (decide (p < m ∧ m < e)) ∧ CB w2 g xs tl ∧ Fr (fun k => k = g) w w2)
            case first =>
              as_aux_lemma =>
                by_cases k1 : p < m
                · by_cases k2 : m < e
                  · go_wp2
                    go_meet
                    case rel => exact ⟨by simp [k1, k2], hcb, hfr⟩
                  · go_wp2
                    go_meet
                    case rel => exact ⟨by simp [k1, k2], hcb, hfr⟩
                · go_wp2
                  go_meet
                  case rel => exact ⟨by simp [k1], hcb, hfr⟩
            case rest =>
              as_aux_lemma =>
                clear hcb hfr
                obtain ⟨rfl, hcb, hfr⟩ := hcut
                go_upto_if 185 with fail
                go_cut [185] (fun _ w2 => ∃ zs, CB w2 g zs tl ∧ Rot xs zs p m e ∧ Fr (fun k => k = g) w w2)
                case first =>
                  as_aux_lemma =>
                    by_cases k1 : p < m ∧ m < e
                    · have hd : decide (p < m ∧ m < e) = true := by simp [k1]
                      have hcon := c_rotate cap p m e wc hcb k1.1 k1.2 (by omega) (by omega) hm
                      have hcon : Hid _ := hcon
                      rw [hd]
                      clear hd k1
                      go_wp2_with (go_at_call 64; refine Calls.mono hcon.out ?_; rintro e w2 ⟨rfl, y1, h1, h2, h3⟩)
                      go_meet
                      case rel => exact ⟨y1, h1, h2, hfr.trans h3 (fun _ h => .inl h)⟩
                    · have hd : decide (p < m ∧ m < e) = false := by simp [k1]
                      have hr : Hid (Rot xs xs p m e) := by
                        rcases Nat.lt_or_ge p m with q1 | q1
                        · have : e = m := by omega
                          subst this; exact Rot.left _ _ _
                        · have : p = m := by omega
                          subst this; exact Rot.right _ _ _ (by omega)
                      rw [hd]
                      clear hd k1
                      go_wp2
                      go_meet
                      case rel => exact ⟨xs, hcb, hr.out, hfr⟩
                case rest =>
                  as_aux_lemma =>
                    clear hcb hfr
                    obtain ⟨zs, hcb, hrot, hfr⟩ := hcut
                    have hv : Hid _ := hhv.out zs hrot
                    have hzl := hrot.1
                    clear hrot hhv
                    go_upto_region 41 with fail
                    go_cut [199] (fun v w2 => v = .bool (decide (a < p ∧ p < mid)) ∧ CB w2 g zs tl ∧ Fr (fun k => k = g) w w2)
                    case first =>
                      as_aux_lemma =>
                        by_cases k1 : a < p
                        · by_cases k2 : p < mid
                          · go_wp2
                            go_meet
                            case rel => exact ⟨by simp [k1, k2], hcb, hfr⟩
                          · go_wp2
                            go_meet
                            case rel => exact ⟨by simp [k1, k2], hcb, hfr⟩
                        · go_wp2
                          go_meet
                          case rel => exact ⟨by simp [k1], hcb, hfr⟩
                    case rest =>
                      as_aux_lemma =>
                        clear hcb hfr
                        obtain ⟨rfl, hcb, hfr⟩ := hcut
                        go_upto_if 199 with fail
                        go_cut [199] (fun _ w2 => ∃ y1, CB w2 g y1 tl ∧ Sw a mid zs y1 ∧ Srt y1 a mid ∧ Fr (fun k => k = g) w w2)
                        case first =>
                          as_aux_lemma =>
                            by_cases k1 : a < p ∧ p < mid
                            · have hd : decide (a < p ∧ p < mid) = true := by simp [k1]
                              have hcon := ih.out a p mid zs wc (by omega) hcb hzl k1.1 k1.2 (by omega) hv.out.s1 hv.out.s2
                              have hcon : Hid _ := hcon
                              rw [hd]
                              clear hd k1
                              go_wp2_with (go_at_call 63; refine Calls.mono hcon.out ?_; rintro e w2 ⟨rfl, y1, h1, h2, h3, h4⟩)
                              go_meet
                              case rel => exact ⟨y1, h1, h2, h3, hfr.trans h4 (fun _ h => .inl h)⟩
                            · have hd : decide (a < p ∧ p < mid) = false := by simp [k1]
                              have hr : Hid (Srt zs a mid) := srt_join hv.out.s1 hv.out.s2 (by omega)
                              rw [hd]
                              clear hd k1
                              go_wp2
                              go_meet
                              case rel => exact ⟨zs, hcb, Sw.refl _ _ _, hr.out, hfr⟩
                        case rest =>
                          as_aux_lemma =>
                            clear hcb hfr
                            obtain ⟨y1, hcb, hsw1, hst1, hfr⟩ := hcut
                            have hyl := hsw1.1
                            have t3 : Hid (Srt y1 mid e ∧ Srt y1 e b) := ⟨fun i j q1 q2 q3 => by rw [ky_eq (hsw1.2.1 i (.inr q1)), ky_eq (hsw1.2.1 j (.inr (by omega)))]; exact hv.out.s3 i j q1 q2 q3, fun i j q1 q2 q3 => by rw [ky_eq (hsw1.2.1 i (.inr (by have := e1.out; omega))), ky_eq (hsw1.2.1 j (.inr (by have := e1.out; omega)))]; exact hv.out.s4 i j q1 q2 q3⟩
                            have hfin : Hid (∀ y2, Sw mid b y1 y2 → Srt y2 mid b → Sw a b xs y2 ∧ Srt y2 a b) := fun y2 q1 q2 => sym_join hv.out.low hv.out.sw hsw1 hst1 q1 q2 (by omega) (by omega) hb
                            clear hv hsw1 hst1
                            go_upto_region 43 with fail
                            go_cut [213] (fun v w2 => v = .bool (decide (mid < e ∧ e < b)) ∧ CB w2 g y1 tl ∧ Fr (fun k => k = g) w w2)
                            case first =>
                              as_aux_lemma =>
                                by_cases k1 : mid < e
                                · by_cases k2 : e < b
                                  · go_wp2
                                    go_meet
                                    case rel => exact ⟨by simp [k1, k2], hcb, hfr⟩
                                  · go_wp2
                                    go_meet
                                    case rel => exact ⟨by simp [k1, k2], hcb, hfr⟩
                                · go_wp2
                                  go_meet
                                  case rel => exact ⟨by simp [k1], hcb, hfr⟩
                            case rest =>
                              as_aux_lemma =>
                                clear hcb hfr
                                obtain ⟨rfl, hcb, hfr⟩ := hcut
                                go_upto_if 213 with fail
                                by_cases k1 : mid < e ∧ e < b
                                · have hd : decide (mid < e ∧ e < b) = true := by simp [k1]
                                  have hcon := ih.out mid e b y1 wc (by omega) hcb (by omega) k1.1 k1.2 (by omega) t3.out.1 t3.out.2
                                  have hcon : Hid _ := hcon
                                  rw [hd]
                                  clear hd k1
                                  go_wp2_with (go_at_call 63; refine Calls.mono hcon.out ?_; rintro e w2 ⟨rfl, y2, h1, h2, h3, h4⟩)
                                  go_end0
                                  exact ⟨rfl, y2, h1, (hfin.out y2 h2 h3).1, (hfin.out y2 h2 h3).2, hfr.trans h4 (fun _ h => .inl h)⟩
                                · have hd : decide (mid < e ∧ e < b) = false := by simp [k1]
                                  have hr : Hid (Srt y1 mid b) := srt_join t3.out.1 t3.out.2 (by omega)
                                  rw [hd]
                                  clear hd k1
                                  go_wp2
                                  go_end0
                                  exact ⟨rfl, y1, hcb, (hfin.out y1 (Sw.refl _ _ _) hr.out).1, (hfin.out y1 (Sw.refl _ _ _) hr.out).2, hfr⟩

theorem c_sym {g : Nat} {tl : List Value} (n cap : Nat) (hc : n ≤ cap) (hm : cap ≤ 9223372036854775807) (hbig : n ≤ 1152921504606846976) : ∀ (k a m b : Nat) (xs : List Cat) (w : World), b - a ≤ k → CB w g xs tl → xs.length = n → a < m → m < b → b ≤ xs.length → Srt xs a m → Srt xs m b → SymAt g tl n cap a m b xs w := by
  intro k
  induction k with
  | zero => intro a m b xs w h1 h2 h3 h4 h5; omega
  | succ k ih =>
    intro a m b xs w h1 h2 h3 h4 h5 h6 h7 h8
    subst h3
    by_cases q1 : m = a + 1
    · exact c_sym1 cap a m b w h2 q1 h5 h6 hc hm hbig h8
    · by_cases q2 : b = m + 1
      · exact c_sym2 cap a m b w h2 q2 (by omega) h6 hc hm hbig h7
      · exact c_sym3 cap a m b w h2 (by omega) (by omega) h6 hc hm hbig h7 h8 (fun a' m' b' zs w' q3 q4 q5 q6 q7 q8 q9 q10 => ih a' m' b' zs w' (by omega) q4 q5 q6 q7 q8 q9 q10)
end Go.Proofs.Ytimgelekpghklaa
