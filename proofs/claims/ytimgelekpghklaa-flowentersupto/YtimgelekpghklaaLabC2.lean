/-
  The first of each run, in memory.
-/
import Derived.Test.YtimgelekpghklaaLabC1
namespace Go.Proofs.Ytimgelekpghklaa
set_option linter.unusedVariables false
set_option linter.unusedSimpArgs false
set_option maxRecDepth 20000
open Go.RowKit

def mk2V : Value := .func (.func 46) #[] #[]

theorem beq_ky {x y : Int} : ((x == y) = true) ↔ x = y := by simp

set_option maxHeartbeats 3200000 in
theorem c_compact {g : Nat} {xs : List Cat} {tl : List Value} (cap n : Nat) (w : World) (h : CB w g xs tl) (hn : Hid (xs.length = n)) (hc : n ≤ cap) (hm : cap ≤ 9223372036854775807) :
    Calls Try.prog 45 #[.slice (some ⟨g, 0, none⟩) n cap, mk2V] w fun e w' => ∃ k tl', e = .returned (.slice (some ⟨g, 0, none⟩) k cap) ∧ CB w' g (ddT xs n) tl' ∧ (ddT xs n).length = k ∧ k ≤ n ∧ Fr (fun k => k = g) w w' := by
  unfold mk2V
  by_cases h2 : n < 2
  · have e : Hid (ddT xs n = xs) := by
      have hn := hn.out
      subst hn
      unfold Hid
      rw [ddT_take xs xs.length (Nat.le_refl _) (fun i h1 h2 => by omega), List.take_length]
    go_enter Try.func45, Try.ntmps45
    go_wp2
    go_ret
    exact ⟨n, tl, rfl, by rw [e.out]; exact h, by rw [e.out]; exact hn.out, Nat.le_refl _, Fr.refl _ _⟩
  · go_enter Try.func45, Try.ntmps45
    go_wp2
    go_loopw [5] (fun kv wr => ∃ k : Nat, 0 < k ∧ k ≤ n ∧ kv = .int .i64 k ∧ Hid (∀ i, 0 < i → i < k → ky xs i ≠ ky xs (i - 1)) ∧ CB wr g xs tl ∧ Nw w wr) (fun kv _ => n - (intOf kv).toNat)
    case atStart => exact ⟨1, by omega, by omega, rfl, fun i h1 h2 => by omega, h, nw_refl _⟩
    case round =>
      clear h
      obtain ⟨k, hk0, hkn, rfl, hne, hcb, hnw⟩ := hrel
      by_cases hlt : k < n
      · obtain ⟨k, rfl⟩ : ∃ k' : Nat, k = k' + 1 := ⟨k - 1, by omega⟩
        obtain ⟨c1, c2⟩ := hcb.gets (k + 1) (by rw [hn.out]; exact hlt)
        obtain ⟨c3, c4⟩ := hcb.gets k (by rw [hn.out]; omega)
        obtain ⟨x, hx⟩ : ∃ x, Hid (x = gt xs (k + 1)) := ⟨_, rfl⟩
        obtain ⟨y, hy⟩ : ∃ y, Hid (y = gt xs k) := ⟨_, rfl⟩
        rw [← hx.out] at c1 c2
        rw [← hy.out] at c3 c4
        have hwr : IntKind.i64.wrap ((k : Nat) : Int) = ((k : Nat) : Int) := by rw [IntKind.wrap_i64]; omega
        have hS : (fun w' : World => w'.cell? ⟨g, (k + 1) * 2, none⟩ = some (.int .u64 x.1) ∧ w'.cell? ⟨g, (k + 1) * 2 + 1, none⟩ = some (.int .i64 x.2) ∧ w'.cell? ⟨g, k * 2, none⟩ = some (.int .u64 y.1) ∧ w'.cell? ⟨g, k * 2 + 1, none⟩ = some (.int .i64 y.2)) wr.drew := ⟨c1, c2, c3, c4⟩
        go_wp2
        refine wp_region_ord [] 10 [(0, true), (1, true), (2, true), (3, true), (4, true), (5, true), (6, true), (7, true), (8, true), (9, true)] (fun w' : World => w'.cell? ⟨g, (k + 1) * 2, none⟩ = some (.int .u64 x.1) ∧ w'.cell? ⟨g, (k + 1) * 2 + 1, none⟩ = some (.int .i64 x.2) ∧ w'.cell? ⟨g, k * 2, none⟩ = some (.int .u64 y.1) ∧ w'.cell? ⟨g, k * 2 + 1, none⟩ = some (.int .i64 y.2)) (by kernel_rfl) (by kernel_rfl) ?_
        refine ord_quietL _ ?_ rfl hS rfl ?_ ?_
        rotate_left
        · rintro w' ⟨hS1, hS2, hS3, hS4⟩; go_simp; first | rfl | (rw [if_pos (by omega)]; done) | (rw [if_pos (by omega)]; rfl) | (rw [if_pos (by omega)]; go_simp; rfl)
        simp only [Act.put, List.setIfInBounds_toArray, List.set_cons_zero, List.set_cons_succ]
        refine ord_quietL _ ?_ rfl hS rfl ?_ ?_
        rotate_left
        · rintro w' ⟨hS1, hS2, hS3, hS4⟩; go_simp; first | rfl | (rw [if_pos (by omega)]; done) | (rw [if_pos (by omega)]; rfl) | (rw [if_pos (by omega)]; go_simp; rfl)
        simp only [Act.put, List.setIfInBounds_toArray, List.set_cons_zero, List.set_cons_succ]
        refine ord_quietL _ ?_ rfl hS rfl ?_ ?_
        rotate_left
        · rintro w' ⟨hS1, hS2, hS3, hS4⟩; go_simp; first | rfl | (rw [if_pos (by omega)]; done) | (rw [if_pos (by omega)]; rfl) | (rw [if_pos (by omega)]; go_simp; rfl)
        simp only [Act.put, List.setIfInBounds_toArray, List.set_cons_zero, List.set_cons_succ]
        refine ord_quietL _ ?_ rfl hS rfl ?_ ?_
        rotate_left
        · rintro w' ⟨hS1, hS2, hS3, hS4⟩; go_simp; first | rfl | (rw [if_pos (by omega)]; done) | (rw [if_pos (by omega)]; rfl) | (rw [if_pos (by omega)]; go_simp; rfl)
        simp only [Act.put, List.setIfInBounds_toArray, List.set_cons_zero, List.set_cons_succ]
        refine ord_quietL _ ?_ rfl hS rfl ?_ ?_
        rotate_left
        · rintro w' ⟨hS1, hS2, hS3, hS4⟩; go_simp; first | rfl | (rw [if_pos (by omega)]; done) | (rw [if_pos (by omega)]; rfl) | (rw [if_pos (by omega)]; go_simp; rfl)
        simp only [Act.put, List.setIfInBounds_toArray, List.set_cons_zero, List.set_cons_succ]
        refine ord_quietL _ ?_ rfl hS rfl ?_ ?_
        rotate_left
        · rintro w' ⟨hS1, hS2, hS3, hS4⟩; go_simp; first | rfl | (rw [if_pos (by omega)]; done) | (rw [if_pos (by omega)]; rfl) | (rw [if_pos (by omega)]; go_simp; rfl)
        simp only [Act.put, List.setIfInBounds_toArray, List.set_cons_zero, List.set_cons_succ]
        refine ord_quietL _ ?_ rfl hS rfl ?_ ?_
        rotate_left
        · rintro w' ⟨hS1, hS2, hS3, hS4⟩; go_simp; first | rfl | (rw [if_pos (by omega)]; done) | (rw [if_pos (by omega)]; rfl) | (rw [if_pos (by omega)]; go_simp; rfl)
        simp only [Act.put, List.setIfInBounds_toArray, List.set_cons_zero, List.set_cons_succ]
        refine ord_quietL _ ?_ rfl hS rfl ?_ ?_
        rotate_left
        · rintro w' ⟨hS1, hS2, hS3, hS4⟩; go_simp; first | rfl | (rw [if_pos (by omega)]; done) | (rw [if_pos (by omega)]; rfl) | (rw [if_pos (by omega)]; go_simp; rfl)
        simp only [Act.put, List.setIfInBounds_toArray, List.set_cons_zero, List.set_cons_succ]
        refine ord_quietL _ ?_ rfl hS rfl ?_ ?_
        rotate_left
        · rintro w' ⟨hS1, hS2, hS3, hS4⟩; go_simp; first | rfl | (rw [if_pos (by omega)]; done) | (rw [if_pos (by omega)]; rfl) | (rw [if_pos (by omega)]; go_simp; rfl)
        simp only [Act.put, List.setIfInBounds_toArray, List.set_cons_zero, List.set_cons_succ]
        refine ord_quietL _ ?_ rfl hS rfl ?_ ?_
        rotate_left
        · rintro w' ⟨hS1, hS2, hS3, hS4⟩; go_simp; first | rfl | (rw [if_pos (by omega)]; done) | (rw [if_pos (by omega)]; rfl) | (rw [if_pos (by omega)]; go_simp; rfl)
        simp only [Act.put, List.setIfInBounds_toArray, List.set_cons_zero, List.set_cons_succ]
        refine ord_tail ?_
        simp only [List.drop_succ_cons, List.drop_zero]
        go_wp2_with (go_at_call 46; refine (c_mk2 x y _).mono ?_; rintro e w3 ⟨rfl, hnw3⟩; refine stop_here ?_)
        unfold Hid
        have hcb3 := hcb.nw (nw_drew hnw3)
        have hnw' := nw_trans hnw (nw_drew hnw3)
        have hky : Hid (ky xs (k + 1) = x.1 ∧ ky xs k = y.1) := ⟨by unfold ky; rw [hx.out], by unfold ky; rw [hy.out]⟩
        clear hcb hnw hnw3 hS c1 c2 c3 c4 hx hy
        by_cases hxy : x.1 = y.1
        · have hb : (x.1 == y.1) = true := by simp [hxy]
          have hst : Hid (Cmp xs xs (k + 1 + 1) (k + 1)) := Cmp.start (by omega) (by rw [hn.out]; exact hlt) hne.out (by rw [Nat.add_sub_cancel, hky.out.1, hky.out.2]; exact hxy)
          have hfr : Fr (fun k => k = g) w w3 := fr_of_nw hnw'
          clear hky hxy hne hnw'
          rw [hb]
          clear hb
          have hcap : ¬ cap = k + 1 := by omega
          go_wp2
          clear hcap
          go_loopw [5, 7] (fun pv tv wr => ∃ (p t : Nat) (zs : List Cat), pv = .int .i64 p ∧ tv = .int .i64 t ∧ 0 < t ∧ k + 1 + t ≤ n ∧ p < k + 1 + t ∧ Hid (Cmp xs zs (k + 1 + t) p) ∧ CB wr g zs tl ∧ Fr (fun k => k = g) w wr) (fun _ tv _ => n - (intOf tv).toNat)
          case atStart => exact ⟨k + 1, 1, xs, by go_num, rfl, by omega, by omega, by omega, hst, hcb3, hfr⟩
          case round =>
            clear hst hcb3 hfr
            obtain ⟨p, t, zs, rfl, rfl, ht0, htn, hpt, hcm, hcb, hfr⟩ := hrel
            have hzl : Hid (zs.length = n) := hcm.out.len.trans hn.out
            by_cases hlt2 : k + 1 + t < n
            · obtain ⟨t, rfl⟩ : ∃ t' : Nat, t = t' + 1 := ⟨t - 1, by omega⟩
              obtain ⟨x, hx⟩ : ∃ x, Hid (x = gt xs (k + 1 + (t + 1))) := ⟨_, rfl⟩
              obtain ⟨y, hy⟩ : ∃ y, Hid (y = gt xs (k + 1 + t)) := ⟨_, rfl⟩
              have c0 := hcb.gets (k + 1 + (t + 1)) (by rw [hzl.out]; omega)
              have d0 := hcb.gets (k + 1 + t) (by rw [hzl.out]; omega)
              rw [gt_eq (hcm.out.high _ (by omega)), ← hx.out, show (k + 1 + (t + 1)) * 2 = (k + 1) * 2 + (t + 1) * 2 by omega] at c0
              rw [gt_eq (hcm.out.high _ (by omega)), ← hy.out, show (k + 1 + t) * 2 = (k + 1) * 2 + t * 2 by omega] at d0
              obtain ⟨c1, c2⟩ := c0
              obtain ⟨c3, c4⟩ := d0
              have hwr : IntKind.i64.wrap ((t : Nat) : Int) = ((t : Nat) : Int) := by rw [IntKind.wrap_i64]; omega
              have hb1 : (t : Int) + 1 < ((n - (k + 1) : Nat) : Int) := by omega
              have hS : (fun w' : World => w'.cell? ⟨g, (k + 1) * 2 + (t + 1) * 2, none⟩ = some (.int .u64 x.1) ∧ w'.cell? ⟨g, (k + 1) * 2 + (t + 1) * 2 + 1, none⟩ = some (.int .i64 x.2) ∧ w'.cell? ⟨g, (k + 1) * 2 + t * 2, none⟩ = some (.int .u64 y.1) ∧ w'.cell? ⟨g, (k + 1) * 2 + t * 2 + 1, none⟩ = some (.int .i64 y.2)) wr.drew := ⟨c1, c2, c3, c4⟩
              go_wp2
              refine wp_region_ord [] 10 [(0, true), (1, true), (2, true), (3, true), (4, true), (5, true), (6, true), (7, true), (8, true), (9, true)] (fun w' : World => w'.cell? ⟨g, (k + 1) * 2 + (t + 1) * 2, none⟩ = some (.int .u64 x.1) ∧ w'.cell? ⟨g, (k + 1) * 2 + (t + 1) * 2 + 1, none⟩ = some (.int .i64 x.2) ∧ w'.cell? ⟨g, (k + 1) * 2 + t * 2, none⟩ = some (.int .u64 y.1) ∧ w'.cell? ⟨g, (k + 1) * 2 + t * 2 + 1, none⟩ = some (.int .i64 y.2)) (by kernel_rfl) (by kernel_rfl) ?_
              refine ord_quietL _ ?_ rfl hS rfl ?_ ?_
              rotate_left
              · rintro w' ⟨hS1, hS2, hS3, hS4⟩; go_simp; first | rfl | (rw [if_pos (by omega)]; done) | (rw [if_pos (by omega)]; rfl) | (rw [if_pos (by omega)]; go_simp; rfl)
              simp only [Act.put, List.setIfInBounds_toArray, List.set_cons_zero, List.set_cons_succ]
              refine ord_quietL _ ?_ rfl hS rfl ?_ ?_
              rotate_left
              · rintro w' ⟨hS1, hS2, hS3, hS4⟩; go_simp; first | rfl | (rw [if_pos (by omega)]; done) | (rw [if_pos (by omega)]; rfl) | (rw [if_pos (by omega)]; go_simp; rfl)
              simp only [Act.put, List.setIfInBounds_toArray, List.set_cons_zero, List.set_cons_succ]
              refine ord_quietL _ ?_ rfl hS rfl ?_ ?_
              rotate_left
              · rintro w' ⟨hS1, hS2, hS3, hS4⟩; go_simp; first | rfl | (rw [if_pos (by omega)]; done) | (rw [if_pos (by omega)]; rfl) | (rw [if_pos (by omega)]; go_simp; rfl)
              simp only [Act.put, List.setIfInBounds_toArray, List.set_cons_zero, List.set_cons_succ]
              refine ord_quietL _ ?_ rfl hS rfl ?_ ?_
              rotate_left
              · rintro w' ⟨hS1, hS2, hS3, hS4⟩; go_simp; first | rfl | (rw [if_pos (by omega)]; done) | (rw [if_pos (by omega)]; rfl) | (rw [if_pos (by omega)]; go_simp; rfl)
              simp only [Act.put, List.setIfInBounds_toArray, List.set_cons_zero, List.set_cons_succ]
              refine ord_quietL _ ?_ rfl hS rfl ?_ ?_
              rotate_left
              · rintro w' ⟨hS1, hS2, hS3, hS4⟩; go_simp; first | rfl | (rw [if_pos (by omega)]; done) | (rw [if_pos (by omega)]; rfl) | (rw [if_pos (by omega)]; go_simp; rfl)
              simp only [Act.put, List.setIfInBounds_toArray, List.set_cons_zero, List.set_cons_succ]
              refine ord_quietL _ ?_ rfl hS rfl ?_ ?_
              rotate_left
              · rintro w' ⟨hS1, hS2, hS3, hS4⟩; go_simp; first | rfl | (rw [if_pos (by omega)]; done) | (rw [if_pos (by omega)]; rfl) | (rw [if_pos (by omega)]; go_simp; rfl)
              simp only [Act.put, List.setIfInBounds_toArray, List.set_cons_zero, List.set_cons_succ]
              refine ord_quietL _ ?_ rfl hS rfl ?_ ?_
              rotate_left
              · rintro w' ⟨hS1, hS2, hS3, hS4⟩; go_simp; first | rfl | (rw [if_pos (by omega)]; done) | (rw [if_pos (by omega)]; rfl) | (rw [if_pos (by omega)]; go_simp; rfl)
              simp only [Act.put, List.setIfInBounds_toArray, List.set_cons_zero, List.set_cons_succ]
              refine ord_quietL _ ?_ rfl hS rfl ?_ ?_
              rotate_left
              · rintro w' ⟨hS1, hS2, hS3, hS4⟩; go_simp; first | rfl | (rw [if_pos (by omega)]; done) | (rw [if_pos (by omega)]; rfl) | (rw [if_pos (by omega)]; go_simp; rfl)
              simp only [Act.put, List.setIfInBounds_toArray, List.set_cons_zero, List.set_cons_succ]
              refine ord_quietL _ ?_ rfl hS rfl ?_ ?_
              rotate_left
              · rintro w' ⟨hS1, hS2, hS3, hS4⟩; go_simp; first | rfl | (rw [if_pos (by omega)]; done) | (rw [if_pos (by omega)]; rfl) | (rw [if_pos (by omega)]; go_simp; rfl)
              simp only [Act.put, List.setIfInBounds_toArray, List.set_cons_zero, List.set_cons_succ]
              refine ord_quietL _ ?_ rfl hS rfl ?_ ?_
              rotate_left
              · rintro w' ⟨hS1, hS2, hS3, hS4⟩; go_simp; first | rfl | (rw [if_pos (by omega)]; done) | (rw [if_pos (by omega)]; rfl) | (rw [if_pos (by omega)]; go_simp; rfl)
              simp only [Act.put, List.setIfInBounds_toArray, List.set_cons_zero, List.set_cons_succ]
              refine ord_tail ?_
              simp only [List.drop_succ_cons, List.drop_zero]
              go_wp2_with (go_at_call 46; refine (c_mk2 x y _).mono ?_; rintro e w3 ⟨rfl, hnw3⟩; refine stop_here ?_)
              unfold Hid
              have hcb3 := hcb.nw (nw_drew hnw3)
              have hfr3 := fr_nw hfr (nw_drew hnw3)
              have hky : Hid (ky xs (k + 1 + (t + 1)) = x.1 ∧ ky xs (k + 1 + t) = y.1) := ⟨by unfold ky; rw [hx.out], by unfold ky; rw [hy.out]⟩
              clear hcb hfr hnw3 hS c1 c2 c3 c4 hy
              by_cases hxy : x.1 = y.1
              · have hb : (x.1 == y.1) = true := by simp [hxy]
                have hcm' : Hid (Cmp xs zs (k + 1 + (t + 1 + 1)) p) := hcm.out.skip (by rw [show k + 1 + (t + 1) - 1 = k + 1 + t by omega, hky.out.1, hky.out.2]; exact hxy)
                rw [hb]
                clear hb hky hxy hcm hx
                go_wp2
                go_roundw
                case rel => exact ⟨p, t + 1 + 1, zs, rfl, by go_num, by omega, by omega, by omega, hcm', hcb3, hfr3⟩
                case measure => simp [intOf]; omega
              · have hb : (x.1 == y.1) = false := by simp [hxy]
                have hcm' : Hid (Cmp xs (zs.set p (gt xs (k + 1 + (t + 1)))) (k + 1 + (t + 1 + 1)) (p + 1)) := hcm.out.put (by rw [hn.out]; exact hlt2) (by rw [show k + 1 + (t + 1) - 1 = k + 1 + t by omega, hky.out.1, hky.out.2]; exact hxy)
                rw [← hx.out] at hcm'
                have hcb4 : Hid _ := hcb3.set p (by rw [hzl.out]; omega) x
                have hfr4 : Hid (∀ u1 u2, Fr (fun k => k = g) w ((w3.setCell ⟨g, p * 2, none⟩ u1).setCell ⟨g, p * 2 + 1, none⟩ u2)) := fun u1 u2 => (hfr3.setCell (p := ⟨g, _, none⟩) (.inl rfl) _).setCell (p := ⟨g, _, none⟩) (.inl rfl) _
                have c0 := hcb3.gets (k + 1 + (t + 1)) (by rw [hzl.out]; omega)
                rw [gt_eq (hcm.out.high _ (by omega)), ← hx.out, show (k + 1 + (t + 1)) * 2 = (k + 1) * 2 + (t + 1) * 2 by omega] at c0
                obtain ⟨c1, c2⟩ := c0
                obtain ⟨d1, d2⟩ := hcb3.gets p (by rw [hzl.out]; omega)
                generalize gt zs p = z at *
                have f1 : ∀ k, w3.frozen? ⟨g, k, none⟩ = false := fun k => hcb3.free k
                have hpn : p < n := by omega
                rw [hb]
                clear hb hky hxy hcm hx hcb3 hfr3
                go_wp2
                go_roundw
                case rel => exact ⟨p + 1, t + 1 + 1, _, by go_num, by go_num, by omega, by omega, by omega, hcm', hcb4.out, hfr4.out _ _⟩
                case measure => simp [intOf]; omega
            · have hjn : k + 1 + t = n := by omega
              have hclr := fun ty => run_clear2 hcb p (cap - p) ty (by rw [hzl.out]; omega)
              rw [hzl.out] at hclr
              have hcl := hcb.clear p (by rw [hzl.out]; omega)
              rw [hcm.out.low, hzl.out, hjn] at hcl
              have hdd := hcm.out.dd
              rw [hjn] at hdd
              have hfr4 := fr_setCells (g := g) (S := fun k => k = g) (.inl rfl) (ccells (List.replicate (n - p) (0, 0))) (p * 2) wr hfr
              have hcl : Hid _ := hcl
              have hdd : Hid _ := hdd
              have hfr4 : Hid _ := hfr4
              have hcap : ¬ cap = p := by omega
              have hpn : p < n := by omega
              clear hcm hcb hfr hjn
              generalize ccells (List.replicate (n - p) (0, 0)) = Z at *
              generalize hW : wr.setCells g (p * 2) Z = W at *
              replace hW : Hid _ := hW
              go_wp2
              go_ret
              exact ⟨p, _, rfl, hcl.out, hdd.out, by omega, hfr4.out⟩
        · have hb : (x.1 == y.1) = false := by simp [hxy]
          have hne' : Hid (∀ i, 0 < i → i < k + 1 + 1 → ky xs i ≠ ky xs (i - 1)) := fun i h1 h2 => by
            by_cases hi : i = k + 1
            · subst hi; rw [Nat.add_sub_cancel, hky.out.1, hky.out.2]; exact hxy
            · exact hne.out i h1 (by omega)
          clear hky hxy hne
          rw [hb]
          clear hb
          go_wp2
          go_roundw
          case rel => exact ⟨k + 1 + 1, by omega, by omega, by go_num, hne', hcb3, hnw'⟩
          case measure => simp [intOf]; omega
      · have e : Hid (ddT xs n = xs) := by
          have hn := hn.out
          subst hn
          have : k = xs.length := by omega
          subst this
          unfold Hid
          rw [ddT_take xs xs.length (Nat.le_refl _) hne.out, List.take_length]
        go_wp2
        go_ret
        exact ⟨n, tl, rfl, by rw [e.out]; exact hcb, by rw [e.out]; exact hn.out, Nat.le_refl _, fr_of_nw hnw⟩
end Go.Proofs.Ytimgelekpghklaa
