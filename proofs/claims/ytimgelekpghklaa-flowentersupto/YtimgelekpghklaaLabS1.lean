/-
  The comparison of two categories, and the sort by insertion.
-/
import Derived.Test.YtimgelekpghklaaLabPlain
import Derived.Test.YtimgelekpghklaaLibGrow
import Derived.BigRegion
import Derived.BigQuiet
import Derived.Shelf.Abstract
namespace Go.Proofs.Ytimgelekpghklaa
set_option linter.unusedVariables false
set_option linter.unusedSimpArgs false
set_option maxRecDepth 20000
open Go.RowKit

def cmpI (x y : Int) : Int := if x < y then -1 else if x > y then 1 else 0

theorem c_isNaN (x : Int) (w : World) : Calls Try.prog 56 #[.int .u64 x] w fun e w' => e = .returned (.bool false) ∧ w = w' := by
  go_enter Try.func56, Try.ntmps56
  go_wp2
  go_ret
  simp

theorem c_cmp (x y : Int) (w : World) : Calls Try.prog 44 #[.int .u64 x, .int .u64 y] w fun e w' => e = .returned (.int .i64 (cmpI x y)) ∧ w = w' := by
  go_enter Try.func44, Try.ntmps44
  go_wp2_with (go_at_call 56; refine (c_isNaN _ _).mono ?_; rintro e w' ⟨rfl, rfl⟩)
  all_goals go_ret
  all_goals (refine ⟨?_, rfl⟩; unfold cmpI)
  all_goals (first | (rw [if_pos (by omega)]; rfl) | (rw [if_neg (by omega), if_pos (by omega)]; rfl) | (rw [if_neg (by omega), if_neg (by omega)]; rfl))

theorem c_mk1 (x y : Cat) (w : World) : Calls Try.prog 43 #[catV x, catV y] w fun e w' => e = .returned (.int .i64 (cmpI x.1 y.1)) ∧ Nw w w' := by
  unfold catV
  have hn : Hid (∀ o1 o2, Nw w ((w.alloc o1).alloc o2)) := fun o1 o2 => ((Fr.refl _ w).alloc _).alloc _
  go_enter Try.func43, Try.ntmps43
  go_wp2_with (go_at_call 44; refine (c_cmp _ _ _).mono ?_; rintro e w' ⟨rfl, rfl⟩)
  go_ret
  exact ⟨rfl, hn.out _ _⟩
theorem cmpI_lt (x y : Int) : decide (cmpI x y < 0) = decide (x < y) := by
  unfold cmpI
  repeat' split
  all_goals simp
  all_goals omega

theorem CB.swap {w : World} {g : Nat} {xs : List Cat} {tl : List Value} (h : CB w g xs tl) (i j : Nat) (hi : i < xs.length) (hj : j < xs.length) :
    CB ((((w.setCell ⟨g, i * 2, none⟩ (.int .u64 (gt xs j).1)).setCell ⟨g, i * 2 + 1, none⟩ (.int .i64 (gt xs j).2)).setCell ⟨g, j * 2, none⟩ (.int .u64 (gt xs i).1)).setCell ⟨g, j * 2 + 1, none⟩ (.int .i64 (gt xs i).2)) g (swp xs i j) tl := (h.set i hi (gt xs j)).set j (by simpa using hj) (gt xs i)

theorem CB.gets {w : World} {g : Nat} {xs : List Cat} {tl : List Value} (h : CB w g xs tl) (k : Nat) (hk : k < xs.length) :
    w.cell? ⟨g, k * 2, none⟩ = some (.int .u64 (gt xs k).1) ∧ w.cell? ⟨g, k * 2 + 1, none⟩ = some (.int .i64 (gt xs k).2) := by
  rw [gt_of hk]; exact h.get k hk

set_option maxHeartbeats 1600000 in
theorem c_insertion {g : Nat} {xs : List Cat} {tl : List Value} (cap a b : Nat) (w : World) (h : CB w g xs tl) (ha : a ≤ 9223372036854775806) (hb : b ≤ xs.length) (hc : xs.length ≤ cap) (hm : cap ≤ 9223372036854775807) :
    Calls Try.prog 62 #[.slice (some ⟨g, 0, none⟩) xs.length cap, .int .i64 a, .int .i64 b, .func (.func 43) #[] #[]] w fun e w' => e = .returned (.tuple #[]) ∧ ∃ ys, CB w' g ys tl ∧ Sw a b xs ys ∧ Srt ys a b ∧ Fr (fun k => k = g) w w' := by
  go_enter Try.func62, Try.ntmps62
  go_wp2
  go_loopw [8] (fun i wr => ∃ (k : Nat) (zs : List Cat), a < k ∧ (k ≤ b ∨ k = a + 1) ∧ i = .int .i64 k ∧ CB wr g zs tl ∧ Sw a b xs zs ∧ Srt zs a k ∧ Fr (fun k => k = g) w wr) (fun i _ => b - (intOf i).toNat)
  case atStart => exact ⟨a + 1, xs, by omega, .inr rfl, by go_num, h, Sw.refl _ _ _, srt_one (by omega), Fr.refl _ _⟩
  case round =>
    obtain ⟨k, zs, hak, hkb, rfl, hcb, hsw, hst, hfr⟩ := hrel
    by_cases hlt : k < b
    · have hzl := hsw.1
      go_wp2
      go_loopw [9] (fun jv w2 => ∃ (j : Nat) (ys : List Cat), jv = .int .i64 j ∧ CB w2 g ys tl ∧ Sw a b xs ys ∧ Ins a k j ys ∧ Fr (fun k => k = g) w w2) (fun jv _ => (intOf jv).toNat)
      case atStart => exact ⟨k, zs, rfl, hcb, hsw, Ins.start hst (by omega) (by omega), hfr⟩
      case round =>
        clear hcb hsw hst hfr hzl
        obtain ⟨j, ys, rfl, hcb, hsw, hin, hfr⟩ := hrel
        have hyl := hsw.1
        have hji := hin.ji
        have hil := hin.il
        have haj := hin.aj
        by_cases hja : a < j
        · obtain ⟨j, rfl⟩ : ∃ j' : Nat, j = j' + 1 := ⟨j - 1, by omega⟩
          obtain ⟨c1, c2⟩ := hcb.gets (j + 1) (by omega)
          obtain ⟨c3, c4⟩ := hcb.gets j (by omega)
          have hwr : IntKind.i64.wrap ((j : Nat) : Int) = ((j : Nat) : Int) := by rw [IntKind.wrap_i64]; omega
          have hgd : decide ((a : Int) < (j : Int) + 1) = true := by simp; omega
          obtain ⟨x, hx⟩ : ∃ x, Hid (x = gt ys (j + 1)) := ⟨_, rfl⟩
          obtain ⟨y, hy⟩ : ∃ y, Hid (y = gt ys j) := ⟨_, rfl⟩
          rw [← hx.out] at c1 c2
          rw [← hy.out] at c3 c4
          have hS : (fun w' : World => w'.cell? ⟨g, (j + 1) * 2, none⟩ = some (.int .u64 x.1) ∧ w'.cell? ⟨g, (j + 1) * 2 + 1, none⟩ = some (.int .i64 x.2) ∧ w'.cell? ⟨g, j * 2, none⟩ = some (.int .u64 y.1) ∧ w'.cell? ⟨g, j * 2 + 1, none⟩ = some (.int .i64 y.2)) wr.drew := ⟨c1, c2, c3, c4⟩
          go_wp2
          refine wp_region_ord [] 14 [(0, true), (1, true), (2, true), (3, true), (4, true), (5, true), (6, true), (7, true), (8, true), (9, true), (10, true), (11, true), (12, true), (13, true)] (fun w' : World => w'.cell? ⟨g, (j + 1) * 2, none⟩ = some (.int .u64 x.1) ∧ w'.cell? ⟨g, (j + 1) * 2 + 1, none⟩ = some (.int .i64 x.2) ∧ w'.cell? ⟨g, j * 2, none⟩ = some (.int .u64 y.1) ∧ w'.cell? ⟨g, j * 2 + 1, none⟩ = some (.int .i64 y.2)) (by kernel_rfl) (by kernel_rfl) ?_
          refine ord_quietL _ ?_ rfl hS rfl ?_ ?_
          rotate_left
          · rintro w' ⟨hS1, hS2, hS3, hS4⟩; go_simp; first | rfl | (rw [if_pos (by omega)]; done) | (rw [if_pos (by omega)]; rfl) | (rw [if_pos (by omega)]; go_simp; rfl)
          simp only [Act.put, List.setIfInBounds_toArray, List.set_cons_zero, List.set_cons_succ]
          refine ord_quietL _ ?_ rfl hS rfl ?_ ?_
          rotate_left
          · rintro w' ⟨hS1, hS2, hS3, hS4⟩; go_simp; first | rfl | (rw [if_pos (by omega)]; done) | (rw [if_pos (by omega)]; rfl) | (rw [if_pos (by omega)]; go_simp; rfl)
          simp only [Act.put, List.setIfInBounds_toArray, List.set_cons_zero, List.set_cons_succ]
          refine ord_quietL _ ?_ rfl hS rfl ?_ ?_
          rotate_left
          · rintro w' ⟨hS1, hS2, hS3, hS4⟩; go_simp; first | rfl | (rw [if_pos (by omega)]; done) | (rw [if_pos (by omega)]; rfl) | (rw [if_pos (by omega)]; go_simp; rfl)
          simp only [Act.put, List.setIfInBounds_toArray, List.set_cons_zero, List.set_cons_succ]
          refine ord_quietL _ ?_ rfl hS rfl ?_ ?_
          rotate_left
          · rintro w' ⟨hS1, hS2, hS3, hS4⟩; go_simp; first | rfl | (rw [if_pos (by omega)]; done) | (rw [if_pos (by omega)]; rfl) | (rw [if_pos (by omega)]; go_simp; rfl)
          simp only [Act.put, List.setIfInBounds_toArray, List.set_cons_zero, List.set_cons_succ]
          try rw [hgd]
          refine ord_quietL _ ?_ rfl hS rfl ?_ ?_
          rotate_left
          · rintro w' ⟨hS1, hS2, hS3, hS4⟩; go_simp; first | rfl | (rw [if_pos (by omega)]; done) | (rw [if_pos (by omega)]; rfl) | (rw [if_pos (by omega)]; go_simp; rfl)
          simp only [Act.put, List.setIfInBounds_toArray, List.set_cons_zero, List.set_cons_succ]
          refine ord_quietL _ ?_ rfl hS rfl ?_ ?_
          rotate_left
          · rintro w' ⟨hS1, hS2, hS3, hS4⟩; go_simp; first | rfl | (rw [if_pos (by omega)]; done) | (rw [if_pos (by omega)]; rfl) | (rw [if_pos (by omega)]; go_simp; rfl)
          simp only [Act.put, List.setIfInBounds_toArray, List.set_cons_zero, List.set_cons_succ]
          refine ord_quietL _ ?_ rfl hS rfl ?_ ?_
          rotate_left
          · rintro w' ⟨hS1, hS2, hS3, hS4⟩; go_simp; first | rfl | (rw [if_pos (by omega)]; done) | (rw [if_pos (by omega)]; rfl) | (rw [if_pos (by omega)]; go_simp; rfl)
          simp only [Act.put, List.setIfInBounds_toArray, List.set_cons_zero, List.set_cons_succ]
          refine ord_quietL _ ?_ rfl hS rfl ?_ ?_
          rotate_left
          · rintro w' ⟨hS1, hS2, hS3, hS4⟩; go_simp; first | rfl | (rw [if_pos (by omega)]; done) | (rw [if_pos (by omega)]; rfl) | (rw [if_pos (by omega)]; go_simp; rfl)
          simp only [Act.put, List.setIfInBounds_toArray, List.set_cons_zero, List.set_cons_succ]
          refine ord_quietL _ ?_ rfl hS rfl ?_ ?_
          rotate_left
          · rintro w' ⟨hS1, hS2, hS3, hS4⟩; go_simp; first | rfl | (rw [if_pos (by omega)]; done) | (rw [if_pos (by omega)]; rfl) | (rw [if_pos (by omega)]; go_simp; rfl)
          simp only [Act.put, List.setIfInBounds_toArray, List.set_cons_zero, List.set_cons_succ]
          refine ord_quietL _ ?_ rfl hS rfl ?_ ?_
          rotate_left
          · rintro w' ⟨hS1, hS2, hS3, hS4⟩; go_simp; first | rfl | (rw [if_pos (by omega)]; done) | (rw [if_pos (by omega)]; rfl) | (rw [if_pos (by omega)]; go_simp; rfl)
          simp only [Act.put, List.setIfInBounds_toArray, List.set_cons_zero, List.set_cons_succ]
          refine ord_quietL _ ?_ rfl hS rfl ?_ ?_
          rotate_left
          · rintro w' ⟨hS1, hS2, hS3, hS4⟩; go_simp; first | rfl | (rw [if_pos (by omega)]; done) | (rw [if_pos (by omega)]; rfl) | (rw [if_pos (by omega)]; go_simp; rfl)
          simp only [Act.put, List.setIfInBounds_toArray, List.set_cons_zero, List.set_cons_succ]
          refine ord_quietL _ ?_ rfl hS rfl ?_ ?_
          rotate_left
          · rintro w' ⟨hS1, hS2, hS3, hS4⟩; go_simp; first | rfl | (rw [if_pos (by omega)]; done) | (rw [if_pos (by omega)]; rfl) | (rw [if_pos (by omega)]; go_simp; rfl)
          simp only [Act.put, List.setIfInBounds_toArray, List.set_cons_zero, List.set_cons_succ]
          refine ord_quietL _ ?_ rfl hS rfl ?_ ?_
          rotate_left
          · rintro w' ⟨hS1, hS2, hS3, hS4⟩; go_simp; first | rfl | (rw [if_pos (by omega)]; done) | (rw [if_pos (by omega)]; rfl) | (rw [if_pos (by omega)]; go_simp; rfl)
          simp only [Act.put, List.setIfInBounds_toArray, List.set_cons_zero, List.set_cons_succ]
          refine ord_quietL _ ?_ rfl hS rfl ?_ ?_
          rotate_left
          · rintro w' ⟨hS1, hS2, hS3, hS4⟩; go_simp; first | rfl | (rw [if_pos (by omega)]; done) | (rw [if_pos (by omega)]; rfl) | (rw [if_pos (by omega)]; go_simp; rfl)
          simp only [Act.put, List.setIfInBounds_toArray, List.set_cons_zero, List.set_cons_succ]
          refine ord_tail ?_
          simp only [List.drop_succ_cons, List.drop_zero]
          go_wp2_with (go_at_call 43; refine (c_mk1 x y _).mono ?_; rintro e w3 ⟨rfl, hnw⟩; refine stop_here ?_)
          unfold Hid
          have hcb3 : CB w3 g ys tl := hcb.nw (nw_drew hnw)
          have hfr3 : Fr (fun k => k = g) w w3 := fr_nw hfr (nw_drew hnw)
          have hlt : decide (cmpI x.1 y.1 < 0) = decide (x.1 < y.1) := cmpI_lt _ _
          have hky : ky ys (j + 1) = x.1 ∧ ky ys j = y.1 := ⟨by unfold ky; rw [hx.out], by unfold ky; rw [hy.out]⟩
          clear hcb hfr hnw hS c1 c2 c3 c4
          generalize cmpI x.1 y.1 = cv at *
          by_cases hxy : x.1 < y.1
          · have hcv : cv < 0 := by simpa [hxy] using hlt
            have hsw' : Hid _ := hsw.trans (sw_adj (xs := ys) (a := a) (b := b) (k := j) (by omega) (by omega) (by omega) (by rw [hky.1, hky.2]; omega))
            have hin' : Hid _ := hin.step (by omega) (by rw [hky.1, hky.2]; exact hxy)
            have hcb4 := hcb3.swap (j + 1) j (by omega) (by omega)
            rw [swp_comm ys (by omega) (by omega), ← hx.out, ← hy.out] at hcb4
            have hcb4 : Hid _ := hcb4
            obtain ⟨c1, c2⟩ := hcb3.gets (j + 1) (by omega)
            obtain ⟨c3, c4⟩ := hcb3.gets j (by omega)
            rw [← hx.out] at c1 c2
            rw [← hy.out] at c3 c4
            have f1 : ∀ k, w3.frozen? ⟨g, k, none⟩ = false := fun k => hcb3.free k
            have hfr4 : Hid (∀ u1 u2 u3 u4, Fr (fun k => k = g) w ((((w3.setCell ⟨g, (j + 1) * 2, none⟩ u1).setCell ⟨g, (j + 1) * 2 + 1, none⟩ u2).setCell ⟨g, j * 2, none⟩ u3).setCell ⟨g, j * 2 + 1, none⟩ u4)) := fun u1 u2 u3 u4 => (((hfr3.setCell (p := ⟨g, _, none⟩) (.inl rfl) _).setCell (p := ⟨g, _, none⟩) (.inl rfl) _).setCell (p := ⟨g, _, none⟩) (.inl rfl) _).setCell (p := ⟨g, _, none⟩) (.inl rfl) _
            clear hlt hxy hx hy hky hin hsw hfr3 hcb3
            go_wp2
            go_region
            all_goals go_wp2
            all_goals go_roundw
            case rel => exact ⟨j, _, by go_num, hcb4.out, hsw'.out, hin'.out, (hfr4.out _ _ _ _).drew⟩
            case measure => simp [intOf]
          · have hcv : ¬ cv < 0 := by simpa [hxy] using hlt
            have hst' : Hid _ := hin.fin (.inr (by rw [Nat.add_sub_cancel, hky.1, hky.2]; omega))
            clear hlt hxy hx hy hky hin
            go_wp2
            go_roundw
            case rel => exact ⟨k + 1, ys, by omega, .inl (by omega), by go_num, hcb3, hsw, hst'.out, hfr3⟩
            case measure => simp [intOf]; omega
        · have hst' : Hid _ := hin.fin (.inl (by omega))
          have hgd : decide ((a : Int) < (j : Int)) = false := by simp; omega
          have hS : (fun w' : World => True) wr.drew := trivial
          clear hin
          go_wp2
          refine wp_region_ord [] 14 [(0, true), (1, true), (2, true), (3, true), (4, true), (5, true), (6, true), (7, true), (8, true), (9, true), (10, true), (11, true), (12, true), (13, true)] (fun w' : World => True) (by kernel_rfl) (by kernel_rfl) ?_
          refine ord_quietL _ ?_ rfl hS rfl ?_ ?_
          rotate_left
          · rintro w' hT; go_simp; first | rfl | (rw [if_pos (by omega)]; done) | (rw [if_pos (by omega)]; rfl) | (rw [if_pos (by omega)]; go_simp; rfl)
          simp only [Act.put, List.setIfInBounds_toArray, List.set_cons_zero, List.set_cons_succ]
          refine ord_quietL _ ?_ rfl hS rfl ?_ ?_
          rotate_left
          · rintro w' hT; go_simp; first | rfl | (rw [if_pos (by omega)]; done) | (rw [if_pos (by omega)]; rfl) | (rw [if_pos (by omega)]; go_simp; rfl)
          simp only [Act.put, List.setIfInBounds_toArray, List.set_cons_zero, List.set_cons_succ]
          refine ord_quietL _ ?_ rfl hS rfl ?_ ?_
          rotate_left
          · rintro w' hT; go_simp; first | rfl | (rw [if_pos (by omega)]; done) | (rw [if_pos (by omega)]; rfl) | (rw [if_pos (by omega)]; go_simp; rfl)
          simp only [Act.put, List.setIfInBounds_toArray, List.set_cons_zero, List.set_cons_succ]
          refine ord_quietL _ ?_ rfl hS rfl ?_ ?_
          rotate_left
          · rintro w' hT; go_simp; first | rfl | (rw [if_pos (by omega)]; done) | (rw [if_pos (by omega)]; rfl) | (rw [if_pos (by omega)]; go_simp; rfl)
          simp only [Act.put, List.setIfInBounds_toArray, List.set_cons_zero, List.set_cons_succ]
          try rw [hgd]
          refine ord_skipL _ rfl hS rfl ?_
          simp only [Act.put, List.setIfInBounds_toArray, List.set_cons_zero, List.set_cons_succ]
          refine ord_skipL _ rfl hS rfl ?_
          simp only [Act.put, List.setIfInBounds_toArray, List.set_cons_zero, List.set_cons_succ]
          refine ord_skipL _ rfl hS rfl ?_
          simp only [Act.put, List.setIfInBounds_toArray, List.set_cons_zero, List.set_cons_succ]
          refine ord_skipL _ rfl hS rfl ?_
          simp only [Act.put, List.setIfInBounds_toArray, List.set_cons_zero, List.set_cons_succ]
          refine ord_skipL _ rfl hS rfl ?_
          simp only [Act.put, List.setIfInBounds_toArray, List.set_cons_zero, List.set_cons_succ]
          refine ord_skipL _ rfl hS rfl ?_
          simp only [Act.put, List.setIfInBounds_toArray, List.set_cons_zero, List.set_cons_succ]
          refine ord_skipL _ rfl hS rfl ?_
          simp only [Act.put, List.setIfInBounds_toArray, List.set_cons_zero, List.set_cons_succ]
          refine ord_skipL _ rfl hS rfl ?_
          simp only [Act.put, List.setIfInBounds_toArray, List.set_cons_zero, List.set_cons_succ]
          refine ord_skipL _ rfl hS rfl ?_
          simp only [Act.put, List.setIfInBounds_toArray, List.set_cons_zero, List.set_cons_succ]
          refine ord_skipL _ rfl hS rfl ?_
          simp only [Act.put, List.setIfInBounds_toArray, List.set_cons_zero, List.set_cons_succ]
          refine ord_tail ?_
          simp only [List.drop_succ_cons, List.drop_zero]
          go_wp2
          go_roundw
          case rel => exact ⟨k + 1, ys, by omega, .inl (by omega), by go_num, hcb.nw (Fr.drew (Fr.refl _ wr)), hsw, hst'.out, hfr.drew⟩
          case measure => simp [intOf]; omega
    · go_wp2
      go_end0
      refine ⟨rfl, zs, hcb, hsw, ?_, hfr⟩
      rcases hkb with hkb | hkb
      · have : k = b := by omega
        subst this; exact hst
      · exact srt_one (by omega)
end Go.Proofs.Ytimgelekpghklaa
