/-
  The document's Same: two lists of records.
-/
import Derived.Test.YtihdhlciblkbiaaJourW7
namespace Go.Proofs.Ytihdhlciblkbiaa
set_option linter.unusedVariables false
set_option linter.unusedSimpArgs false
set_option maxRecDepth 20000
open Go.RowKit

theorem same_of_take {ps qs : List (List UInt8)} {k : Nat} (hl : ps.length = qs.length) (hk : k = ps.length) (h : ps.take k = qs.take k) : ps = qs := by
  rw [List.take_of_length_le (by omega), List.take_of_length_le (by omega)] at h
  exact h

set_option maxHeartbeats 3200000 in
theorem c_same (K : Nat) (va vb : Value) (ps qs : List (List UInt8)) (w : World) (ha : Parts K w va ps) (hb : Parts K w vb qs) (hK : K ≤ w.heap.size) (hpl : ps.length ≤ 140737488355328) (hql : qs.length ≤ 140737488355328) :
    Calls Try.prog 20 #[va, vb] w fun e w' => e = .returned (.bool (decide (ps = qs))) ∧ Nw w w' := by
  obtain ⟨ao, ac, rfl, hac, hacs⟩ := ha
  obtain ⟨bo, bc, rfl, hbc, hbcs⟩ := hb
  by_cases hlen : ps.length = qs.length
  case neg =>
    have hne : ((ps.length : Int) != (qs.length : Int)) = true := by simp; omega
    have HE : Hid (decide (ps = qs) = false) := decide_eq_false (fun h => hlen (by rw [h]))
    clear hacs hbcs
    generalize ps.length = pl at *
    generalize qs.length = ql at *
    go_enter Try.func20, Try.ntmps20
    go_wp2
    go_ret
    exact ⟨by rw [HE.out]; rfl, Fr.refl _ _⟩
  obtain ⟨n, hn⟩ : ∃ n, Hid (ps.length = n) := ⟨_, rfl⟩
  have hq : Hid (qs.length = n) := by unfold Hid; rw [← hlen]; exact hn.out
  have hlen2 : Hid (ps.length = qs.length) := hlen
  clear hlen
  rw [hn.out] at hac hpl ⊢
  rw [hq.out] at hbc hql ⊢
  go_enter Try.func20, Try.ntmps20
  go_wp2
  go_loopw [13] (fun i wr => ∃ k : Nat, k ≤ n ∧ i = .int .i64 k ∧ Hid (ps.take k = qs.take k) ∧ Nw w wr) (fun i _ => n - (intOf i).toNat)
  case atStart => exact ⟨0, Nat.zero_le _, rfl, by unfold Hid; simp, Fr.refl _ _⟩
  case round =>
    obtain ⟨k, hk, rfl, htk, hnw⟩ := hrel
    by_cases hlt : k < n
    case neg =>
      obtain rfl : k = n := by omega
      have HE : Hid (decide (ps = qs) = true) := decide_eq_true (same_of_take hlen2.out hn.out.symm htk.out)
      clear hacs hbcs htk
      go_wp2
      go_ret
      exact ⟨by rw [HE.out]; rfl, hnw⟩
    have hkp : k < ps.length := by rw [hn.out]; exact hlt
    have hkq : k < qs.length := by rw [hq.out]; exact hlt
    obtain ⟨ab, aoff, u, rfl, hab, hac0, hus, -⟩ := hacs k ps[k] (List.getElem?_eq_getElem hkp)
    obtain ⟨bb, boff, v, rfl, hbb, hbc0, hvs, -⟩ := hbcs k qs[k] (List.getElem?_eq_getElem hkq)
    have HT : Hid (ps[k] = qs[k] → ps.take (k + 1) = qs.take (k + 1)) := fun h => by
      rw [List.take_add_one, List.take_add_one, List.getElem?_eq_getElem hkp, List.getElem?_eq_getElem hkq, htk.out, h]
    have HF : Hid (ps[k] ≠ qs[k] → decide (ps = qs) = false) := fun h => decide_eq_false (fun e => h (by subst e; rfl))
    clear htk hacs hbcs
    generalize ps[k] = x at *
    generalize qs[k] = y at *
    clear hkp hkq
    have hc1 := fun w' (h : Nw w w') => run_string_sl (P := Try.prog) 37 5 9 Try.underlying37 Try.underlying5 Try.underlying9 ((hus.keep ((below_of_nw h).mono hK)))
    have hc2 := fun w' (h : Nw w w') => run_string_sl (P := Try.prog) 37 5 9 Try.underlying37 Try.underlying5 Try.underlying9 ((hvs.keep ((below_of_nw h).mono hK)))
    obtain ⟨uo, uc, rfl⟩ := sl_form hus
    obtain ⟨vo, vc, rfl⟩ := sl_form hvs
    have hnd : Nw w wr.drew := Fr.drew hnw
    have hS : (fun w' : World => w'.cell? ⟨ab, aoff + k, none⟩ = some (.slice uo x.length uc) ∧ w'.cell? ⟨bb, boff + k, none⟩ = some (.slice vo y.length vc) ∧
        (convert 37 9 (.slice uo x.length uc)).run Try.prog w' = .ok (.string ⟨x.toArray⟩) w' ∧ (convert 37 9 (.slice vo y.length vc)).run Try.prog w' = .ok (.string ⟨y.toArray⟩) w') wr.drew :=
      ⟨cell_nw hac0 hnd, cell_nw hbc0 hnd, hc1 _ hnd, hc2 _ hnd⟩
    clear hc1 hc2 hus hvs hac0 hbc0 hnw
    have hbs : ((⟨x.toArray⟩ : ByteArray).toList == (⟨y.toArray⟩ : ByteArray).toList) = decide (x = y) := by
      rw [ByteArray.toList_mk, ByteArray.toList_mk, Bool.eq_iff_iff]
      simp
    generalize (⟨x.toArray⟩ : ByteArray) = X at *
    generalize (⟨y.toArray⟩ : ByteArray) = Y at *
    go_wp2
    refine wp_region_ord [] 10 [(0, true), (1, true), (2, true), (3, true), (4, true), (5, true), (6, true), (7, true), (8, true), (9, true)] (fun w' : World => w'.cell? ⟨ab, aoff + k, none⟩ = some (.slice uo x.length uc) ∧ w'.cell? ⟨bb, boff + k, none⟩ = some (.slice vo y.length vc) ∧
        (convert 37 9 (.slice uo x.length uc)).run Try.prog w' = .ok (.string X) w' ∧ (convert 37 9 (.slice vo y.length vc)).run Try.prog w' = .ok (.string Y) w') (by kernel_rfl) (by kernel_rfl) ?_
    refine ord_quietL _ ?_ rfl hS rfl ?_ ?_
    rotate_left
    · rintro w' ⟨hS1, hS2, hS3, hS4⟩; go_simp; rfl
    simp only [Act.put, List.setIfInBounds_toArray, List.set_cons_zero, List.set_cons_succ]
    refine ord_quietL _ ?_ rfl hS rfl ?_ ?_
    rotate_left
    · rintro w' ⟨hS1, hS2, hS3, hS4⟩; go_simp; rfl
    simp only [Act.put, List.setIfInBounds_toArray, List.set_cons_zero, List.set_cons_succ]
    refine ord_quietL _ ?_ rfl hS rfl ?_ ?_
    rotate_left
    · rintro w' ⟨hS1, hS2, hS3, hS4⟩; go_simp; rfl
    simp only [Act.put, List.setIfInBounds_toArray, List.set_cons_zero, List.set_cons_succ]
    refine ord_quietL _ ?_ rfl hS rfl ?_ ?_
    rotate_left
    · rintro w' ⟨hS1, hS2, hS3, hS4⟩; go_simp; rfl
    simp only [Act.put, List.setIfInBounds_toArray, List.set_cons_zero, List.set_cons_succ]
    refine ord_quietL _ ?_ rfl hS rfl ?_ ?_
    rotate_left
    · rintro w' ⟨hS1, hS2, hS3, hS4⟩; go_simp; rfl
    simp only [Act.put, List.setIfInBounds_toArray, List.set_cons_zero, List.set_cons_succ]
    refine ord_quietL _ ?_ rfl hS rfl ?_ ?_
    rotate_left
    · rintro w' ⟨hS1, hS2, hS3, hS4⟩; go_simp; rfl
    simp only [Act.put, List.setIfInBounds_toArray, List.set_cons_zero, List.set_cons_succ]
    refine ord_quietL _ ?_ rfl hS rfl ?_ ?_
    rotate_left
    · rintro w' ⟨hS1, hS2, hS3, hS4⟩; go_simp; rfl
    simp only [Act.put, List.setIfInBounds_toArray, List.set_cons_zero, List.set_cons_succ]
    refine ord_quietL _ ?_ rfl hS rfl ?_ ?_
    rotate_left
    · rintro w' ⟨hS1, hS2, hS3, hS4⟩; go_simp; rfl
    simp only [Act.put, List.setIfInBounds_toArray, List.set_cons_zero, List.set_cons_succ]
    refine ord_quietL _ ?_ rfl hS rfl ?_ ?_
    rotate_left
    · rintro w' ⟨hS1, hS2, hS3, hS4⟩; go_simp; rfl
    simp only [Act.put, List.setIfInBounds_toArray, List.set_cons_zero, List.set_cons_succ]
    refine ord_quietL _ ?_ rfl hS rfl ?_ ?_
    rotate_left
    · rintro w' ⟨hS1, hS2, hS3, hS4⟩; go_simp; rfl
    simp only [Act.put, List.setIfInBounds_toArray, List.set_cons_zero, List.set_cons_succ]
    refine ord_tail ?_
    simp only [List.drop_succ_cons, List.drop_zero]
    clear hS
    by_cases hxy : x = y
    · have hT := HT.out hxy
      have hT : Hid (ps.take (k + 1) = qs.take (k + 1)) := hT
      rw [decide_eq_true hxy] at hbs
      clear HT HF hxy
      generalize x.length = xl at *
      generalize y.length = yl at *
      go_wp2
      go_roundw
      case rel => exact ⟨k + 1, by omega, by go_num, hT, hnd⟩
      case measure => simp [intOf]; omega
    · have hF := HF.out hxy
      have hF : Hid (decide (ps = qs) = false) := hF
      rw [decide_eq_false hxy] at hbs
      clear HT HF hxy
      generalize x.length = xl at *
      generalize y.length = yl at *
      go_wp2
      go_ret
      exact ⟨by rw [hF.out]; rfl, hnd⟩
end Go.Proofs.Ytihdhlciblkbiaa
