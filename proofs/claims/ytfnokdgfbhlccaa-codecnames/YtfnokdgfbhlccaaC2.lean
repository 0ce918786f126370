/-
  Fields compared with themselves, wherever they lie.
-/
import Derived.Test.YtfnokdgfbhlccaaRows
import Derived.Test.YtfnokdgfbhlccaaC1
namespace Go.Proofs.Ytfnokdgfbhlccaa
set_option linter.unusedVariables false
set_option linter.unusedSimpArgs false
open Go.RowKit

set_option maxHeartbeats 3200000 in
theorem c_same (Ka Kb : Nat) (va vb : Value) (fs : List Fld) (w : World) (ha : FieldsAt Ka w va fs) (hb : FieldsAt Kb w vb fs) (hKa : Ka ≤ w.heap.size) (hKb : Kb ≤ w.heap.size) (hl : fs.length ≤ 140737488355328) :
    Calls Try.prog 14 #[va, vb] w fun e w' => e = .returned (.bool true) ∧ Below w.heap.size w w' := by
  obtain ⟨ao, cap, rfl, h1⟩ := ha
  have ha : FieldsAt Ka w (.slice ao fs.length cap) fs := ⟨ao, cap, rfl, h1⟩
  clear h1
  obtain ⟨ao', cap', rfl, h1⟩ := hb
  have hb : FieldsAt Kb w (.slice ao' fs.length cap') fs := ⟨ao', cap', rfl, h1⟩
  clear h1
  go_enter Try.func14, Try.ntmps14
  go_wp2
  go_loopw [13] (fun i wr => ∃ k : Nat, k ≤ fs.length ∧ i = .int .i64 k ∧ Below w.heap.size w wr) (fun i _ => fs.length - (intOf i).toNat)
  case atStart => exact ⟨0, Nat.zero_le _, rfl, Below.refl _ _⟩
  case round =>
    obtain ⟨k, hk, rfl, hbel⟩ := hrel
    by_cases hlt : k < fs.length
    · obtain ⟨b, off, bvv, rfl, hbK, hcn, hcb, hsb, hnum, hbl⟩ := fields_get ha k hlt
      obtain ⟨bo, bc, rfl⟩ : ∃ bo bc, bvv = .slice bo (fs[k].bytes.length) bc := sl_form hsb
      obtain ⟨b', off', bvv', rfl, hbK', hcn', hcb', hsb', _, _⟩ := fields_get hb k hlt
      obtain ⟨bo', bc', rfl⟩ : ∃ bo' bc', bvv' = .slice bo' (fs[k].bytes.length) bc' := sl_form hsb'
      have hS : (fun w' : World => w'.cell? ⟨b, off + k * 2, none⟩ = some (.int .u64 (fs[k].num : Nat)) ∧ w'.cell? ⟨b, off + k * 2 + 1, none⟩ = some (.slice bo fs[k].bytes.length bc) ∧ w'.cell? ⟨b', off' + k * 2, none⟩ = some (.int .u64 (fs[k].num : Nat)) ∧ w'.cell? ⟨b', off' + k * 2 + 1, none⟩ = some (.slice bo' fs[k].bytes.length bc') ∧ (convert 22 9 (.slice bo fs[k].bytes.length bc)).run Try.prog w' = .ok (.string ⟨fs[k].bytes.toArray⟩) w' ∧ (convert 22 9 (.slice bo' fs[k].bytes.length bc')).run Try.prog w' = .ok (.string ⟨fs[k].bytes.toArray⟩) w') wr.drew := by
        have hbd : Below w.heap.size w wr.drew := hbel.drew
        refine ⟨?_, ?_, ?_, ?_, ?_, ?_⟩
        · rw [hbd.cell (p := ⟨b, _, none⟩) (by show b < _; omega)]; exact hcn
        · rw [hbd.cell (p := ⟨b, _, none⟩) (by show b < _; omega)]; exact hcb
        · rw [hbd.cell (p := ⟨b', _, none⟩) (by show b' < _; omega)]; exact hcn'
        · rw [hbd.cell (p := ⟨b', _, none⟩) (by show b' < _; omega)]; exact hcb'
        · exact run_string_sl 22 5 9 Try.underlying22 Try.underlying5 Try.underlying9 (hsb.keep (hbd.mono hKa))
        · exact run_string_sl 22 5 9 Try.underlying22 Try.underlying5 Try.underlying9 (hsb'.keep (hbd.mono hKb))
      clear hcn hcb hcn' hcb' hsb hsb'
      have hk0 : (0 : Int) ≤ (k : Int) := by omega
      have hk1 : (k : Int) < (fs.length : Int) := by omega
      go_wp2
      refine wp_region_ord [] 25 [(0, true), (1, true), (2, true), (3, true), (4, true), (5, true), (6, true), (7, true), (8, true), (9, true), (10, true), (11, true), (12, true), (13, true), (14, true), (15, true), (16, true), (17, true), (18, true), (19, true), (20, true), (21, true), (22, true), (23, true), (24, true)] (fun w' : World => w'.cell? ⟨b, off + k * 2, none⟩ = some (.int .u64 (fs[k].num : Nat)) ∧ w'.cell? ⟨b, off + k * 2 + 1, none⟩ = some (.slice bo fs[k].bytes.length bc) ∧ w'.cell? ⟨b', off' + k * 2, none⟩ = some (.int .u64 (fs[k].num : Nat)) ∧ w'.cell? ⟨b', off' + k * 2 + 1, none⟩ = some (.slice bo' fs[k].bytes.length bc') ∧ (convert 22 9 (.slice bo fs[k].bytes.length bc)).run Try.prog w' = .ok (.string ⟨fs[k].bytes.toArray⟩) w' ∧ (convert 22 9 (.slice bo' fs[k].bytes.length bc')).run Try.prog w' = .ok (.string ⟨fs[k].bytes.toArray⟩) w') (by kernel_rfl) (by kernel_rfl) ?_
      refine ord_quietK _ ?_ rfl hS ?_ ?_ (fun Kq hKq => ?_)
      rotate_left
      · rfl
      · rintro w' ⟨hS1, hS2, hS3, hS4, hS5, hS6⟩; go_simp; rfl
      simp only [Act.put, List.getElem_toArray, List.getElem_cons_succ, List.getElem_cons_zero, List.setIfInBounds_toArray, List.set_cons_succ, List.set_cons_zero]
      refine hKq _ _ ?_
      clear hKq Kq
      refine ord_quietK _ ?_ rfl hS ?_ ?_ (fun Kq hKq => ?_)
      rotate_left
      · rfl
      · rintro w' ⟨hS1, hS2, hS3, hS4, hS5, hS6⟩; go_simp; rfl
      simp only [Act.put, List.getElem_toArray, List.getElem_cons_succ, List.getElem_cons_zero, List.setIfInBounds_toArray, List.set_cons_succ, List.set_cons_zero]
      refine hKq _ _ ?_
      clear hKq Kq
      refine ord_quietK _ ?_ rfl hS ?_ ?_ (fun Kq hKq => ?_)
      rotate_left
      · rfl
      · rintro w' ⟨hS1, hS2, hS3, hS4, hS5, hS6⟩; go_simp; rfl
      simp only [Act.put, List.getElem_toArray, List.getElem_cons_succ, List.getElem_cons_zero, List.setIfInBounds_toArray, List.set_cons_succ, List.set_cons_zero]
      refine hKq _ _ ?_
      clear hKq Kq
      refine ord_quietK _ ?_ rfl hS ?_ ?_ (fun Kq hKq => ?_)
      rotate_left
      · rfl
      · rintro w' ⟨hS1, hS2, hS3, hS4, hS5, hS6⟩; go_simp; rfl
      simp only [Act.put, List.getElem_toArray, List.getElem_cons_succ, List.getElem_cons_zero, List.setIfInBounds_toArray, List.set_cons_succ, List.set_cons_zero]
      refine hKq _ _ ?_
      clear hKq Kq
      refine ord_quietK _ ?_ rfl hS ?_ ?_ (fun Kq hKq => ?_)
      rotate_left
      · rfl
      · rintro w' ⟨hS1, hS2, hS3, hS4, hS5, hS6⟩; go_simp; rfl
      simp only [Act.put, List.getElem_toArray, List.getElem_cons_succ, List.getElem_cons_zero, List.setIfInBounds_toArray, List.set_cons_succ, List.set_cons_zero]
      refine hKq _ _ ?_
      clear hKq Kq
      refine ord_quietK _ ?_ rfl hS ?_ ?_ (fun Kq hKq => ?_)
      rotate_left
      · rfl
      · rintro w' ⟨hS1, hS2, hS3, hS4, hS5, hS6⟩; go_simp; rfl
      simp only [Act.put, List.getElem_toArray, List.getElem_cons_succ, List.getElem_cons_zero, List.setIfInBounds_toArray, List.set_cons_succ, List.set_cons_zero]
      refine hKq _ _ ?_
      clear hKq Kq
      refine ord_quietK _ ?_ rfl hS ?_ ?_ (fun Kq hKq => ?_)
      rotate_left
      · rfl
      · rintro w' ⟨hS1, hS2, hS3, hS4, hS5, hS6⟩; go_simp; rfl
      simp only [Act.put, List.getElem_toArray, List.getElem_cons_succ, List.getElem_cons_zero, List.setIfInBounds_toArray, List.set_cons_succ, List.set_cons_zero]
      refine hKq _ _ ?_
      clear hKq Kq
      refine ord_quietK _ ?_ rfl hS ?_ ?_ (fun Kq hKq => ?_)
      rotate_left
      · rfl
      · rintro w' ⟨hS1, hS2, hS3, hS4, hS5, hS6⟩; go_simp; rfl
      simp only [Act.put, List.getElem_toArray, List.getElem_cons_succ, List.getElem_cons_zero, List.setIfInBounds_toArray, List.set_cons_succ, List.set_cons_zero]
      refine hKq _ _ ?_
      clear hKq Kq
      refine ord_quietK _ ?_ rfl hS ?_ ?_ (fun Kq hKq => ?_)
      rotate_left
      · rfl
      · rintro w' ⟨hS1, hS2, hS3, hS4, hS5, hS6⟩; go_simp; rfl
      simp only [Act.put, List.getElem_toArray, List.getElem_cons_succ, List.getElem_cons_zero, List.setIfInBounds_toArray, List.set_cons_succ, List.set_cons_zero]
      refine hKq _ _ ?_
      clear hKq Kq
      refine ord_quietK _ ?_ rfl hS ?_ ?_ (fun Kq hKq => ?_)
      rotate_left
      · rfl
      · rintro w' ⟨hS1, hS2, hS3, hS4, hS5, hS6⟩; go_simp; rfl
      simp only [Act.put, List.getElem_toArray, List.getElem_cons_succ, List.getElem_cons_zero, List.setIfInBounds_toArray, List.set_cons_succ, List.set_cons_zero]
      refine hKq _ _ ?_
      clear hKq Kq
      refine ord_quietK _ ?_ rfl hS ?_ ?_ (fun Kq hKq => ?_)
      rotate_left
      · rfl
      · rintro w' ⟨hS1, hS2, hS3, hS4, hS5, hS6⟩; go_simp; rfl
      simp only [Act.put, List.getElem_toArray, List.getElem_cons_succ, List.getElem_cons_zero, List.setIfInBounds_toArray, List.set_cons_succ, List.set_cons_zero]
      refine hKq _ _ ?_
      clear hKq Kq
      refine ord_quietK _ ?_ rfl hS ?_ ?_ (fun Kq hKq => ?_)
      rotate_left
      · rfl
      · rintro w' ⟨hS1, hS2, hS3, hS4, hS5, hS6⟩; go_simp; rfl
      simp only [Act.put, List.getElem_toArray, List.getElem_cons_succ, List.getElem_cons_zero, List.setIfInBounds_toArray, List.set_cons_succ, List.set_cons_zero]
      refine hKq _ _ ?_
      clear hKq Kq
      refine ord_quietK _ ?_ rfl hS ?_ ?_ (fun Kq hKq => ?_)
      rotate_left
      · simp [Region.wanted, yielded]
      · rintro w' ⟨hS1, hS2, hS3, hS4, hS5, hS6⟩; go_simp; rfl
      simp only [Act.put, List.getElem_toArray, List.getElem_cons_succ, List.getElem_cons_zero, List.setIfInBounds_toArray, List.set_cons_succ, List.set_cons_zero]
      refine hKq _ _ ?_
      clear hKq Kq
      refine ord_quietK _ ?_ rfl hS ?_ ?_ (fun Kq hKq => ?_)
      rotate_left
      · simp [Region.wanted, yielded]
      · rintro w' ⟨hS1, hS2, hS3, hS4, hS5, hS6⟩; go_simp; rfl
      simp only [Act.put, List.getElem_toArray, List.getElem_cons_succ, List.getElem_cons_zero, List.setIfInBounds_toArray, List.set_cons_succ, List.set_cons_zero]
      refine hKq _ _ ?_
      clear hKq Kq
      refine ord_quietK _ ?_ rfl hS ?_ ?_ (fun Kq hKq => ?_)
      rotate_left
      · simp [Region.wanted, yielded]
      · rintro w' ⟨hS1, hS2, hS3, hS4, hS5, hS6⟩; go_simp; rfl
      simp only [Act.put, List.getElem_toArray, List.getElem_cons_succ, List.getElem_cons_zero, List.setIfInBounds_toArray, List.set_cons_succ, List.set_cons_zero]
      refine hKq _ _ ?_
      clear hKq Kq
      refine ord_quietK _ ?_ rfl hS ?_ ?_ (fun Kq hKq => ?_)
      rotate_left
      · simp [Region.wanted, yielded]
      · rintro w' ⟨hS1, hS2, hS3, hS4, hS5, hS6⟩; go_simp; rfl
      simp only [Act.put, List.getElem_toArray, List.getElem_cons_succ, List.getElem_cons_zero, List.setIfInBounds_toArray, List.set_cons_succ, List.set_cons_zero]
      refine hKq _ _ ?_
      clear hKq Kq
      refine ord_quietK _ ?_ rfl hS ?_ ?_ (fun Kq hKq => ?_)
      rotate_left
      · simp [Region.wanted, yielded]
      · rintro w' ⟨hS1, hS2, hS3, hS4, hS5, hS6⟩; go_simp; rfl
      simp only [Act.put, List.getElem_toArray, List.getElem_cons_succ, List.getElem_cons_zero, List.setIfInBounds_toArray, List.set_cons_succ, List.set_cons_zero]
      refine hKq _ _ ?_
      clear hKq Kq
      refine ord_quietK _ ?_ rfl hS ?_ ?_ (fun Kq hKq => ?_)
      rotate_left
      · simp [Region.wanted, yielded]
      · rintro w' ⟨hS1, hS2, hS3, hS4, hS5, hS6⟩; go_simp; rfl
      simp only [Act.put, List.getElem_toArray, List.getElem_cons_succ, List.getElem_cons_zero, List.setIfInBounds_toArray, List.set_cons_succ, List.set_cons_zero]
      refine hKq _ _ ?_
      clear hKq Kq
      refine ord_quietK _ ?_ rfl hS ?_ ?_ (fun Kq hKq => ?_)
      rotate_left
      · simp [Region.wanted, yielded]
      · rintro w' ⟨hS1, hS2, hS3, hS4, hS5, hS6⟩; go_simp; rfl
      simp only [Act.put, List.getElem_toArray, List.getElem_cons_succ, List.getElem_cons_zero, List.setIfInBounds_toArray, List.set_cons_succ, List.set_cons_zero]
      refine hKq _ _ ?_
      clear hKq Kq
      refine ord_quietK _ ?_ rfl hS ?_ ?_ (fun Kq hKq => ?_)
      rotate_left
      · simp [Region.wanted, yielded]
      · rintro w' ⟨hS1, hS2, hS3, hS4, hS5, hS6⟩; go_simp; rfl
      simp only [Act.put, List.getElem_toArray, List.getElem_cons_succ, List.getElem_cons_zero, List.setIfInBounds_toArray, List.set_cons_succ, List.set_cons_zero]
      refine hKq _ _ ?_
      clear hKq Kq
      refine ord_quietK _ ?_ rfl hS ?_ ?_ (fun Kq hKq => ?_)
      rotate_left
      · simp [Region.wanted, yielded]
      · rintro w' ⟨hS1, hS2, hS3, hS4, hS5, hS6⟩; go_simp; rfl
      simp only [Act.put, List.getElem_toArray, List.getElem_cons_succ, List.getElem_cons_zero, List.setIfInBounds_toArray, List.set_cons_succ, List.set_cons_zero]
      refine hKq _ _ ?_
      clear hKq Kq
      refine ord_quietK _ ?_ rfl hS ?_ ?_ (fun Kq hKq => ?_)
      rotate_left
      · simp [Region.wanted, yielded]
      · rintro w' ⟨hS1, hS2, hS3, hS4, hS5, hS6⟩; go_simp; rfl
      simp only [Act.put, List.getElem_toArray, List.getElem_cons_succ, List.getElem_cons_zero, List.setIfInBounds_toArray, List.set_cons_succ, List.set_cons_zero]
      refine hKq _ _ ?_
      clear hKq Kq
      refine ord_quietK _ ?_ rfl hS ?_ ?_ (fun Kq hKq => ?_)
      rotate_left
      · simp [Region.wanted, yielded]
      · rintro w' ⟨hS1, hS2, hS3, hS4, hS5, hS6⟩; go_simp; rfl
      simp only [Act.put, List.getElem_toArray, List.getElem_cons_succ, List.getElem_cons_zero, List.setIfInBounds_toArray, List.set_cons_succ, List.set_cons_zero]
      refine hKq _ _ ?_
      clear hKq Kq
      refine ord_quietK _ ?_ rfl hS ?_ ?_ (fun Kq hKq => ?_)
      rotate_left
      · simp [Region.wanted, yielded]
      · rintro w' ⟨hS1, hS2, hS3, hS4, hS5, hS6⟩; go_simp; rfl
      simp only [Act.put, List.getElem_toArray, List.getElem_cons_succ, List.getElem_cons_zero, List.setIfInBounds_toArray, List.set_cons_succ, List.set_cons_zero]
      refine hKq _ _ ?_
      clear hKq Kq
      refine ord_quietK _ ?_ rfl hS ?_ ?_ (fun Kq hKq => ?_)
      rotate_left
      · simp [Region.wanted, yielded]
      · rintro w' ⟨hS1, hS2, hS3, hS4, hS5, hS6⟩; go_simp; rfl
      simp only [Act.put, List.getElem_toArray, List.getElem_cons_succ, List.getElem_cons_zero, List.setIfInBounds_toArray, List.set_cons_succ, List.set_cons_zero]
      refine hKq _ _ ?_
      clear hKq Kq
      refine ord_tail ?_
      simp only [List.drop_succ_cons, List.drop_zero]
      go_wp2
      go_roundw
      case rel => exact ⟨k + 1, by omega, by go_num, hbel.drew⟩
      case measure => simp [intOf]; omega
    · go_wp2
      go_ret
      exact ⟨rfl, hbel⟩
end Go.Proofs.Ytfnokdgfbhlccaa
