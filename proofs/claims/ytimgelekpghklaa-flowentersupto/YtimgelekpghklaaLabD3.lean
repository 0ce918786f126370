/-
  Package label: Level, hasForm, formed, leastID, levelAhead; the document's Level.
-/
import Derived.Test.YtimgelekpghklaaLabD2
import Derived.Deep.QuietTactic
import Derived.BigQuiet
namespace Go.Proofs.Ytimgelekpghklaa
set_option linter.unusedVariables false
set_option linter.unusedSimpArgs false
set_option maxRecDepth 20000
open Go.RowKit

theorem nw_drewN (w : World) (q : Nat) : Nw w (w.drewN q) := ⟨rfl, rfl, rfl, Nat.le_refl _, fun _ _ _ => rfl⟩

theorem lev_drop {d id : Int} {xs : List Cat} {k : Nat} (hk : k < xs.length) : lev d (xs.drop k) id = if xs[k].1 = id then xs[k].2 else lev d (xs.drop (k + 1)) id := by
  rw [List.drop_eq_getElem_cons hk, lev]

set_option maxHeartbeats 1600000 in
theorem c_level {X : Nat → Prop} {v : Value} {xs : List Cat} (d id : Int) (w : World) (h : CSl X w v xs) :
    Calls Try.prog 9 #[labV d v, .int .u64 id] w fun e w' => e = .returned (.int .i64 (lev d xs id)) ∧ Nw w w' := by
  unfold labV
  obtain ⟨ao, cap, rfl, hcl, hcm⟩ := h.form
  have hB : (w.alloc (.cells #[.int .i64 d, .slice ao xs.length cap] 24)).heap[w.heap.size]? = some (.cells #[.int .i64 d, .slice ao xs.length cap] 24 (0, 0)) := heap_alloc_new w _
  have hnw : Nw w (w.alloc (.cells #[.int .i64 d, .slice ao xs.length cap] 24)) := nw_alloc (nw_refl w) _
  have hc1 := h.nw hnw
  go_enter Try.func9, Try.ntmps9
  go_upto_region 1 with fail
  generalize w.alloc (.cells #[.int .i64 d, .slice ao xs.length cap] 24) = W at *
  generalize hBB : w.heap.size = B at *
  replace hBB : Hid _ := hBB
  have b1 : W.cell? ⟨B, 1, none⟩ = some (.slice ao xs.length cap) := cell_blk hB rfl
  go_wp2
  clear b1
  go_loopw [10] (fun kv wr => ∃ k : Nat, k ≤ xs.length ∧ kv = .int .i64 k ∧ Hid (lev d (xs.drop k) id = lev d xs id) ∧ Nw W wr) (fun kv _ => xs.length - (intOf kv).toNat)
  case atStart => exact ⟨0, Nat.zero_le _, rfl, rfl, nw_refl _⟩
  case round =>
    obtain ⟨k, hk, rfl, hl, hw⟩ := hrel
    have hcr := hc1.nw hw
    by_cases hlt : k < xs.length
    · obtain ⟨q, off, rfl, _, d1, d2⟩ := hcr.get k hlt
      have hst : Hid (lev d (xs.drop k) id = if xs[k].1 = id then xs[k].2 else lev d (xs.drop (k + 1)) id) := lev_drop hlt
      generalize xs[k] = c at *
      have hnA : Hid (∀ o, Nw W (wr.alloc o)) := fun o => nw_alloc hw o
      by_cases hc : c.1 = id
      · have hb : (c.1 == id) = true := by simp [hc]
        have hfin : Hid (c.2 = lev d xs id) := by unfold Hid; rw [← hl.out, hst.out, if_pos hc]
        clear hst hl hc
        go_wp2
        go_ret
        exact ⟨congrArg (fun z => Ending.returned (Value.int .i64 z)) hfin.out, nw_trans hnw (hnA.out _)⟩
      · have hb : (c.1 == id) = false := by simp [hc]
        have hl' : Hid (lev d (xs.drop (k + 1)) id = lev d xs id) := by unfold Hid; rw [← hl.out, hst.out, if_neg hc]
        clear hst hl hc
        go_wp2
        go_roundw
        case rel => exact ⟨k + 1, by omega, by go_num, hl', hnA.out _⟩
        case measure => simp [intOf]; omega
    · have b0 : wr.cell? ⟨B, 0, none⟩ = some (.int .i64 d) := cell_blk ((hw.block B (heap_lt hB) (fun h => h)).trans hB) rfl
      have hfin : Hid (d = lev d xs id) := by unfold Hid; rw [← hl.out, List.drop_of_length_le (by omega)]; rfl
      clear hl
      go_wp2
      go_ret
      refine ⟨?_, nw_trans hnw hw⟩
      have := hfin.out
      exact congrArg (fun z => Ending.returned (Value.int .i64 z)) this

/-- The form so far. -/
def FmT (d : Int) (xs : List Cat) (k : Nat) : Prop := ∀ i, i < k → (gt xs i).2 ≠ d ∧ (0 < i → ky xs (i - 1) < ky xs i)

theorem fm_of {d : Int} {xs : List Cat} (h : FmT d xs xs.length) : Fm d xs := by
  refine ⟨List.pairwise_iff_getElem.2 (fun i j hi hj hij => ?_), fun c hc => ?_⟩
  · have key : ∀ m, i + m + 1 < xs.length → ky xs i < ky xs (i + m + 1) := by
      intro m
      induction m with
      | zero => intro hm; have := (h (i + 1) hm).2 (by omega); simpa using this
      | succ m ih => intro hm; have h1 := ih (by omega); have h2 := (h (i + (m + 1) + 1) hm).2 (by omega); rw [show i + (m + 1) + 1 - 1 = i + m + 1 by omega] at h2; omega
    have := key (j - i - 1) (by omega)
    rw [show i + (j - i - 1) + 1 = j by omega] at this
    unfold ky at this
    rwa [gt_of hi, gt_of hj] at this
  · obtain ⟨i, hi, rfl⟩ := List.getElem_of_mem hc
    have := (h i hi).1
    rwa [gt_of hi] at this

theorem of_fm {d : Int} {xs : List Cat} (h : Fm d xs) : FmT d xs xs.length := by
  intro i hi
  refine ⟨by rw [gt_of hi]; exact h.ne _ (List.getElem_mem hi), fun h0 => ?_⟩
  have := List.pairwise_iff_getElem.1 h.rs (i - 1) i (by omega) hi (by omega)
  unfold ky
  rwa [gt_of hi, gt_of (by omega)]

set_option maxHeartbeats 1600000 in
theorem c_hasForm {X : Nat → Prop} {v : Value} {xs : List Cat} (d : Int) (w : World) (h : CSl X w v xs) :
    Calls Try.prog 27 #[labV d v] w fun e w' => ∃ r : Bool, e = .returned (.bool r) ∧ (r = true ↔ Fm d xs) ∧ Nw w w' := by
  unfold labV
  obtain ⟨ao, cap, rfl, hcl, hcm⟩ := h.form
  have hB : (w.alloc (.cells #[.int .i64 d, .slice ao xs.length cap] 24)).heap[w.heap.size]? = some (.cells #[.int .i64 d, .slice ao xs.length cap] 24 (0, 0)) := heap_alloc_new w _
  have hnw : Nw w (w.alloc (.cells #[.int .i64 d, .slice ao xs.length cap] 24)) := nw_alloc (nw_refl w) _
  have hc1 := h.nw hnw
  go_enter Try.func27, Try.ntmps27
  go_upto_region 1 with fail
  generalize w.alloc (.cells #[.int .i64 d, .slice ao xs.length cap] 24) = W at *
  generalize hBB : w.heap.size = B at *
  replace hBB : Hid _ := hBB
  have b1 : W.cell? ⟨B, 1, none⟩ = some (.slice ao xs.length cap) := cell_blk hB rfl
  go_wp2
  clear b1
  go_loopw [8] (fun kv wr => ∃ k : Nat, k ≤ xs.length ∧ kv = .int .i64 k ∧ Hid (FmT d xs k) ∧ Nw W wr) (fun kv _ => xs.length - (intOf kv).toNat)
  case atStart => exact ⟨0, Nat.zero_le _, rfl, fun i hi => by omega, nw_refl _⟩
  case round =>
    obtain ⟨k, hk, rfl, hl, hw⟩ := hrel
    have hcr := hc1.nw hw
    by_cases hlt : k < xs.length
    · obtain ⟨q, off, rfl, _, d1, d2⟩ := hcr.get k hlt
      have hg : Hid (gt xs k = xs[k]) := gt_of hlt
      have hA : Hid (∀ o, Nw W (wr.alloc o)) := fun o => nw_alloc hw o
      have hBr := (hw.block B (heap_lt hB) (fun h => h)).trans hB
      have hBl := heap_lt hBr
      generalize hcc : xs[k] = c at *
      have hV : (wr.alloc (.cells #[.int .u64 c.1, .int .i64 c.2] 33)).heap[wr.heap.size]? = some (.cells #[.int .u64 c.1, .int .i64 c.2] 33 (0, 0)) := heap_alloc_new wr _
      have hcA := hcr.nw (nw_alloc (nw_refl wr) (.cells #[.int .u64 c.1, .int .i64 c.2] 33))
      have hBA : (wr.alloc (.cells #[.int .u64 c.1, .int .i64 c.2] 33)).heap[B]? = some (.cells #[.int .i64 d, .slice (some ⟨q, off, none⟩) xs.length cap] 24 (0, 0)) := (Below.heap_alloc _ _ _ hBl).trans hBr
      have hnA := hA.out (.cells #[.int .u64 c.1, .int .i64 c.2] 33)
      replace hcc : Hid _ := hcc
      clear hA hBr hw hcr
      go_upto_region 4 with fail
      generalize wr.alloc (.cells #[.int .u64 c.1, .int .i64 c.2] 33) = U at *
      generalize wr.heap.size = V at *
      clear d1 d2
      have v0 : ∀ q, (U.drewN q).cell? ⟨V, 0, none⟩ = some (.int .u64 c.1) := fun q => cell_blk (w := U.drewN q) hV rfl
      have v1 : ∀ q, (U.drewN q).cell? ⟨V, 1, none⟩ = some (.int .i64 c.2) := fun q => cell_blk (w := U.drewN q) hV rfl
      have b0 : ∀ q, (U.drewN q).cell? ⟨B, 0, none⟩ = some (.int .i64 d) := fun q => cell_blk (w := U.drewN q) hBA rfl
      by_cases hcd : c.2 = d
      · have hb : (c.2 == d) = true := by simp [hcd]
        have hno : Hid (¬ Fm d xs) := fun hf => ((of_fm hf) k hlt).1 (by rw [hg.out]; exact hcd)
        clear hcd hl
        go_quiet (fail)
        go_wp2
        go_ret
        exact ⟨false, rfl, ⟨(fun h => Bool.noConfusion h), (fun h => absurd h hno.out)⟩, nw_trans hnw (nw_trans hnA (nw_drewN U _))⟩
      · have hb : (c.2 == d) = false := by simp [hcd]
        by_cases hk0 : 0 < k
        · obtain ⟨k, rfl⟩ : ∃ k' : Nat, k = k' + 1 := ⟨k - 1, by omega⟩
          obtain ⟨q', off', hq', _, d3, d4⟩ := hcA.get k (by omega)
          simp only [Option.some.injEq, Addr.mk.injEq, and_true] at hq'
          obtain ⟨rfl, rfl⟩ := hq'
          have hg2 : Hid (gt xs k = xs[k]'(by omega)) := gt_of (by omega)
          generalize xs[k]'(by omega) = e at *
          have e0 : ∀ z, (U.drewN z).cell? ⟨q, off + k * 2, none⟩ = some (.int .u64 e.1) := fun z => d3
          have b1 : ∀ z, (U.drewN z).cell? ⟨B, 1, none⟩ = some (.slice (some ⟨q, off, none⟩) xs.length cap) := fun z => cell_blk (w := U.drewN z) hBA rfl
          clear d3 d4
          by_cases hce : c.1 ≤ e.1
          · have hno : Hid (¬ Fm d xs) := fun hf => by
              have := ((of_fm hf) (k + 1) hlt).2 (by omega)
              unfold ky at this
              rw [Nat.add_sub_cancel, hg.out, hg2.out] at this
              omega
            clear hcd hl
            go_quiet (fail)
            go_wp2
            go_ret
            exact ⟨false, rfl, ⟨(fun h => Bool.noConfusion h), (fun h => absurd h hno.out)⟩, nw_trans hnw (nw_trans hnA (nw_drewN U _))⟩
          · have hl' : Hid (FmT d xs (k + 1 + 1)) := fun i hi => by
              by_cases hik : i = k + 1
              · subst hik
                exact ⟨by rw [hg.out]; exact hcd, fun _ => by unfold ky; rw [Nat.add_sub_cancel, hg.out, hg2.out]; omega⟩
              · exact hl.out i (by omega)
            clear hcd hl
            go_quiet (fail)
            go_wp2
            go_roundw
            case rel => exact ⟨k + 1 + 1, by omega, by go_num, hl', nw_trans hnA (nw_drewN U _)⟩
            case measure => simp [intOf]; omega
        · have hl' : Hid (FmT d xs (k + 1)) := fun i hi => by
            have : i = k := by omega
            subst this
            exact ⟨by rw [hg.out]; exact hcd, fun h => absurd h hk0⟩
          clear hcd hl
          go_quiet (fail)
          go_wp2
          go_roundw
          case rel => exact ⟨k + 1, by omega, by go_num, hl', nw_trans hnA (nw_drewN U _)⟩
          case measure => simp [intOf]; omega
    · have hfin : Hid (FmT d xs xs.length) := by
        have : k = xs.length := by omega
        subst this; exact hl
      clear hl
      go_wp2
      go_ret
      exact ⟨true, rfl, ⟨fun _ => fm_of hfin.out, fun _ => rfl⟩, nw_trans hnw hw⟩
end Go.Proofs.Ytimgelekpghklaa
