/-
  The document's Leq.
-/
import Derived.Test.YtimgelekpghklaaLabR3
namespace Go.Proofs.Ytimgelekpghklaa
set_option linter.unusedVariables false
set_option linter.unusedSimpArgs false
set_option maxRecDepth 20000
open Go.RowKit

theorem far2 (xa xb : List Cat) (da db : Int) : ∃ id, lev da xa id = da ∧ lev db xb id = db := by
  obtain ⟨m, hm⟩ := far xa
  obtain ⟨k, hk⟩ := far xb
  exact ⟨max m k, lev_none (fun c hc => by have := hm c hc; omega), lev_none (fun c hc => by have := hk c hc; omega)⟩

theorem leq_ids {xa xb : List Cat} {da db : Int} (hd : da ≤ db) (h : ∀ id ∈ idsL xa xb, lev da xa id ≤ lev db xb id) : ∀ id, lev da xa id ≤ lev db xb id := by
  intro id
  by_cases hid : id ∈ idsL xa xb
  · exact h id hid
  · have hm := (idsL_rs xa xb).2.1 id
    rw [hm] at hid
    rw [lev_none (fun c hc he => hid (.inl ⟨c, hc, he⟩)), lev_none (fun c hc he => hid (.inr ⟨c, hc, he⟩))]
    exact hd

def RleqP (da db : Int) (xa xb : List Cat) (w : World) (e : Ending) (w' : World) : Prop := ∃ r : Bool, e = .returned (.bool r) ∧ (r = true ↔ ∀ id, lev da xa id ≤ lev db xb id) ∧ Nw w w'

set_option maxHeartbeats 3200000 in
theorem c_rleq {X Y : Nat → Prop} {va vb : Value} {xa xb : List Cat} (da db : Int) (w : World) (ha : CSl X w va xa) (hb : CSl Y w vb xb) (hl : xa.length + xb.length ≤ 17592186044416) :
    Calls Try.prog 23 #[labV da va, labV db vb] w (RleqP da db xa xb w) := by
  obtain ⟨aa, ac, rfl, ha1, ha2⟩ := ha.form
  obtain ⟨ba, bc, rfl, hb1, hb2⟩ := hb.form
  obtain ⟨W, hW⟩ : ∃ W, Hid (W = (w.alloc (.cells #[.int .i64 da, .slice aa xa.length ac] 24)).alloc (.cells #[.int .i64 db, .slice ba xb.length bc] 24)) := ⟨_, rfl⟩
  have nW : Nw w W := by rw [hW.out]; exact nw_alloc (nw_alloc (nw_refl w) _) _
  have hA : W.heap[w.heap.size]? = some (.cells #[.int .i64 da, .slice aa xa.length ac] 24 (0, 0)) := by rw [hW.out]; exact heap_alloc2_old w _ _
  have hB : W.heap[w.heap.size + 1]? = some (.cells #[.int .i64 db, .slice ba xb.length bc] 24 (0, 0)) := by rw [hW.out]; exact heap_alloc2_new w _ _
  replace ha := ha.nw nW
  replace hb := hb.nw nW
  have hcon : Hid _ := c_ids da db W ha hb hl
  unfold labV
  go_enter Try.func23, Try.ntmps23
  go_upto_region 1 with fail
  rw [← hW.out]
  clear hW
  generalize w.heap.size = N at *
  have a0 : W.cell? ⟨N, 0, none⟩ = some (.int .i64 da) := cell_blk hA rfl
  have a1 : W.cell? ⟨N, 1, none⟩ = some (.slice aa xa.length ac) := cell_blk hA rfl
  have b0 : W.cell? ⟨N + 1, 0, none⟩ = some (.int .i64 db) := cell_blk hB rfl
  have b1 : W.cell? ⟨N + 1, 1, none⟩ = some (.slice ba xb.length bc) := cell_blk hB rfl
  by_cases hd : db < da
  · have hno : Hid (¬ ∀ id, lev da xa id ≤ lev db xb id) := fun h => by
      obtain ⟨id, e1, e2⟩ := far2 xa xb da db
      have := h id
      rw [e1, e2] at this
      omega
    go_wp2
    go_ret
    exact ⟨false, rfl, ⟨(fun h => Bool.noConfusion h), (fun h => absurd h hno.out)⟩, nW⟩
  · go_wp2_with (go_at_call 38; refine Calls.mono hcon.out ?_; rintro e W1 ⟨u, rfl, hu, n1⟩; refine stop_here ?_)
    unfold Hid
    clear hcon a0 a1 b0 b1
    replace hA := (n1.block _ (heap_lt hA) (fun h => h)).trans hA
    replace hB := (n1.block _ (heap_lt hB) (fun h => h)).trans hB
    replace ha := ha.nw n1
    replace hb := hb.nw n1
    replace nW := nw_trans nW n1
    clear n1
    obtain ⟨ua, uc, rfl, hu1, hu2⟩ := hu.form
    have hdd : Hid (da ≤ db) := by unfold Hid; omega
    replace hd : Hid _ := hd
    go_wp2
    go_loopw [17] (fun kv wr => ∃ k : Nat, k ≤ (idsL xa xb).length ∧ kv = .int .i64 k ∧ Hid (∀ i (h : i < (idsL xa xb).length), i < k → lev da xa (idsL xa xb)[i] ≤ lev db xb (idsL xa xb)[i]) ∧ Nw W1 wr) (fun kv _ => (idsL xa xb).length - (intOf kv).toNat)
    case atStart => exact ⟨0, Nat.zero_le _, rfl, fun i _ h => by omega, nw_refl _⟩
    case round =>
      obtain ⟨k, hk, rfl, hle, hw⟩ := hrel
      by_cases hlt : k < (idsL xa xb).length
      · obtain ⟨q, off, rfl, _, d1⟩ := (hu.nw hw).get k hlt
        have hno : Hid (¬ lev da xa (idsL xa xb)[k] ≤ lev db xb (idsL xa xb)[k] → ¬ ∀ id, lev da xa id ≤ lev db xb id) := fun h1 h2 => h1 (h2 _)
        have hyes : Hid (lev da xa (idsL xa xb)[k] ≤ lev db xb (idsL xa xb)[k] → ∀ i (h : i < (idsL xa xb).length), i < k + 1 → lev da xa (idsL xa xb)[i] ≤ lev db xb (idsL xa xb)[i]) := fun h1 i hi hik => by
          by_cases e : i = k
          · subst e; exact h1
          · exact hle.out i hi (by omega)
        generalize (idsL xa xb)[k] = id at *
        have hSof : ∀ w', Nw W1 w' → (fun w' : World => Nw W1 w' ∧ w'.cell? ⟨N, 0, none⟩ = some (.int .i64 da) ∧ w'.cell? ⟨N, 1, none⟩ = some (.slice aa xa.length ac) ∧ w'.cell? ⟨N + 1, 0, none⟩ = some (.int .i64 db) ∧ w'.cell? ⟨N + 1, 1, none⟩ = some (.slice ba xb.length bc)) w' := fun w' hw => ⟨hw, cell_blk ((hw.block _ (heap_lt hA) (fun h => h)).trans hA) rfl, cell_blk ((hw.block _ (heap_lt hA) (fun h => h)).trans hA) rfl, cell_blk ((hw.block _ (heap_lt hB) (fun h => h)).trans hB) rfl, cell_blk ((hw.block _ (heap_lt hB) (fun h => h)).trans hB) rfl⟩
        have hW0 : Nw W1 wr.drew := Fr.drew hw
        go_wp2
        have hS := hSof _ hW0
        refine wp_region_ord [] 6 [(0, true), (1, true), (3, true), (4, true), (2, false), (5, false)] (fun w' : World => Nw W1 w' ∧ w'.cell? ⟨N, 0, none⟩ = some (.int .i64 da) ∧ w'.cell? ⟨N, 1, none⟩ = some (.slice aa xa.length ac) ∧ w'.cell? ⟨N + 1, 0, none⟩ = some (.int .i64 db) ∧ w'.cell? ⟨N + 1, 1, none⟩ = some (.slice ba xb.length bc)) (by kernel_rfl) (by kernel_rfl) ?_
        refine ord_quietL _ ?_ rfl hS rfl ?_ ?_
        rotate_left
        · rintro w' ⟨hn, h0, h1, h2, h3⟩; go_simp; first | rfl | (rw [if_pos (by omega)]; done) | (rw [if_pos (by omega)]; rfl) | (rw [if_pos (by omega)]; go_simp; rfl)
        simp only [Act.put, List.setIfInBounds_toArray, List.set_cons_zero, List.set_cons_succ]
        refine ord_quietL _ ?_ rfl hS rfl ?_ ?_
        rotate_left
        · rintro w' ⟨hn, h0, h1, h2, h3⟩; go_simp; first | rfl | (rw [if_pos (by omega)]; done) | (rw [if_pos (by omega)]; rfl) | (rw [if_pos (by omega)]; go_simp; rfl)
        simp only [Act.put, List.setIfInBounds_toArray, List.set_cons_zero, List.set_cons_succ]
        refine ord_quietL _ ?_ rfl hS rfl ?_ ?_
        rotate_left
        · rintro w' ⟨hn, h0, h1, h2, h3⟩; go_simp; first | rfl | (rw [if_pos (by omega)]; done) | (rw [if_pos (by omega)]; rfl) | (rw [if_pos (by omega)]; go_simp; rfl)
        simp only [Act.put, List.setIfInBounds_toArray, List.set_cons_zero, List.set_cons_succ]
        refine ord_quietL _ ?_ rfl hS rfl ?_ ?_
        rotate_left
        · rintro w' ⟨hn, h0, h1, h2, h3⟩; go_simp; first | rfl | (rw [if_pos (by omega)]; done) | (rw [if_pos (by omega)]; rfl) | (rw [if_pos (by omega)]; go_simp; rfl)
        simp only [Act.put, List.setIfInBounds_toArray, List.set_cons_zero, List.set_cons_succ]
        refine ord_actL _ rfl (fun K1 hK1 => ?_)
        have hcon : Hid _ := c_rlevel da id wr.drew (ha.nw hW0)
        unfold labV at hcon
        generalize lev da xa id = x at *
        go_wp2_with (go_at_call 39; refine Calls.mono hcon.out ?_; rintro e w3 ⟨rfl, q1⟩)
        have m1 := nw_trans hW0 q1
        refine hK1 _ _ (hSof _ m1) ?_
        clear hK1 K1 hcon q1 hS
        refine ord_actL _ rfl (fun K1 hK1 => ?_)
        have hcon : Hid _ := c_rlevel db id w3 (hb.nw m1)
        unfold labV at hcon
        generalize lev db xb id = y at *
        go_wp2_with (go_at_call 39; refine Calls.mono hcon.out ?_; rintro e w4 ⟨rfl, q1⟩)
        have m2 := nw_trans m1 q1
        refine hK1 _ _ (hSof _ m2) ?_
        clear hK1 K1 hcon q1
        refine ord_tail ?_
        simp only [List.drop_succ_cons, List.drop_zero]
        clear hSof
        by_cases hxy : y < x
        · have hno' : Hid _ := hno.out (by omega)
          clear hno hyes
          go_wp2
          go_ret
          exact ⟨false, rfl, ⟨(fun h => Bool.noConfusion h), (fun h => absurd h hno'.out)⟩, nw_trans nW m2⟩
        · have hle' : Hid _ := hyes.out (by omega)
          clear hno hyes
          go_wp2
          go_roundw
          case rel => exact ⟨k + 1, by omega, by go_num, hle', m2⟩
          case measure => simp [intOf]; omega
      · have hfin : Hid (∀ id, lev da xa id ≤ lev db xb id) := leq_ids hdd.out (fun id hid => by
          obtain ⟨i, hi, rfl⟩ := List.getElem_of_mem hid
          exact hle.out i hi (by omega))
        clear hle
        go_wp2
        go_ret
        exact ⟨true, rfl, ⟨(fun _ => hfin.out), (fun _ => rfl)⟩, nw_trans nW hw⟩
end Go.Proofs.Ytimgelekpghklaa
