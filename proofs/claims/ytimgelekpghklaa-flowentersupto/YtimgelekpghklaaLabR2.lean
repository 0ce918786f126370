/-
  The document's Level, Copy, Exact, Leq.
-/
import Derived.Test.YtimgelekpghklaaLabR1
import Derived.Test.YtimgelekpghklaaLabD8
import Derived.Laws.StructEq
namespace Go.Proofs.Ytimgelekpghklaa
set_option linter.unusedVariables false
set_option linter.unusedSimpArgs false
set_option maxRecDepth 20000
open Go.RowKit

set_option maxHeartbeats 1600000 in
theorem c_rlevel {X : Nat → Prop} {v : Value} {xs : List Cat} (d id : Int) (w : World) (h : CSl X w v xs) :
    Calls Try.prog 39 #[labV d v, .int .u64 id] w fun e w' => e = .returned (.int .i64 (lev d xs id)) ∧ Nw w w' := by
  unfold labV
  obtain ⟨ao, cap, rfl, hcl, hcm⟩ := h.form
  have hB : (w.alloc (.cells #[.int .i64 d, .slice ao xs.length cap] 24)).heap[w.heap.size]? = some (.cells #[.int .i64 d, .slice ao xs.length cap] 24 (0, 0)) := heap_alloc_new w _
  have hnw : Nw w (w.alloc (.cells #[.int .i64 d, .slice ao xs.length cap] 24)) := nw_alloc (nw_refl w) _
  have hc1 := h.nw hnw
  go_enter Try.func39, Try.ntmps39
  go_upto_region 1 with fail
  generalize w.alloc (.cells #[.int .i64 d, .slice ao xs.length cap] 24) = W at *
  generalize hBB : w.heap.size = B at *
  replace hBB : Hid _ := hBB
  have b1 : W.cell? ⟨B, 1, none⟩ = some (.slice ao xs.length cap) := cell_blk hB rfl
  go_wp2
  clear b1
  go_loopw [10] (fun kv wr => ∃ k : Nat, k ≤ xs.length ∧ kv = .int .i64 k ∧ Hid (lev d (xs.drop k) id = lev d xs id) ∧ Nw W wr) (fun kv _ => xs.length - (intOf kv).toNat)
  case atStart => exact ⟨0, Nat.zero_le _, rfl, rfl, nw_refl _⟩
  case round =>
    obtain ⟨k, hk, rfl, hl, hw⟩ := hrel
    have hcr := hc1.nw hw
    by_cases hlt : k < xs.length
    · obtain ⟨q, off, rfl, _, d1, d2⟩ := hcr.get k hlt
      have hst : Hid (lev d (xs.drop k) id = if xs[k].1 = id then xs[k].2 else lev d (xs.drop (k + 1)) id) := lev_drop hlt
      generalize xs[k] = c at *
      have hnA : Hid (∀ o, Nw W (wr.alloc o)) := fun o => nw_alloc hw o
      by_cases hc : c.1 = id
      · have hb : (c.1 == id) = true := by simp [hc]
        have hfin : Hid (c.2 = lev d xs id) := by unfold Hid; rw [← hl.out, hst.out, if_pos hc]
        clear hst hl hc
        go_wp2
        go_ret
        exact ⟨congrArg (fun z => Ending.returned (Value.int .i64 z)) hfin.out, nw_trans hnw (hnA.out _)⟩
      · have hb : (c.1 == id) = false := by simp [hc]
        have hl' : Hid (lev d (xs.drop (k + 1)) id = lev d xs id) := by unfold Hid; rw [← hl.out, hst.out, if_neg hc]
        clear hst hl hc
        go_wp2
        go_roundw
        case rel => exact ⟨k + 1, by omega, by go_num, hl', hnA.out _⟩
        case measure => simp [intOf]; omega
    · have b0 : wr.cell? ⟨B, 0, none⟩ = some (.int .i64 d) := cell_blk ((hw.block B (heap_lt hB) (fun h => h)).trans hB) rfl
      have hfin : Hid (d = lev d xs id) := by unfold Hid; rw [← hl.out, List.drop_of_length_le (by omega)]; rfl
      clear hl
      go_wp2
      go_ret
      refine ⟨?_, nw_trans hnw hw⟩
      have := hfin.out
      exact congrArg (fun z => Ending.returned (Value.int .i64 z)) this


/-- Two lists of categories that are written the same. -/
def ExB (da db : Int) (xa xb : List Cat) : Prop := da = db ∧ xa = xb

theorem take_eq_succ {xa xb : List Cat} {k : Nat} (h : xa.take k = xb.take k) (h1 : k < xa.length) (h2 : k < xb.length) (he : xa[k] = xb[k]) : xa.take (k + 1) = xb.take (k + 1) := by
  rw [List.take_succ_eq_append_getElem h1, List.take_succ_eq_append_getElem h2, h, he]

theorem run_neq_cat (x y : Cat) (w : World) : (binOp .neq 33 (.agg #[.int .u64 x.1, .int .i64 x.2]) (.agg #[.int .u64 y.1, .int .i64 y.2])).run Try.prog w = .ok (.bool (!(x.1 == y.1 && x.2 == y.2))) w := by
  simp [go_sem]
  by_cases h1 : x.1 = y.1 <;> by_cases h2 : x.2 = y.2 <;> simp [h1, h2]

set_option maxHeartbeats 3200000 in
theorem c_exact {X Y : Nat → Prop} {va vb : Value} {xa xb : List Cat} (da db : Int) (w : World) (ha : CSl X w va xa) (hb : CSl Y w vb xb) :
    Calls Try.prog 36 #[labV da va, labV db vb] w fun e w' => ∃ r : Bool, e = .returned (.bool r) ∧ (r = true ↔ da = db ∧ xa = xb) ∧ Nw w w' := by
  obtain ⟨aa, ac, rfl, ha1, ha2⟩ := ha.form
  obtain ⟨ba, bc, rfl, hb1, hb2⟩ := hb.form
  obtain ⟨W, hW⟩ : ∃ W, Hid (W = (w.alloc (.cells #[.int .i64 da, .slice aa xa.length ac] 24)).alloc (.cells #[.int .i64 db, .slice ba xb.length bc] 24)) := ⟨_, rfl⟩
  have nW : Nw w W := by rw [hW.out]; exact nw_alloc (nw_alloc (nw_refl w) _) _
  have hA : W.heap[w.heap.size]? = some (.cells #[.int .i64 da, .slice aa xa.length ac] 24 (0, 0)) := by rw [hW.out]; exact heap_alloc2_old w _ _
  have hB : W.heap[w.heap.size + 1]? = some (.cells #[.int .i64 db, .slice ba xb.length bc] 24 (0, 0)) := by rw [hW.out]; exact heap_alloc2_new w _ _
  replace ha := ha.nw nW
  replace hb := hb.nw nW
  unfold labV
  go_enter Try.func36, Try.ntmps36
  go_upto_region 1 with fail
  rw [← hW.out]
  clear hW
  generalize w.heap.size = N at *
  have a0 : W.cell? ⟨N, 0, none⟩ = some (.int .i64 da) := cell_blk hA rfl
  have a1 : W.cell? ⟨N, 1, none⟩ = some (.slice aa xa.length ac) := cell_blk hA rfl
  have b0 : W.cell? ⟨N + 1, 0, none⟩ = some (.int .i64 db) := cell_blk hB rfl
  have b1 : W.cell? ⟨N + 1, 1, none⟩ = some (.slice ba xb.length bc) := cell_blk hB rfl
  by_cases hd : da = db
  · have hdb : (da != db) = false := by simp [hd]
    by_cases hl : xa.length = xb.length
    · have hlb : (((xa.length : Nat) : Int) != ((xb.length : Nat) : Int)) = false := by simp [hl]
      replace hd : Hid _ := hd
      have hl' : xb.length ≤ xa.length := by omega
      have hl'' : xa.length ≤ xb.length := by omega
      replace hl : Hid _ := hl
      go_wp2
      clear hlb hdb
      go_loopw [23] (fun kv wr => ∃ k : Nat, k ≤ xa.length ∧ kv = .int .i64 k ∧ Hid (xa.take k = xb.take k) ∧ Nw W wr) (fun kv _ => xa.length - (intOf kv).toNat)
      case atStart => exact ⟨0, Nat.zero_le _, rfl, rfl, nw_refl _⟩
      case round =>
        obtain ⟨k, hk, rfl, ht, hw⟩ := hrel
        by_cases hlt : k < xa.length
        · obtain ⟨q, off, rfl, _, d1, d2⟩ := (ha.nw hw).get k hlt
          obtain ⟨q', off', rfl, _, d3, d4⟩ := (hb.nw hw).get k (by omega)
          have hltb : k < xb.length := by omega
          have hstep : Hid (xa[k] = xb[k] → xa.take (k + 1) = xb.take (k + 1)) := fun he => take_eq_succ ht.out hlt hltb he
          have hbad : Hid (xa[k] ≠ xb[k] → xa ≠ xb) := fun he hx => he (by subst hx; rfl)
          generalize xa[k] = x at *
          generalize xb[k] = y at *
          have hne := run_neq_cat x y
          have D1 : ∀ z, (wr.drewN z).cell? ⟨q, off + k * 2, none⟩ = some (.int .u64 x.1) := fun z => d1
          have D2 : ∀ z, (wr.drewN z).cell? ⟨q, off + k * 2 + 1, none⟩ = some (.int .i64 x.2) := fun z => d2
          have D3 : ∀ z, (wr.drewN z).cell? ⟨q', off' + k * 2, none⟩ = some (.int .u64 y.1) := fun z => d3
          have D4 : ∀ z, (wr.drewN z).cell? ⟨q', off' + k * 2 + 1, none⟩ = some (.int .i64 y.2) := fun z => d4
          have hAr := (hw.block _ (heap_lt hA) (fun h => h)).trans hA
          have hBr := (hw.block _ (heap_lt hB) (fun h => h)).trans hB
          have A1 : ∀ z, (wr.drewN z).cell? ⟨N, 1, none⟩ = some (.slice (some ⟨q, off, none⟩) xa.length ac) := fun z => cell_blk (w := wr.drewN z) hAr rfl
          have B1 : ∀ z, (wr.drewN z).cell? ⟨N + 1, 1, none⟩ = some (.slice (some ⟨q', off', none⟩) xb.length bc) := fun z => cell_blk (w := wr.drewN z) hBr rfl
          clear a0 a1 b0 b1 d1 d2 d3 d4 hAr hBr
          by_cases hxy : x = y
          · have hb2 : (!(x.1 == y.1 && x.2 == y.2)) = false := by simp [hxy]
            rw [hb2] at hne
            have ht' : Hid (xa.take (k + 1) = xb.take (k + 1)) := hstep.out hxy
            clear hxy hstep hbad hb2
            go_wp2
            go_quiet (fail)
            go_wp2
            go_roundw
            case rel => exact ⟨k + 1, by omega, by go_num, ht', nw_trans hw (nw_drewN wr _)⟩
            case measure => simp [intOf]; omega
          · have hb2 : (!(x.1 == y.1 && x.2 == y.2)) = true := by
              by_cases h1 : x.1 = y.1
              · have h2 : ¬ x.2 = y.2 := fun h2 => hxy (Prod.ext h1 h2)
                simp [h1, h2]
              · simp [h1]
            rw [hb2] at hne
            have hbad' : Hid (xa ≠ xb) := hbad.out hxy
            clear hxy hstep hbad hb2
            go_wp2
            go_quiet (fail)
            go_wp2
            go_ret
            exact ⟨false, rfl, ⟨(fun h => Bool.noConfusion h), (fun h => absurd h.2 hbad'.out)⟩, nw_trans nW (nw_trans hw (nw_drewN wr _))⟩
        · have hfin : Hid (xa = xb) := by
            have h1 := ht.out
            have h2 := hl.out
            rw [List.take_of_length_le (by omega), List.take_of_length_le (by omega)] at h1
            exact h1
          clear ht
          go_wp2
          go_ret
          exact ⟨true, rfl, ⟨(fun _ => ⟨hd.out, hfin.out⟩), (fun _ => rfl)⟩, nw_trans nW hw⟩
    · have hlb : (((xa.length : Nat) : Int) != ((xb.length : Nat) : Int)) = true := by simp; omega
      have hno : Hid (xa ≠ xb) := fun h => hl (by rw [h])
      clear hl hd
      go_wp2
      go_ret
      exact ⟨false, rfl, ⟨(fun h => Bool.noConfusion h), (fun h => absurd h.2 hno.out)⟩, nW⟩
  · have hdb : (da != db) = true := by simp [hd]
    replace hd : Hid _ := hd
    go_wp2
    go_ret
    exact ⟨false, rfl, ⟨(fun h => Bool.noConfusion h), (fun h => absurd h.1 hd.out)⟩, nW⟩
end Go.Proofs.Ytimgelekpghklaa
