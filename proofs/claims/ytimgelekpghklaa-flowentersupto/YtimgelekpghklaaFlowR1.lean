/-
  The document's flow: who may read, write and make what.
-/
import Derived.Test.YtimgelekpghklaaFlowW1
import Derived.Test.YtimgelekpghklaaLabR6
import Derived.Test.YtimgelekpghklaaLabR4
import Derived.Test.YtimgelekpghklaaLabR8
namespace Go.Proofs.Ytimgelekpghklaa
set_option linter.unusedVariables false
set_option linter.unusedSimpArgs false
set_option maxRecDepth 20000
open Go.RowKit

theorem c_rleq2 {X Y : Nat → Prop} {va vb : Value} {xa xb : List Cat} (da db : Int) (w : World) (ha : CSl X w va xa) (hb : CSl Y w vb xb) (hl : xa.length + xb.length ≤ 17592186044416) :
    Calls Try.prog 23 #[labV da va, labV db vb] w (AnsP (leL (lev da xa) (lev db xb)) w) := c_rleq da db w ha hb hl

set_option maxHeartbeats 1600000 in
theorem c_rraise {X : Nat → Prop} {v : Value} {xs : List Cat} (d : Int) (w : World) (h : CSl X w v xs) (hl : xs.length ≤ 8796093022208) :
    Calls Try.prog 26 #[labV d v] w (MadeL w (tn 0 5 d) (fun id => tn 0 5 (lev d xs id)) xs.length) := by
  obtain ⟨ao, cap, rfl, ha1, ha2⟩ := h.form
  have hA : ((w.alloc (.cells #[.int .i64 d, .slice ao xs.length cap] 24)).alloc (.cells #[.int .i64 0, .slice none 0 0] 24)).heap[w.heap.size]? = some (.cells #[.int .i64 d, .slice ao xs.length cap] 24 (0, 0)) := heap_alloc2_old w _ _
  have hZ : ((w.alloc (.cells #[.int .i64 d, .slice ao xs.length cap] 24)).alloc (.cells #[.int .i64 0, .slice none 0 0] 24)).heap[w.heap.size + 1]? = some (.cells #[.int .i64 0, .slice none 0 0] 24 (0, 0)) := heap_alloc2_new w _ _
  have hnw : Nw w ((w.alloc (.cells #[.int .i64 d, .slice ao xs.length cap] 24)).alloc (.cells #[.int .i64 0, .slice none 0 0] 24)) := nw_alloc (nw_alloc (nw_refl w) _) _
  have hcon : Hid _ := c_rturn d 0 5 _ (h.nw hnw) hl
  clear h
  unfold labV at *
  go_enter Try.func26, Try.ntmps26
  go_upto_region 1 with fail
  generalize (w.alloc (.cells #[.int .i64 d, .slice ao xs.length cap] 24)).alloc (.cells #[.int .i64 0, .slice none 0 0] 24) = W at *
  have a0 : W.cell? ⟨w.heap.size, 0, none⟩ = some (.int .i64 d) := cell_blk hA rfl
  have a1 : W.cell? ⟨w.heap.size, 1, none⟩ = some (.slice ao xs.length cap) := cell_blk hA rfl
  generalize ht : tn 0 5 d = t at *
  replace ht : Hid _ := ht
  go_wp2_with (go_at_call 24; refine Calls.mono hcon.out ?_; rintro e w2 ⟨u, ys, rfl, q1, q2, q3, q4, q5⟩; refine stop_here ?_)
  unfold Hid labV
  clear hcon a0 a1
  obtain ⟨hans, hrr, z0, z1, zf⟩ := store_made (B := w.heap.size + 1) hnw hZ (Nat.le_refl _) (by omega) q1 q2 q3 q4 q5
  obtain ⟨ua, uc, rfl, _, _⟩ := q1.form
  replace hans : Hid _ := hans
  clear q1 q2 q3 q4 q5 hZ hnw hA
  go_wp2
  refine bodyPost_ret (results_cell1 rfl _ (w.heap.size + 1) _ _ rfl rfl hrr Try.rowL Try.sizeL) rfl ?_
  have ht := ht.out
  subst ht
  exact hans.out

set_option maxHeartbeats 3200000 in
theorem c_rpure {X : Nat → Prop} {v : Value} {xs : List Cat} (d : Int) (w : World) (h : CSl X w v xs) :
    Calls Try.prog 22 #[labV d v] w (AnsP (Pu d xs) w) := by
  obtain ⟨ao, cap, rfl, ha1, ha2⟩ := h.form
  have hA : (w.alloc (.cells #[.int .i64 d, .slice ao xs.length cap] 24)).heap[w.heap.size]? = some (.cells #[.int .i64 d, .slice ao xs.length cap] 24 (0, 0)) := heap_alloc_new w _
  have nW : Nw w (w.alloc (.cells #[.int .i64 d, .slice ao xs.length cap] 24)) := nw_alloc (nw_refl w) _
  replace h := h.nw nW
  unfold labV
  go_enter Try.func22, Try.ntmps22
  go_upto_region 1 with fail
  generalize w.alloc (.cells #[.int .i64 d, .slice ao xs.length cap] 24) = W at *
  have a0 : W.cell? ⟨w.heap.size, 0, none⟩ = some (.int .i64 d) := cell_blk hA rfl
  have a1 : W.cell? ⟨w.heap.size, 1, none⟩ = some (.slice ao xs.length cap) := cell_blk hA rfl
  by_cases hd : d = 0
  · have hb : (d == 0) = true := by simp [hd]
    have hP : Hid (¬ Pu d xs) := fun h => h.1 hd
    clear hd
    go_wp2
    go_ret
    exact ans_no hP.out nW
  · have hb : (d == 0) = false := by simp [hd]
    have hd : Hid (d ≠ 0) := hd
    go_wp2
    clear a0 a1 hb
    go_loopw [11] (fun kv wr => ∃ k : Nat, k ≤ xs.length ∧ kv = .int .i64 k ∧ Hid (∀ i (h : i < xs.length), i < k → xs[i].2 ≠ 0) ∧ Nw W wr) (fun kv _ => xs.length - (intOf kv).toNat)
    case atStart => exact ⟨0, Nat.zero_le _, rfl, fun i _ h => by omega, nw_refl _⟩
    case round =>
      obtain ⟨k, hk, rfl, hall, hw⟩ := hrel
      by_cases hlt : k < xs.length
      · obtain ⟨q, off, rfl, _, d1, d2⟩ := (h.nw hw).get k hlt
        have hbad : Hid (xs[k].2 = 0 → ¬ Pu d xs) := fun h1 h2 => h2.2 k hlt h1
        have hgood : Hid (xs[k].2 ≠ 0 → ∀ i (h : i < xs.length), i < k + 1 → xs[i].2 ≠ 0) := fun h1 i hi hik => by
          by_cases e : i = k
          · subst e; exact h1
          · exact hall.out i hi (by omega)
        generalize xs[k] = c at *
        have hnA : Hid (∀ o, Nw w (wr.alloc o) ∧ Nw W (wr.alloc o)) := fun o => ⟨nw_alloc (nw_trans nW hw) o, nw_alloc hw o⟩
        clear hall
        by_cases c1 : c.2 = 0
        · have hno : Hid _ := hbad.out c1
          have hb : (c.2 == 0) = true := by simp [c1]
          clear hbad hgood c1
          go_wp2
          go_ret
          exact ans_no hno.out (hnA.out _).1
        · have hyes : Hid _ := hgood.out c1
          have hb : (c.2 == 0) = false := by simp [c1]
          clear hbad hgood c1
          go_wp2
          go_roundw
          case rel => exact ⟨k + 1, by omega, by go_num, hyes, (hnA.out _).2⟩
          case measure => simp [intOf]; omega
      · have hfin : Hid (Pu d xs) := ⟨hd.out, fun i hi => hall.out i hi (by omega)⟩
        clear hall
        go_wp2
        go_ret
        exact ans_yes hfin.out (nw_trans nW hw)

end Go.Proofs.Ytimgelekpghklaa
