/-
  Right: the program's.
-/
import Derived.Test.YtimgelekpghklaaLabD8
namespace Go.Proofs.Ytimgelekpghklaa
set_option linter.unusedVariables false
set_option linter.unusedSimpArgs false
set_option maxRecDepth 20000
open Go.RowKit

/-- Which labels may be an object's. -/
structure Rgt (d : Int) (xs : List Cat) : Prop where
  lo : 1 ≤ d
  hi : d ≤ 4
  len : xs.length ≤ 6
  fm : Fm d xs
  each : ∀ i (h : i < xs.length), 1 ≤ xs[i].1 ∧ xs[i].1 ≤ 2305843009213693951 ∧ 0 ≤ xs[i].2 ∧ xs[i].2 ≤ 4

def RgtP (d : Int) (xs : List Cat) (w : World) (e : Ending) (w' : World) : Prop := ∃ r : Bool, e = .returned (.bool r) ∧ (r = true ↔ Rgt d xs) ∧ Nw w w'

theorem rgt_no {d : Int} {xs : List Cat} {w w' : World} (h : ¬ Rgt d xs) (n : Nw w w') : RgtP d xs w (.returned (.bool false)) w' := ⟨false, rfl, ⟨(fun h => Bool.noConfusion h), (fun h' => absurd h' h)⟩, n⟩

set_option maxHeartbeats 6400000 in
theorem c_right {X : Nat → Prop} {v : Value} {xs : List Cat} (d : Int) (w : World) (h : CSl X w v xs) (hl : xs.length ≤ 8796093022208) :
    Calls Try.prog 8 #[labV d v] w (RgtP d xs w) := by
  obtain ⟨ao, cap, rfl, ha1, ha2⟩ := h.form
  have hA : (w.alloc (.cells #[.int .i64 d, .slice ao xs.length cap] 24)).heap[w.heap.size]? = some (.cells #[.int .i64 d, .slice ao xs.length cap] 24 (0, 0)) := heap_alloc_new w _
  have nW : Nw w (w.alloc (.cells #[.int .i64 d, .slice ao xs.length cap] 24)) := nw_alloc (nw_refl w) _
  replace h := h.nw nW
  unfold labV
  go_enter Try.func8, Try.ntmps8
  go_upto_region 1 with fail
  generalize w.alloc (.cells #[.int .i64 d, .slice ao xs.length cap] 24) = W at *
  generalize w.heap.size = N at *
  have a0 : W.cell? ⟨N, 0, none⟩ = some (.int .i64 d) := cell_blk hA rfl
  have a1 : W.cell? ⟨N, 1, none⟩ = some (.slice ao xs.length cap) := cell_blk hA rfl
  by_cases g1 : d < 1
  · have hno : Hid (¬ Rgt d xs) := fun h => by have := h.lo; omega
    go_wp2
    go_ret
    exact rgt_no hno.out nW
  · by_cases g2 : 4 < d
    · have hno : Hid (¬ Rgt d xs) := fun h => by have := h.hi; omega
      go_wp2
      go_ret
      exact rgt_no hno.out nW
    · by_cases g3 : 6 < xs.length
      · have hno : Hid (¬ Rgt d xs) := fun h => by have := h.len; omega
        go_wp2
        go_ret
        exact rgt_no hno.out nW
      · have hcon : Hid _ := c_hasForm d W h
        unfold labV at hcon
        go_wp2_with (go_at_call 27; refine Calls.mono hcon.out ?_; rintro e V ⟨r, rfl, q1, n1⟩; refine stop_here ?_)
        unfold Hid
        clear hcon
        replace hA := (n1.block _ (heap_lt hA) (fun h => h)).trans hA
        replace h := h.nw n1
        have nV := nw_trans nW n1
        clear n1 nW
        cases r with
        | false =>
          have hno : Hid (¬ Rgt d xs) := fun h => by have := q1.2 h.fm; cases this
          clear q1
          go_wp2
          go_ret
          exact rgt_no hno.out nV
        | true =>
          have hfm : Hid (Fm d xs) := q1.1 rfl
          clear q1
          clear a0 a1
          have b1 : V.cell? ⟨N, 1, none⟩ = some (.slice ao xs.length cap) := cell_blk hA rfl
          go_wp2
          clear b1
          go_loopw [27] (fun kv wr => ∃ k : Nat, k ≤ xs.length ∧ kv = .int .i64 k ∧ Hid (∀ i (h : i < xs.length), i < k → 1 ≤ xs[i].1 ∧ xs[i].1 ≤ 2305843009213693951 ∧ 0 ≤ xs[i].2 ∧ xs[i].2 ≤ 4) ∧ Nw V wr) (fun kv _ => xs.length - (intOf kv).toNat)
          case atStart => exact ⟨0, Nat.zero_le _, rfl, fun i _ h => by omega, nw_refl _⟩
          case round =>
            obtain ⟨k, hk, rfl, hall, hw⟩ := hrel
            by_cases hlt : k < xs.length
            · obtain ⟨q, off, rfl, _, d1, d2⟩ := (h.nw hw).get k hlt
              have hbad : Hid (¬ (1 ≤ xs[k].1 ∧ xs[k].1 ≤ 2305843009213693951 ∧ 0 ≤ xs[k].2 ∧ xs[k].2 ≤ 4) → ¬ Rgt d xs) := fun h1 h2 => h1 (h2.each k hlt)
              have hgood : Hid (1 ≤ xs[k].1 ∧ xs[k].1 ≤ 2305843009213693951 ∧ 0 ≤ xs[k].2 ∧ xs[k].2 ≤ 4 → ∀ i (h : i < xs.length), i < k + 1 → 1 ≤ xs[i].1 ∧ xs[i].1 ≤ 2305843009213693951 ∧ 0 ≤ xs[i].2 ∧ xs[i].2 ≤ 4) := fun h1 i hi hik => by
                by_cases e : i = k
                · subst e; exact h1
                · exact hall.out i hi (by omega)
              generalize xs[k] = c at *
              have hnA : Hid (∀ o, Nw w (wr.alloc o) ∧ Nw V (wr.alloc o)) := fun o => ⟨nw_alloc (nw_trans nV hw) o, nw_alloc hw o⟩
              clear hall
              by_cases c1 : c.1 < 1
              · have hno : Hid _ := hbad.out (by omega)
                clear hbad hgood
                go_wp2
                go_ret
                exact rgt_no hno.out (hnA.out _).1
              · by_cases c2 : 2305843009213693951 < c.1
                · have hno : Hid _ := hbad.out (by omega)
                  clear hbad hgood
                  go_wp2
                  go_ret
                  exact rgt_no hno.out (hnA.out _).1
                · by_cases c3 : c.2 < 0
                  · have hno : Hid _ := hbad.out (by omega)
                    clear hbad hgood
                    go_wp2
                    go_ret
                    exact rgt_no hno.out (hnA.out _).1
                  · by_cases c4 : 4 < c.2
                    · have hno : Hid _ := hbad.out (by omega)
                      clear hbad hgood
                      go_wp2
                      go_ret
                      exact rgt_no hno.out (hnA.out _).1
                    · have hyes : Hid _ := hgood.out (by omega)
                      clear hbad hgood
                      go_wp2
                      go_roundw
                      case rel => exact ⟨k + 1, by omega, by go_num, hyes, (hnA.out _).2⟩
                      case measure => simp [intOf]; omega
            · have hfin : Hid (Rgt d xs) := ⟨by omega, by omega, by omega, hfm.out, fun i hi => hall.out i hi (by omega)⟩
              clear hall
              go_wp2
              go_ret
              exact ⟨true, rfl, ⟨(fun _ => hfin.out), (fun _ => rfl)⟩, nw_trans nV hw⟩
end Go.Proofs.Ytimgelekpghklaa
