/-
  What is pure: the program's isPure, the document's Pure.
-/
import Derived.Test.YtppfcdnhmieejaaLabS
namespace Go.Proofs.Ytppfcdnhmieejaa
set_option linter.unusedVariables false
set_option linter.unusedSimpArgs false
set_option maxRecDepth 20000
open Go.RowKit

/-- Is no level in it Star? -/
def Pu (d : Int) (xs : List Cat) : Prop := d ≠ 0 ∧ ∀ i (h : i < xs.length), xs[i].2 ≠ 0

/-- A call answers whether P holds, and leaves what was there. -/
def AnsP (P : Prop) (w : World) (e : Ending) (w' : World) : Prop := ∃ r : Bool, e = .returned (.bool r) ∧ (r = true ↔ P) ∧ Nw w w'

theorem ans_yes {P : Prop} {w w' : World} (h : P) (n : Nw w w') : AnsP P w (.returned (.bool true)) w' := ⟨true, rfl, ⟨fun _ => h, fun _ => rfl⟩, n⟩
theorem ans_no {P : Prop} {w w' : World} (h : ¬ P) (n : Nw w w') : AnsP P w (.returned (.bool false)) w' := ⟨false, rfl, ⟨fun h => Bool.noConfusion h, fun h' => absurd h' h⟩, n⟩
theorem not_of_false {P : Prop} (h : false = true ↔ P) : ¬ P := fun hp => Bool.noConfusion (h.2 hp)

set_option maxHeartbeats 3200000 in
theorem c_rpure {X : Nat → Prop} {v : Value} {xs : List Cat} (d : Int) (w : World) (h : CSl X w v xs) :
    Calls Try.prog 35 #[labV d v] w (AnsP (Pu d xs) w) := by
  obtain ⟨ao, cap, rfl, ha1, ha2⟩ := h.form
  have hA : (w.alloc (.cells #[.int .i64 d, .slice ao xs.length cap] 26)).heap[w.heap.size]? = some (.cells #[.int .i64 d, .slice ao xs.length cap] 26 (0, 0)) := heap_alloc_new w _
  have nW : Nw w (w.alloc (.cells #[.int .i64 d, .slice ao xs.length cap] 26)) := nw_alloc (nw_refl w) _
  replace h := h.nw nW
  unfold labV
  go_enter Try.func35, Try.ntmps35
  go_upto_region 1 with fail
  generalize w.alloc (.cells #[.int .i64 d, .slice ao xs.length cap] 26) = W at *
  have a0 : W.cell? ⟨w.heap.size, 0, none⟩ = some (.int .i64 d) := cell_blk hA rfl
  have a1 : W.cell? ⟨w.heap.size, 1, none⟩ = some (.slice ao xs.length cap) := cell_blk hA rfl
  by_cases hd : d = 0
  · have hb : (d == 0) = true := by simp [hd]
    have hP : Hid (¬ Pu d xs) := fun h => h.1 hd
    clear hd
    go_wp2
    go_ret
    exact ans_no hP.out nW
  · have hb : (d == 0) = false := by simp [hd]
    have hd : Hid (d ≠ 0) := hd
    go_wp2
    clear a0 a1 hb
    go_loopw [11] (fun kv wr => ∃ k : Nat, k ≤ xs.length ∧ kv = .int .i64 k ∧ Hid (∀ i (h : i < xs.length), i < k → xs[i].2 ≠ 0) ∧ Nw W wr) (fun kv _ => xs.length - (intOf kv).toNat)
    case atStart => exact ⟨0, Nat.zero_le _, rfl, fun i _ h => by omega, nw_refl _⟩
    case round =>
      obtain ⟨k, hk, rfl, hall, hw⟩ := hrel
      by_cases hlt : k < xs.length
      · obtain ⟨q, off, rfl, _, d1, d2⟩ := (h.nw hw).get k hlt
        have hbad : Hid (xs[k].2 = 0 → ¬ Pu d xs) := fun h1 h2 => h2.2 k hlt h1
        have hgood : Hid (xs[k].2 ≠ 0 → ∀ i (h : i < xs.length), i < k + 1 → xs[i].2 ≠ 0) := fun h1 i hi hik => by
          by_cases e : i = k
          · subst e; exact h1
          · exact hall.out i hi (by omega)
        generalize xs[k] = c at *
        have hnA : Hid (∀ o, Nw w (wr.alloc o) ∧ Nw W (wr.alloc o)) := fun o => ⟨nw_alloc (nw_trans nW hw) o, nw_alloc hw o⟩
        clear hall
        by_cases c1 : c.2 = 0
        · have hno : Hid _ := hbad.out c1
          have hb : (c.2 == 0) = true := by simp [c1]
          clear hbad hgood c1
          go_wp2
          go_ret
          exact ans_no hno.out (hnA.out _).1
        · have hyes : Hid _ := hgood.out c1
          have hb : (c.2 == 0) = false := by simp [c1]
          clear hbad hgood c1
          go_wp2
          go_roundw
          case rel => exact ⟨k + 1, by omega, by go_num, hyes, (hnA.out _).2⟩
          case measure => simp [intOf]; omega
      · have hfin : Hid (Pu d xs) := ⟨hd.out, fun i hi => hall.out i hi (by omega)⟩
        clear hall
        go_wp2
        go_ret
        exact ans_yes hfin.out (nw_trans nW hw)

end Go.Proofs.Ytppfcdnhmieejaa
