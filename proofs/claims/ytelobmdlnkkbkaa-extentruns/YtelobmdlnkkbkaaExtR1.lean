/-
  The document's Same.
-/
import Derived.Test.YtelobmdlnkkbkaaExtA1
import Derived.Laws.StructEq
namespace Go.Proofs.Ytelobmdlnkkbkaa
set_option linter.unusedVariables false
set_option linter.unusedSimpArgs false
set_option maxRecDepth 20000
open Go.RowKit

theorem nw_drewN {w wr : World} (h : Nw w wr) (n : Nat) : Nw w (wr.drewN n) := ⟨h.os, h.tape, h.output, h.size, h.block⟩

def extB (a b c d : Int) : Bool := (a == c) && (b == d)

theorem neqE (a b c d : Int) (w : World) : (binOp .neq 34 (.agg #[.int .i64 a, .int .i64 b]) (.agg #[.int .i64 c, .int .i64 d])).run Try.prog w = .ok (.bool (!(extB a b c d))) w := by
  unfold extB
  simp [go_sem]
  by_cases h1 : a = c <;> by_cases h2 : b = d <;> simp [h1, h2]

theorem ext_eq_iff (e f : Ext) : extB e.1 e.2 f.1 f.2 = decide (e = f) := by
  unfold extB
  rw [Bool.eq_iff_iff]
  simp only [Bool.and_eq_true, beq_iff_eq, decide_eq_true_eq]
  constructor
  · rintro ⟨h1, h2⟩
    exact Prod.ext (by omega) (by omega)
  · rintro rfl
    exact ⟨rfl, rfl⟩

set_option maxHeartbeats 1600000 in
theorem c_same {X Y : Nat → Prop} {va vb : Value} {es fs : List Ext} (w : World) (ha : ESl X w va es) (hb : ESl Y w vb fs) (hla : es.length ≤ 1000000) (hlb : fs.length ≤ 1000000) :
    Calls Try.prog 25 #[va, vb] w fun e w' => e = .returned (.bool (decide (es = fs))) ∧ Nw w w' := by
  obtain ⟨ao, cap, rfl, hc1, hc2⟩ := ha.form
  obtain ⟨bo, bcap, rfl, hd1, hd2⟩ := hb.form
  by_cases hlen : es.length = fs.length
  case neg =>
    have e1 : decide (es = fs) = false := decide_eq_false (fun e => hlen (by rw [e]))
    have hne : (((es.length : Int) != (fs.length : Int)) : Bool) = true := by simp; omega
    rw [e1]
    clear ha hb e1 hlen
    generalize es.length = n at *
    generalize fs.length = m at *
    go_enter Try.func25, Try.ntmps25
    go_wp2
    go_ret
    exact ⟨rfl, nw_refl _⟩
  have hlenH : Hid (es.length = fs.length) := hlen
  rw [← hlen] at hb hd1 ⊢
  clear hlen
  obtain ⟨R, hR⟩ : ∃ R, Hid (R = decide (es = fs)) := ⟨_, rfl⟩
  rw [← hR.out]
  go_enter Try.func25, Try.ntmps25
  go_wp2
  go_loopw [13] (fun i wr => ∃ k : Nat, k ≤ es.length ∧ i = .int .i64 k ∧ es.take k = fs.take k ∧ Nw w wr) (fun i _ => es.length - (intOf i).toNat)
  case atStart => exact ⟨0, Nat.zero_le _, rfl, rfl, nw_refl _⟩
  case round =>
    obtain ⟨k, hk, rfl, hall, hnw⟩ := hrel
    have hallH : Hid (es.take k = fs.take k) := hall
    clear hall
    by_cases hlt : k < es.length
    · have hltb : k < fs.length := by rw [← hlenH.out]; exact hlt
      obtain ⟨q, off, rfl, _, d0, d1⟩ := (ha.keep (X' := fun _ => True) hnw (fun _ _ => id) (fun _ _ _ => trivial)).get k hlt
      obtain ⟨q2, off2, rfl, _, d2, d3⟩ := (hb.keep (X' := fun _ => True) hnw (fun _ _ => id) (fun _ _ _ => trivial)).get k hltb
      have hq := fun w => neqE (es[k].1 : Int) (es[k].2 : Int) (fs[k].1 : Int) (fs[k].2 : Int) w
      simp only [ext_eq_iff] at hq
      by_cases he : es[k] = fs[k]
      · have hs : Hid (es.take (k + 1) = fs.take (k + 1)) := by
          unfold Hid
          rw [List.take_succ_eq_append_getElem hlt, List.take_succ_eq_append_getElem hltb, hallH.out, he]
        simp only [he, decide_true, Bool.not_true] at hq d0 d1
        clear he hallH hR hlenH
        clear ha hb
        generalize fs[k] = bk at *
        go_wp2
        go_quiet (fail)
        have hn2 := nw_drewN hnw nq
        go_wp2
        go_roundw
        case rel => exact ⟨k + 1, by omega, by go_num, hs.out, hn2⟩
        case measure => simp [intOf]; omega
      · have hs : Hid (R = false) := by
          unfold Hid
          rw [hR.out]
          refine decide_eq_false (fun e => he ?_)
          subst e
          rfl
        simp only [he, decide_false, Bool.not_false] at hq
        clear he hallH hR hlenH
        clear ha hb
        generalize es[k] = ak at *
        generalize fs[k] = bk at *
        go_wp2
        go_quiet (fail)
        have hn2 := nw_drewN hnw nq
        go_wp2
        go_ret
        rw [hs.out]
        exact ⟨rfl, hn2⟩
    · have hs : Hid (R = true) := by
        unfold Hid
        have h2 := hlenH.out
        have h3 := hallH.out
        rw [List.take_of_length_le (by omega), List.take_of_length_le (by omega)] at h3
        rw [hR.out]
        exact decide_eq_true h3
      clear hallH hR hlenH ha hb
      go_wp2
      go_ret
      rw [hs.out]
      exact ⟨rfl, hnw⟩
end Go.Proofs.Ytelobmdlnkkbkaa
