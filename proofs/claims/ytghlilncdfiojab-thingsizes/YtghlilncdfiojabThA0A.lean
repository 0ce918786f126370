/-
  What is pure: the program's isPure, the document's Pure.
-/
import Derived.Test.YtghlilncdfiojabLabA
namespace Go.Proofs.Ytghlilncdfiojab
set_option linter.unusedVariables false
set_option linter.unusedSimpArgs false
set_option maxRecDepth 20000
open Go.RowKit

def fpV : Value := .func (.func 41) #[] #[]

/-- Is no level in it Star? -/
def Pu (d : Int) (xs : List Cat) : Prop := d ≠ 0 ∧ ∀ i (h : i < xs.length), xs[i].2 ≠ 0

/-- A call answers whether P holds, and leaves what was there. -/
def AnsP (P : Prop) (w : World) (e : Ending) (w' : World) : Prop := ∃ r : Bool, e = .returned (.bool r) ∧ (r = true ↔ P) ∧ Nw w w'

theorem ans_yes {P : Prop} {w w' : World} (h : P) (n : Nw w w') : AnsP P w (.returned (.bool true)) w' := ⟨true, rfl, ⟨fun _ => h, fun _ => rfl⟩, n⟩
theorem ans_no {P : Prop} {w w' : World} (h : ¬ P) (n : Nw w w') : AnsP P w (.returned (.bool false)) w' := ⟨false, rfl, ⟨fun h => Bool.noConfusion h, fun h' => absurd h' h⟩, n⟩
theorem not_of_false {P : Prop} (h : false = true ↔ P) : ¬ P := fun hp => Bool.noConfusion (h.2 hp)

theorem c_fpure (c : Cat) (w : World) : Calls Try.prog 41 #[.agg #[.int .u64 c.1, .int .i64 c.2]] w fun e w' => e = .returned (.bool (c.2 == 0)) ∧ Nw w w' := by
  have nW := nw_alloc (nw_refl w) (.cells #[.int .u64 c.1, .int .i64 c.2] 61)
  go_enter Try.func41, Try.ntmps41
  go_wp2
  go_ret
  exact ⟨rfl, nW⟩

def FoundP (xs : List Cat) (n : Nat) (r : Int) : Prop := (r = -1 ∧ ∀ i (h : i < xs.length), xs[i].2 ≠ 0) ∨ (0 ≤ r ∧ ∃ i, ∃ h : i < xs.length, xs[i].2 = 0)

set_option maxHeartbeats 1600000 in
theorem c_indexP {X : Nat → Prop} {v : Value} {xs : List Cat} (w : World) (h : CSl X w v xs) :
    Calls Try.prog 57 #[v, fpV] w fun e w' => ∃ r, e = .returned (.int .i64 r) ∧ FoundP xs xs.length r ∧ Nw w w' := by
  obtain ⟨ao, cap, rfl, hc, hm⟩ := h.form
  unfold fpV
  generalize hn : xs.length = n at *
  replace hn : Hid (xs.length = n) := hn
  go_enter Try.func57, Try.ntmps57
  go_wp2
  go_loopw [8] (fun kv wr => ∃ k : Nat, k ≤ n ∧ kv = .int .i64 k ∧ Hid (∀ i (h : i < xs.length), i < k → xs[i].2 ≠ 0) ∧ Nw w wr) (fun kv _ => n - (intOf kv).toNat)
  case atStart => exact ⟨0, Nat.zero_le _, rfl, fun i _ h => by omega, nw_refl _⟩
  case round =>
    obtain ⟨k, hkn, rfl, hne, hnw⟩ := hrel
    by_cases hlt : k < n
    · have hkx : k < xs.length := by rw [hn.out]; exact hlt
      obtain ⟨q, off, rfl, _, c1, c2⟩ := (h.nw hnw).get k hkx
      obtain ⟨x, hx⟩ : ∃ x, Hid (x = xs[k]) := ⟨xs[k], rfl⟩
      rw [← hx.out] at c1 c2
      go_wp2_with (go_at_call 41; refine (c_fpure x _).mono ?_; rintro e w3 ⟨rfl, hnw3⟩; refine stop_here ?_)
      unfold Hid
      have hnw' := nw_trans hnw hnw3
      clear hnw hnw3 c1 c2
      by_cases hxd : x.2 = 0
      · have hb : (x.2 == 0) = true := by simp [hxd]
        have hf : Hid (FoundP xs n (k : Int)) := .inr ⟨by omega, k, hkx, by rw [← hx.out]; exact hxd⟩
        rw [hb]
        clear hb hxd hx hne
        go_wp2
        go_ret
        exact ⟨_, rfl, hf.out, hnw'⟩
      · have hb : (x.2 == 0) = false := by simp [hxd]
        have hne' : Hid (∀ i (h : i < xs.length), i < k + 1 → xs[i].2 ≠ 0) := fun i h hi => by
          by_cases hik : i = k
          · subst hik; rw [← hx.out]; exact hxd
          · exact hne.out i h (by omega)
        rw [hb]
        clear hb hxd hx hne
        go_wp2
        go_roundw
        case rel => exact ⟨k + 1, by omega, by go_num, hne', hnw'⟩
        case measure => simp [intOf]; omega
    · have hf : Hid (FoundP xs n (-1)) := .inl ⟨rfl, fun i h => hne.out i h (by have := hn.out; omega)⟩
      go_wp2
      go_ret
      exact ⟨_, rfl, hf.out, hnw⟩

set_option maxHeartbeats 1600000 in
theorem c_contains {X : Nat → Prop} {v : Value} {xs : List Cat} (w : World) (h : CSl X w v xs) :
    Calls Try.prog 40 #[v, fpV] w (AnsP (¬ ∀ i (h : i < xs.length), xs[i].2 ≠ 0) w) := by
  have hcon : Hid _ := c_indexP w h
  obtain ⟨ao, cap, rfl, hc, hm⟩ := h.form
  unfold fpV at *
  clear h
  go_enter Try.func40, Try.ntmps40
  go_wp2_with (go_at_call 57; refine Calls.mono hcon.out ?_; rintro e w3 ⟨r, rfl, q1, qn⟩; refine stop_here ?_)
  unfold Hid
  rcases q1 with ⟨q1, q2⟩ | ⟨q1, i, hi, q2⟩
  · have hb : decide (0 ≤ r) = false := by rw [q1]; rfl
    have hP : Hid (¬ ¬ ∀ i (h : i < xs.length), xs[i].2 ≠ 0) := fun h => h q2
    clear hcon q1 q2
    go_wp2
    go_ret
    exact ans_no hP.out qn
  · have hb : decide (0 ≤ r) = true := decide_eq_true q1
    have hP : Hid (¬ ∀ i (h : i < xs.length), xs[i].2 ≠ 0) := fun h => h i hi q2
    clear hcon q1 q2 hi
    go_wp2
    go_ret
    exact ans_yes hP.out qn

/-- No level of a category is Star. -/
def Pc (xs : List Cat) : Prop := ∀ i (h : i < xs.length), xs[i].2 ≠ 0

theorem pu_of_rgt {d : Int} {xs : List Cat} (h : Rgt d xs) : Pu d xs ↔ Pc xs := ⟨fun p => p.2, fun p => ⟨by have := h.lo; omega, p⟩⟩

set_option maxHeartbeats 1600000 in
theorem c_isPure {X : Nat → Prop} {v : Value} {xs : List Cat} (d : Int) (w : World) (h : CSl X w v xs) :
    Calls Try.prog 20 #[labV d v] w (AnsP (Pc xs) w) := by
  obtain ⟨ao, cap, rfl, ha1, ha2⟩ := h.form
  have hA : (w.alloc (.cells #[.int .i64 d, .slice ao xs.length cap] 25)).heap[w.heap.size]? = some (.cells #[.int .i64 d, .slice ao xs.length cap] 25 (0, 0)) := heap_alloc_new w _
  have nW : Nw w (w.alloc (.cells #[.int .i64 d, .slice ao xs.length cap] 25)) := nw_alloc (nw_refl w) _
  have hcon : Hid _ := c_contains _ (h.nw nW)
  unfold labV
  unfold fpV at *
  go_enter Try.func20, Try.ntmps20
  go_upto_region 1 with fail
  generalize w.alloc (.cells #[.int .i64 d, .slice ao xs.length cap] 25) = W at *
  have a1 : W.cell? ⟨w.heap.size, 1, none⟩ = some (.slice ao xs.length cap) := cell_blk hA rfl
  clear h
  go_wp2_with (go_at_call 40; refine Calls.mono hcon.out ?_; rintro e w3 ⟨r, rfl, q1, qn⟩; refine stop_here ?_)
  unfold Hid
  clear hcon a1
  replace nW := nw_trans nW qn
  cases r with
  | true =>
    have hP : Hid (¬ Pc xs) := q1.1 rfl
    clear q1
    go_wp2
    go_ret
    exact ans_no hP.out nW
  | false =>
    have hP : Hid (Pc xs) := Classical.not_not.1 (not_of_false q1)
    clear q1
    go_wp2
    go_ret
    exact ans_yes hP.out nW

end Go.Proofs.Ytghlilncdfiojab
