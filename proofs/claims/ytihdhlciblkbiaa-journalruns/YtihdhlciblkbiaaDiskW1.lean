/-
  The disk's small functions.
-/
import Derived.Test.YtihdhlciblkbiaaDiskM
namespace Go.Proofs.Ytihdhlciblkbiaa
set_option linter.unusedVariables false
set_option linter.unusedSimpArgs false
set_option maxRecDepth 20000
open Go.RowKit

theorem c_between (n m : Int) (w : World) : Calls Try.prog 25 #[.int .i64 n, .int .i64 m] w fun e w' => e = .returned (.int .i64 (clamp n m)) ∧ w = w' := by
  go_enter Try.func25, Try.ntmps25
  go_wp2
  all_goals
    go_ret
    refine ⟨congrArg (fun z => Ending.returned (.int .i64 z)) (show _ = clamp n m from ?_), rfl⟩
    unfold clamp
    omega

def Dk.has (D : Dk) (i : Int) : Bool := decide (0 ≤ i) && decide (i < D.st.length)

theorem c_has {base : Nat} {b g : Nat} {vp : Value} {D : Dk} (i : Int) (w : World) (h : DiskG base w b g vp D) :
    Calls Try.prog 41 #[.pointer (some ⟨b, 0, none⟩), .int .i64 i] w fun e w' => e = .returned (.bool (D.has i)) ∧ w = w' := by
  obtain ⟨h0, h1, h2, h3, hf⟩ := h.cells
  clear h h1 h2 h3 hf
  unfold Dk.has
  go_enter Try.func41, Try.ntmps41
  by_cases hi : 0 ≤ i
  · go_wp2
    go_ret
    exact ⟨by simp [hi], rfl⟩
  · go_wp2
    go_ret
    exact ⟨by simp; omega, rfl⟩

def Dk.spend (D : Dk) : Dk := if D.dead = true ∨ D.left = 0 then { D with dead := true } else { D with left := if 0 < D.left then D.left - 1 else D.left }
def Dk.out (D : Dk) : Bool := D.dead || (D.left == 0)

theorem Dk.spend_out {D : Dk} (h : D.out = true) : D.spend = { D with dead := true } := by
  unfold Dk.spend
  rw [if_pos]
  unfold Dk.out at h
  simpa using h

theorem Dk.spend_in {D : Dk} (h : D.out = false) : D.spend = { D with left := if 0 < D.left then D.left - 1 else D.left } := by
  unfold Dk.spend
  rw [if_neg]
  unfold Dk.out at h
  simpa using h

theorem c_spend {base : Nat} {b g : Nat} {vp : Value} {D : Dk} (w : World) (h : DiskG base w b g vp D) :
    Calls Try.prog 44 #[.pointer (some ⟨b, 0, none⟩)] w fun e w' => e = .returned (.int .i64 (if D.out then 42 else 0)) ∧ DiskG base w' b g vp D.spend ∧ Fr (Own b g vp) w w' := by
  obtain ⟨h0, h1, h2, h3, hf⟩ := h.cells
  have hf2 := hf 2
  have hf3 := hf 3
  clear h0 h1 hf
  have k1 : ∀ v, Fr (Own b g vp) w (w.setCell ⟨b, 2, none⟩ v) := fun v => (Fr.refl _ w).setCell (p := ⟨b, 2, none⟩) (.inl (.inl rfl)) v
  have k2 : ∀ v, Fr (Own b g vp) w (w.setCell ⟨b, 3, none⟩ v) := fun v => (Fr.refl _ w).setCell (p := ⟨b, 3, none⟩) (.inl (.inl rfl)) v
  have lo := h.ok.lo
  have hi := h.ok.hi
  have hd : D.dead = true → DiskG base (w.setCell ⟨b, 3, none⟩ (.bool true)) b g vp { D with dead := true } := fun _ => h.write { D with dead := true } 3 (.bool true) rfl rfl rfl lo hi
  have hd0 : DiskG base (w.setCell ⟨b, 3, none⟩ (.bool true)) b g vp { D with dead := true } := h.write { D with dead := true } 3 (.bool true) rfl rfl rfl lo hi
  by_cases ho : D.out = true
  · rw [Dk.spend_out ho]
    have ho' := ho
    unfold Dk.out at ho'
    by_cases hdd : D.dead = true
    · rw [hdd] at h3
      clear h hd lo hi h2
      go_enter Try.func44, Try.ntmps44
      go_wp2
      go_ret
      exact ⟨rfl, hd0, k2 _⟩
    · have hdf : D.dead = false := by simpa using hdd
      have hl : D.left = 0 := by simpa [hdf] using ho'
      rw [hdf] at h3
      rw [hl] at h2
      clear h hd lo hi ho' hdd hdf hl
      go_enter Try.func44, Try.ntmps44
      go_wp2
      go_ret
      exact ⟨rfl, hd0, k2 _⟩
  · have ho : D.out = false := by simpa using ho
    rw [Dk.spend_in ho]
    have ho' := ho
    unfold Dk.out at ho'
    simp only [Bool.or_eq_false_iff, beq_eq_false_iff_ne] at ho'
    obtain ⟨hdf, hl⟩ := ho'
    rw [hdf] at h3
    have hl' : (D.left == 0) = false := by simpa using hl
    by_cases hp : 0 < D.left
    · have hw := h.write { D with left := D.left - 1 } 2 (.int .i64 (D.left - 1)) rfl rfl rfl (by show _ ≤ D.left - 1; omega) (by show D.left - 1 ≤ _; omega)
      rw [if_pos hp]
      clear h hd hd0 hdf
      go_enter Try.func44, Try.ntmps44
      generalize D.left = l at *
      go_wp2
      go_ret
      exact ⟨rfl, hw, k1 _⟩
    · rw [if_neg hp]
      have hw : DiskG base w b g vp { st := D.st, pd := D.pd, left := D.left, dead := D.dead } := h
      have hw : Hid (DiskG base w b g vp { st := D.st, pd := D.pd, left := D.left, dead := D.dead }) := hw
      have fr := Fr.refl (Own b g vp) w
      clear h hd hd0 hdf
      go_enter Try.func44, Try.ntmps44
      go_wp2
      go_ret
      exact ⟨rfl, hw.out, fr⟩

def Dk.brk (D : Dk) (n : Int) : Dk := { D with left := n }

/-- The disk is D' behind what was done. -/
def Done (base : Nat) (w : World) (b : Nat) (S : Nat → Prop) (D' : Dk) (w' : World) : Prop := ∃ S', DiskAt base w' b S' D' ∧ Fr S w w' ∧ ∀ k, S' k → S k ∨ w.heap.size ≤ k

theorem done_same {base : Nat} {w w' : World} {b g : Nat} {vp : Value} {S : Nat → Prop} {D' : Dk} (hS : ∀ k, S k ↔ Own b g vp k) (h : DiskG base w' b g vp D') (hf : Fr (Own b g vp) w w') : Done base w b S D' w' :=
  ⟨S, ⟨g, vp, h, hS⟩, hf.mono (fun k hk => (hS k).2 hk), fun _ hk => .inl hk⟩

theorem c_break {base : Nat} {b : Nat} {S : Nat → Prop} {D : Dk} (n : Int) (w : World) (h : DiskAt base w b S D) (h1 : -9223372036854775808 ≤ n) (h2 : n ≤ 9223372036854775807) :
    Calls Try.prog 15 #[.pointer (some ⟨b, 0, none⟩), .int .i64 n] w fun e w' => e = .returned (.tuple #[]) ∧ Done base w b S (D.brk n) w' := by
  obtain ⟨g, vp, h, hS⟩ := h
  obtain ⟨k0, k1, k2, k3, hf⟩ := h.cells
  have hf2 := hf 2
  have hw := done_same hS (h.write (D.brk n) 2 (.int .i64 n) rfl rfl rfl h1 h2) ((Fr.refl _ w).setCell (p := ⟨b, 2, none⟩) (.inl (.inl rfl)) _)
  clear h k0 k1 k3 hf hS h1 h2
  go_enter Try.func15, Try.ntmps15
  go_wp2
  go_end0
  exact ⟨rfl, hw⟩
end Go.Proofs.Ytihdhlciblkbiaa
