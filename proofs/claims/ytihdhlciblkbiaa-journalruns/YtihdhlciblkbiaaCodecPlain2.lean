/-
  There and back, in plain mathematics.
-/
import Derived.Test.YtihdhlciblkbiaaCodecPlain
namespace Go.Proofs.Ytihdhlciblkbiaa
set_option linter.unusedVariables false
set_option linter.unusedSimpArgs false
set_option maxRecDepth 20000

/-- What a letter doesn't need is nothing. -/
def nrm (c : UInt8) (f : Fld) : Fld := if c = 98 then ⟨0, f.bytes⟩ else ⟨f.num, []⟩

theorem unpF_packF {c : UInt8} {f : Fld} {y : List UInt8} (h : packF c f = some y) (r : List UInt8) : unpF c (y ++ r) = some (nrm c f, r) := by
  unfold packF at h
  unfold unpF nrm
  by_cases h98 : c = 98
  · rw [if_pos h98] at h
    rw [if_pos h98, if_pos h98]
    split at h
    · rename_i hle
      simp only [Option.some.injEq] at h
      subst h
      have e1 : (be 2 f.bytes.length ++ f.bytes ++ r).take 2 = be 2 f.bytes.length := by
        rw [List.append_assoc, List.take_left' (be_length _ _)]
      have e2 : (be 2 f.bytes.length ++ f.bytes ++ r).drop 2 = f.bytes ++ r := by
        rw [List.append_assoc, List.drop_left' (be_length _ _)]
      have e3 : val (be 2 f.bytes.length) = f.bytes.length := val_be 2 _ (by omega)
      rw [e1, e2, e3, if_pos ⟨by simp [be_length], hle, by simp⟩]
      simp
    · cases h
  · rw [if_neg h98] at h
    rw [if_neg h98, if_neg h98]
    cases hw : wdt c with
    | none => rw [hw] at h; simp at h
    | some k =>
      rw [hw] at h
      simp only at h
      split at h
      · rename_i hlt
        simp only [Option.some.injEq] at h
        subst h
        simp only
        rw [if_pos (by simp [be_length]), List.take_left' (be_length _ _), List.drop_left' (be_length _ _), val_be k _ hlt]
      · cases h

theorem unpL_packL {s : List UInt8} {fs : List Fld} {y : List UInt8} (hl : fs.length = s.length) (h : packL (s.zip fs) = some y) (r : List UInt8) : unpL s (y ++ r) = some (List.zipWith nrm s fs, r) := by
  induction s generalizing fs y with
  | nil =>
    cases fs with
    | nil => simp [packL] at h; subst h; simp [unpL]
    | cons f fs => simp at hl
  | cons c s ih =>
    cases fs with
    | nil => simp at hl
    | cons f fs =>
      simp only [List.zip_cons_cons, packL] at h
      cases h1 : packF c f with
      | none => rw [h1] at h; simp at h
      | some a =>
        rw [h1] at h
        simp only at h
        cases h2 : packL (s.zip fs) with
        | none => rw [h2] at h; simp at h
        | some b =>
          rw [h2] at h
          simp only [Option.some.injEq] at h
          subst h
          have hl' : fs.length = s.length := by simpa using hl
          simp only [unpL, List.append_assoc]
          rw [unpF_packF h1]
          simp only
          rw [ih hl' h2]
          simp

theorem packF_unpF {c : UInt8} {b r : List UInt8} {f : Fld} (h : unpF c b = some (f, r)) : ∃ y, packF c f = some y ∧ b = y ++ r ∧ nrm c f = f := by
  unfold unpF at h
  unfold packF nrm
  by_cases h98 : c = 98
  · rw [if_pos h98] at h
    rw [if_pos h98, if_pos h98]
    split at h
    · rename_i hc
      simp only [Option.some.injEq, Prod.mk.injEq] at h
      obtain ⟨rfl, rfl⟩ := h
      have hlen : ((b.drop 2).take (val (b.take 2))).length = val (b.take 2) := by rw [List.length_take]; omega
      refine ⟨be 2 (val (b.take 2)) ++ (b.drop 2).take (val (b.take 2)), ?_, ?_, rfl⟩
      · simp only
        rw [hlen, if_pos hc.2.1]
      · have e : be 2 (val (b.take 2)) = b.take 2 := by
          have := be_val (b.take 2)
          rw [show (b.take 2).length = 2 by rw [List.length_take]; omega] at this
          exact this
        rw [e, List.append_assoc, List.take_append_drop, List.take_append_drop]
    · cases h
  · rw [if_neg h98] at h
    rw [if_neg h98, if_neg h98]
    cases hw : wdt c with
    | none => rw [hw] at h; simp at h
    | some k =>
      rw [hw] at h
      simp only at h
      split at h
      · rename_i hk
        simp only [Option.some.injEq, Prod.mk.injEq] at h
        obtain ⟨rfl, rfl⟩ := h
        have hl : (b.take k).length = k := by rw [List.length_take]; omega
        have hv := val_lt (b.take k)
        have e := be_val (b.take k)
        rw [hl] at hv e
        refine ⟨be k (val (b.take k)), ?_, ?_, rfl⟩
        · simp only
          rw [if_pos hv]
        · rw [e, List.take_append_drop]
      · cases h

theorem packL_unpL {s b r : List UInt8} {fs : List Fld} (h : unpL s b = some (fs, r)) : ∃ y, packL (s.zip fs) = some y ∧ b = y ++ r ∧ fs.length = s.length := by
  induction s generalizing b fs with
  | nil =>
    simp [unpL] at h
    obtain ⟨rfl, rfl⟩ := h
    exact ⟨[], rfl, rfl, rfl⟩
  | cons c s ih =>
    simp only [unpL] at h
    cases h1 : unpF c b with
    | none => rw [h1] at h; simp at h
    | some p =>
      obtain ⟨f, r1⟩ := p
      rw [h1] at h
      simp only at h
      cases h2 : unpL s r1 with
      | none => rw [h2] at h; simp at h
      | some q =>
        obtain ⟨gs, r2⟩ := q
        rw [h2] at h
        simp only [Option.some.injEq, Prod.mk.injEq] at h
        obtain ⟨rfl, rfl⟩ := h
        obtain ⟨y1, e1, e2, _⟩ := packF_unpF h1
        obtain ⟨y2, e3, e4, e5⟩ := ih h2
        refine ⟨y1 ++ y2, ?_, ?_, by simp [e5]⟩
        · simp only [List.zip_cons_cons, packL, e1, e3]
        · rw [e2, e4, List.append_assoc]

theorem pack_some {s : List UInt8} {fs : List Fld} {y : List UInt8} (h : pack s fs = some y) : s.length ≤ 200 ∧ fs.length = s.length ∧ packL (s.zip fs) = some y := by
  unfold pack at h
  split at h
  · rename_i hc; exact ⟨hc.1, hc.2, h⟩
  · cases h

theorem unpack_some {s b : List UInt8} {fs : List Fld} (h : unpack s b = some fs) : s.length ≤ 200 ∧ unpL s b = some (fs, []) := by
  unfold unpack at h
  split at h
  · rename_i hc
    cases hu : unpL s b with
    | none => rw [hu] at h; simp at h
    | some q =>
      obtain ⟨gs, r⟩ := q
      rw [hu] at h
      cases r with
      | nil => simp at h; subst h; exact ⟨hc, rfl⟩
      | cons a r => simp at h
  · cases h

/-- Packed, then unpacked. -/
theorem unpack_pack {s : List UInt8} {fs : List Fld} {y : List UInt8} (h : pack s fs = some y) : unpack s y = some (List.zipWith nrm s fs) := by
  obtain ⟨h1, h2, h3⟩ := pack_some h
  have := unpL_packL h2 h3 []
  rw [List.append_nil] at this
  unfold unpack
  rw [if_pos h1, this]

/-- Unpacked, then packed. -/
theorem pack_unpack {s b : List UInt8} {fs : List Fld} (h : unpack s b = some fs) : pack s fs = some b := by
  obtain ⟨h1, h2⟩ := unpack_some h
  obtain ⟨y, e1, e2, e3⟩ := packL_unpL h2
  rw [List.append_nil] at e2
  subst e2
  unfold pack
  rw [if_pos ⟨h1, e3⟩, e1]

/-- With more behind. -/
theorem unpack_more {s : List UInt8} {fs : List Fld} {y : List UInt8} (h : pack s fs = some y) (c : UInt8) : unpack s (y ++ [c]) = none := by
  obtain ⟨h1, h2, h3⟩ := pack_some h
  unfold unpack
  rw [if_pos h1, unpL_packL h2 h3 [c]]

/-- Cut off. -/
theorem unpack_less {s : List UInt8} {fs : List Fld} {y : List UInt8} (h : pack s fs = some y) (k : Nat) (hk : k < y.length) : unpack s (y.take k) = none := by
  cases hu : unpack s (y.take k) with
  | none => rfl
  | some gs =>
    exfalso
    obtain ⟨h1, h2, h3⟩ := pack_some h
    obtain ⟨_, g2, g3⟩ := pack_some (pack_unpack hu)
    have e1 := unpL_packL g2 g3 (y.drop k)
    rw [List.take_append_drop] at e1
    have e2 := unpL_packL h2 h3 []
    rw [List.append_nil] at e2
    rw [e2] at e1
    simp only [Option.some.injEq, Prod.mk.injEq] at e1
    have := congrArg List.length e1.2
    rw [List.length_drop] at this
    simp at this
    omega

/-- In two parts. -/
theorem pack_join (s : List UInt8) (fs : List Fld) (k : Nat) (hl : fs.length = s.length) (hk : k ≤ s.length) (h200 : s.length ≤ 200) :
    pack s fs = match pack (s.take k) (fs.take k) with
      | some x => match pack (s.drop k) (fs.drop k) with
        | some y => some (x ++ y)
        | none => none
      | none => none := by
  have e : s.zip fs = (s.take k).zip (fs.take k) ++ (s.drop k).zip (fs.drop k) := by
    have := List.zip_append (l₁ := s.take k) (r₁ := s.drop k) (l₂ := fs.take k) (r₂ := fs.drop k) (by rw [List.length_take, List.length_take, hl])
    rw [List.take_append_drop, List.take_append_drop] at this
    exact this
  unfold pack
  rw [if_pos ⟨h200, hl⟩, if_pos ⟨by rw [List.length_take]; omega, by rw [List.length_take, List.length_take, hl]⟩, if_pos ⟨by rw [List.length_drop]; omega, by rw [List.length_drop, List.length_drop, hl]⟩, e, packL_append]
  cases packL ((s.take k).zip (fs.take k)) with
  | none => rfl
  | some x => cases packL ((s.drop k).zip (fs.drop k)) <;> rfl
end Go.Proofs.Ytihdhlciblkbiaa
