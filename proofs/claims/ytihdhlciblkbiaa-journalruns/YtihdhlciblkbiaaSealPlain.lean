/-
  Plain mathematics of layer 5: a sealed sector, opened, torn.
-/
import Derived.Test.YtihdhlciblkbiaaCodecPlain2
import Derived.Test.YtihdhlciblkbiaaCrcPlain
import Derived.Test.YtihdhlciblkbiaaLibSec
namespace Go.Proofs.Ytihdhlciblkbiaa
set_option linter.unusedVariables false
set_option linter.unusedSimpArgs false
set_option maxRecDepth 20000

/-- The first 116 bytes. -/
def headS (m : Nat) (b : List UInt8) : List UInt8 := be 8 m ++ (be 2 b.length ++ (b ++ List.replicate (106 - b.length) 0))
def sumS (m : Nat) (b : List UInt8) : Nat := (crcAdd 0#32 (headS m b)).toNat
def tailS (m : Nat) (b : List UInt8) : List UInt8 := be 4 (sumS m b) ++ be 8 m
/-- A sealed sector. -/
def sealOf (m : Nat) (b : List UInt8) : List UInt8 := headS m b ++ tailS m b

def okS (m : Nat) (b : List UInt8) : Prop := m ≠ 0 ∧ b.length ≤ 106
instance (m : Nat) (b : List UInt8) : Decidable (okS m b) := by unfold okS; infer_instance
def mkS (m : Nat) (b : List UInt8) : List UInt8 := if okS m b then sealOf m b else z128
def mkE (m : Nat) (b : List UInt8) : Int := if okS m b then 0 else 51

def opM (s : List UInt8) : Nat := val (s.take 8)
def opN (s : List UInt8) : Nat := val ((s.drop 8).take 2)
def opB (s : List UInt8) : List UInt8 := (s.drop 10).take (opN s)
/-- The mark and the body, if any. -/
def openS (s : List UInt8) : Option (Nat × List UInt8) :=
  if opN s ≤ 106 ∧ okS (opM s) (opB s) ∧ sealOf (opM s) (opB s) = s then some (opM s, opB s) else none
def oM (s : List UInt8) : Nat := ((openS s).map (·.1)).getD 0
def oB (s : List UInt8) : List UInt8 := ((openS s).map (·.2)).getD []

theorem headS_length {m : Nat} {b : List UInt8} (h : b.length ≤ 106) : (headS m b).length = 116 := by
  unfold headS
  simp only [List.length_append, be_length, List.length_replicate]
  omega

theorem tailS_length (m : Nat) (b : List UInt8) : (tailS m b).length = 12 := by simp [tailS, be_length]

theorem sealOf_length {m : Nat} {b : List UInt8} (h : b.length ≤ 106) : (sealOf m b).length = 128 := by
  unfold sealOf
  rw [List.length_append, headS_length h, tailS_length]

theorem mkS_length (m : Nat) (b : List UInt8) : (mkS m b).length = 128 := by
  unfold mkS
  split
  · rename_i h; exact sealOf_length h.2
  · exact z128_length

theorem take8 {m : Nat} {b r : List UInt8} : (headS m b ++ r).take 8 = be 8 m := by
  unfold headS
  rw [List.append_assoc, List.take_append_of_le_length (by rw [be_length]; omega), List.take_of_length_le (by rw [be_length]; omega)]

theorem drop8 {m : Nat} {b r : List UInt8} : (headS m b ++ r).drop 8 = be 2 b.length ++ (b ++ (List.replicate (106 - b.length) 0 ++ r)) := by
  unfold headS
  simp only [List.append_assoc]
  rw [List.drop_append, be_length, List.drop_eq_nil_of_le (by rw [be_length]; omega)]
  simp

theorem drop10 {m : Nat} {b r : List UInt8} : (headS m b ++ r).drop 10 = b ++ (List.replicate (106 - b.length) 0 ++ r) := by
  rw [show (10 : Nat) = 8 + 2 from rfl, ← List.drop_drop, drop8, List.drop_append, be_length, List.drop_eq_nil_of_le (by rw [be_length]; omega)]
  simp

theorem opM_head {m : Nat} {b r : List UInt8} (hm : m < 18446744073709551616) : opM (headS m b ++ r) = m := by
  unfold opM
  rw [take8, val_be 8 m (by omega)]

theorem opN_head {m : Nat} {b r : List UInt8} (h : b.length ≤ 106) : opN (headS m b ++ r) = b.length := by
  unfold opN
  rw [drop8, List.take_append_of_le_length (by rw [be_length]; omega), List.take_of_length_le (by rw [be_length]; omega), val_be 2 _ (by omega)]

theorem opB_head {m : Nat} {b r : List UInt8} (h : b.length ≤ 106) : opB (headS m b ++ r) = b := by
  unfold opB
  rw [opN_head h, drop10, List.take_left]

theorem openS_seal {m : Nat} {b : List UInt8} (hm : m < 18446744073709551616) (h : okS m b) : openS (sealOf m b) = some (m, b) := by
  have e1 : opM (sealOf m b) = m := opM_head hm
  have e2 : opN (sealOf m b) = b.length := opN_head h.2
  have e3 : opB (sealOf m b) = b := opB_head h.2
  unfold openS
  rw [e1, e2, e3, if_pos ⟨h.2, h, rfl⟩]

theorem openS_some {s : List UInt8} {m : Nat} {b : List UInt8} (h : openS s = some (m, b)) : okS m b ∧ sealOf m b = s ∧ m < 18446744073709551616 := by
  unfold openS at h
  split at h
  · rename_i h1
    simp only [Option.some.injEq, Prod.mk.injEq] at h
    obtain ⟨rfl, rfl⟩ := h
    refine ⟨h1.2.1, h1.2.2, ?_⟩
    unfold opM
    have h2 := val_lt (s.take 8)
    have h3 : 256 ^ (s.take 8).length ≤ 256 ^ 8 := Nat.pow_le_pow_right (by decide) (by rw [List.length_take]; omega)
    omega
  · cases h

theorem opM_lt (s : List UInt8) : opM s < 18446744073709551616 := by
  unfold opM
  have h2 := val_lt (s.take 8)
  have h3 : 256 ^ (s.take 8).length ≤ 256 ^ 8 := Nat.pow_le_pow_right (by decide) (by rw [List.length_take]; omega)
  omega

theorem opN_lt (s : List UInt8) : opN s < 65536 := by
  unfold opN
  have h2 := val_lt ((s.drop 8).take 2)
  have h3 : 256 ^ ((s.drop 8).take 2).length ≤ 256 ^ 2 := Nat.pow_le_pow_right (by decide) (by rw [List.length_take]; omega)
  omega

theorem opB_length {s : List UInt8} (hs : s.length = 128) (h : opN s ≤ 106) : (opB s).length = opN s := by
  unfold opB
  rw [List.length_take, List.length_drop]
  omega

theorem oM_lt (s : List UInt8) : oM s < 18446744073709551616 := by
  unfold oM
  cases h : openS s with
  | none => simp
  | some p => obtain ⟨m, b⟩ := p; exact (openS_some h).2.2

theorem oB_length (s : List UInt8) : (oB s).length ≤ 106 := by
  unfold oB
  cases h : openS s with
  | none => simp
  | some p => obtain ⟨m, b⟩ := p; exact (openS_some h).1.2

theorem openS_zero : openS z128 = none := by
  cases h : openS z128 with
  | none => rfl
  | some p =>
    obtain ⟨m, b⟩ := p
    exfalso
    unfold openS at h
    split at h
    · rename_i h1
      exact h1.2.1.1 (by decide +kernel)
    · cases h

theorem seal_inj {m m' : Nat} {b b' : List UInt8} (hm : m < 18446744073709551616) (hm' : m' < 18446744073709551616) (h : okS m b) (h' : okS m' b') (e : sealOf m b = sealOf m' b') : m = m' ∧ b = b' := by
  have h1 := openS_seal hm h
  rw [e, openS_seal hm' h'] at h1
  simp only [Option.some.injEq, Prod.mk.injEq] at h1
  exact ⟨h1.1.symm, h1.2.symm⟩

/-- What the first 116 bytes tell. -/
theorem head_inj {m m' : Nat} {b b' r r' : List UInt8} (hm : m < 18446744073709551616) (hm' : m' < 18446744073709551616) (hb : b.length ≤ 106) (hb' : b'.length ≤ 106)
    (e : (headS m b ++ r).take 116 = (headS m' b' ++ r').take 116) : m = m' ∧ b = b' := by
  rw [List.take_append_of_le_length (by rw [headS_length hb]; omega), List.take_of_length_le (by rw [headS_length hb]; omega),
    List.take_append_of_le_length (by rw [headS_length hb']; omega), List.take_of_length_le (by rw [headS_length hb']; omega)] at e
  have h1 := opM_head (b := b) (r := []) hm
  have h2 := opB_head (m := m) (r := []) hb
  rw [e] at h1 h2
  rw [opM_head hm'] at h1
  rw [opB_head hb'] at h2
  exact ⟨h1.symm, h2.symm⟩

theorem be_inj {k n n' : Nat} (hn : n < 256 ^ k) (hn' : n' < 256 ^ k) (e : be k n = be k n') : n = n' := by
  rw [← val_be k n hn, e, val_be k n' hn']

theorem seal_drop {m : Nat} {b : List UInt8} (hb : b.length ≤ 106) : (sealOf m b).drop 120 = be 8 m := by
  unfold sealOf tailS
  rw [← List.append_assoc, List.drop_append, List.drop_eq_nil_of_le (by rw [List.length_append, headS_length hb, be_length]; omega), List.length_append, headS_length hb, be_length]
  simp

theorem lay_take {old new : List UInt8} {c k : Nat} (hn : new.length = 128) (hk : k ≤ c) (hc : c ≤ 128) : (lay old new c).take k = new.take k := by
  unfold lay
  rw [List.take_append_of_le_length (by rw [List.length_take]; omega), List.take_take, Nat.min_eq_left hk]

theorem lay_drop {old new : List UInt8} {c k : Nat} (hn : new.length = 128) (hk : c ≤ k) (hc : c ≤ 128) : (lay old new c).drop k = old.drop k := by
  unfold lay
  rw [List.drop_append, List.drop_eq_nil_of_le (by rw [List.length_take]; omega), List.length_take, List.drop_drop, List.nil_append, Nat.min_eq_left (by omega)]
  congr 1
  omega

theorem zero_drop : z128.drop 120 = be 8 0 := by decide +kernel

/-- Whole or not at all. -/
theorem torn_whole {old : List UInt8} {m1 : Nat} {b1 : List UInt8} {c : Nat} (hc : c ≤ 128) (hm1 : m1 < 18446744073709551616) (h1 : okS m1 b1)
    (ho : old = z128 ∨ ∃ m0 b0, m0 < 18446744073709551616 ∧ okS m0 b0 ∧ old = sealOf m0 b0 ∧ m0 ≠ m1) (hsome : (openS (lay old (sealOf m1 b1) c)).isSome = true) :
    lay old (sealOf m1 b1) c = old ∨ lay old (sealOf m1 b1) c = sealOf m1 b1 := by
  obtain ⟨⟨m, b⟩, hq⟩ := Option.isSome_iff_exists.1 hsome
  obtain ⟨hok, he, hm⟩ := openS_some hq
  have hn := sealOf_length (m := m1) h1.2
  by_cases h120 : 120 ≤ c
  · right
    have e := lay_take (old := old) hn (show 116 ≤ c by omega) hc
    rw [← he] at e
    obtain ⟨rfl, rfl⟩ := head_inj hm hm1 hok.2 h1.2 e
    exact he.symm
  · left
    have e := lay_drop (old := old) hn (show c ≤ 120 by omega) hc
    rw [← he, seal_drop hok.2] at e
    rcases ho with rfl | ⟨m0, b0, hm0, h0, rfl, hne⟩
    · rw [zero_drop] at e
      exact absurd (be_inj (by omega) (by omega) e) hok.1
    · rw [seal_drop h0.2] at e
      have hmm : m = m0 := be_inj (by omega) (by omega) e
      subst hmm
      by_cases h8 : 8 ≤ c
      · have e2 := lay_take (old := sealOf m b0) hn h8 hc
        rw [← he] at e2
        have t1 : (sealOf m b).take 8 = be 8 m := take8
        have t2 : (sealOf m1 b1).take 8 = be 8 m1 := take8
        rw [t1, t2] at e2
        exact absurd (be_inj (by omega) (by omega) e2) hne
      · have e2 := lay_drop (old := sealOf m b0) hn (show c ≤ 8 by omega) hc
        have t1 : (lay (sealOf m b0) (sealOf m1 b1) c).take 8 = be 8 m := by rw [← he]; exact take8
        have t2 : (sealOf m b0).take 8 = be 8 m := take8
        rw [← List.take_append_drop 8 (lay (sealOf m b0) (sealOf m1 b1) c), t1, e2, ← t2, List.take_append_drop]
end Go.Proofs.Ytihdhlciblkbiaa
