/-
  Plain mathematics of layer 11: things, which of them can be, and their images. It names nothing of the program.
-/
import Derived.Test.YtppfcdnhmieejaaCodecS
import Derived.Test.YtppfcdnhmieejaaLabS
import Derived.Test.YtppfcdnhmieejaaThA0S
import Derived.Test.YtppfcdnhmieejaaNumCanS
namespace Go.Proofs.Ytppfcdnhmieejaa
set_option linter.unusedVariables false
set_option linter.unusedSimpArgs false
set_option maxRecDepth 20000
open Go.RowKit

/-- A thing. -/
structure Th where
  id : Int
  kind : Int
  df : Int
  cats : List Cat
  cdf : Int
  ccats : List Cat
  quota : Int
  next : Int
  links : List Cat
  data : List UInt8
  r0 : Int
  r1 : Int
  r2 : Int
  r3 : Int
  minted : Int
  boot : Int
  halted : Bool
  value : Int
  s0 : Int
  s1 : Int
  s2 : Int
  s3 : Int
  s4 : Int
  s5 : Int
  s6 : Int
  s7 : Int

def zeroT : Th := ⟨0, 0, 0, [], 0, [], 0, 0, [], [], 0, 0, 0, 0, 0, 0, false, 0, 0, 0, 0, 0, 0, 0, 0, 0⟩

/-- What every kind has. -/
def baseT (t : Th) : Th := { zeroT with id := t.id, kind := t.kind, df := t.df, cats := t.cats, quota := t.quota }

/-- No more than what its kind has. -/
def ofK (t : Th) : Th :=
  if t.kind = 1 then { baseT t with next := t.next, links := t.links }
  else if t.kind = 2 then { baseT t with cdf := t.cdf, ccats := t.ccats, r0 := t.r0, r1 := t.r1, r2 := t.r2, r3 := t.r3, minted := t.minted, boot := t.boot, halted := t.halted }
  else if t.kind = 3 then { baseT t with cdf := t.cdf, ccats := t.ccats, value := t.value }
  else if t.kind = 4 then { baseT t with data := t.data }
  else if t.kind = 5 then { baseT t with s0 := t.s0, s1 := t.s1, s2 := t.s2, s3 := t.s3, s4 := t.s4, s5 := t.s5, s6 := t.s6, s7 := t.s7 }
  else baseT t

/-- All but what its kind has. -/
def bareK (t : Th) : Th :=
  if t.kind = 1 then { t with next := 0, links := [] }
  else if t.kind = 2 then { t with cdf := 0, ccats := [], r0 := 0, r1 := 0, r2 := 0, r3 := 0, minted := 0, boot := 0, halted := false }
  else if t.kind = 3 then { t with cdf := 0, ccats := [], value := 0 }
  else if t.kind = 4 then { t with data := [] }
  else if t.kind = 5 then { t with s0 := 0, s1 := 0, s2 := 0, s3 := 0, s4 := 0, s5 := 0, s6 := 0, s7 := 0 }
  else t

theorem bare_iff (t : Th) : bareK t = baseT t ↔ t = ofK t := by
  cases t
  simp only [bareK, ofK, baseT, zeroT]
  split
  · simp
  · split
    · simp
    · split
      · simp
      · split
        · simp
        · split <;> simp

def idOk (x : Int) : Prop := 1 ≤ x ∧ x ≤ 281474976710655
def btw (a x b : Int) : Prop := a ≤ x ∧ x ≤ b
def sumL (ls : List Cat) : Int := (ls.map (·.2)).sum

/-- Links as they must be. -/
structure LkOk (ls : List Cat) : Prop where
  each : ∀ i (h : i < ls.length), idOk ls[i].1 ∧ btw 1 ls[i].2 48
  rise : ∀ i (h : i + 1 < ls.length), ls[i].1 < ls[i + 1].1

structure DirOk (t : Th) : Prop where
  next : btw 0 t.next 63
  quota : btw 1 t.quota 48
  len : t.links.length ≤ 16
  lk : LkOk t.links
  sum : 1 + sumL t.links ≤ t.quota

def can (x : Int) : Prop := Num.canonV x = x

structure ThrOk (t : Th) : Prop where
  quota : t.quota = 1
  rgt : Rgt t.cdf t.ccats
  pu : Pu t.cdf t.ccats
  regs : can t.r0 ∧ can t.r1 ∧ can t.r2 ∧ can t.r3
  minted : btw 0 t.minted 31
  boot : btw 0 t.boot 255

structure GatOk (t : Th) : Prop where
  quota : t.quota = 1
  rgt : Rgt t.cdf t.ccats
  pu : Pu t.cdf t.ccats
  value : can t.value

structure SegOk (t : Th) : Prop where
  lo : 32 ≤ t.data.length
  hi : t.data.length ≤ 128
  whole : t.data.length % 32 = 0
  quota : t.quota = 1 + (t.data.length / 32 : Nat)

def slOk (d s : Int) : Prop := (d = 0 ∧ s = 0) ∨ (idOk d ∧ idOk s)

structure SpcOk (t : Th) : Prop where
  quota : t.quota = 1
  slots : slOk t.s0 t.s1 ∧ slOk t.s2 t.s3 ∧ slOk t.s4 t.s5 ∧ slOk t.s6 t.s7

def KindOk (t : Th) : Prop := (t.kind = 1 ∧ DirOk t) ∨ (t.kind = 2 ∧ ThrOk t) ∨ (t.kind = 3 ∧ GatOk t) ∨ (t.kind = 4 ∧ SegOk t) ∨ (t.kind = 5 ∧ SpcOk t) ∨ (t.kind = 6 ∧ t.quota = 1)

/-- Can it be? -/
structure RightT (t : Th) : Prop where
  id : idOk t.id
  rgt : Rgt t.df t.cats
  pu : t.kind = 2 ∨ t.kind = 3 ∨ Pu t.df t.cats
  same : t = ofK t
  parts : KindOk t

/-- Numbers that fit their types. -/
structure WfT (t : Th) : Prop where
  r0 : 0 ≤ t.r0 ∧ t.r0 < 18446744073709551616
  r1 : 0 ≤ t.r1 ∧ t.r1 < 18446744073709551616
  r2 : 0 ≤ t.r2 ∧ t.r2 < 18446744073709551616
  r3 : 0 ≤ t.r3 ∧ t.r3 < 18446744073709551616
  value : 0 ≤ t.value ∧ t.value < 18446744073709551616

def nF (x : Int) : Fld := ⟨x.toNat, []⟩
def sizeT (t : Th) : Nat := 14 + 9 * t.cats.length +
  (if t.kind = 1 then 4 + 10 * t.links.length else if t.kind = 2 then 38 + 9 * t.ccats.length else if t.kind = 3 then 11 + 9 * t.ccats.length else if t.kind = 4 then 2 + t.data.length else if t.kind = 5 then 64 else 0)

theorem packF_n {c : UInt8} {k : Nat} {x : Int} (h98 : c ≠ 98) (hw : wdt c = some k) (h : x.toNat < 256 ^ k) : packF c (nF x) = some (be k x.toNat) := by
  unfold packF nF
  rw [if_neg h98, hw]
  simp only
  rw [if_pos h]

theorem p2 {x : Int} (h : x < 65536) : packF 50 (nF x) = some (be 2 x.toNat) := packF_n (by decide) (by decide) (by show _ < 65536; omega)
theorem p1 {x : Int} (h : x < 256) : packF 49 (nF x) = some (be 1 x.toNat) := packF_n (by decide) (by decide) (by show _ < 256; omega)

theorem kind_of {t : Th} (h : KindOk t) : t.kind = 1 ∨ t.kind = 2 ∨ t.kind = 3 ∨ t.kind = 4 ∨ t.kind = 5 ∨ t.kind = 6 := by
  rcases h with ⟨h, _⟩ | ⟨h, _⟩ | ⟨h, _⟩ | ⟨h, _⟩ | ⟨h, _⟩ | ⟨h, _⟩ <;> simp [h]

end Go.Proofs.Ytppfcdnhmieejaa
