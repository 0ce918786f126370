/-
  Fields in memory; a field appended, by the plain function.
-/
import Derived.Test.YtihdhlciblkbiaaRows
import Derived.Test.YtihdhlciblkbiaaCodecW3
namespace Go.Proofs.Ytihdhlciblkbiaa
set_option linter.unusedVariables false
set_option linter.unusedSimpArgs false
set_option maxRecDepth 20000
open Go.RowKit

/-- The slice value v has the fields fs, in blocks below K. -/
def FieldsAt (K : Nat) (w : World) (v : Value) (fs : List Fld) : Prop :=
  ∃ ao cap, v = .slice ao fs.length cap ∧ fs.length ≤ cap ∧ (ao = none → cap = 0) ∧
    ∀ i f, fs[i]? = some f → ∃ b off bvv, ao = some ⟨b, off, none⟩ ∧ b < K ∧ w.cell? ⟨b, off + i * 2, none⟩ = some (.int .u64 (f.num : Nat)) ∧ w.cell? ⟨b, off + i * 2 + 1, none⟩ = some bvv ∧
      Sl K w bvv f.bytes.length (f.bytes.map bv) ∧ f.num < 18446744073709551616 ∧ f.bytes.length ≤ 140737488355328

theorem FieldsAt.keep {K : Nat} {w w' : World} {v : Value} {fs : List Fld} (h : FieldsAt K w v fs) (hb : Below K w w') : FieldsAt K w' v fs := by
  obtain ⟨ao, cap, hv, hc, hn, hcs⟩ := h
  refine ⟨ao, cap, hv, hc, hn, fun i f hi => ?_⟩
  obtain ⟨b, off, bvv, ha, hbk, h1, h2, h3, h4⟩ := hcs i f hi
  exact ⟨b, off, bvv, ha, hbk, by rw [hb.cell (p := ⟨b, _, none⟩) hbk]; exact h1, by rw [hb.cell (p := ⟨b, _, none⟩) hbk]; exact h2, h3.keep hb, h4⟩

theorem FieldsAt.mono {K K' : Nat} {w : World} {v : Value} {fs : List Fld} (h : FieldsAt K w v fs) (hk : K ≤ K') : FieldsAt K' w v fs := by
  obtain ⟨ao, cap, hv, hc, hn, hcs⟩ := h
  refine ⟨ao, cap, hv, hc, hn, fun i f hi => ?_⟩
  obtain ⟨b, off, bvv, ha, hbk, h1, h2, h3, h4⟩ := hcs i f hi
  exact ⟨b, off, bvv, ha, Nat.lt_of_lt_of_le hbk hk, h1, h2, h3.mono hk, h4⟩

theorem wdt_int {c : UInt8} {k : Nat} (h : wdt c = some k) : ((c.toNat : Int) = 49 ∧ (k : Int) = 1) ∨ ((c.toNat : Int) = 50 ∧ (k : Int) = 2) ∨ ((c.toNat : Int) = 52 ∧ (k : Int) = 4) ∨ ((c.toNat : Int) = 56 ∧ (k : Int) = 8) := by
  unfold wdt at h
  by_cases h1 : c = 49
  · subst h1; simp at h; subst h; decide
  by_cases h2 : c = 50
  · subst h2; simp at h; subst h; decide
  by_cases h3 : c = 52
  · subst h3; simp at h; subst h; decide
  by_cases h4 : c = 56
  · subst h4; simp at h; subst h; decide
  simp [h1, h2, h3, h4] at h

theorem byte_ne {c d : UInt8} (h : c ≠ d) (n : Int) (hd : (d.toNat : Int) = n) : ((c.toNat : Int) == n) = false := by
  rw [beq_eq_false_iff_ne]
  intro e
  apply h
  apply UInt8.toNat_inj.1
  omega

theorem wdt_none {c : UInt8} (h : wdt c = none) : ((c.toNat : Int) == 49) = false ∧ ((c.toNat : Int) == 50) = false ∧ ((c.toNat : Int) == 52) = false ∧ ((c.toNat : Int) == 56) = false := by
  unfold wdt at h
  by_cases h1 : c = 49
  · simp [h1] at h
  by_cases h2 : c = 50
  · simp [h2] at h
  by_cases h3 : c = 52
  · simp [h3] at h
  by_cases h4 : c = 56
  · simp [h4] at h
  exact ⟨byte_ne h1 49 rfl, byte_ne h2 50 rfl, byte_ne h3 52 rfl, byte_ne h4 56 rfl⟩

/-- A field appended: by the plain function, or given up. -/
theorem c_appendField (B K : Nat) (c : UInt8) (f : Fld) (v bvv : Value) (xs : List UInt8) (w : World) (hown : w.ownsRow B 5 1 v xs.length (xs.map bv)) (hB : B ≤ w.heap.size)
    (hs : Sl K w bvv f.bytes.length (f.bytes.map bv)) (hK : K ≤ B) (hn : f.num < 18446744073709551616) (hl : f.bytes.length ≤ 140737488355328) (hx : xs.length ≤ 1000000000) :
    Calls Try.prog 59 #[v, .int .u8 (c.toNat : Int), .agg #[.int .u64 (f.num : Nat), bvv]] w fun e w' =>
      ((∃ ys v', packF c f = some ys ∧ e = .returned v' ∧ w'.ownsRow B 5 1 v' (xs ++ ys).length ((xs ++ ys).map bv)) ∨ (packF c f = none ∧ e = .panicked [err21])) ∧ Below B w w' := by
  by_cases h98 : c = 98
  · subst h98
    by_cases hle : f.bytes.length ≤ 1024
    · refine (c_appendField_bytes B K f.num v bvv xs f.bytes w hown hB hs hK hle hx).mono ?_
      rintro e w' ⟨v', he, ho, hb⟩
      exact ⟨.inl ⟨_, v', by simp [packF, hle], he, ho⟩, hb⟩
    · obtain ⟨ao, cap, rfl, _⟩ := hs
      refine (c_appendField_long f.num v ao f.bytes.length cap w (by omega) (by unfold maxLen; omega)).mono ?_
      rintro e w' ⟨he, hb⟩
      exact ⟨.inr ⟨by simp [packF, hle], he⟩, hb.mono hB⟩
  · cases hw : wdt c with
    | none =>
      obtain ⟨h1, h2, h3, h4⟩ := wdt_none hw
      refine (c_appendField_none f.num (c.toNat : Int) v bvv w (byte_ne h98 98 rfl) h1 h2 h3 h4).mono ?_
      rintro e w' ⟨he, hb⟩
      exact ⟨.inr ⟨by simp [packF, h98, hw], he⟩, hb.mono hB⟩
    | some k =>
      by_cases hlt : f.num < 256 ^ k
      · refine (c_appendField_num B k f.num (c.toNat : Int) v bvv xs w hown hB (wdt_int hw) hlt hn hx).mono ?_
        rintro e w' ⟨v', he, ho, hb⟩
        exact ⟨.inl ⟨_, v', by simp [packF, h98, hw, hlt], he, ho⟩, hb⟩
      · refine (c_appendField_over k f.num (c.toNat : Int) v bvv w (wdt_int hw) hlt hn).mono ?_
        rintro e w' ⟨he, hb⟩
        exact ⟨.inr ⟨by simp [packF, h98, hw, hlt], he⟩, hb.mono hB⟩
end Go.Proofs.Ytihdhlciblkbiaa
