/-
  Package tree: isLeaf, BinarySearch, span, way.
-/
import Derived.Test.YtnljfhjindenpabTreeM
namespace Go.Proofs.Ytnljfhjindenpab
set_option linter.unusedVariables false
set_option linter.unusedSimpArgs false
set_option maxRecDepth 20000
open Go.RowKit

theorem c_isLeaf0 {t : Tr 0} {b : Nat} (w : World) (h : NAt w 0 t b) : Calls Try.prog 78 #[.pointer (some ⟨b, 0, none⟩)] w fun e w' => e = .returned (.bool true) ∧ w = w' := by
  obtain ⟨kv, vv, sv, h1, _, _, h4⟩ := h
  have c2 := h1.c2
  obtain ⟨ao, cap, rfl, hc, hm⟩ := h4.form
  go_enter Try.func78, Try.ntmps78
  go_wp2
  go_ret
  exact ⟨rfl, rfl⟩

theorem c_isLeaf1 {n : Nat} {t : Tr (n + 1)} {b : Nat} (w : World) (h : NAt w (n + 1) t b) (hn : 0 < t.2.length) : Calls Try.prog 78 #[.pointer (some ⟨b, 0, none⟩)] w fun e w' => e = .returned (.bool false) ∧ w = w' := by
  obtain ⟨kv, vv, sv, bs, h1, _, _, h4, h5⟩ := h
  have c2 := h1.c2
  have hl := kids_length h5
  obtain ⟨ao, cap, rfl, hc, hm⟩ := Hs.form h4
  have hb : 0 < bs.length := by omega
  clear h4 h5 h1 hl hn
  generalize bs.length = m at *
  go_enter Try.func78, Try.ntmps78
  go_wp2
  go_ret
  refine ⟨?_, rfl⟩
  have : ((m : Int) == 0) = false := by simp; omega
  simp [this]

theorem c_less (x y : Int) (w : World) : Calls Try.prog 107 #[.int .u64 x, .int .u64 y] w fun e w' => e = .returned (.bool (decide (x < y))) ∧ w = w' := by
  go_enter Try.func107, Try.ntmps107
  go_wp2
  go_ret
  exact ⟨rfl, rfl⟩
end Go.Proofs.Ytnljfhjindenpab
