/-
  ThingBack's walk.
-/
import Derived.ArgAppend
import Derived.Test.YtghlilncdfiojaaThA1S
import Derived.Test.YtghlilncdfiojaaLibS
namespace Go.Proofs.Ytghlilncdfiojaa
set_option linter.unusedVariables false
set_option linter.unusedSimpArgs false
set_option maxRecDepth 20000
open Go.RowKit

theorem len_cc {t : Th} (h : RightT t) : t.ccats.length ≤ 6 := by
  rcases h.parts with ⟨hk, g⟩ | ⟨hk, g⟩ | ⟨hk, g⟩ | ⟨hk, g⟩ | ⟨hk, g⟩ | ⟨hk, g⟩
  · rw [h.same]; simp [ofK, baseT, zeroT, hk]
  · exact g.rgt.len
  · exact g.rgt.len
  · rw [h.same]; simp [ofK, baseT, zeroT, hk]
  · rw [h.same]; simp [ofK, baseT, zeroT, hk]
  · rw [h.same]; simp [ofK, baseT, zeroT, hk]

theorem img_yes2 {t : Th} {e : Ending} {w' : World} {y : List UInt8} (h : ImgP t e w') (hr : RightT t) (hy : imgO t = some y) : ∃ a c, e = .returned (.tuple #[.slice a y.length c, .int .i64 0]) ∧ BSl (fun b => b < w'.heap.size) w' (.slice a y.length c) y := by
  rcases h with ⟨_, v, y', h1, rfl, h3⟩ | ⟨h1, _⟩
  · rw [hy] at h1
    cases h1
    obtain ⟨a, c, rfl, _⟩ := h3.form
    exact ⟨a, c, rfl, h3⟩
  · exact absurd hr h1

theorem Try.infoB1 : (Try.prog.info? 5).map (fun i => (i.zero, i.size, i.bytes)) = some (some (.int .u8 0), 1, 1) := by kernel_rfl

end Go.Proofs.Ytghlilncdfiojaa
