/-
  ThingBack's walk.
-/
import Derived.Test.YtghlilncdfiojaaThA1S
import Derived.Test.YtghlilncdfiojaaLibS
namespace Go.Proofs.Ytghlilncdfiojaa
set_option linter.unusedVariables false
set_option linter.unusedSimpArgs false
set_option maxRecDepth 20000
open Go.RowKit

theorem len_cc {t:Th} (h:RightT t):t.ccats.length ≤ 6:=by
 rcases h.parts with ⟨hk,g⟩ | ⟨hk,g⟩ | ⟨hk,g⟩ | ⟨hk,g⟩ | ⟨hk,g⟩ | ⟨hk,g⟩
 ·rw [h.same];simp [ofK,baseT,zeroT,hk]
 ·exact g.rgt.len
 ·exact g.rgt.len
 ·rw [h.same];simp [ofK,baseT,zeroT,hk]
 ·rw [h.same];simp [ofK,baseT,zeroT,hk]
 ·rw [h.same];simp [ofK,baseT,zeroT,hk]

theorem read_img {t:Th} {y:List UInt8} {e:Ending} {w':World} (h:ReadP y e w') (hr:RightT t) (hw:WfT t) (hy:imgO t = some y):∃ uL uC uK uD,e = .returned (.tuple #[thV t uL uC uK uD,.int .i64 0])∧ThAt (fun b=>b < w'.heap.size) w' t uL uC uK uD:=by
 rcases h with ⟨t',vL,vC,vK,vD,h1,h2,h3,rfl,h5⟩ | ⟨h1,_⟩
 ·obtain rfl:=img_inj h1 hr h2 hw h3 hy
  exact ⟨_,_,_,_,rfl,h5⟩
 ·exact absurd hy (h1 t hr hw)

theorem read_none {y:List UInt8} {e:Ending} {w':World} (h:ReadP y e w') (hno:∀ u,RightT u→WfT u→imgO u ≠ some y):e = .returned (.tuple #[(thV zeroT (.slice none 0 0) (.slice none 0 0) (.slice none 0 0) (.slice none 0 0)),.int .i64 111]):=by
 rcases h with ⟨t',vL,vC,vK,vD,h1,h2,h3,_⟩ | ⟨_,h2⟩
 ·exact absurd h3 (hno t' h1 h2)
 ·exact h2

theorem Try.infoB1:(Try.prog.info? 5).map (fun i=>(i.zero,i.size,i.bytes)) = some (some (.int .u8 0),1,1):=by kernel_rfl

end Go.Proofs.Ytghlilncdfiojaa
