/-
  slices.Insert at 0 into an empty slice.
-/
import Derived.Test.YtnljfhjindenpabLabI4
import Derived.ArgAppend
namespace Go.Proofs.Ytnljfhjindenpab
set_option linter.unusedVariables false
set_option linter.unusedSimpArgs false
set_option maxRecDepth 20000
open Go.RowKit

set_option maxHeartbeats 1600000 in
theorem c_insEmpty {q : Nat} {ao : Option Addr} {c : Cat} (w : World) (hq : w.heap[q]? = some (.cells (ccell c).toArray 35 (0, 0))) :
    Calls Try.prog 34 #[.slice ao 0 0, .int .i64 0, .slice (some ⟨q, 0, none⟩) 1 1] w fun e w' => ∃ u, e = .returned u ∧ w'.ownsRow w.heap.size 35 2 u 1 (ccells [c]) ∧ Nw w w' := by
  obtain ⟨i0, hi0, hz0, hs0, hb0⟩ := info_parts3 Try.infoC
  have hcs2 : ∀ j v, (ccell c)[j]? = some v → w.cell? ((⟨q, 0, none⟩ : Addr).add j) = some v := fun j v hj => by
    rw [Addr.add_lit, Nat.zero_add]
    exact cell_blk hq (by simpa using hj)
  have hone := ccell_one c
  have hlen := ccell_len c
  have hcc : ccells [c] = ccell c := ccells_one c
  rw [hcc]
  clear hcc
  generalize ccell c = cs at *
  go_enter Try.func34, Try.ntmps34
  cases ao with
  | none =>
    go_wp2_with (at_builtin; refine wpList_append_grows _ rfl _ _ 22 rfl 35 i0 _ 2 16 Try.underlying22 hi0 hz0 hs0 hb0 rfl (by decide) none 0 0 [] rfl (fun _ => ⟨rfl, rfl⟩) rfl (fun _ h => by cases h) ⟨q, 0, none⟩ 1 1 cs rfl hlen hcs2 hone (by decide) (by unfold maxLen; decide) (by decide) ?_)
    intro v9 w9 hown9 hgrow9
    obtain ⟨ao9, cap9, rfl⟩ := owns_form hown9
    have hf : Nw w w9 := Fr.grown (nw_refl w) hgrow9 (fun q hq => by cases hq)
    clear hgrow9
    go_wp2
    go_ret
    exact ⟨_, rfl, hown9, hf⟩
  | some a =>
    obtain ⟨ab, aof, asp⟩ := a
    go_wp2_with (at_builtin; refine wpList_append_grows _ rfl _ _ 22 rfl 35 i0 _ 2 16 Try.underlying22 hi0 hz0 hs0 hb0 rfl (by decide) (some ⟨ab, aof, asp⟩) 0 0 [] rfl (fun h => by cases h) rfl (fun _ _ j u h => by simp at h) ⟨q, 0, none⟩ 1 1 cs rfl hlen hcs2 hone (by decide) (by unfold maxLen; decide) (by decide) ?_)
    intro v9 w9 hown9 hgrow9
    obtain ⟨ao9, cap9, rfl⟩ := owns_form hown9
    have hf : Nw w w9 := Fr.grown (nw_refl w) hgrow9 (fun q hq => by cases hq)
    clear hgrow9
    go_wp2
    go_ret
    exact ⟨_, rfl, hown9, hf⟩
end Go.Proofs.Ytnljfhjindenpab
