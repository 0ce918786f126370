/-
  slices.Clone: what it makes is a row of one's own.
-/
import Derived.Test.YtnljfhjindenpabLabI6
namespace Go.Proofs.Ytnljfhjindenpab
set_option linter.unusedVariables false
set_option linter.unusedSimpArgs false
set_option maxRecDepth 20000
open Go.RowKit

set_option maxHeartbeats 1600000 in
theorem c_cloneO {X : Nat → Prop} {v : Value} {ks : List Cat} (w : World) (h : CSl X w v ks) (hl : ks.length ≤ 8796093022208) :
    Calls Try.prog 35 #[v] w fun e w' => ∃ u, e = .returned u ∧ w'.ownsRow w.heap.size 35 2 u ks.length (ccells ks) ∧ Nw w w' := by
  obtain ⟨i0, hj, hj0, hj1, hj2⟩ := info_parts3 Try.infoC
  have hsl := h.sl
  obtain ⟨ao, cap, rfl, ⟨hc, hm⟩, hn, hcs⟩ := h
  have hq : ∀ (w : World) (a : Option Addr) (n c n' c' : Nat), (binOp .eql 22 (.slice a n c) (.slice none n' c')).run Try.prog w = .ok (.bool a.isNone) w := fun w a n c n' c' => Lib.run_eql_slice_nil w _ _ a n c n' c' Try.underlying22
  cases ao with
  | none =>
    have h0 := hn rfl
    subst h0
    have hk0 : ks = [] := List.eq_nil_of_length_eq_zero (by omega)
    subst hk0
    go_enter Try.func35, Try.ntmps35
    go_wp2
    go_ret
    exact ⟨_, rfl, ⟨rfl, .inl ⟨rfl, rfl⟩⟩, nw_refl w⟩
  | some ad =>
    have hrA : (w.alloc (.cells #[] 35)).ownsRow w.heap.size 35 2 (.slice (some ⟨w.heap.size, 0, none⟩) 0 0) 0 [] := ⟨rfl, .inr ⟨w.heap.size, 0, #[], rfl, Nat.le_refl _, heap_alloc_new w _, Nat.le_refl _, Nat.zero_le _, rfl, rfl⟩⟩
    have hslA : Sl w.heap.size (w.alloc (.cells #[] 35)) (.slice (some ad) ks.length cap) ks.length (ccells ks) := hsl.keep ((Below.refl _ w).alloc (Nat.le_refl _) _)
    have hkl : (ccells ks).length = ks.length * 2 := ccells_length ks
    have hone := ccells_oneCell ks
    clear hsl hcs hn
    generalize ccells ks = cs at *
    generalize ks.length = n at *
    go_enter Try.func35, Try.ntmps35
    go_upto_region 3 with fail
    go_wp2_with (first | (refine wpList_buildSlice0 rfl 22 35 rfl Try.underlying22 (by kernel_rfl) ?_) | (at_builtin; refine wpList_append_sl _ rfl _ _ 22 rfl w.heap.size 35 i0 _ 2 16 Try.underlying22 hj hj0 hj1 hj2 rfl (by decide) _ _ _ rfl hrA _ _ _ _ rfl hslA hkl hone ?d2 ?d3 ?d4 ?_))
    case d2 => unfold maxLen; omega
    case d3 => omega
    case d4 => simp
    intro v9 w9 hown9 hgrow9 hat9
    have hf : Nw w w9 := Fr.grown (nw_alloc (nw_refl w) _) hgrow9 (fun q hq => .inr (hrA.lt q hq).1)
    obtain ⟨ao9, cap9, rfl⟩ := owns_form hown9
    clear hgrow9 hat9 hrA hslA
    go_wp2
    go_ret
    exact ⟨_, rfl, hown9, hf⟩
end Go.Proofs.Ytnljfhjindenpab
