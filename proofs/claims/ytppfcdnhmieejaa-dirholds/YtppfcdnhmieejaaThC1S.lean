/-
  slices.Clone of categories, of links and of bytes: a row of one's own.
-/
import Derived.Test.YtppfcdnhmieejaaThW3S
import Derived.Test.YtppfcdnhmieejaaLabS
namespace Go.Proofs.Ytppfcdnhmieejaa
set_option linter.unusedVariables false
set_option linter.unusedSimpArgs false
set_option maxRecDepth 20000
open Go.RowKit

theorem Try.infoLk : (Try.prog.info? 65).map (fun i => (i.zero, i.size, i.bytes)) = some (some (.agg #[.int .u64 0, .int .i64 0]), 2, 16) := by kernel_rfl
theorem Try.infoBy : (Try.prog.info? 5).map (fun i => (i.zero, i.size, i.bytes)) = some (some (.int .u8 0), 1, 1) := by kernel_rfl

theorem slp_mono {X X' : Nat → Prop} {w : World} {v : Value} {n : Nat} {cs : List Value} (h : Slp X w v n cs) (hX : ∀ b, X b → X' b) : Slp X' w v n cs := by
  obtain ⟨ao, cap, hv, hc, hn, hcs⟩ := h
  refine ⟨ao, cap, hv, hc, hn, fun i c hi => ?_⟩
  obtain ⟨b, off, h1, h2, h3⟩ := hcs i c hi
  exact ⟨b, off, h1, hX b h2, h3⟩
theorem csl_of_own {w : World} {base e : Nat} {v : Value} {ls : List Cat} (h : w.ownsRow base e 2 v ls.length (ccells ls)) : CSl (fun b => base ≤ b) w v ls := slp_mono (slp_of_owns h) (owns_ge h)
theorem bsl_of_own {w : World} {base e : Nat} {v : Value} {bs : List UInt8} (h : w.ownsRow base e 1 v bs.length (bs.map bv)) : BSl (fun b => base ≤ b) w v bs := slp_mono (slp_of_owns h) (owns_ge h)
theorem owns_nw {W w1 : World} {base e size n : Nat} {v : Value} {xs : List Value} (h : W.ownsRow base e size v n xs) (hb : Nw W w1) : w1.ownsRow base e size v n xs := owns_of_block h (fun k hk => hb.block k (h.lt k hk).2 (fun h => h))

set_option maxHeartbeats 1600000 in
theorem c_clC {X : Nat → Prop} {v : Value} {ks : List Cat} (w : World) (h : CSl X w v ks) (hl : ks.length ≤ 8796093022208) :
    Calls Try.prog 41 #[v] w fun e w' => ∃ u, e = .returned u ∧ w'.ownsRow w.heap.size 80 2 u ks.length (ccells ks) ∧ Nw w w' := by
  obtain ⟨i0, hj, hj0, hj1, hj2⟩ := info_parts3 Try.infoC
  have hsl := h.sl
  obtain ⟨ao, cap, rfl, ⟨hc, hm⟩, hn, hcs⟩ := h
  have hq : ∀ (w : World) (a : Option Addr) (n c n' c' : Nat), (binOp .eql 24 (.slice a n c) (.slice none n' c')).run Try.prog w = .ok (.bool a.isNone) w := fun w a n c n' c' => Lib.run_eql_slice_nil w _ _ a n c n' c' Try.underlying24
  cases ao with
  | none =>
    have h0 := hn rfl
    subst h0
    have hk0 : ks = [] := List.eq_nil_of_length_eq_zero (by omega)
    subst hk0
    go_enter Try.func41, Try.ntmps41
    go_wp2
    go_ret
    exact ⟨_, rfl, ⟨rfl, .inl ⟨rfl, rfl⟩⟩, nw_refl w⟩
  | some ad =>
    have hrA : (w.alloc (.cells #[] 80)).ownsRow w.heap.size 80 2 (.slice (some ⟨w.heap.size, 0, none⟩) 0 0) 0 [] := ⟨rfl, .inr ⟨w.heap.size, 0, #[], rfl, Nat.le_refl _, heap_alloc_new w _, Nat.le_refl _, Nat.zero_le _, rfl, rfl⟩⟩
    have hslA : Sl w.heap.size (w.alloc (.cells #[] 80)) (.slice (some ad) ks.length cap) ks.length (ccells ks) := hsl.keep ((Below.refl _ w).alloc (Nat.le_refl _) _)
    have hkl : (ccells ks).length = ks.length * 2 := ccells_length ks
    have hone := ccells_oneCell ks
    clear hsl hcs hn
    generalize ccells ks = cs at *
    generalize ks.length = n at *
    go_enter Try.func41, Try.ntmps41
    go_upto_region 3 with fail
    go_wp2_with (first | (refine wpList_buildSlice0 rfl 24 80 rfl Try.underlying24 (by kernel_rfl) ?_) | (at_builtin; refine wpList_append_sl _ rfl _ _ 24 rfl w.heap.size 80 i0 _ 2 16 Try.underlying24 hj hj0 hj1 hj2 rfl (by decide) _ _ _ rfl hrA _ _ _ _ rfl hslA hkl hone ?d2 ?d3 ?d4 ?_))
    case d2 => unfold maxLen; omega
    case d3 => omega
    case d4 => simp
    intro v9 w9 hown9 hgrow9 hat9
    have hf : Nw w w9 := Fr.grown (nw_alloc (nw_refl w) _) hgrow9 (fun q hq => .inr (hrA.lt q hq).1)
    obtain ⟨ao9, cap9, rfl⟩ := owns_form hown9
    replace hown9 : Hid _ := hown9
    clear hgrow9 hat9 hrA hslA
    go_wp2
    go_ret
    exact ⟨_, rfl, hown9.out, hf⟩

set_option maxHeartbeats 1600000 in
theorem c_clL {X : Nat → Prop} {v : Value} {ks : List Cat} (w : World) (h : CSl X w v ks) (hl : ks.length ≤ 8796093022208) :
    Calls Try.prog 42 #[v] w fun e w' => ∃ u, e = .returned u ∧ w'.ownsRow w.heap.size 65 2 u ks.length (ccells ks) ∧ Nw w w' := by
  obtain ⟨i0, hj, hj0, hj1, hj2⟩ := info_parts3 Try.infoLk
  have hsl := h.sl
  obtain ⟨ao, cap, rfl, ⟨hc, hm⟩, hn, hcs⟩ := h
  have hq : ∀ (w : World) (a : Option Addr) (n c n' c' : Nat), (binOp .eql 27 (.slice a n c) (.slice none n' c')).run Try.prog w = .ok (.bool a.isNone) w := fun w a n c n' c' => Lib.run_eql_slice_nil w _ _ a n c n' c' Try.underlying27
  cases ao with
  | none =>
    have h0 := hn rfl
    subst h0
    have hk0 : ks = [] := List.eq_nil_of_length_eq_zero (by omega)
    subst hk0
    go_enter Try.func42, Try.ntmps42
    go_wp2
    go_ret
    exact ⟨_, rfl, ⟨rfl, .inl ⟨rfl, rfl⟩⟩, nw_refl w⟩
  | some ad =>
    have hrA : (w.alloc (.cells #[] 65)).ownsRow w.heap.size 65 2 (.slice (some ⟨w.heap.size, 0, none⟩) 0 0) 0 [] := ⟨rfl, .inr ⟨w.heap.size, 0, #[], rfl, Nat.le_refl _, heap_alloc_new w _, Nat.le_refl _, Nat.zero_le _, rfl, rfl⟩⟩
    have hslA : Sl w.heap.size (w.alloc (.cells #[] 65)) (.slice (some ad) ks.length cap) ks.length (ccells ks) := hsl.keep ((Below.refl _ w).alloc (Nat.le_refl _) _)
    have hkl : (ccells ks).length = ks.length * 2 := ccells_length ks
    have hone := ccells_oneCell ks
    clear hsl hcs hn
    generalize ccells ks = cs at *
    generalize ks.length = n at *
    go_enter Try.func42, Try.ntmps42
    go_upto_region 3 with fail
    go_wp2_with (first | (refine wpList_buildSlice0 rfl 27 65 rfl Try.underlying27 (by kernel_rfl) ?_) | (at_builtin; refine wpList_append_sl _ rfl _ _ 27 rfl w.heap.size 65 i0 _ 2 16 Try.underlying27 hj hj0 hj1 hj2 rfl (by decide) _ _ _ rfl hrA _ _ _ _ rfl hslA hkl hone ?d2 ?d3 ?d4 ?_))
    case d2 => unfold maxLen; omega
    case d3 => omega
    case d4 => simp
    intro v9 w9 hown9 hgrow9 hat9
    have hf : Nw w w9 := Fr.grown (nw_alloc (nw_refl w) _) hgrow9 (fun q hq => .inr (hrA.lt q hq).1)
    obtain ⟨ao9, cap9, rfl⟩ := owns_form hown9
    replace hown9 : Hid _ := hown9
    clear hgrow9 hat9 hrA hslA
    go_wp2
    go_ret
    exact ⟨_, rfl, hown9.out, hf⟩

set_option maxHeartbeats 1600000 in
theorem c_clB {X : Nat → Prop} {v : Value} {ks : List UInt8} (w : World) (h : BSl X w v ks) (hl : ks.length ≤ 140737488355328) :
    Calls Try.prog 43 #[v] w fun e w' => ∃ u, e = .returned u ∧ w'.ownsRow w.heap.size 5 1 u ks.length (ks.map bv) ∧ Nw w w' := by
  obtain ⟨i0, hj, hj0, hj1, hj2⟩ := info_parts3 Try.infoBy
  have hsl := h.sl
  obtain ⟨ao, cap, rfl, ⟨hc, hm⟩, hn, hcs⟩ := h
  have hq : ∀ (w : World) (a : Option Addr) (n c n' c' : Nat), (binOp .eql 28 (.slice a n c) (.slice none n' c')).run Try.prog w = .ok (.bool a.isNone) w := fun w a n c n' c' => Lib.run_eql_slice_nil w _ _ a n c n' c' Try.underlying28
  cases ao with
  | none =>
    have h0 := hn rfl
    subst h0
    have hk0 : ks = [] := List.eq_nil_of_length_eq_zero (by omega)
    subst hk0
    go_enter Try.func43, Try.ntmps43
    go_wp2
    go_ret
    exact ⟨_, rfl, ⟨rfl, .inl ⟨rfl, rfl⟩⟩, nw_refl w⟩
  | some ad =>
    have hrA : (w.alloc (.cells #[] 5)).ownsRow w.heap.size 5 1 (.slice (some ⟨w.heap.size, 0, none⟩) 0 0) 0 [] := ⟨rfl, .inr ⟨w.heap.size, 0, #[], rfl, Nat.le_refl _, heap_alloc_new w _, Nat.le_refl _, Nat.zero_le _, rfl, rfl⟩⟩
    have hslA : Sl w.heap.size (w.alloc (.cells #[] 5)) (.slice (some ad) ks.length cap) ks.length (ks.map bv) := hsl.keep ((Below.refl _ w).alloc (Nat.le_refl _) _)
    have hkl : (ks.map bv).length = ks.length * 1 := by simp
    have hone := bv_oneCell ks
    clear hsl hcs hn
    generalize ks.map bv = cs at *
    generalize ks.length = n at *
    go_enter Try.func43, Try.ntmps43
    go_upto_region 3 with fail
    go_wp2_with (first | (refine wpList_buildSlice0 rfl 28 5 rfl Try.underlying28 (by kernel_rfl) ?_) | (at_builtin; refine wpList_append_sl _ rfl _ _ 28 rfl w.heap.size 5 i0 _ 1 1 Try.underlying28 hj hj0 hj1 hj2 rfl (by decide) _ _ _ rfl hrA _ _ _ _ rfl hslA hkl hone ?d2 ?d3 ?d4 ?_))
    case d2 => unfold maxLen; omega
    case d3 => omega
    case d4 => simp
    intro v9 w9 hown9 hgrow9 hat9
    have hf : Nw w w9 := Fr.grown (nw_alloc (nw_refl w) _) hgrow9 (fun q hq => .inr (hrA.lt q hq).1)
    obtain ⟨ao9, cap9, rfl⟩ := owns_form hown9
    replace hown9 : Hid _ := hown9
    clear hgrow9 hat9 hrA hslA
    go_wp2
    go_ret
    exact ⟨_, rfl, hown9.out, hf⟩

theorem owns_fr {S : Nat → Prop} {W w1 : World} {base e size n : Nat} {v : Value} {xs : List Value} (h : W.ownsRow base e size v n xs) (hb : Fr S W w1) (hS : ∀ k, S k → k < base) : w1.ownsRow base e size v n xs := owns_of_block h (fun k hk => hb.block k (h.lt k hk).2 (fun hs => by have := hS k hs; have := (h.lt k hk).1; omega))
theorem owns_mono {w : World} {base base' e size n : Nat} {v : Value} {xs : List Value} (h : w.ownsRow base e size v n xs) (hb : base' ≤ base) : w.ownsRow base' e size v n xs := by
  refine ⟨h.1, ?_⟩
  rcases h.2 with h2 | ⟨g, cap, cur, h1, h2, r⟩
  · exact .inl h2
  · exact .inr ⟨g, cap, cur, h1, Nat.le_trans hb h2, r⟩

/-- A copy: each list in a row of its own. -/
structure CopT (base : Nat) (w : World) (t : Th) (u1 u2 u3 u4 : Value) : Prop where
  l : w.ownsRow base 80 2 u1 t.cats.length (ccells t.cats)
  c : w.ownsRow base 80 2 u2 t.ccats.length (ccells t.ccats)
  k : w.ownsRow base 65 2 u3 t.links.length (ccells t.links)
  d : w.ownsRow base 5 1 u4 t.data.length (t.data.map bv)

theorem CopT.fr {S : Nat → Prop} {base : Nat} {w w' : World} {t : Th} {u1 u2 u3 u4 : Value} (h : CopT base w t u1 u2 u3 u4) (hb : Fr S w w') (hS : ∀ k, S k → k < base) : CopT base w' t u1 u2 u3 u4 := ⟨owns_fr h.l hb hS, owns_fr h.c hb hS, owns_fr h.k hb hS, owns_fr h.d hb hS⟩
theorem CopT.mono {base base' : Nat} {w : World} {t : Th} {u1 u2 u3 u4 : Value} (h : CopT base w t u1 u2 u3 u4) (hb : base' ≤ base) : CopT base' w t u1 u2 u3 u4 := ⟨owns_mono h.l hb, owns_mono h.c hb, owns_mono h.k hb, owns_mono h.d hb⟩
theorem CopT.at {base : Nat} {w : World} {t : Th} {u1 u2 u3 u4 : Value} (h : CopT base w t u1 u2 u3 u4) : ThAt (fun b => base ≤ b) w t u1 u2 u3 u4 := ⟨csl_of_own h.l, csl_of_own h.c, csl_of_own h.k, bsl_of_own h.d⟩

end Go.Proofs.Ytppfcdnhmieejaa
