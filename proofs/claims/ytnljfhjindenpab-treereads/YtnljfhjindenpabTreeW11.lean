/-
  Package tree: count, Len.
-/
import Derived.Test.YtnljfhjindenpabTreeW10
namespace Go.Proofs.Ytnljfhjindenpab
set_option linter.unusedVariables false
set_option linter.unusedSimpArgs false
set_option maxRecDepth 20000
open Go.RowKit

set_option maxHeartbeats 1600000 in
theorem c_count : ∀ {n m M : Nat} {t : Tr n} {b : Nat} {a bb : Int} (w : World), NAt w n t b → R n m M t a bb → (flat n t).length ≤ 1000000 →
    Calls Try.prog 49 #[.pointer (some ⟨b, 0, none⟩)] w fun e w' => e = .returned (.int .i64 ((flat n t).length : Nat)) ∧ w = w'
  | 0, m, M, t, b, _, _, w, h, hR, hl => by
    have hleaf := c_isLeaf0 w h
    obtain ⟨kv, vv, sv, h1, h2, h3, h4⟩ := h
    have c0 := h1.c0
    obtain ⟨ak, ck, rfl, hk1, hk2⟩ := Hs.form h2
    have hfl : Hid ((flat 0 t).length = (t.map (·.1)).length) := by unfold Hid; simp [flat]
    rw [hfl.out]
    clear h1 h2 h3 h4 hR
    generalize (t.map (·.1)).length = nk at *
    go_enter Try.func49, Try.ntmps49
    go_wp2_with (go_at_call 78; refine hleaf.mono ?_; rintro e' w' ⟨rfl, rfl⟩)
    go_ret
    exact ⟨rfl, rfl⟩
  | n + 1, m, M, (ks, cs), b, _, _, w, h, hR, hl => by
    have hlen := bds_length hR.2
    have hleaf := c_isLeaf1 w h (by omega)
    have hkid : Hid (∀ i (hi : i < cs.length) q, NAt w n cs[i] q → (flat n cs[i]).length ≤ 1000000 → Calls Try.prog 49 #[.pointer (some ⟨q, 0, none⟩)] w fun e w' => e = .returned (.int .i64 ((flat n cs[i]).length : Nat)) ∧ w = w') := by
      intro i hi q hq hq2
      obtain ⟨x, y, hxy⟩ := bds_mem hR.2 (List.getElem_mem hi)
      exact c_count w hq hxy hq2
    obtain ⟨kv, vv, sv, bs, h1, h2, h3, h4, h5⟩ := h
    have c2 := h1.c2
    have hbl := kids_length h5
    obtain ⟨av, cv, rfl, hv1, hv2⟩ := Hs.form h4
    have hfl : Hid (flat (n + 1) (ks, cs) = cs.flatMap (flat n)) := rfl
    rw [hfl.out] at hl ⊢
    have hpart : ∀ k, ((cs.take k).flatMap (flat n)).length ≤ (cs.flatMap (flat n)).length := fun k => by
      conv => rhs; rw [← List.take_append_drop k cs, List.flatMap_append, List.length_append]
      omega
    have hstep : ∀ k (hk : k < cs.length), ((cs.take (k + 1)).flatMap (flat n)).length = ((cs.take k).flatMap (flat n)).length + (flat n cs[k]).length := fun k hk => by
      rw [List.take_succ_eq_append_getElem hk, List.flatMap_append, List.length_append, List.flatMap_cons, List.flatMap_nil, List.append_nil]
    have hpart : Hid _ := hpart
    have hstep : Hid _ := hstep
    have h5 : Hid (Kids (NAt w n) (ks, cs).2 bs) := h5
    have h4 : Hid (Ps w (.slice av bs.length cv) bs) := h4
    have hbl : Hid (bs.length = cs.length) := hbl
    have hl2 : bs.length ≤ 9223372036854775806 ∨ True := .inr trivial
    clear h1 h2 h3 hR hlen hl2
    go_enter Try.func49, Try.ntmps49
    go_wp2_with (go_at_call 78; refine hleaf.mono ?_; rintro e' w' ⟨rfl, rfl⟩)
    clear hleaf
    go_loop [3, 18] (fun s i => ∃ k : Nat, k ≤ cs.length ∧ i = .int .i64 k ∧ s = .int .i64 (((cs.take k).flatMap (flat n)).length : Nat)) (fun _ i => cs.length - (intOf i).toNat)
    case atStart => exact ⟨0, Nat.zero_le _, rfl, rfl⟩
    case round =>
      obtain ⟨k, hk, rfl, rfl⟩ := hrel
      by_cases hlt : k < cs.length
      · obtain ⟨bc, hbc, nc⟩ := kids_get k h5.out (c := cs[k]) (List.getElem?_eq_getElem hlt)
        obtain ⟨sb, so, rfl, k0⟩ := Ps.get h4.out hbc
        have h1 := hstep.out k hlt
        have h2 := hpart.out (k + 1)
        have hcall := hkid.out k hlt bc nc (by omega)
        have hb1 : k < bs.length := by have := hbl.out; omega
        have hb2 : ((cs.take k).flatMap (flat n)).length + (flat n cs[k]).length ≤ 1000000 := by omega
        have h1 : Hid _ := h1
        have hcl : (k : Int) + 1 ≤ 9223372036854775807 := by omega
        clear h2 nc hbc
        generalize (flat n cs[k]).length = m1 at *
        generalize hq : ((cs.take k).flatMap (flat n)).length = q at *
        have hq : Hid (((cs.take k).flatMap (flat n)).length = q) := hq
        go_wp2_with (go_at_call 49; refine hcall.mono ?_; rintro e' w' ⟨rfl, rfl⟩)
        go_round
        case rel => exact ⟨k + 1, by omega, by go_num, by rw [h1.out]; go_num⟩
        case measure => simp [intOf]; omega
      · have hk' : k = cs.length := by omega
        subst hk'
        have hb1 : bs.length = cs.length := hbl.out
        have hte : Hid ((cs.take cs.length).flatMap (flat n) = cs.flatMap (flat n)) := by unfold Hid; rw [List.take_length]
        clear hbl
        have hb2 : (cs.length : Int) = (bs.length : Int) := by omega
        rw [hte.out]
        go_wp2
        go_ret
        exact ⟨rfl, rfl⟩

theorem c_Len {n : Nat} {t : Tr n} {b : Nat} (w : World) (h : TAt w b n t) (hR : Top n t) (hl : (flat n t).length ≤ 1000000) :
    Calls Try.prog 24 #[.pointer (some ⟨b, 0, none⟩)] w fun e w' => e = .returned (.int .i64 ((flat n t).length : Nat)) ∧ w = w' := by
  obtain ⟨r, hb, hr⟩ := h
  have c0 : w.cell? ⟨b, 0, none⟩ = some (.pointer (some ⟨r, 0, none⟩)) := cell_blk hb rfl
  have hc := c_count w hr hR hl
  clear hb hr hl hR
  go_enter Try.func24, Try.ntmps24
  go_wp2_with (go_at_call 49; refine hc.mono ?_; rintro e' w' ⟨rfl, rfl⟩)
  go_ret
  exact ⟨rfl, rfl⟩
end Go.Proofs.Ytnljfhjindenpab
