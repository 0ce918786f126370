/-
  The document's inside; the program's isShaped.
-/
import Derived.Test.YtnljfhjindenpabTreeN2
namespace Go.Proofs.Ytnljfhjindenpab
set_option linter.unusedVariables false
set_option linter.unusedSimpArgs false
set_option maxRecDepth 20000
open Go.RowKit

theorem Nds.get {w : World} {ao : Option Addr} {n cap : Nat} {nds : List Nv} (h : Nds w (.slice ao n cap) nds) {i : Nat} (hi : i < nds.length) :
    ∃ b off x, ao = some ⟨b, off, none⟩ ∧ w.cell? ⟨b, off + i * 3, none⟩ = some (Prod.fst x) ∧ w.cell? ⟨b, off + i * 3 + 1, none⟩ = some x.2.1 ∧ w.cell? ⟨b, off + i * 3 + 2, none⟩ = some x.2.2 ∧ Ct (fun _ => True) w x nds[i] := by
  obtain ⟨xs, h1, h2⟩ := h
  have hl := h2.length
  have hi' : i < xs.length := by omega
  obtain ⟨t1, t2, t3⟩ := tcells_get xs i hi'
  obtain ⟨b, off, e1, c1⟩ := Hs.get h1 t1
  obtain ⟨b2, off2, e2, c2⟩ := Hs.get h1 t2
  obtain ⟨b3, off3, e3, c3⟩ := Hs.get h1 t3
  rw [e1] at e2 e3
  simp only [Option.some.injEq, Addr.mk.injEq, and_true] at e2 e3
  obtain ⟨rfl, rfl⟩ := e2
  obtain ⟨rfl, rfl⟩ := e3
  exact ⟨b, off, xs[i], e1, c1, by rw [Nat.add_assoc]; exact c2, by rw [Nat.add_assoc]; exact c3, h2.get i hi' hi⟩

theorem Ct.nw {w w' : World} {x : Tv} {nd : Nv} (h : Ct (fun _ => True) w x nd) (hw : Nw w w') : Ct (fun _ => True) w' x nd := h.stay (fun b _ hlt => ⟨trivial, hw.block b hlt id⟩)

set_option maxHeartbeats 1600000 in
theorem c_inside {v kv : Value} {nds : List Nv} {ks : List Int} {p i : Nat} (w : World) (h : Nds w v nds) (hk : Ks w kv ks) (hp : p < nds.length) (hi : i ≤ ks.length) (hb : nds.length ≤ 1000000) (hkl : ks.length ≤ 1000) :
    Calls Try.prog 70 #[v, .int .i64 p, .int .i64 i, kv] w fun e w' => e = .returned (.bool (decide (Ins nds[p].1 ks i))) ∧ Nw w w' := by
  obtain ⟨ao, cap, rfl, hc1, hc2⟩ := h.form
  obtain ⟨ak, ck, rfl, hk1, hk2⟩ := Hs.form hk
  obtain ⟨b, off, x, rfl, c0, _, _, hct⟩ := h.get hp
  have hX : Ks w x.1 nds[p].1 := hct.1.hs
  clear hct h
  generalize nds[p].1 = xs at *
  generalize x.1 = xv at *
  obtain ⟨ax, cx, rfl, hx1, hx2⟩ := Hs.form hX
  replace hX : Hid (Ks w (.slice ax xs.length cx) xs) := hX
  have hL : 0 < i → ∃ q o, ak = some ⟨q, o, none⟩ ∧ w.cell? ⟨q, o + (i - 1), none⟩ = some (.int .u64 (ks.getD (i - 1) 0)) := fun h0 => by
    have hlt : i - 1 < ks.length := by omega
    obtain ⟨q, o, e, c⟩ := Ks.get hk hlt
    exact ⟨q, o, e, by rw [c, List.getD_eq_getElem?_getD, List.getElem?_eq_getElem hlt]; rfl⟩
  have hR : i < ks.length → ∃ q o, ak = some ⟨q, o, none⟩ ∧ w.cell? ⟨q, o + i, none⟩ = some (.int .u64 (ks.getD i 0)) := fun hlt => by
    obtain ⟨q, o, e, c⟩ := Ks.get hk hlt
    exact ⟨q, o, e, by rw [c, List.getD_eq_getElem?_getD, List.getElem?_eq_getElem hlt]; rfl⟩
  replace hL : Hid (0 < i → ∃ q o, ak = some ⟨q, o, none⟩ ∧ w.cell? ⟨q, o + (i - 1), none⟩ = some (.int .u64 (ks.getD (i - 1) 0))) := hL
  replace hR : Hid (i < ks.length → ∃ q o, ak = some ⟨q, o, none⟩ ∧ w.cell? ⟨q, o + i, none⟩ = some (.int .u64 (ks.getD i 0))) := hR
  clear hk
  obtain ⟨R, hRR⟩ : ∃ R, Hid (R = decide (Ins xs ks i)) := ⟨_, rfl⟩
  rw [← hRR.out]
  go_enter Try.func70, Try.ntmps70
  go_wp2
  go_loopw [10, 17] (fun _ j wr => ∃ k : Nat, k ≤ xs.length ∧ j = .int .i64 k ∧ Ins (xs.take k) ks i ∧ Nw w wr) (fun _ j _ => xs.length - (intOf j).toNat)
  case atStart => exact ⟨0, Nat.zero_le _, rfl, by simp [Ins], nw_refl _⟩
  case round =>
    obtain ⟨k, hk, rfl, hall, hnw⟩ := hrel
    replace hall : Hid (Ins (xs.take k) ks i) := hall
    by_cases hlt : k < xs.length
    · obtain ⟨q, off, rfl, d0⟩ := Ks.get (Hs.nw hX.out hnw) hlt
      have hbad : Hid (((0 < i ∧ xs[k] < ks.getD (i - 1) 0) ∨ (i < ks.length ∧ ks.getD i 0 ≤ xs[k])) → R = false) := fun hbad => by
        rw [hRR.out]
        exact decide_eq_false (fun h => h _ (List.getElem_mem hlt) hbad)
      have hgood : Hid (¬ ((0 < i ∧ xs[k] < ks.getD (i - 1) 0) ∨ (i < ks.length ∧ ks.getD i 0 ≤ xs[k])) → Ins (xs.take (k + 1)) ks i) := fun hg y hy => by
        rw [List.take_succ_eq_append_getElem hlt, List.mem_append] at hy
        rcases hy with hy | hy
        · exact hall.out y hy
        · have : y = xs[k] := by simpa using hy
          subst this
          exact hg
      clear hall hRR
      generalize xs[k] = y at *
      by_cases h0 : 0 < i
      · obtain ⟨q1, o1, rfl, l0⟩ := hL.out h0
        replace l0 := hnw.cell l0
        obtain ⟨i', hi'⟩ : ∃ i', i' = i - 1 := ⟨_, rfl⟩
        rw [← hi'] at l0 hbad hgood
        have hsub : (i : Int) - 1 = (i' : Int) := by omega
        have hi2 : i' < ks.length := by omega
        replace hi' : Hid (i' = i - 1) := hi'
        by_cases hy : y < ks.getD i' 0
        · have hr : Hid (R = false) := hbad.out (.inl ⟨h0, hy⟩)
          clear hbad hgood hL hR hX
          generalize ks.getD i' 0 = kl at *
          go_wp2
          go_ret
          rw [hr.out]
          exact ⟨rfl, hnw⟩
        · by_cases h1 : i < ks.length
          · obtain ⟨q2, o2, e2, r0⟩ := hR.out h1
            simp only [Option.some.injEq, Addr.mk.injEq, and_true] at e2
            obtain ⟨rfl, rfl⟩ := e2
            replace r0 := hnw.cell r0
            by_cases hz : ks.getD i 0 ≤ y
            · have hr : Hid (R = false) := hbad.out (.inr ⟨h1, hz⟩)
              clear hbad hgood hL hR hX
              generalize ks.getD i' 0 = kl at *
              generalize ks.getD i 0 = kr at *
              go_wp2
              go_ret
              rw [hr.out]
              exact ⟨rfl, hnw⟩
            · have hr : Hid (Ins (xs.take (k + 1)) ks i) := hgood.out (by omega)
              clear hbad hgood hL hR hX
              generalize ks.getD i' 0 = kl at *
              generalize ks.getD i 0 = kr at *
              go_wp2
              go_roundw
              case rel => exact ⟨k + 1, by omega, by go_num, hr.out, hnw⟩
              case measure => simp [intOf]; omega
          · have hr : Hid (Ins (xs.take (k + 1)) ks i) := hgood.out (by omega)
            clear hbad hgood hL hR hX
            generalize ks.getD i' 0 = kl at *
            go_wp2
            go_roundw
            case rel => exact ⟨k + 1, by omega, by go_num, hr.out, hnw⟩
            case measure => simp [intOf]; omega
      · have h00 : i = 0 := by omega
        subst h00
        by_cases h1 : 0 < ks.length
        · obtain ⟨q2, o2, rfl, r0⟩ := hR.out h1
          replace r0 := hnw.cell r0
          rw [Nat.add_zero] at r0
          by_cases hz : ks.getD 0 0 ≤ y
          · have hr : Hid (R = false) := hbad.out (.inr ⟨h1, hz⟩)
            clear hbad hgood hL hR hX
            generalize ks.getD 0 0 = kr at *
            go_wp2
            go_ret
            rw [hr.out]
            exact ⟨rfl, hnw⟩
          · have hr : Hid (Ins (xs.take (k + 1)) ks 0) := hgood.out (by omega)
            clear hbad hgood hL hR hX
            generalize ks.getD 0 0 = kr at *
            go_wp2
            go_roundw
            case rel => exact ⟨k + 1, by omega, by go_num, hr.out, hnw⟩
            case measure => simp [intOf]; omega
        · have hr : Hid (Ins (xs.take (k + 1)) ks 0) := hgood.out (by omega)
          clear hbad hgood hL hR hX
          go_wp2
          go_roundw
          case rel => exact ⟨k + 1, by omega, by go_num, hr.out, hnw⟩
          case measure => simp [intOf]; omega
    · have hr : Hid (R = true) := by
        unfold Hid
        rw [hRR.out]
        have := hall.out
        rw [List.take_of_length_le (by omega)] at this
        exact decide_eq_true this
      clear hall hRR hL hR hX
      go_wp2
      go_ret
      rw [hr.out]
      exact ⟨rfl, hnw⟩
end Go.Proofs.Ytnljfhjindenpab
