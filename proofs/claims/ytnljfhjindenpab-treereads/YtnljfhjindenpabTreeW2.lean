/-
  Package tree: BinarySearch, span, way.
-/
import Derived.Test.YtnljfhjindenpabTreeW1
namespace Go.Proofs.Ytnljfhjindenpab
set_option linter.unusedVariables false
set_option linter.unusedSimpArgs false
set_option maxRecDepth 20000
open Go.RowKit

set_option maxHeartbeats 1600000 in
theorem c_search {v : Value} {ks : List Int} {k : Int} (w : World) (h : Ks w v ks) (hr : Rise ks) (hl : ks.length ≤ 100000) :
    Calls Try.prog 95 #[v, .int .u64 k] w fun e w' => e = .returned (.tuple #[.int .i64 (lo ks k : Nat), .bool (decide (ks[lo ks k]? = some k))]) ∧ w = w' := by
  obtain ⟨ao, cap, rfl, hc, hm⟩ := Hs.form h
  have hlo := lo_le ks k
  obtain ⟨L, hL⟩ : ∃ L, Hid (L = lo ks k) := ⟨_, rfl⟩
  rw [← hL.out] at hlo ⊢
  go_enter Try.func95, Try.ntmps95
  go_wp2
  go_loop [7, 8] (fun i j => ∃ p q : Nat, i = .int .i64 p ∧ j = .int .i64 q ∧ p ≤ L ∧ L ≤ q ∧ q ≤ ks.length) (fun i j => (intOf j).toNat - (intOf i).toNat)
  case atStart => exact ⟨0, ks.length, rfl, rfl, Nat.zero_le _, hlo, Nat.le_refl _⟩
  case round =>
    obtain ⟨p, q, rfl, rfl, h1, h2, h3⟩ := hrel
    by_cases hlt : p < q
    · have hml : (p + q) / 2 < ks.length := by omega
      obtain ⟨bk, off, rfl, hcell⟩ := Ks.get h hml
      have hiff := lo_iff hr k hml
      rw [← hL.out] at hiff
      generalize ks[(p + q) / 2] = x at *
      have hiff : Hid (x < k ↔ (p + q) / 2 < L) := hiff
      by_cases hx : x < k
      · have hx' : (p + q) / 2 < L := hiff.out.1 hx
        go_wp2_with (go_at_call 107; refine (c_less _ _ _).mono ?_; rintro e w' ⟨rfl, rfl⟩)
        go_round
        case rel => exact ⟨(p + q) / 2 + 1, q, by go_num, rfl, by omega, h2, h3⟩
        case measure => simp [intOf]; omega
      · have hx' : ¬ (p + q) / 2 < L := fun h => hx (hiff.out.2 h)
        go_wp2_with (go_at_call 107; refine (c_less _ _ _).mono ?_; rintro e w' ⟨rfl, rfl⟩)
        go_round
        case rel => exact ⟨p, (p + q) / 2, rfl, by go_num, h1, by omega, by omega⟩
        case measure => simp [intOf]; omega
    · have hpL : p = L := by omega
      subst hpL
      have hnl := hlt
      clear hlt h1
      by_cases hlt : p < ks.length
      · obtain ⟨bk, off, rfl, hcell⟩ := Ks.get h hlt
        have he : Hid (ks[p]? = some ks[p]) := List.getElem?_eq_getElem hlt
        generalize ks[p] = x at *
        by_cases hx : x = k
        · subst hx
          go_wp2
          go_ret2
          have h9 : ks[p] = x := by have h8 := he.out; rwa [List.getElem?_eq_getElem hlt, Option.some.injEq] at h8
          exact ⟨by simp [h9], rfl⟩
        · have hxb : (x == k) = false := by simpa using hx
          go_wp2
          go_ret2
          have h9 : ks[p] = x := by have h8 := he.out; rwa [List.getElem?_eq_getElem hlt, Option.some.injEq] at h8
          exact ⟨by simp [h9, hx], rfl⟩
      · have he : Hid (ks[p]? = none) := List.getElem?_eq_none (by omega)
        go_wp2
        go_ret2
        exact ⟨by simp [he.out], rfl⟩

theorem c_span {n : Nat} {t : Tr n} {b : Nat} {k : Int} (w : World) (h : NAt w n t b) (hr : Rise (keysOf n t)) (hl : (keysOf n t).length ≤ 1000) :
    Calls Try.prog 79 #[.pointer (some ⟨b, 0, none⟩), .int .u64 k] w fun e w' => e = .returned (.tuple #[.int .i64 (lo (keysOf n t) k : Nat), .int .i64 (hi (keysOf n t) k : Nat)]) ∧ w = w' := by
  obtain ⟨kv, vv, sv, h1, h2⟩ := h.keys
  have c0 := h1.c0
  have hlo := lo_le (keysOf n t) k
  rw [hi_found hr k]
  have hsr := fun w' h' => c_search (k := k) (ks := keysOf n t) (v := kv) w' h' hr (by omega)
  clear h h1
  generalize keysOf n t = ks at *
  generalize hL : lo ks k = L at *
  have hL : Hid (lo ks k = L) := hL
  by_cases hf : ks[L]? = some k
  · rw [if_pos hf]
    have hd : decide (ks[L]? = some k) = true := by simp [hf]
    rw [hd] at hsr
    go_enter Try.func79, Try.ntmps79
    go_wp2_with (go_at_call 95; refine (hsr _ h2).mono ?_; rintro e w' ⟨rfl, rfl⟩)
    go_ret2
    exact ⟨by simp, rfl⟩
  · rw [if_neg hf]
    have hd : decide (ks[L]? = some k) = false := by simp [hf]
    rw [hd] at hsr
    go_enter Try.func79, Try.ntmps79
    go_wp2_with (go_at_call 95; refine (hsr _ h2).mono ?_; rintro e w' ⟨rfl, rfl⟩)
    go_ret2
    exact ⟨by simp, rfl⟩

theorem c_way {n : Nat} {t : Tr n} {b : Nat} {k : Int} (w : World) (h : NAt w n t b) (hr : Rise (keysOf n t)) (hl : (keysOf n t).length ≤ 1000) :
    Calls Try.prog 80 #[.pointer (some ⟨b, 0, none⟩), .int .u64 k] w fun e w' => e = .returned (.int .i64 (hi (keysOf n t) k : Nat)) ∧ w = w' := by
  go_enter Try.func80, Try.ntmps80
  go_wp2_with (go_at_call 79; refine (c_span _ h hr hl).mono ?_; rintro e w' ⟨rfl, rfl⟩)
  go_ret
  exact ⟨rfl, rfl⟩
end Go.Proofs.Ytnljfhjindenpab
