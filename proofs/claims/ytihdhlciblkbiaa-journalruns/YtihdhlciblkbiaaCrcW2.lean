/-
  The sum of parts, and the document's own sum.
-/
import Derived.Test.YtihdhlciblkbiaaCrcW1
namespace Go.Proofs.Ytihdhlciblkbiaa
set_option linter.unusedVariables false
set_option linter.unusedSimpArgs false
set_option maxRecDepth 20000
open Go.RowKit

/-- The slice value v holds the parts ps, all below K. -/
def Parts (K : Nat) (w : World) (v : Value) (ps : List (List UInt8)) : Prop :=
  ∃ ao cap, v = .slice ao ps.length cap ∧ ps.length ≤ cap ∧
    ∀ i x, ps[i]? = some x → ∃ b off u, ao = some ⟨b, off, none⟩ ∧ b < K ∧ w.cell? ⟨b, off + i, none⟩ = some u ∧ Sl K w u x.length (x.map bv) ∧ x.length ≤ 140737488355328

theorem Parts.keep {K : Nat} {w w' : World} {v : Value} {ps : List (List UInt8)} (h : Parts K w v ps) (hb : Below K w w') : Parts K w' v ps := by
  obtain ⟨ao, cap, hv, hc, hcs⟩ := h
  refine ⟨ao, cap, hv, hc, fun i c hi => ?_⟩
  obtain ⟨b, off, u, ha, hbk, hcell, hs, hl⟩ := hcs i c hi
  exact ⟨b, off, u, ha, hbk, by rw [hb.cell (p := ⟨b, off + i, none⟩) hbk]; exact hcell, hs.keep hb, hl⟩

theorem Parts.nil (K : Nat) (w : World) : Parts K w (.slice none 0 0) [] := ⟨none, 0, rfl, Nat.le_refl _, fun i x h => by simp at h⟩

theorem foldl_take_succ (ps : List (List UInt8)) (k : Nat) (h : k < ps.length) : crcSum (ps.take (k + 1)) = crcAdd (crcSum (ps.take k)) ps[k] := by
  unfold crcSum
  rw [List.take_succ_eq_append_getElem h, List.foldl_append]; rfl

set_option maxHeartbeats 400000 in
theorem c_sum (K : Nat) (v : Value) (ps : List (List UInt8)) (w : World) (hs : Parts K w v ps) (hl : ps.length ≤ 140737488355328) :
    Calls Try.prog 46 #[v] w fun e w' => e = .returned (.int .u32 (tn (crcSum ps))) ∧ w = w' := by
  obtain ⟨ao, cap, rfl, hc, hcs⟩ := hs
  go_enter Try.func46, Try.ntmps46
  go_wp2
  go_loop [3, 8] (fun u i => ∃ k : Nat, k ≤ ps.length ∧ i = .int .i64 k ∧ u = .int .u32 (tn (crcSum (ps.take k)))) (fun _ i => ps.length - (intOf i).toNat)
  case atStart => exact ⟨0, Nat.zero_le _, rfl, rfl⟩
  case round =>
    obtain ⟨k, hk, rfl, rfl⟩ := hrel
    by_cases hlt : k < ps.length
    · obtain ⟨b, off, u, rfl, hbK, hcell, hsl, hxl⟩ := hcs k ps[k] (List.getElem?_eq_getElem hlt)
      have H1 : Hid (crcSum (ps.take (k + 1)) = crcAdd (crcSum (ps.take k)) ps[k]) := foldl_take_succ ps k hlt
      clear hcs
      obtain ⟨uo, uc, rfl⟩ := sl_form hsl
      generalize crcSum (ps.take k) = a at *
      go_wp2_with (go_at_call 60; refine (c_add a K _ ps[k] _ hsl hxl).mono ?_; rintro e w' ⟨rfl, rfl⟩)
      go_round
      case rel => exact ⟨k + 1, by omega, by go_num, by rw [H1.out]⟩
      case measure => simp [intOf]; omega
    · have e : ps.take k = ps := List.take_of_length_le (by omega)
      rw [e]
      clear e hcs
      go_wp2
      go_ret
      exact ⟨rfl, rfl⟩

theorem tn_mod (a : BitVec 32) : tn a % 4294967296 = tn a := by
  have := tn_lo a
  have := tn_hi a
  omega

theorem not_wrap (a : BitVec 32) : IntKind.u32.wrap (4294967295 - tn a) = tn (nt a) := by
  rw [not_u32, IntKind.wrap_u32]
  have := tn_lo (nt a)
  have := tn_hi (nt a)
  omega

set_option maxHeartbeats 800000 in
theorem c_refsum (s : BitVec 32) (K : Nat) (v : Value) (xs : List UInt8) (w : World) (hs : Sl K w v xs.length (xs.map bv)) (hl : xs.length ≤ 140737488355328) :
    Calls Try.prog 34 #[.int .u32 (tn s), v] w fun e w' => e = .returned (.int .u32 (tn (crcAdd s xs))) ∧ w = w' := by
  obtain ⟨ao, cap, rfl, h3⟩ := hs
  have hs : Sl K w (.slice ao xs.length cap) xs.length (xs.map bv) := ⟨ao, cap, rfl, h3⟩
  clear h3
  have hn := not_wrap s
  have hn' := not_u32 s
  have hm := tn_mod (nt s)
  go_enter Try.func34, Try.ntmps34
  go_wp2
  go_loop [5, 6] (fun u i => ∃ k : Nat, k ≤ xs.length ∧ i = .int .i64 k ∧ u = .int .u32 (tn (raw (nt s) (xs.take k)))) (fun _ i => xs.length - (intOf i).toNat)
  case atStart => exact ⟨0, Nat.zero_le _, rfl, rfl⟩
  case round =>
    obtain ⟨k, hk, rfl, rfl⟩ := hrel
    by_cases hlt : k < xs.length
    · obtain ⟨b, off, rfl, hbK, hcell⟩ := sl_bytes_get hs k hlt
      have H1 : Hid (raw (nt s) (xs.take (k + 1)) = mv (xb (raw (nt s) (xs.take k)) xs[k])) := raw_take_succ _ xs k hlt
      clear hs hn hn'
      generalize raw (nt s) (xs.take k) = a at *
      have hc := close_with a xs[k]
      go_wp2
      go_loop [5, 7] (fun u i => ∃ j : Nat, j ≤ 8 ∧ i = .int .i64 j ∧ u = .int .u32 (tn (stps j (xb a xs[k])))) (fun _ i => 8 - (intOf i).toNat)
      case atStart => exact ⟨0, Nat.zero_le _, rfl, rfl⟩
      case round =>
        obtain ⟨j, hj, rfl, rfl⟩ := hrel
        by_cases hjt : j < 8
        · have H3 : Hid (stps (j + 1) (xb a xs[k]) = stp (stps j (xb a xs[k]))) := rfl
          clear hc
          generalize stps j (xb a xs[k]) = c at *
          have l0 := tn_lo c
          have l1 := tn_hi c
          rcases tn_parity c with h2 | h2
          · have H2 : Hid (tn c / 2 = tn (stp c)) := close_even c h2
            go_wp2
            go_round
            case rel => exact ⟨j + 1, by omega, by go_num, by rw [H3.out, ← H2.out]⟩
            case measure => simp [intOf]; omega
          · have H2 : bits .xor .u32 (tn c / 2) 3988292384 = tn (stp c) := close_odd c h2
            go_wp2
            go_round
            case rel => exact ⟨j + 1, by omega, by go_num, by rw [H3.out]⟩
            case measure => simp [intOf]; omega
        · have : j = 8 := by omega
          subst this
          go_wp2
          go_round
          case rel => exact ⟨k + 1, by omega, by go_num, by rw [H1.out]; rfl⟩
          case measure => simp [intOf]; omega
    · have e : xs.take k = xs := List.take_of_length_le (by omega)
      rw [e]
      clear e
      have hn2 := not_wrap (raw (nt s) xs)
      have hn3 := not_u32 (raw (nt s) xs)
      have hm3 := tn_mod (nt (raw (nt s) xs))
      go_wp2
      go_ret
      exact ⟨rfl, rfl⟩
end Go.Proofs.Ytihdhlciblkbiaa
