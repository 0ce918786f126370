/-
  A field is appended.
-/
import Derived.Test.YtihdhlciblkbiaaRows
import Derived.Test.YtihdhlciblkbiaaCodecW2
import Derived.Test.YtihdhlciblkbiaaLibLex
namespace Go.Proofs.Ytihdhlciblkbiaa
set_option linter.unusedVariables false
set_option linter.unusedSimpArgs false
set_option maxRecDepth 20000
open Go.RowKit

set_option maxHeartbeats 800000 in
theorem c_appendField_num (B k n : Nat) (c : Int) (v bvv : Value) (xs : List UInt8) (w : World) (hown : w.ownsRow B 5 1 v xs.length (xs.map bv)) (hB : B ≤ w.heap.size)
    (hc : Hid ((c = 49 ∧ (k : Int) = 1) ∨ (c = 50 ∧ (k : Int) = 2) ∨ (c = 52 ∧ (k : Int) = 4) ∨ (c = 56 ∧ (k : Int) = 8))) (hnk : n < 256 ^ k) (hn : n < 18446744073709551616) (hx : xs.length ≤ 1000000000) :
    Calls Try.prog 59 #[v, .int .u8 c, .agg #[.int .u64 n, bvv]] w fun e w' => ∃ v', e = .returned v' ∧ w'.ownsRow B 5 1 v' (xs ++ be k n).length ((xs ++ be k n).map bv) ∧ Below B w w' := by
  have hc98 : (c == 98) = false := beq_eq_false_iff_ne.2 (by have := hc.out; omega)
  have hk : k ≤ 8 := by have := hc.out; omega
  go_enter Try.func59, Try.ntmps59
  go_wp2
  have hS : (fun w' : World => w'.cell? ⟨w.heap.size, 0, none⟩ = some (.int .u64 n)) (w.alloc (.cells #[.int .u64 n, bvv] 79)).drew := by simp [go_sem]
  refine wp_region_ord [] 5 [(0, true), (1, true), (3, true), (4, true), (2, false)] (fun w' => w'.cell? ⟨w.heap.size, 0, none⟩ = some (.int .u64 n)) (by kernel_rfl) (by kernel_rfl) ?_
  refine ord_quiet _ ?_ rfl hS rfl ?_ ?_
  rotate_left
  · intro w' hS'; go_simp; rfl
  refine ord_quiet _ ?_ rfl hS rfl ?_ ?_
  rotate_left
  · intro w' hS'; go_simp; rfl
  refine ord_quiet _ ?_ rfl hS rfl ?_ ?_
  rotate_left
  · intro w' hS'; go_simp; rfl
  refine ord_quiet _ ?_ rfl hS rfl ?_ ?_
  rotate_left
  · intro w' hS'; go_simp; rfl
  refine ord_act _ rfl fun K hK => ?_
  go_wp2_with (go_at_call 67; refine (c_widthOf_yes _ _ hc.out _).mono ?_; rintro e w' ⟨rfl, rfl⟩)
  refine hK _ _ hS ?_
  clear hK K
  refine ord_tail ?_
  simp only [List.drop_succ_cons, List.drop_zero]
  go_wp2_with (go_at_call 66; refine (c_appendNumber_yes B k n v xs _ ((hown.alloc _).drew) (by simp; omega) hk hnk hn hx).mono ?_; rintro e w1 ⟨v1, rfl, hown1, hb1⟩)
  go_ret
  exact ⟨_, rfl, hown1, (((Below.refl _ _).alloc hB _).drew).trans hb1⟩

set_option maxHeartbeats 800000 in
theorem c_appendField_over (k n : Nat) (c : Int) (v bvv : Value) (w : World)
    (hc : Hid ((c = 49 ∧ (k : Int) = 1) ∨ (c = 50 ∧ (k : Int) = 2) ∨ (c = 52 ∧ (k : Int) = 4) ∨ (c = 56 ∧ (k : Int) = 8))) (hnk : ¬ n < 256 ^ k) (hn : n < 18446744073709551616) :
    Calls Try.prog 59 #[v, .int .u8 c, .agg #[.int .u64 n, bvv]] w fun e w' => e = .panicked [err21] ∧ Below w.heap.size w w' := by
  have hc98 : (c == 98) = false := beq_eq_false_iff_ne.2 (by have := hc.out; omega)
  have hk : k ≤ 8 := by have := hc.out; omega
  go_enter Try.func59, Try.ntmps59
  go_wp2
  have hS : (fun w' : World => w'.cell? ⟨w.heap.size, 0, none⟩ = some (.int .u64 n)) (w.alloc (.cells #[.int .u64 n, bvv] 79)).drew := by simp [go_sem]
  refine wp_region_ord [] 5 [(0, true), (1, true), (3, true), (4, true), (2, false)] (fun w' => w'.cell? ⟨w.heap.size, 0, none⟩ = some (.int .u64 n)) (by kernel_rfl) (by kernel_rfl) ?_
  refine ord_quiet _ ?_ rfl hS rfl ?_ ?_
  rotate_left
  · intro w' hS'; go_simp; rfl
  refine ord_quiet _ ?_ rfl hS rfl ?_ ?_
  rotate_left
  · intro w' hS'; go_simp; rfl
  refine ord_quiet _ ?_ rfl hS rfl ?_ ?_
  rotate_left
  · intro w' hS'; go_simp; rfl
  refine ord_quiet _ ?_ rfl hS rfl ?_ ?_
  rotate_left
  · intro w' hS'; go_simp; rfl
  refine ord_act _ rfl fun K hK => ?_
  go_wp2_with (go_at_call 67; refine (c_widthOf_yes _ _ hc.out _).mono ?_; rintro e w' ⟨rfl, rfl⟩)
  refine hK _ _ hS ?_
  clear hK K
  refine ord_tail ?_
  simp only [List.drop_succ_cons, List.drop_zero]
  go_wp2_with (go_at_call 66; refine (c_appendNumber_no k n v _ hk hnk hn).mono ?_; rintro e w1 ⟨rfl, rfl⟩)
  exact ⟨rfl, rfl, ((Below.refl _ _).alloc (Nat.le_refl _) _).drew⟩

set_option maxHeartbeats 800000 in
theorem c_appendField_none (n : Nat) (c : Int) (v bvv : Value) (w : World) (hc98 : (c == 98) = false) (h1 : (c == 49) = false) (h2 : (c == 50) = false) (h3 : (c == 52) = false) (h4 : (c == 56) = false) :
    Calls Try.prog 59 #[v, .int .u8 c, .agg #[.int .u64 n, bvv]] w fun e w' => e = .panicked [err21] ∧ Below w.heap.size w w' := by
  go_enter Try.func59, Try.ntmps59
  go_wp2
  have hS : (fun w' : World => w'.cell? ⟨w.heap.size, 0, none⟩ = some (.int .u64 n)) (w.alloc (.cells #[.int .u64 n, bvv] 79)).drew := by simp [go_sem]
  refine wp_region_ord [] 5 [(0, true), (1, true), (3, true), (4, true), (2, false)] (fun w' => w'.cell? ⟨w.heap.size, 0, none⟩ = some (.int .u64 n)) (by kernel_rfl) (by kernel_rfl) ?_
  refine ord_quiet _ ?_ rfl hS rfl ?_ ?_
  rotate_left
  · intro w' hS'; go_simp; rfl
  refine ord_quiet _ ?_ rfl hS rfl ?_ ?_
  rotate_left
  · intro w' hS'; go_simp; rfl
  refine ord_quiet _ ?_ rfl hS rfl ?_ ?_
  rotate_left
  · intro w' hS'; go_simp; rfl
  refine ord_quiet _ ?_ rfl hS rfl ?_ ?_
  rotate_left
  · intro w' hS'; go_simp; rfl
  refine ord_act _ rfl fun K hK => ?_
  go_wp2_with (go_at_call 67; refine (c_widthOf_no _ h1 h2 h3 h4 _).mono ?_; rintro e w' ⟨rfl, rfl⟩)
  intro a' hd _
  exact ⟨hd, rfl, ((Below.refl _ _).alloc (Nat.le_refl _) _).drew⟩

set_option maxHeartbeats 800000 in
theorem c_appendField_bytes (B K n : Nat) (v bvv : Value) (xs bs : List UInt8) (w : World) (hown : w.ownsRow B 5 1 v xs.length (xs.map bv)) (hB : B ≤ w.heap.size) (hs : Sl K w bvv bs.length (bs.map bv)) (hK : K ≤ B) (hl : bs.length ≤ 1024) (hx : xs.length ≤ 1000000000) :
    Calls Try.prog 59 #[v, .int .u8 98, .agg #[.int .u64 n, bvv]] w fun e w' => ∃ v', e = .returned v' ∧ w'.ownsRow B 5 1 v' (xs ++ (be 2 bs.length ++ bs)).length ((xs ++ (be 2 bs.length ++ bs)).map bv) ∧ Below B w w' := by
  go_enter Try.func59, Try.ntmps59
  go_wp2_with (go_at_call 65; refine (c_appendBytes_yes B K v bvv xs bs _ (hown.alloc _) (by simp; omega) (hs.keep ((Below.refl _ _).alloc (by omega) _)) hK hl hx).mono ?_; rintro e w1 ⟨v1, rfl, hown1, hb1⟩)
  go_ret
  exact ⟨_, rfl, hown1, ((Below.refl _ _).alloc hB _).trans hb1⟩

set_option maxHeartbeats 800000 in
theorem c_appendField_long (n : Nat) (v : Value) (ao : Option Addr) (len cap : Nat) (w : World) (hl : 1024 < len) (hm : len ≤ maxLen) :
    Calls Try.prog 59 #[v, .int .u8 98, .agg #[.int .u64 n, .slice ao len cap]] w fun e w' => e = .panicked [err21] ∧ Below w.heap.size w w' := by
  go_enter Try.func59, Try.ntmps59
  go_wp2_with (go_at_call 65; refine (c_appendBytes_no v ao len cap _ hl hm).mono ?_; rintro e w1 ⟨rfl, rfl⟩)
  exact ⟨rfl, rfl, (Below.refl _ _).alloc (Nat.le_refl _) _⟩
end Go.Proofs.Ytihdhlciblkbiaa
