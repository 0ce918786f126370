/-
  Package tree: halves.
-/
import Derived.Test.YtnljfhjindenpabTreeW4
namespace Go.Proofs.Ytnljfhjindenpab
set_option linter.unusedVariables false
set_option linter.unusedSimpArgs false
set_option maxRecDepth 20000
open Go.RowKit

/-- Where a slice begins that is cut at j. -/
def cutA (ao : Option Addr) (j s cap : Nat) : Option Addr := if cap = j then ao else ao.map (fun x => x.add (j * s))

theorem Ks.head {w : World} {ao : Option Addr} {n cap : Nat} {ks : List Int} (h : Ks w (.slice ao n cap) ks) {i : Nat} (hi : i ≤ ks.length) : Ks w (.slice ao i cap) (ks.take i) := by
  have := Ks.cut h 0 i (Nat.zero_le _) hi
  rwa [List.drop_zero, Nat.sub_zero, sliced0] at this
theorem Ks.tail {w : World} {ao : Option Addr} {n cap : Nat} {ks : List Int} (h : Ks w (.slice ao n cap) ks) {i : Nat} (hi : i ≤ ks.length) : Ks w (.slice (cutA ao i 1 cap) (n - i) (cap - i)) (ks.drop i) := by
  have := Ks.cut h i ks.length hi (Nat.le_refl _)
  rw [List.take_of_length_le (by simp)] at this
  rw [h.len]
  exact this
theorem Ps.head {w : World} {ao : Option Addr} {n cap : Nat} {ks : List Nat} (h : Ps w (.slice ao n cap) ks) {i : Nat} (hi : i ≤ ks.length) : Ps w (.slice ao i cap) (ks.take i) := by
  have := Ps.cut h 0 i (Nat.zero_le _) hi
  rwa [List.drop_zero, Nat.sub_zero, sliced0] at this
theorem Ps.tail {w : World} {ao : Option Addr} {n cap : Nat} {ks : List Nat} (h : Ps w (.slice ao n cap) ks) {i : Nat} (hi : i ≤ ks.length) : Ps w (.slice (cutA ao i 1 cap) (n - i) (cap - i)) (ks.drop i) := by
  have := Ps.cut h i ks.length hi (Nat.le_refl _)
  rw [List.take_of_length_le (by simp)] at this
  rw [h.len]
  exact this
theorem Vs.head {w : World} {ao : Option Addr} {n cap : Nat} {ks : List Ext} (h : Vs w (.slice ao n cap) ks) {i : Nat} (hi : i ≤ ks.length) : Vs w (.slice ao i cap) (ks.take i) := by
  have := Vs.cut h 0 i (Nat.zero_le _) hi
  rwa [List.drop_zero, Nat.sub_zero, sliced0] at this
theorem Vs.tail {w : World} {ao : Option Addr} {n cap : Nat} {ks : List Ext} (h : Vs w (.slice ao n cap) ks) {i : Nat} (hi : i ≤ ks.length) : Vs w (.slice (cutA ao i 2 cap) (n - i) (cap - i)) (ks.drop i) := by
  have := Vs.cut h i ks.length hi (Nat.le_refl _)
  rw [List.take_of_length_le (by simp)] at this
  rw [h.len]
  exact this

theorem drew_blk {w : World} {b : Nat} {o : Obj} (h : w.heap[b]? = some o) : w.drew.heap[b]? = some o := h

set_option maxHeartbeats 1600000 in
theorem c_halves0 {t : Tr 0} {b : Nat} (w : World) (h : NAt w 0 t b) (hl : 8 ≤ t.length) (hu : t.length ≤ 10) :
    Calls Try.prog 97 #[.pointer (some ⟨b, 0, none⟩)] w fun e w' => ∃ bl br, e = .returned (.tuple #[.pointer (some ⟨bl, 0, none⟩), .int .u64 (midK 0 t), .pointer (some ⟨br, 0, none⟩)]) ∧ NAt w' 0 (lefT 0 t) bl ∧ NAt w' 0 (rigT 0 t) br ∧ Nw w w' := by
  have hleaf := c_isLeaf0 w h
  obtain ⟨kv, vv, sv, h1, h2, h3, h4⟩ := h
  have c0 := h1.c0
  have c1 := h1.c1
  obtain ⟨ak, ck, rfl, hk1, hk2⟩ := Hs.form h2
  obtain ⟨av, cv, rfl, hv1, hv2⟩ := Hs.form h3
  have hmk : t.length / 2 < (t.map (·.1)).length := by simp; omega
  obtain ⟨kb, ko, rfl, hcell⟩ := Ks.get h2 hmk
  have hmid : Hid ((t.map (·.1))[t.length / 2] = midK 0 t) := by
    unfold Hid midK keysOf
    rw [List.length_map, List.getD_eq_getElem?_getD, List.getElem?_eq_getElem hmk]
    rfl
  generalize (t.map (·.1))[t.length / 2] = mk at *
  have hA := Ks.head h2 (i := t.length / 2) (by simp; omega)
  have hB := Ks.tail h2 (i := t.length / 2) (by simp; omega)
  have hC := Vs.head h3 (i := t.length / 2) (by simp; omega)
  have hD := Vs.tail h3 (i := t.length / 2) (by simp; omega)
  simp only [List.length_map] at *
  rw [← List.map_take] at hA hC
  rw [← List.map_drop] at hB hD
  have hfl : Hid (lefT 0 t = t.take (t.length / 2)) := rfl
  have hfr : Hid (rigT 0 t = t.drop (t.length / 2)) := rfl
  generalize lefT 0 t = tl at *
  generalize rigT 0 t = tr at *
  rw [← hfl.out] at hA hC
  rw [← hfr.out] at hB hD
  clear h2 h3 hmk
  generalize t.length = n at *
  obtain ⟨m, hm⟩ : ∃ m, Hid (m = n / 2) := ⟨_, rfl⟩
  have hm1 : m < n := by have := hm.out; omega
  have hm2 : m ≤ n := by omega
  have hmc1 : m ≤ ck := by omega
  have hmc2 : m ≤ cv := by omega
  rw [← hm.out] at hA hB hC hD hcell
  have hq : Int.tdiv (n : Int) 2 = (m : Int) := by have := hm.out; rw [Int.tdiv_eq_ediv_of_nonneg (by omega)]; omega
  go_enter Try.func97, Try.ntmps97
  go_wp2_with (go_at_call 78; refine hleaf.mono ?_; rintro e w' ⟨rfl, rfl⟩)
  have hSof : ∀ w', Nw w w' → (fun w' : World => Nw w w' ∧ w'.cell? ⟨b, 0, none⟩ = some (.slice (some ⟨kb, ko, none⟩) n ck) ∧ w'.cell? ⟨b, 1, none⟩ = some (.slice av n cv)) w' := fun w' hw => ⟨hw, hw.cell c0, hw.cell c1⟩
  have hS := hSof _ (nw_drew (nw_refl w))
  refine wp_region_ord [] 14 [(0, true), (1, true), (2, true), (3, true), (4, true), (5, true), (6, true), (7, true), (8, true), (9, true), (10, true), (11, true), (12, true), (13, false)] (fun w' : World => Nw w w' ∧ w'.cell? ⟨b, 0, none⟩ = some (.slice (some ⟨kb, ko, none⟩) n ck) ∧ w'.cell? ⟨b, 1, none⟩ = some (.slice av n cv)) (by kernel_rfl) (by kernel_rfl) ?_
  refine ord_quietL _ ?_ rfl hS rfl ?_ ?_
  rotate_left
  · rintro w' ⟨hS1, hS2, hS3⟩; go_simp; first | rfl | (rw [if_pos (by omega)]; done) | (rw [if_pos (by omega)]; rfl) | (rw [if_pos (by omega)]; go_simp; rfl)
  simp only [Act.put, List.setIfInBounds_toArray, List.set_cons_zero, List.set_cons_succ]
  refine ord_quietL _ ?_ rfl hS rfl ?_ ?_
  rotate_left
  · rintro w' ⟨hS1, hS2, hS3⟩; go_simp; first | rfl | (rw [if_pos (by omega)]; done) | (rw [if_pos (by omega)]; rfl) | (rw [if_pos (by omega)]; go_simp; rfl)
  simp only [Act.put, List.setIfInBounds_toArray, List.set_cons_zero, List.set_cons_succ]
  refine ord_quietL _ ?_ rfl hS rfl ?_ ?_
  rotate_left
  · rintro w' ⟨hS1, hS2, hS3⟩; go_simp; first | rfl | (rw [if_pos (by omega)]; done) | (rw [if_pos (by omega)]; rfl) | (rw [if_pos (by omega)]; go_simp; rfl)
  simp only [Act.put, List.setIfInBounds_toArray, List.set_cons_zero, List.set_cons_succ]
  refine ord_quietL _ ?_ rfl hS rfl ?_ ?_
  rotate_left
  · rintro w' ⟨hS1, hS2, hS3⟩; go_simp; first | rfl | (rw [if_pos (by omega)]; done) | (rw [if_pos (by omega)]; rfl) | (rw [if_pos (by omega)]; go_simp; rfl)
  simp only [Act.put, List.setIfInBounds_toArray, List.set_cons_zero, List.set_cons_succ]
  refine ord_quietL _ ?_ rfl hS rfl ?_ ?_
  rotate_left
  · rintro w' ⟨hS1, hS2, hS3⟩; go_simp; first | rfl | (rw [if_pos (by omega)]; done) | (rw [if_pos (by omega)]; rfl) | (rw [if_pos (by omega)]; go_simp; rfl)
  simp only [Act.put, List.setIfInBounds_toArray, List.set_cons_zero, List.set_cons_succ]
  refine ord_quietL _ (.slice (some ⟨kb, ko, none⟩) m ck) rfl hS rfl ?_ ?_
  · rintro w' ⟨hS1, hS2, hS3⟩; go_simp
  simp only [Act.put, List.setIfInBounds_toArray, List.set_cons_zero, List.set_cons_succ]
  refine ord_quietL _ ?_ rfl hS rfl ?_ ?_
  rotate_left
  · rintro w' ⟨hS1, hS2, hS3⟩; go_simp; first | rfl | (rw [if_pos (by omega)]; done) | (rw [if_pos (by omega)]; rfl) | (rw [if_pos (by omega)]; go_simp; rfl)
  simp only [Act.put, List.setIfInBounds_toArray, List.set_cons_zero, List.set_cons_succ]
  refine ord_quietL _ ?_ rfl hS rfl ?_ ?_
  rotate_left
  · rintro w' ⟨hS1, hS2, hS3⟩; go_simp; first | rfl | (rw [if_pos (by omega)]; done) | (rw [if_pos (by omega)]; rfl) | (rw [if_pos (by omega)]; go_simp; rfl)
  simp only [Act.put, List.setIfInBounds_toArray, List.set_cons_zero, List.set_cons_succ]
  refine ord_quietL _ ?_ rfl hS rfl ?_ ?_
  rotate_left
  · rintro w' ⟨hS1, hS2, hS3⟩; go_simp; first | rfl | (rw [if_pos (by omega)]; done) | (rw [if_pos (by omega)]; rfl) | (rw [if_pos (by omega)]; go_simp; rfl)
  simp only [Act.put, List.setIfInBounds_toArray, List.set_cons_zero, List.set_cons_succ]
  refine ord_quietL _ ?_ rfl hS rfl ?_ ?_
  rotate_left
  · rintro w' ⟨hS1, hS2, hS3⟩; go_simp; first | rfl | (rw [if_pos (by omega)]; done) | (rw [if_pos (by omega)]; rfl) | (rw [if_pos (by omega)]; go_simp; rfl)
  simp only [Act.put, List.setIfInBounds_toArray, List.set_cons_zero, List.set_cons_succ]
  refine ord_quietL _ ?_ rfl hS rfl ?_ ?_
  rotate_left
  · rintro w' ⟨hS1, hS2, hS3⟩; go_simp; first | rfl | (rw [if_pos (by omega)]; done) | (rw [if_pos (by omega)]; rfl) | (rw [if_pos (by omega)]; go_simp; rfl)
  simp only [Act.put, List.setIfInBounds_toArray, List.set_cons_zero, List.set_cons_succ]
  refine ord_quietL _ (.slice av m cv) rfl hS rfl ?_ ?_
  · rintro w' ⟨hS1, hS2, hS3⟩; go_simp
  simp only [Act.put, List.setIfInBounds_toArray, List.set_cons_zero, List.set_cons_succ]
  refine ord_quietL _ ?_ rfl hS rfl ?_ ?_
  rotate_left
  · rintro w' ⟨hS1, hS2, hS3⟩; go_simp; first | rfl | (rw [if_pos (by omega)]; done) | (rw [if_pos (by omega)]; rfl) | (rw [if_pos (by omega)]; go_simp; rfl)
  simp only [Act.put, List.setIfInBounds_toArray, List.set_cons_zero, List.set_cons_succ]
  refine ord_actL _ rfl (fun K1 hK1 => ?_)
  go_wp2
  have hW1n : Nw w (w.alloc (.cells #[.slice (some ⟨kb, ko, none⟩) m ck, .slice av m cv, .slice none 0 0] 95)).drew := nw_drew (nw_alloc (nw_refl w) _)
  have hW1b : Nd (w.alloc (.cells #[.slice (some ⟨kb, ko, none⟩) m ck, .slice av m cv, .slice none 0 0] 95)).drew w.heap.size (.slice (some ⟨kb, ko, none⟩) m ck) (.slice av m cv) (.slice none 0 0) := heap_alloc_new w _
  refine hK1 _ _ (hSof _ hW1n) ?_
  clear hK1 K1 hS
  generalize (w.alloc (.cells #[.slice (some ⟨kb, ko, none⟩) m ck, .slice av m cv, .slice none 0 0] 95)).drew = W1 at *
  refine ord_tail ?_
  simp only [List.drop_succ_cons, List.drop_zero]
  go_wp2
  have hS := hSof _ (nw_drew hW1n)
  refine wp_region_ord [] 14 [(0, true), (1, true), (2, true), (3, true), (4, true), (5, true), (6, true), (7, true), (8, true), (9, true), (10, true), (11, true), (12, true), (13, false)] (fun w' : World => Nw w w' ∧ w'.cell? ⟨b, 0, none⟩ = some (.slice (some ⟨kb, ko, none⟩) n ck) ∧ w'.cell? ⟨b, 1, none⟩ = some (.slice av n cv)) (by kernel_rfl) (by kernel_rfl) ?_
  refine ord_quietL _ ?_ rfl hS rfl ?_ ?_
  rotate_left
  · rintro w' ⟨hS1, hS2, hS3⟩; go_simp; first | rfl | (rw [if_pos (by omega)]; done) | (rw [if_pos (by omega)]; rfl) | (rw [if_pos (by omega)]; go_simp; rfl)
  simp only [Act.put, List.setIfInBounds_toArray, List.set_cons_zero, List.set_cons_succ]
  refine ord_quietL _ ?_ rfl hS rfl ?_ ?_
  rotate_left
  · rintro w' ⟨hS1, hS2, hS3⟩; go_simp; first | rfl | (rw [if_pos (by omega)]; done) | (rw [if_pos (by omega)]; rfl) | (rw [if_pos (by omega)]; go_simp; rfl)
  simp only [Act.put, List.setIfInBounds_toArray, List.set_cons_zero, List.set_cons_succ]
  refine ord_quietL _ ?_ rfl hS rfl ?_ ?_
  rotate_left
  · rintro w' ⟨hS1, hS2, hS3⟩; go_simp; first | rfl | (rw [if_pos (by omega)]; done) | (rw [if_pos (by omega)]; rfl) | (rw [if_pos (by omega)]; go_simp; rfl)
  simp only [Act.put, List.setIfInBounds_toArray, List.set_cons_zero, List.set_cons_succ]
  refine ord_quietL _ ?_ rfl hS rfl ?_ ?_
  rotate_left
  · rintro w' ⟨hS1, hS2, hS3⟩; go_simp; first | rfl | (rw [if_pos (by omega)]; done) | (rw [if_pos (by omega)]; rfl) | (rw [if_pos (by omega)]; go_simp; rfl)
  simp only [Act.put, List.setIfInBounds_toArray, List.set_cons_zero, List.set_cons_succ]
  refine ord_quietL _ ?_ rfl hS rfl ?_ ?_
  rotate_left
  · rintro w' ⟨hS1, hS2, hS3⟩; go_simp; first | rfl | (rw [if_pos (by omega)]; done) | (rw [if_pos (by omega)]; rfl) | (rw [if_pos (by omega)]; go_simp; rfl)
  simp only [Act.put, List.setIfInBounds_toArray, List.set_cons_zero, List.set_cons_succ]
  refine ord_quietL _ (.slice (cutA (some ⟨kb, ko, none⟩) m 1 ck) (n - m) (ck - m)) rfl hS rfl ?_ ?_
  · rintro w' ⟨hS1, hS2, hS3⟩; go_simp; simp [cutA, add_plain]
  simp only [Act.put, List.setIfInBounds_toArray, List.set_cons_zero, List.set_cons_succ]
  refine ord_quietL _ ?_ rfl hS rfl ?_ ?_
  rotate_left
  · rintro w' ⟨hS1, hS2, hS3⟩; go_simp; first | rfl | (rw [if_pos (by omega)]; done) | (rw [if_pos (by omega)]; rfl) | (rw [if_pos (by omega)]; go_simp; rfl)
  simp only [Act.put, List.setIfInBounds_toArray, List.set_cons_zero, List.set_cons_succ]
  refine ord_quietL _ ?_ rfl hS rfl ?_ ?_
  rotate_left
  · rintro w' ⟨hS1, hS2, hS3⟩; go_simp; first | rfl | (rw [if_pos (by omega)]; done) | (rw [if_pos (by omega)]; rfl) | (rw [if_pos (by omega)]; go_simp; rfl)
  simp only [Act.put, List.setIfInBounds_toArray, List.set_cons_zero, List.set_cons_succ]
  refine ord_quietL _ ?_ rfl hS rfl ?_ ?_
  rotate_left
  · rintro w' ⟨hS1, hS2, hS3⟩; go_simp; first | rfl | (rw [if_pos (by omega)]; done) | (rw [if_pos (by omega)]; rfl) | (rw [if_pos (by omega)]; go_simp; rfl)
  simp only [Act.put, List.setIfInBounds_toArray, List.set_cons_zero, List.set_cons_succ]
  refine ord_quietL _ ?_ rfl hS rfl ?_ ?_
  rotate_left
  · rintro w' ⟨hS1, hS2, hS3⟩; go_simp; first | rfl | (rw [if_pos (by omega)]; done) | (rw [if_pos (by omega)]; rfl) | (rw [if_pos (by omega)]; go_simp; rfl)
  simp only [Act.put, List.setIfInBounds_toArray, List.set_cons_zero, List.set_cons_succ]
  refine ord_quietL _ ?_ rfl hS rfl ?_ ?_
  rotate_left
  · rintro w' ⟨hS1, hS2, hS3⟩; go_simp; first | rfl | (rw [if_pos (by omega)]; done) | (rw [if_pos (by omega)]; rfl) | (rw [if_pos (by omega)]; go_simp; rfl)
  simp only [Act.put, List.setIfInBounds_toArray, List.set_cons_zero, List.set_cons_succ]
  refine ord_quietL _ (.slice (cutA av m 2 cv) (n - m) (cv - m)) rfl hS rfl ?_ ?_
  · rintro w' ⟨hS1, hS2, hS3⟩; go_simp; simp [cutA, add_plain]
  simp only [Act.put, List.setIfInBounds_toArray, List.set_cons_zero, List.set_cons_succ]
  refine ord_quietL _ ?_ rfl hS rfl ?_ ?_
  rotate_left
  · rintro w' ⟨hS1, hS2, hS3⟩; go_simp; first | rfl | (rw [if_pos (by omega)]; done) | (rw [if_pos (by omega)]; rfl) | (rw [if_pos (by omega)]; go_simp; rfl)
  simp only [Act.put, List.setIfInBounds_toArray, List.set_cons_zero, List.set_cons_succ]
  refine ord_actL _ rfl (fun K1 hK1 => ?_)
  go_wp2
  have hW2n : Nw W1 (W1.alloc (.cells #[.slice (cutA (some ⟨kb, ko, none⟩) m 1 ck) (n - m) (ck - m), .slice (cutA av m 2 cv) (n - m) (cv - m), .slice none 0 0] 95)).drew := nw_drew (nw_alloc (nw_refl W1) _)
  have hW2b : Nd (W1.alloc (.cells #[.slice (cutA (some ⟨kb, ko, none⟩) m 1 ck) (n - m) (ck - m), .slice (cutA av m 2 cv) (n - m) (cv - m), .slice none 0 0] 95)).drew W1.heap.size (.slice (cutA (some ⟨kb, ko, none⟩) m 1 ck) (n - m) (ck - m)) (.slice (cutA av m 2 cv) (n - m) (cv - m)) (.slice none 0 0) := heap_alloc_new W1 _
  have hW := nw_trans hW1n hW2n
  refine hK1 _ _ (hSof _ hW) ?_
  clear hK1 K1 hS hSof
  generalize (W1.alloc (.cells #[.slice (cutA (some ⟨kb, ko, none⟩) m 1 ck) (n - m) (ck - m), .slice (cutA av m 2 cv) (n - m) (cv - m), .slice none 0 0] 95)).drew = W2 at *
  refine ord_tail ?_
  simp only [List.drop_succ_cons, List.drop_zero]
  go_wp2
  go_ret3
  refine ⟨w.heap.size, W1.heap.size, ?_, ⟨_, _, _, hW2n.blk hW1b, hA.nw hW, hC.nw hW, Hs.nil _⟩, ⟨_, _, _, hW2b, hB.nw hW, hD.nw hW, Hs.nil _⟩, hW⟩
  rw [← hmid.out]
  rfl

set_option maxHeartbeats 1600000 in
theorem c_halves1 {d : Nat} {t : Tr (d + 1)} {b : Nat} (w : World) (h : NAt w (d + 1) t b) (hl : 8 ≤ t.1.length) (hu : t.1.length ≤ 10) (hkl : t.2.length = t.1.length + 1) :
    Calls Try.prog 97 #[.pointer (some ⟨b, 0, none⟩)] w fun e w' => ∃ bl br, e = .returned (.tuple #[.pointer (some ⟨bl, 0, none⟩), .int .u64 (midK (d + 1) t), .pointer (some ⟨br, 0, none⟩)]) ∧ NAt w' (d + 1) (lefT (d + 1) t) bl ∧ NAt w' (d + 1) (rigT (d + 1) t) br ∧ Nw w w' := by
  have hleaf := c_isLeaf1 w h (by omega)
  obtain ⟨kv, vv, sv, bs, h1, h2, h3, h4, h5⟩ := h
  have c0 := h1.c0
  have c2 := h1.c2
  obtain ⟨ak, ck, rfl, hk1, hk2⟩ := Hs.form h2
  obtain ⟨av, cv, rfl, hv1, hv2⟩ := Hs.form h4
  have hbl := kids_length h5
  obtain ⟨ks, cs⟩ := t
  simp only at *
  have hmk : ks.length / 2 < ks.length := by omega
  obtain ⟨kb, ko, rfl, hcell⟩ := Ks.get h2 hmk
  have hmid : Hid (ks[ks.length / 2] = midK (d + 1) (ks, cs)) := by
    unfold Hid midK keysOf
    rw [List.getD_eq_getElem?_getD, List.getElem?_eq_getElem hmk]
    rfl
  generalize ks[ks.length / 2] = mk at *
  have hA := Ks.head h2 (i := ks.length / 2) (by omega)
  have hB := Ks.tail h2 (i := ks.length / 2 + 1) (by omega)
  have hC := Ps.head h4 (i := ks.length / 2 + 1) (by omega)
  have hD := Ps.tail h4 (i := ks.length / 2 + 1) (by omega)
  have hE := kids_take (ks.length / 2 + 1) h5
  have hF := kids_drop (ks.length / 2 + 1) h5
  have hfl : Hid (lefT (d + 1) (ks, cs) = (ks.take (ks.length / 2), cs.take (ks.length / 2 + 1))) := rfl
  have hfr : Hid (rigT (d + 1) (ks, cs) = (ks.drop (ks.length / 2 + 1), cs.drop (ks.length / 2 + 1))) := rfl
  generalize lefT (d + 1) (ks, cs) = tl at *
  generalize rigT (d + 1) (ks, cs) = tr at *
  have hbl2 : bs.length = ks.length + 1 := by omega
  rw [hbl2] at c2 hv1 h1 hD
  rw [Nat.add_sub_add_right] at hD
  clear h2 h4 hmk hbl hbl2
  generalize hn : ks.length = n at *
  clear hn
  obtain ⟨m, hm⟩ : ∃ m, Hid (m = n / 2) := ⟨_, rfl⟩
  have hm1 : m < n := by have := hm.out; omega
  have hm2 : m ≤ n := by omega
  have hmc1 : m ≤ ck := by omega
  have hmc2 : m + 1 ≤ cv := by omega
  have hx1 : (m : Int) + 1 ≤ (n : Int) := by omega
  have hx2 : (0 : Int) ≤ (m : Int) + 1 := by omega
  have hx3 : (m : Int) + 1 ≤ (cv : Int) := by omega
  have hx4 : ((m : Int) + 1).toNat = m + 1 := by omega
  rw [← hm.out] at hA hB hC hD hE hF hcell hfl hfr
  have hq : Int.tdiv (n : Int) 2 = (m : Int) := by have := hm.out; rw [Int.tdiv_eq_ediv_of_nonneg (by omega)]; omega
  go_enter Try.func97, Try.ntmps97
  go_wp2_with (go_at_call 78; refine hleaf.mono ?_; rintro e w' ⟨rfl, rfl⟩)
  have hSof : ∀ w', Nw w w' → (fun w' : World => Nw w w' ∧ w'.cell? ⟨b, 0, none⟩ = some (.slice (some ⟨kb, ko, none⟩) n ck) ∧ w'.cell? ⟨b, 2, none⟩ = some (.slice av (n + 1) cv)) w' := fun w' hw => ⟨hw, hw.cell c0, hw.cell c2⟩
  have hS := hSof _ (nw_drew (nw_refl w))
  have hwr : IntKind.i64.wrap ((m : Int) + 1) = ((m + 1 : Nat) : Int) := by rw [IntKind.wrap_i64]; omega
  refine wp_region_ord [] 15 [(0, true), (1, true), (2, true), (3, true), (4, true), (5, true), (6, true), (7, true), (8, true), (9, true), (10, true), (11, true), (12, true), (13, true), (14, false)] (fun w' : World => Nw w w' ∧ w'.cell? ⟨b, 0, none⟩ = some (.slice (some ⟨kb, ko, none⟩) n ck) ∧ w'.cell? ⟨b, 2, none⟩ = some (.slice av (n + 1) cv)) (by kernel_rfl) (by kernel_rfl) ?_
  refine ord_quietL _ ?_ rfl hS rfl ?_ ?_
  rotate_left
  · rintro w' ⟨hS1, hS2, hS3⟩; go_simp; first | rfl | (rw [if_pos (by omega)]; done) | (rw [if_pos (by omega)]; rfl) | (rw [if_pos (by omega)]; go_simp; rfl)
  simp only [Act.put, List.setIfInBounds_toArray, List.set_cons_zero, List.set_cons_succ]
  refine ord_quietL _ ?_ rfl hS rfl ?_ ?_
  rotate_left
  · rintro w' ⟨hS1, hS2, hS3⟩; go_simp; first | rfl | (rw [if_pos (by omega)]; done) | (rw [if_pos (by omega)]; rfl) | (rw [if_pos (by omega)]; go_simp; rfl)
  simp only [Act.put, List.setIfInBounds_toArray, List.set_cons_zero, List.set_cons_succ]
  refine ord_quietL _ ?_ rfl hS rfl ?_ ?_
  rotate_left
  · rintro w' ⟨hS1, hS2, hS3⟩; go_simp; first | rfl | (rw [if_pos (by omega)]; done) | (rw [if_pos (by omega)]; rfl) | (rw [if_pos (by omega)]; go_simp; rfl)
  simp only [Act.put, List.setIfInBounds_toArray, List.set_cons_zero, List.set_cons_succ]
  refine ord_quietL _ ?_ rfl hS rfl ?_ ?_
  rotate_left
  · rintro w' ⟨hS1, hS2, hS3⟩; go_simp; first | rfl | (rw [if_pos (by omega)]; done) | (rw [if_pos (by omega)]; rfl) | (rw [if_pos (by omega)]; go_simp; rfl)
  simp only [Act.put, List.setIfInBounds_toArray, List.set_cons_zero, List.set_cons_succ]
  refine ord_quietL _ ?_ rfl hS rfl ?_ ?_
  rotate_left
  · rintro w' ⟨hS1, hS2, hS3⟩; go_simp; first | rfl | (rw [if_pos (by omega)]; done) | (rw [if_pos (by omega)]; rfl) | (rw [if_pos (by omega)]; go_simp; rfl)
  simp only [Act.put, List.setIfInBounds_toArray, List.set_cons_zero, List.set_cons_succ]
  refine ord_quietL _ (.slice (some ⟨kb, ko, none⟩) m ck) rfl hS rfl ?_ ?_
  · rintro w' ⟨hS1, hS2, hS3⟩; go_simp
  simp only [Act.put, List.setIfInBounds_toArray, List.set_cons_zero, List.set_cons_succ]
  refine ord_quietL _ ?_ rfl hS rfl ?_ ?_
  rotate_left
  · rintro w' ⟨hS1, hS2, hS3⟩; go_simp; first | rfl | (rw [if_pos (by omega)]; done) | (rw [if_pos (by omega)]; rfl) | (rw [if_pos (by omega)]; go_simp; rfl)
  simp only [Act.put, List.setIfInBounds_toArray, List.set_cons_zero, List.set_cons_succ]
  refine ord_quietL _ ?_ rfl hS rfl ?_ ?_
  rotate_left
  · rintro w' ⟨hS1, hS2, hS3⟩; go_simp; first | rfl | (rw [if_pos (by omega)]; done) | (rw [if_pos (by omega)]; rfl) | (rw [if_pos (by omega)]; go_simp; rfl)
  simp only [Act.put, List.setIfInBounds_toArray, List.set_cons_zero, List.set_cons_succ]
  refine ord_quietL _ ?_ rfl hS rfl ?_ ?_
  rotate_left
  · rintro w' ⟨hS1, hS2, hS3⟩; go_simp; first | rfl | (rw [if_pos (by omega)]; done) | (rw [if_pos (by omega)]; rfl) | (rw [if_pos (by omega)]; go_simp; rfl)
  simp only [Act.put, List.setIfInBounds_toArray, List.set_cons_zero, List.set_cons_succ]
  refine ord_quietL _ ?_ rfl hS rfl ?_ ?_
  rotate_left
  · rintro w' ⟨hS1, hS2, hS3⟩; go_simp; first | rfl | (rw [if_pos (by omega)]; done) | (rw [if_pos (by omega)]; rfl) | (rw [if_pos (by omega)]; go_simp; rfl)
  simp only [Act.put, List.setIfInBounds_toArray, List.set_cons_zero, List.set_cons_succ]
  refine ord_quietL _ ?_ rfl hS rfl ?_ ?_
  rotate_left
  · rintro w' ⟨hS1, hS2, hS3⟩; go_simp; first | rfl | (rw [if_pos (by omega)]; done) | (rw [if_pos (by omega)]; rfl) | (rw [if_pos (by omega)]; go_simp; rfl)
  simp only [Act.put, List.setIfInBounds_toArray, List.set_cons_zero, List.set_cons_succ]
  refine ord_quietL _ (.int .i64 ((m + 1 : Nat) : Int)) rfl hS rfl ?_ ?_
  · rintro w' ⟨hS1, hS2, hS3⟩; go_simp
  simp only [Act.put, List.setIfInBounds_toArray, List.set_cons_zero, List.set_cons_succ]
  refine ord_quietL _ (.slice av (m + 1) cv) rfl hS rfl ?_ ?_
  · rintro w' ⟨hS1, hS2, hS3⟩; go_simp
  simp only [Act.put, List.setIfInBounds_toArray, List.set_cons_zero, List.set_cons_succ]
  refine ord_quietL _ ?_ rfl hS rfl ?_ ?_
  rotate_left
  · rintro w' ⟨hS1, hS2, hS3⟩; go_simp; first | rfl | (rw [if_pos (by omega)]; done) | (rw [if_pos (by omega)]; rfl) | (rw [if_pos (by omega)]; go_simp; rfl)
  simp only [Act.put, List.setIfInBounds_toArray, List.set_cons_zero, List.set_cons_succ]
  refine ord_actL _ rfl (fun K1 hK1 => ?_)
  go_wp2
  have hW1n : Nw w (w.alloc (.cells #[.slice (some ⟨kb, ko, none⟩) m ck, .slice none 0 0, .slice av (m + 1) cv] 95)).drew := nw_drew (nw_alloc (nw_refl w) _)
  have hW1b : Nd (w.alloc (.cells #[.slice (some ⟨kb, ko, none⟩) m ck, .slice none 0 0, .slice av (m + 1) cv] 95)).drew w.heap.size (.slice (some ⟨kb, ko, none⟩) m ck) (.slice none 0 0) (.slice av (m + 1) cv) := heap_alloc_new w _
  refine hK1 _ _ (hSof _ hW1n) ?_
  clear hK1 K1 hS
  generalize (w.alloc (.cells #[.slice (some ⟨kb, ko, none⟩) m ck, .slice none 0 0, .slice av (m + 1) cv] 95)).drew = W1 at *
  refine ord_tail ?_
  simp only [List.drop_succ_cons, List.drop_zero]
  go_wp2
  have hS := hSof _ (nw_drew hW1n)
  refine wp_region_ord [] 16 [(0, true), (1, true), (2, true), (3, true), (4, true), (5, true), (6, true), (7, true), (8, true), (9, true), (10, true), (11, true), (12, true), (13, true), (14, true), (15, false)] (fun w' : World => Nw w w' ∧ w'.cell? ⟨b, 0, none⟩ = some (.slice (some ⟨kb, ko, none⟩) n ck) ∧ w'.cell? ⟨b, 2, none⟩ = some (.slice av (n + 1) cv)) (by kernel_rfl) (by kernel_rfl) ?_
  refine ord_quietL _ ?_ rfl hS rfl ?_ ?_
  rotate_left
  · rintro w' ⟨hS1, hS2, hS3⟩; go_simp; first | rfl | (rw [if_pos (by omega)]; done) | (rw [if_pos (by omega)]; rfl) | (rw [if_pos (by omega)]; go_simp; rfl)
  simp only [Act.put, List.setIfInBounds_toArray, List.set_cons_zero, List.set_cons_succ]
  refine ord_quietL _ ?_ rfl hS rfl ?_ ?_
  rotate_left
  · rintro w' ⟨hS1, hS2, hS3⟩; go_simp; first | rfl | (rw [if_pos (by omega)]; done) | (rw [if_pos (by omega)]; rfl) | (rw [if_pos (by omega)]; go_simp; rfl)
  simp only [Act.put, List.setIfInBounds_toArray, List.set_cons_zero, List.set_cons_succ]
  refine ord_quietL _ ?_ rfl hS rfl ?_ ?_
  rotate_left
  · rintro w' ⟨hS1, hS2, hS3⟩; go_simp; first | rfl | (rw [if_pos (by omega)]; done) | (rw [if_pos (by omega)]; rfl) | (rw [if_pos (by omega)]; go_simp; rfl)
  simp only [Act.put, List.setIfInBounds_toArray, List.set_cons_zero, List.set_cons_succ]
  refine ord_quietL _ ?_ rfl hS rfl ?_ ?_
  rotate_left
  · rintro w' ⟨hS1, hS2, hS3⟩; go_simp; first | rfl | (rw [if_pos (by omega)]; done) | (rw [if_pos (by omega)]; rfl) | (rw [if_pos (by omega)]; go_simp; rfl)
  simp only [Act.put, List.setIfInBounds_toArray, List.set_cons_zero, List.set_cons_succ]
  refine ord_quietL _ ?_ rfl hS rfl ?_ ?_
  rotate_left
  · rintro w' ⟨hS1, hS2, hS3⟩; go_simp; first | rfl | (rw [if_pos (by omega)]; done) | (rw [if_pos (by omega)]; rfl) | (rw [if_pos (by omega)]; go_simp; rfl)
  simp only [Act.put, List.setIfInBounds_toArray, List.set_cons_zero, List.set_cons_succ]
  refine ord_quietL _ (.int .i64 ((m + 1 : Nat) : Int)) rfl hS rfl ?_ ?_
  · rintro w' ⟨hS1, hS2, hS3⟩; go_simp
  simp only [Act.put, List.setIfInBounds_toArray, List.set_cons_zero, List.set_cons_succ]
  refine ord_quietL _ (.slice (cutA (some ⟨kb, ko, none⟩) (m + 1) 1 ck) (n - (m + 1)) (ck - (m + 1))) rfl hS rfl ?_ ?_
  · rintro w' ⟨hS1, hS2, hS3⟩; go_simp; simp [cutA, Addr.add]
  simp only [Act.put, List.setIfInBounds_toArray, List.set_cons_zero, List.set_cons_succ]
  refine ord_quietL _ ?_ rfl hS rfl ?_ ?_
  rotate_left
  · rintro w' ⟨hS1, hS2, hS3⟩; go_simp; first | rfl | (rw [if_pos (by omega)]; done) | (rw [if_pos (by omega)]; rfl) | (rw [if_pos (by omega)]; go_simp; rfl)
  simp only [Act.put, List.setIfInBounds_toArray, List.set_cons_zero, List.set_cons_succ]
  refine ord_quietL _ ?_ rfl hS rfl ?_ ?_
  rotate_left
  · rintro w' ⟨hS1, hS2, hS3⟩; go_simp; first | rfl | (rw [if_pos (by omega)]; done) | (rw [if_pos (by omega)]; rfl) | (rw [if_pos (by omega)]; go_simp; rfl)
  simp only [Act.put, List.setIfInBounds_toArray, List.set_cons_zero, List.set_cons_succ]
  refine ord_quietL _ ?_ rfl hS rfl ?_ ?_
  rotate_left
  · rintro w' ⟨hS1, hS2, hS3⟩; go_simp; first | rfl | (rw [if_pos (by omega)]; done) | (rw [if_pos (by omega)]; rfl) | (rw [if_pos (by omega)]; go_simp; rfl)
  simp only [Act.put, List.setIfInBounds_toArray, List.set_cons_zero, List.set_cons_succ]
  refine ord_quietL _ ?_ rfl hS rfl ?_ ?_
  rotate_left
  · rintro w' ⟨hS1, hS2, hS3⟩; go_simp; first | rfl | (rw [if_pos (by omega)]; done) | (rw [if_pos (by omega)]; rfl) | (rw [if_pos (by omega)]; go_simp; rfl)
  simp only [Act.put, List.setIfInBounds_toArray, List.set_cons_zero, List.set_cons_succ]
  refine ord_quietL _ ?_ rfl hS rfl ?_ ?_
  rotate_left
  · rintro w' ⟨hS1, hS2, hS3⟩; go_simp; first | rfl | (rw [if_pos (by omega)]; done) | (rw [if_pos (by omega)]; rfl) | (rw [if_pos (by omega)]; go_simp; rfl)
  simp only [Act.put, List.setIfInBounds_toArray, List.set_cons_zero, List.set_cons_succ]
  refine ord_quietL _ (.int .i64 ((m + 1 : Nat) : Int)) rfl hS rfl ?_ ?_
  · rintro w' ⟨hS1, hS2, hS3⟩; go_simp
  simp only [Act.put, List.setIfInBounds_toArray, List.set_cons_zero, List.set_cons_succ]
  refine ord_quietL _ (.slice (cutA av (m + 1) 1 cv) (n - m) (cv - (m + 1))) rfl hS rfl ?_ ?_
  · rintro w' ⟨hS1, hS2, hS3⟩; go_simp; simp [cutA, Addr.add]
  simp only [Act.put, List.setIfInBounds_toArray, List.set_cons_zero, List.set_cons_succ]
  refine ord_quietL _ ?_ rfl hS rfl ?_ ?_
  rotate_left
  · rintro w' ⟨hS1, hS2, hS3⟩; go_simp; first | rfl | (rw [if_pos (by omega)]; done) | (rw [if_pos (by omega)]; rfl) | (rw [if_pos (by omega)]; go_simp; rfl)
  simp only [Act.put, List.setIfInBounds_toArray, List.set_cons_zero, List.set_cons_succ]
  refine ord_actL _ rfl (fun K1 hK1 => ?_)
  go_wp2
  have hW2n : Nw W1 (W1.alloc (.cells #[.slice (cutA (some ⟨kb, ko, none⟩) (m + 1) 1 ck) (n - (m + 1)) (ck - (m + 1)), .slice none 0 0, .slice (cutA av (m + 1) 1 cv) (n - m) (cv - (m + 1))] 95)).drew := nw_drew (nw_alloc (nw_refl W1) _)
  have hW2b : Nd (W1.alloc (.cells #[.slice (cutA (some ⟨kb, ko, none⟩) (m + 1) 1 ck) (n - (m + 1)) (ck - (m + 1)), .slice none 0 0, .slice (cutA av (m + 1) 1 cv) (n - m) (cv - (m + 1))] 95)).drew W1.heap.size (.slice (cutA (some ⟨kb, ko, none⟩) (m + 1) 1 ck) (n - (m + 1)) (ck - (m + 1))) (.slice none 0 0) (.slice (cutA av (m + 1) 1 cv) (n - m) (cv - (m + 1))) := heap_alloc_new W1 _
  have hW := nw_trans hW1n hW2n
  refine hK1 _ _ (hSof _ hW) ?_
  clear hK1 K1 hS hSof
  generalize (W1.alloc (.cells #[.slice (cutA (some ⟨kb, ko, none⟩) (m + 1) 1 ck) (n - (m + 1)) (ck - (m + 1)), .slice none 0 0, .slice (cutA av (m + 1) 1 cv) (n - m) (cv - (m + 1))] 95)).drew = W2 at *
  refine ord_tail ?_
  simp only [List.drop_succ_cons, List.drop_zero]
  go_wp2
  go_ret3
  refine ⟨w.heap.size, W1.heap.size, ?_, ?_, ?_, hW⟩
  · rw [← hmid.out]
    rfl
  · rw [hfl.out]
    exact ⟨_, _, _, _, hW2n.blk hW1b, hA.nw hW, Hs.nil _, hC.nw hW, hE.nw hW⟩
  · rw [hfr.out]
    exact ⟨_, _, _, _, hW2b, hB.nw hW, Hs.nil _, hD.nw hW, hF.nw hW⟩
end Go.Proofs.Ytnljfhjindenpab
