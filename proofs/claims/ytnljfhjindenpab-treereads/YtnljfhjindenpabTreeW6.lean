/-
  Package tree: with.
-/
import Derived.Test.YtnljfhjindenpabTreeW5
namespace Go.Proofs.Ytnljfhjindenpab
set_option linter.unusedVariables false
set_option linter.unusedSimpArgs false
set_option maxRecDepth 20000
open Go.RowKit

/-- An inner node has one kid more than keys. -/
def Fm : (n : Nat) → Tr n → Prop
  | 0, _ => True
  | _ + 1, t => t.2.length = t.1.length + 1

theorem R.fm : ∀ {n m M : Nat} {t : Tr n} {a b : Int}, R n m M t a b → Fm n t
  | 0, _, _, _, _, _, _ => trivial
  | _ + 1, _, _, _, _, _, h => bds_length h.2

theorem c_halves : ∀ {n : Nat} {t : Tr n} {b : Nat} (w : World), NAt w n t b → 8 ≤ (keysOf n t).length → (keysOf n t).length ≤ 10 → Fm n t →
    Calls Try.prog 97 #[.pointer (some ⟨b, 0, none⟩)] w fun e w' => ∃ bl br, e = .returned (.tuple #[.pointer (some ⟨bl, 0, none⟩), .int .u64 (midK n t), .pointer (some ⟨br, 0, none⟩)]) ∧ NAt w' n (lefT n t) bl ∧ NAt w' n (rigT n t) br ∧ Nw w w'
  | 0, t, b, w, h, h1, h2, _ => c_halves0 w h (by simpa [keysOf] using h1) (by simpa [keysOf] using h2)
  | n + 1, t, b, w, h, h1, h2, h3 => c_halves1 w h h1 h2 h3

theorem ks_one (w : World) (k : Int) (t : Nat) : Ks (w.alloc (.cells #[.int .u64 k] t)) (.slice (some ⟨w.heap.size, 0, none⟩) 1 1) [k] := hs_lit w #[.int .u64 k] t 1 (by omega)
theorem ps_one (w : World) (b : Nat) (t : Nat) : Ps (w.alloc (.cells #[.pointer (some ⟨b, 0, none⟩)] t)) (.slice (some ⟨w.heap.size, 0, none⟩) 1 1) [b] := hs_lit w #[.pointer (some ⟨b, 0, none⟩)] t 1 (by omega)
theorem ps_two (w : World) (b c : Nat) (t : Nat) : Ps (w.alloc (.cells #[.pointer (some ⟨b, 0, none⟩), .pointer (some ⟨c, 0, none⟩)] t)) (.slice (some ⟨w.heap.size, 0, none⟩) 2 2) [b, c] := hs_lit w #[.pointer (some ⟨b, 0, none⟩), .pointer (some ⟨c, 0, none⟩)] t 2 (by omega)
theorem es_one (w : World) (e : Ext) (t : Nat) : Vs (w.alloc (.cells #[.int .i64 e.1, .int .i64 e.2] t)) (.slice (some ⟨w.heap.size, 0, none⟩) 1 1) [e] := hs_lit w #[.int .i64 e.1, .int .i64 e.2] t 1 (by omega)

set_option maxHeartbeats 1600000 in
theorem c_withA {d : Nat} {t : Tr (d + 1)} {c : Tr d} {b bc i : Nat} (w : World) (h : NAt w (d + 1) t b) (hc : NAt w d c bc) (hi : i < t.2.length) (hl : t.2.length ≤ 100) (hs : (keysOf d c).length ≤ 7) :
    Calls Try.prog 81 #[.pointer (some ⟨b, 0, none⟩), .int .i64 (i : Int), .pointer (some ⟨bc, 0, none⟩)] w fun e w' => ∃ b', e = .returned (.pointer (some ⟨b', 0, none⟩)) ∧ NAt w' (d + 1) (withT d t i c) b' ∧ Nw w w' := by
  obtain ⟨kv, vv, sv, bs, h1, h20, h3, h4, h5⟩ := h
  obtain ⟨kv', vv', sv', g1, g2⟩ := hc.keys
  have c0 := h1.c0
  have c2 := h1.c2
  have d0 := g1.c0
  obtain ⟨ak, ck, rfl, hk1, hk2⟩ := Hs.form h20
  obtain ⟨av, cv, rfl, hv1, hv2⟩ := Hs.form h4
  obtain ⟨ac, cc, rfl, hq1, hq2⟩ := Hs.form g2
  have hbl0 := kids_length h5
  have hwT : Hid (withT d t i c = (t.1, t.2.take i ++ [c] ++ t.2.drop (i + 1))) := if_pos hs
  have hkk : Hid (∀ w', Nw w w' → Kids (NAt w' d) (t.2.take i ++ [c] ++ t.2.drop (i + 1)) (bs.take i ++ [bc] ++ bs.drop (i + 1))) := fun w' hw =>
    kids_append (kids_append (kids_take i (h5.nw hw)) ⟨hc.nw hw, trivial⟩) (kids_drop (i + 1) (h5.nw hw))
  have hbi : i < bs.length := by omega
  have hsm : (((keysOf d c).length : Nat) : Int) ≤ 7 := by omega
  have hspl : Hid (∀ w', Nw w w' → ∀ o, Ps w' o [bc] → Calls Try.prog 96 #[.slice av bs.length cv, .int .i64 (i : Int), .int .i64 ((i : Int) + 1), o] w' fun e w2 => ∃ u, e = .returned u ∧ Ps w2 u (bs.take i ++ [bc] ++ bs.drop (i + 1)) ∧ Nw w' w2) := fun w' hw o ho => c_splicedP (i := i) (j := i + 1) (os := [bc]) (o := o) w' (Hs.nw h4 hw) ho (by omega) (by omega) (by omega) (by simp)
  have hwr : IntKind.i64.wrap ((i : Int) + 1) = (i : Int) + 1 := by rw [IntKind.wrap_i64]; omega
  have h2 : Hid (Ks w (.slice ak t.1.length ck) t.1) := h20
  have hbl : Hid (bs.length = t.2.length) := hbl0
  clear h3 h5 h4 g2 hc hi hl hs g1 h1 h20 hbl0
  generalize (keysOf d c).length = kl at *
  generalize withT d t i c = T' at *
  go_enter Try.func81, Try.ntmps81
  go_wp2
  have hSof : ∀ w', Nw w w' → (fun w' : World => Nw w w' ∧ w'.cell? ⟨b, 0, none⟩ = some (.slice ak t.1.length ck) ∧ w'.cell? ⟨b, 2, none⟩ = some (.slice av bs.length cv)) w' := fun w' hw => ⟨hw, hw.cell c0, hw.cell c2⟩
  have hS := hSof _ (nw_drew (nw_refl w))
  refine wp_region_ord [] 16 [(0, true), (1, true), (2, true), (3, true), (4, true), (5, true), (6, true), (7, true), (8, true), (9, true), (10, true), (11, true), (12, false), (13, false), (14, true), (15, false)] (fun w' : World => Nw w w' ∧ w'.cell? ⟨b, 0, none⟩ = some (.slice ak t.1.length ck) ∧ w'.cell? ⟨b, 2, none⟩ = some (.slice av bs.length cv)) (by kernel_rfl) (by kernel_rfl) ?_
  refine ord_quietL _ ?_ rfl hS rfl ?_ ?_
  rotate_left
  · rintro w' ⟨hS1, hS2, hS3⟩; go_simp; first | rfl | (rw [if_pos (by omega)]; done) | (rw [if_pos (by omega)]; rfl) | (rw [if_pos (by omega)]; go_simp; rfl)
  simp only [Act.put, List.setIfInBounds_toArray, List.set_cons_zero, List.set_cons_succ]
  refine ord_quietL _ ?_ rfl hS rfl ?_ ?_
  rotate_left
  · rintro w' ⟨hS1, hS2, hS3⟩; go_simp; first | rfl | (rw [if_pos (by omega)]; done) | (rw [if_pos (by omega)]; rfl) | (rw [if_pos (by omega)]; go_simp; rfl)
  simp only [Act.put, List.setIfInBounds_toArray, List.set_cons_zero, List.set_cons_succ]
  refine ord_quietL _ ?_ rfl hS rfl ?_ ?_
  rotate_left
  · rintro w' ⟨hS1, hS2, hS3⟩; go_simp; first | rfl | (rw [if_pos (by omega)]; done) | (rw [if_pos (by omega)]; rfl) | (rw [if_pos (by omega)]; go_simp; rfl)
  simp only [Act.put, List.setIfInBounds_toArray, List.set_cons_zero, List.set_cons_succ]
  refine ord_quietL _ ?_ rfl hS rfl ?_ ?_
  rotate_left
  · rintro w' ⟨hS1, hS2, hS3⟩; go_simp; first | rfl | (rw [if_pos (by omega)]; done) | (rw [if_pos (by omega)]; rfl) | (rw [if_pos (by omega)]; go_simp; rfl)
  simp only [Act.put, List.setIfInBounds_toArray, List.set_cons_zero, List.set_cons_succ]
  refine ord_quietL _ ?_ rfl hS rfl ?_ ?_
  rotate_left
  · rintro w' ⟨hS1, hS2, hS3⟩; go_simp; first | rfl | (rw [if_pos (by omega)]; done) | (rw [if_pos (by omega)]; rfl) | (rw [if_pos (by omega)]; go_simp; rfl)
  simp only [Act.put, List.setIfInBounds_toArray, List.set_cons_zero, List.set_cons_succ]
  refine ord_quietL _ ?_ rfl hS rfl ?_ ?_
  rotate_left
  · rintro w' ⟨hS1, hS2, hS3⟩; go_simp; first | rfl | (rw [if_pos (by omega)]; done) | (rw [if_pos (by omega)]; rfl) | (rw [if_pos (by omega)]; go_simp; rfl)
  simp only [Act.put, List.setIfInBounds_toArray, List.set_cons_zero, List.set_cons_succ]
  refine ord_quietL _ ?_ rfl hS rfl ?_ ?_
  rotate_left
  · rintro w' ⟨hS1, hS2, hS3⟩; go_simp; first | rfl | (rw [if_pos (by omega)]; done) | (rw [if_pos (by omega)]; rfl) | (rw [if_pos (by omega)]; go_simp; rfl)
  simp only [Act.put, List.setIfInBounds_toArray, List.set_cons_zero, List.set_cons_succ]
  refine ord_quietL _ ?_ rfl hS rfl ?_ ?_
  rotate_left
  · rintro w' ⟨hS1, hS2, hS3⟩; go_simp; first | rfl | (rw [if_pos (by omega)]; done) | (rw [if_pos (by omega)]; rfl) | (rw [if_pos (by omega)]; go_simp; rfl)
  simp only [Act.put, List.setIfInBounds_toArray, List.set_cons_zero, List.set_cons_succ]
  refine ord_quietL _ ?_ rfl hS rfl ?_ ?_
  rotate_left
  · rintro w' ⟨hS1, hS2, hS3⟩; go_simp; first | rfl | (rw [if_pos (by omega)]; done) | (rw [if_pos (by omega)]; rfl) | (rw [if_pos (by omega)]; go_simp; rfl)
  simp only [Act.put, List.setIfInBounds_toArray, List.set_cons_zero, List.set_cons_succ]
  refine ord_quietL _ ?_ rfl hS rfl ?_ ?_
  rotate_left
  · rintro w' ⟨hS1, hS2, hS3⟩; go_simp; first | rfl | (rw [if_pos (by omega)]; done) | (rw [if_pos (by omega)]; rfl) | (rw [if_pos (by omega)]; go_simp; rfl)
  simp only [Act.put, List.setIfInBounds_toArray, List.set_cons_zero, List.set_cons_succ]
  refine ord_quietL _ (.int .i64 ((i : Int) + 1)) rfl hS rfl ?_ ?_
  · rintro w' ⟨hS1, hS2, hS3⟩; go_simp
  simp only [Act.put, List.setIfInBounds_toArray, List.set_cons_zero, List.set_cons_succ]
  refine ord_quietL _ ?_ rfl hS rfl ?_ ?_
  rotate_left
  · rintro w' ⟨hS1, hS2, hS3⟩; go_simp; first | rfl | (rw [if_pos (by omega)]; done) | (rw [if_pos (by omega)]; rfl) | (rw [if_pos (by omega)]; go_simp; rfl)
  simp only [Act.put, List.setIfInBounds_toArray, List.set_cons_zero, List.set_cons_succ]
  refine ord_actL _ rfl (fun K1 hK1 => ?_)
  go_wp2
  have hW1 : Nw w (w.alloc (.cells #[.pointer (some ⟨bc, 0, none⟩)] 78)).drew := nw_drew (nw_alloc (nw_refl w) _)
  have hL : Ps (w.alloc (.cells #[.pointer (some ⟨bc, 0, none⟩)] 78)).drew (.slice (some ⟨w.heap.size, 0, none⟩) 1 1) [bc] := Hs.drew (ps_one w bc 78)
  refine hK1 _ _ (hSof _ hW1) ?_
  clear hK1 K1 hS
  refine ord_actL _ rfl (fun K1 hK1 => ?_)
  go_wp2_with (go_at_call 96; refine (hspl.out _ hW1 _ hL).mono ?_; rintro e W2 ⟨u2, rfl, hu2, hn2⟩; refine stop_here ?_)
  unfold Hid
  obtain ⟨au, cu, rfl, hu3, hu4⟩ := Hs.form hu2
  have hu2 : Hid (Ps W2 (.slice au (bs.take i ++ [bc] ++ bs.drop (i + 1)).length cu) (bs.take i ++ [bc] ++ bs.drop (i + 1))) := hu2
  clear hu3
  generalize (bs.take i ++ [bc] ++ bs.drop (i + 1)).length = nl at *
  have hW2 := nw_trans hW1 hn2
  go_wp2
  refine hK1 _ _ (hSof _ hW2) ?_
  clear hK1 K1 hL hn2 hW1
  have hS := hSof _ hW2
  refine ord_quietL _ ?_ rfl hS rfl ?_ ?_
  rotate_left
  · rintro w' ⟨hS1, hS2, hS3⟩; go_simp; first | rfl | (rw [if_pos (by omega)]; done) | (rw [if_pos (by omega)]; rfl) | (rw [if_pos (by omega)]; go_simp; rfl)
  simp only [Act.put, List.setIfInBounds_toArray, List.set_cons_zero, List.set_cons_succ]
  refine ord_actL _ rfl (fun K1 hK1 => ?_)
  go_wp2
  have hW3 : Nw W2 (W2.alloc (.cells #[.slice ak t.1.length ck, .slice none 0 0, .slice au nl cu] 95)) := nw_alloc (nw_refl W2) _
  have hb3 : Nd (W2.alloc (.cells #[.slice ak t.1.length ck, .slice none 0 0, .slice au nl cu] 95)) W2.heap.size (.slice ak t.1.length ck) (.slice none 0 0) (.slice au nl cu) := heap_alloc_new W2 _
  have hW := nw_trans hW2 hW3
  refine hK1 _ _ (hSof _ hW) ?_
  clear hK1 K1 hSof hS
  generalize W2.alloc (.cells #[.slice ak t.1.length ck, .slice none 0 0, .slice au nl cu] 95) = W3 at *
  refine ord_tail ?_
  simp only [List.drop_succ_cons, List.drop_zero]
  go_wp2
  go_ret
  refine ⟨_, rfl, ?_, hW⟩
  rw [hwT.out]
  exact ⟨_, _, _, _, hb3, Hs.nw h2.out hW, Hs.nil _, Hs.nw hu2.out hW3, hkk.out _ hW⟩

set_option maxHeartbeats 3200000 in
theorem c_withB {d : Nat} {t : Tr (d + 1)} {c : Tr d} {b bc i : Nat} (w : World) (h : NAt w (d + 1) t b) (hc : NAt w d c bc) (hi : i < t.2.length) (hik : i ≤ t.1.length) (hl : t.2.length ≤ 50) (hl1 : t.1.length ≤ 50) (hs : 7 < (keysOf d c).length) (hs2 : (keysOf d c).length ≤ 10) (hfm : Fm d c) :
    Calls Try.prog 81 #[.pointer (some ⟨b, 0, none⟩), .int .i64 (i : Int), .pointer (some ⟨bc, 0, none⟩)] w fun e w' => ∃ b', e = .returned (.pointer (some ⟨b', 0, none⟩)) ∧ NAt w' (d + 1) (withT d t i c) b' ∧ Nw w w' := by
  have hhalf : Hid (Calls Try.prog 97 #[.pointer (some ⟨bc, 0, none⟩)] w fun e w' => ∃ bl br, e = .returned (.tuple #[.pointer (some ⟨bl, 0, none⟩), .int .u64 (midK d c), .pointer (some ⟨br, 0, none⟩)]) ∧ NAt w' d (lefT d c) bl ∧ NAt w' d (rigT d c) br ∧ Nw w w') := c_halves w hc (by omega) hs2 hfm
  obtain ⟨kv, vv, sv, bs, h1, h20, h3, h4, h5⟩ := h
  obtain ⟨kv', vv', sv', g1, g2⟩ := hc.keys
  have d0 := g1.c0
  obtain ⟨ak, ck, rfl, hk1, hk2⟩ := Hs.form h20
  obtain ⟨av, cv, rfl, hv1, hv2⟩ := Hs.form h4
  obtain ⟨ac, cc, rfl, hq1, hq2⟩ := Hs.form g2
  have c0 : Hid (w.cell? ⟨b, 0, none⟩ = some (.slice ak t.1.length ck)) := h1.c0
  have c2 : Hid (w.cell? ⟨b, 2, none⟩ = some (.slice av bs.length cv)) := h1.c2
  have hbl0 := kids_length h5
  have hwT : Hid (withT d t i c = (t.1.take i ++ [midK d c] ++ t.1.drop i, t.2.take i ++ [lefT d c, rigT d c] ++ t.2.drop (i + 1))) := if_neg (by omega)
  have hkk : Hid (∀ w' bl br, Nw w w' → NAt w' d (lefT d c) bl → NAt w' d (rigT d c) br → Kids (NAt w' d) (t.2.take i ++ [lefT d c, rigT d c] ++ t.2.drop (i + 1)) (bs.take i ++ [bl, br] ++ bs.drop (i + 1))) := fun w' bl br hw ha hb =>
    kids_append (kids_append (kids_take i (h5.nw hw)) ⟨ha, hb, trivial⟩) (kids_drop (i + 1) (h5.nw hw))
  have hbi : i < bs.length := by omega
  have hsm : (7 : Int) < (((keysOf d c).length : Nat) : Int) := by omega
  have hsplP : Hid (∀ w' bl br, Nw w w' → ∀ o, Ps w' o [bl, br] → Calls Try.prog 96 #[.slice av bs.length cv, .int .i64 (i : Int), .int .i64 ((i : Int) + 1), o] w' fun e w2 => ∃ u, e = .returned u ∧ Ps w2 u (bs.take i ++ [bl, br] ++ bs.drop (i + 1)) ∧ Nw w' w2) :=
    fun w' bl br hw o ho => c_splicedP (i := i) (j := i + 1) (os := [bl, br]) (o := o) w' (Hs.nw h4 hw) ho (by omega) (by omega) (by omega) (by simp)
  have hsplK : Hid (∀ w' k, Nw w w' → ∀ o, Ks w' o [k] → Calls Try.prog 82 #[.slice ak t.1.length ck, .int .i64 (i : Int), .int .i64 (i : Int), o] w' fun e w2 => ∃ u, e = .returned u ∧ Ks w2 u (t.1.take i ++ [k] ++ t.1.drop i) ∧ Nw w' w2) :=
    fun w' k hw o ho => c_splicedK (i := i) (j := i) (os := [k]) (o := o) w' (Hs.nw h20 hw) ho (by omega) (by omega) (by omega) (by simp)
  have hwr : IntKind.i64.wrap ((i : Int) + 1) = (i : Int) + 1 := by rw [IntKind.wrap_i64]; omega
  clear h3 h5 h4 g2 hc hi hl hs g1 h1 h20 hbl0 hfm hs2 hik hl1
  generalize (keysOf d c).length = kl at *
  generalize withT d t i c = T' at *
  generalize lefT d c = tl at *
  generalize rigT d c = tr at *
  generalize midK d c = mk at *
  go_enter Try.func81, Try.ntmps81
  go_wp2_with (go_at_call 97; refine hhalf.out.mono ?_; rintro e W ⟨bl, br, rfl, hbl0, hbr0, hW⟩; refine stop_here ?_)
  unfold Hid
  have hbl : Hid (NAt W d tl bl) := hbl0
  have hbr : Hid (NAt W d tr br) := hbr0
  clear hhalf d0 hbl0 hbr0
  go_wp2
  have hSof : ∀ w', Nw W w' → (fun w' : World => Nw W w' ∧ w'.cell? ⟨b, 0, none⟩ = some (.slice ak t.1.length ck) ∧ w'.cell? ⟨b, 2, none⟩ = some (.slice av bs.length cv)) w' := fun w' hw => ⟨hw, (nw_trans hW hw).cell c0.out, (nw_trans hW hw).cell c2.out⟩
  have hS := hSof _ (nw_drew (nw_refl W))
  refine wp_region_plan [] 22 [(0, []), (1, []), (2, []), (3, []), (4, []), (5, []), (6, []), (9, []), (10, []), (11, []), (12, []), (13, []), (14, []), (15, []), (16, []), (17, []), (0, [(7, []), (8, [7]), (18, []), (19, [8, 18])]), (20, []), (0, [(21, [])])] (fun w' : World => Nw W w' ∧ w'.cell? ⟨b, 0, none⟩ = some (.slice ak t.1.length ck) ∧ w'.cell? ⟨b, 2, none⟩ = some (.slice av bs.length cv)) (by kernel_rfl) (by kernel_rfl) ?_
  refine plan_quiet _ ?_ rfl hS rfl ?_ ?_
  rotate_left
  · rintro w' ⟨hS1, hS2, hS3⟩; go_simp; first | rfl | (rw [if_pos (by omega)]; done) | (rw [if_pos (by omega)]; rfl) | (rw [if_pos (by omega)]; go_simp; rfl)
  simp only [Act.put, List.setIfInBounds_toArray, List.set_cons_zero, List.set_cons_succ]
  refine plan_quiet _ ?_ rfl hS rfl ?_ ?_
  rotate_left
  · rintro w' ⟨hS1, hS2, hS3⟩; go_simp; first | rfl | (rw [if_pos (by omega)]; done) | (rw [if_pos (by omega)]; rfl) | (rw [if_pos (by omega)]; go_simp; rfl)
  simp only [Act.put, List.setIfInBounds_toArray, List.set_cons_zero, List.set_cons_succ]
  refine plan_quiet _ ?_ rfl hS rfl ?_ ?_
  rotate_left
  · rintro w' ⟨hS1, hS2, hS3⟩; go_simp; first | rfl | (rw [if_pos (by omega)]; done) | (rw [if_pos (by omega)]; rfl) | (rw [if_pos (by omega)]; go_simp; rfl)
  simp only [Act.put, List.setIfInBounds_toArray, List.set_cons_zero, List.set_cons_succ]
  refine plan_quiet _ ?_ rfl hS rfl ?_ ?_
  rotate_left
  · rintro w' ⟨hS1, hS2, hS3⟩; go_simp; first | rfl | (rw [if_pos (by omega)]; done) | (rw [if_pos (by omega)]; rfl) | (rw [if_pos (by omega)]; go_simp; rfl)
  simp only [Act.put, List.setIfInBounds_toArray, List.set_cons_zero, List.set_cons_succ]
  refine plan_quiet _ ?_ rfl hS rfl ?_ ?_
  rotate_left
  · rintro w' ⟨hS1, hS2, hS3⟩; go_simp; first | rfl | (rw [if_pos (by omega)]; done) | (rw [if_pos (by omega)]; rfl) | (rw [if_pos (by omega)]; go_simp; rfl)
  simp only [Act.put, List.setIfInBounds_toArray, List.set_cons_zero, List.set_cons_succ]
  refine plan_quiet _ ?_ rfl hS rfl ?_ ?_
  rotate_left
  · rintro w' ⟨hS1, hS2, hS3⟩; go_simp; first | rfl | (rw [if_pos (by omega)]; done) | (rw [if_pos (by omega)]; rfl) | (rw [if_pos (by omega)]; go_simp; rfl)
  simp only [Act.put, List.setIfInBounds_toArray, List.set_cons_zero, List.set_cons_succ]
  refine plan_quiet _ ?_ rfl hS rfl ?_ ?_
  rotate_left
  · rintro w' ⟨hS1, hS2, hS3⟩; go_simp; first | rfl | (rw [if_pos (by omega)]; done) | (rw [if_pos (by omega)]; rfl) | (rw [if_pos (by omega)]; go_simp; rfl)
  simp only [Act.put, List.setIfInBounds_toArray, List.set_cons_zero, List.set_cons_succ]
  refine plan_quiet _ ?_ rfl hS rfl ?_ ?_
  rotate_left
  · rintro w' ⟨hS1, hS2, hS3⟩; go_simp; first | rfl | (rw [if_pos (by omega)]; done) | (rw [if_pos (by omega)]; rfl) | (rw [if_pos (by omega)]; go_simp; rfl)
  simp only [Act.put, List.setIfInBounds_toArray, List.set_cons_zero, List.set_cons_succ]
  refine plan_quiet _ ?_ rfl hS rfl ?_ ?_
  rotate_left
  · rintro w' ⟨hS1, hS2, hS3⟩; go_simp; first | rfl | (rw [if_pos (by omega)]; done) | (rw [if_pos (by omega)]; rfl) | (rw [if_pos (by omega)]; go_simp; rfl)
  simp only [Act.put, List.setIfInBounds_toArray, List.set_cons_zero, List.set_cons_succ]
  refine plan_quiet _ ?_ rfl hS rfl ?_ ?_
  rotate_left
  · rintro w' ⟨hS1, hS2, hS3⟩; go_simp; first | rfl | (rw [if_pos (by omega)]; done) | (rw [if_pos (by omega)]; rfl) | (rw [if_pos (by omega)]; go_simp; rfl)
  simp only [Act.put, List.setIfInBounds_toArray, List.set_cons_zero, List.set_cons_succ]
  refine plan_quiet _ ?_ rfl hS rfl ?_ ?_
  rotate_left
  · rintro w' ⟨hS1, hS2, hS3⟩; go_simp; first | rfl | (rw [if_pos (by omega)]; done) | (rw [if_pos (by omega)]; rfl) | (rw [if_pos (by omega)]; go_simp; rfl)
  simp only [Act.put, List.setIfInBounds_toArray, List.set_cons_zero, List.set_cons_succ]
  refine plan_quiet _ ?_ rfl hS rfl ?_ ?_
  rotate_left
  · rintro w' ⟨hS1, hS2, hS3⟩; go_simp; first | rfl | (rw [if_pos (by omega)]; done) | (rw [if_pos (by omega)]; rfl) | (rw [if_pos (by omega)]; go_simp; rfl)
  simp only [Act.put, List.setIfInBounds_toArray, List.set_cons_zero, List.set_cons_succ]
  refine plan_quiet _ ?_ rfl hS rfl ?_ ?_
  rotate_left
  · rintro w' ⟨hS1, hS2, hS3⟩; go_simp; first | rfl | (rw [if_pos (by omega)]; done) | (rw [if_pos (by omega)]; rfl) | (rw [if_pos (by omega)]; go_simp; rfl)
  simp only [Act.put, List.setIfInBounds_toArray, List.set_cons_zero, List.set_cons_succ]
  refine plan_quiet _ (.int .i64 ((i : Int) + 1)) rfl hS rfl ?_ ?_
  · rintro w' ⟨hS1, hS2, hS3⟩; go_simp
  simp only [Act.put, List.setIfInBounds_toArray, List.set_cons_zero, List.set_cons_succ]
  refine plan_quiet _ ?_ rfl hS rfl ?_ ?_
  rotate_left
  · rintro w' ⟨hS1, hS2, hS3⟩; go_simp; first | rfl | (rw [if_pos (by omega)]; done) | (rw [if_pos (by omega)]; rfl) | (rw [if_pos (by omega)]; go_simp; rfl)
  simp only [Act.put, List.setIfInBounds_toArray, List.set_cons_zero, List.set_cons_succ]
  refine plan_quiet _ ?_ rfl hS rfl ?_ ?_
  rotate_left
  · rintro w' ⟨hS1, hS2, hS3⟩; go_simp; first | rfl | (rw [if_pos (by omega)]; done) | (rw [if_pos (by omega)]; rfl) | (rw [if_pos (by omega)]; go_simp; rfl)
  simp only [Act.put, List.setIfInBounds_toArray, List.set_cons_zero, List.set_cons_succ]
  refine plan_group (fun | 7 => 45 | 8 => 46 | 18 => 56 | 19 => 57 | _ => 0) (fun | 7 => fun v w => Ks w v [mk] | 8 => fun v w => Ks w v (t.1.take i ++ [mk] ++ t.1.drop i) | 18 => fun v w => Ps w v [bl, br] | 19 => fun v w => Ps w v (bs.take i ++ [bl, br] ++ bs.drop (i + 1)) | _ => fun _ _ => True) Nw (by decide) (by decide) (by decide) (fun w1 w2 h1 h2 => hSof _ (nw_trans h1.1 h2)) ?FG hS ?steps ?fin
  case FG =>
    intro p hp v w1 w2 h1 h2
    simp only [List.mem_cons, List.not_mem_nil, or_false] at hp
    rcases hp with rfl | rfl | rfl | rfl <;> exact Hs.nw h1 h2
  case steps =>
    intro p hp x w2 hS2 hd
    simp only [List.mem_cons, List.not_mem_nil, or_false] at hp
    rcases hp with rfl | rfl | rfl | rfl
    · refine ⟨_, rfl, fun K hK => ?_⟩
      simp only [putAll, Act.put, List.setIfInBounds_toArray, List.set_cons_zero, List.set_cons_succ] at hK ⊢
      clear hd hS
      go_wp2
      exact hK _ _ (nw_alloc (nw_refl w2) _) (ks_one w2 mk _)
    · refine ⟨_, rfl, fun K hK => ?_⟩
      simp only [putAll, Act.put, List.setIfInBounds_toArray, List.set_cons_zero, List.set_cons_succ] at hK ⊢
      have h7 := hsplK.out w2 mk (nw_trans hW hS2.1) (x 7) (hd 7 (by simp))
      clear hd hS
      go_wp2_with (go_at_call 82; refine h7.mono ?_; rintro e w3 ⟨u, rfl, hu, hn⟩; refine stop_here ?_)
      unfold Hid
      go_wp2
      exact hK _ _ hn hu
    · refine ⟨_, rfl, fun K hK => ?_⟩
      simp only [putAll, Act.put, List.setIfInBounds_toArray, List.set_cons_zero, List.set_cons_succ] at hK ⊢
      clear hd hS
      go_wp2
      exact hK _ _ (nw_alloc (nw_refl w2) _) (ps_two w2 bl br _)
    · refine ⟨_, rfl, fun K hK => ?_⟩
      simp only [putAll, Act.put, List.setIfInBounds_toArray, List.set_cons_zero, List.set_cons_succ] at hK ⊢
      have h7 := hsplP.out w2 bl br (nw_trans hW hS2.1) (x 18) (hd 18 (by simp))
      clear hd hS
      go_wp2_with (go_at_call 96; refine h7.mono ?_; rintro e w3 ⟨u, rfl, hu, hn⟩; refine stop_here ?_)
      unfold Hid
      go_wp2
      exact hK _ _ hn hu
  case fin =>
    intro x w2 hS2 hF
    have f8 : Ks w2 (x 8) (t.1.take i ++ [mk] ++ t.1.drop i) := hF (8, [7]) (by simp)
    have f19 : Ps w2 (x 19) (bs.take i ++ [bl, br] ++ bs.drop (i + 1)) := hF (19, [8, 18]) (by simp)
    obtain ⟨a8, c8, e8, _, _⟩ := Hs.form f8
    obtain ⟨a19, c19, e19, _, _⟩ := Hs.form f19
    clear hF hS
    simp only [putAll, Act.put, List.setIfInBounds_toArray, List.set_cons_zero, List.set_cons_succ]
    rw [e8] at f8
    rw [e19] at f19
    rw [e8, e19]
    have f8 : Hid (Ks w2 (.slice a8 (t.1.take i ++ [mk] ++ t.1.drop i).length c8) (t.1.take i ++ [mk] ++ t.1.drop i)) := f8
    have f19 : Hid (Ps w2 (.slice a19 (bs.take i ++ [bl, br] ++ bs.drop (i + 1)).length c19) (bs.take i ++ [bl, br] ++ bs.drop (i + 1))) := f19
    generalize (t.1.take i ++ [mk] ++ t.1.drop i).length = n8 at *
    generalize (bs.take i ++ [bl, br] ++ bs.drop (i + 1)).length = n19 at *
    clear e8 e19
    refine plan_quiet _ ?_ rfl hS2 rfl ?_ ?_
    rotate_left
    · rintro w' ⟨hS1, hS2, hS3⟩; go_simp; first | rfl | (rw [if_pos (by omega)]; done) | (rw [if_pos (by omega)]; rfl) | (rw [if_pos (by omega)]; go_simp; rfl)
    simp only [Act.put, List.setIfInBounds_toArray, List.set_cons_zero, List.set_cons_succ]
    refine plan_act _ rfl (fun K1 hK1 => ?_)
    go_wp2
    have hW3 : Nw w2 (w2.alloc (.cells #[.slice a8 n8 c8, .slice none 0 0, .slice a19 n19 c19] 95)) := nw_alloc (nw_refl w2) _
    have hb3 : Nd (w2.alloc (.cells #[.slice a8 n8 c8, .slice none 0 0, .slice a19 n19 c19] 95)) w2.heap.size (.slice a8 n8 c8) (.slice none 0 0) (.slice a19 n19 c19) := heap_alloc_new w2 _
    have hW4 := nw_trans hS2.1 hW3
    have hW5 := nw_trans hW hW4
    refine hK1 _ _ (hSof _ hW4) ?_
    clear hK1 K1 hSof hS2
    generalize w2.alloc (.cells #[.slice a8 n8 c8, .slice none 0 0, .slice a19 n19 c19] 95) = W3 at *
    refine plan_tail ?_
    simp only [List.drop_succ_cons, List.drop_zero]
    go_wp2
    go_ret
    refine ⟨_, rfl, ?_, hW5⟩
    rw [hwT.out]
    exact ⟨_, _, _, _, hb3, Hs.nw f8.out hW3, Hs.nil _, Hs.nw f19.out hW3, hkk.out _ _ _ hW5 (hbl.out.nw hW4) (hbr.out.nw hW4)⟩

/-- One kid in another's place. -/
theorem c_with {d : Nat} {t : Tr (d + 1)} {c : Tr d} {b bc i : Nat} (w : World) (h : NAt w (d + 1) t b) (hc : NAt w d c bc) (hi : i < t.2.length) (hfm' : t.2.length ≤ t.1.length + 1) (hl1 : t.1.length ≤ 30) (hs2 : (keysOf d c).length ≤ 10) (hfm : Fm d c) :
    Calls Try.prog 81 #[.pointer (some ⟨b, 0, none⟩), .int .i64 (i : Int), .pointer (some ⟨bc, 0, none⟩)] w fun e w' => ∃ b', e = .returned (.pointer (some ⟨b', 0, none⟩)) ∧ NAt w' (d + 1) (withT d t i c) b' ∧ Nw w w' := by
  by_cases hs : (keysOf d c).length ≤ 7
  · exact c_withA w h hc hi (by omega) hs
  · exact c_withB w h hc hi (by omega) (by omega) (by omega) (by omega) hs2 hfm
end Go.Proofs.Ytnljfhjindenpab
