/-
  Package tree: del, topped, New, Put, Del.
-/
import Derived.Test.YtnljfhjindenpabTreeW8
namespace Go.Proofs.Ytnljfhjindenpab
set_option linter.unusedVariables false
set_option linter.unusedSimpArgs false
set_option maxRecDepth 20000
open Go.RowKit

set_option maxHeartbeats 3200000 in
theorem c_del0 {t : Tr 0} {b : Nat} {k : Int} (w : World) (h : NAt w 0 t b) (hr : Rise (t.map (·.1))) (hl : t.length ≤ 50) :
    Calls Try.prog 52 #[.pointer (some ⟨b, 0, none⟩), .int .u64 k] w fun e' w' => ∃ b', e' = .returned (.pointer (some ⟨b', 0, none⟩)) ∧ NAt w' 0 (delT 0 t k) b' ∧ Nw w w' := by
  have hleaf := c_isLeaf0 w h
  have hspan := c_span (k := k) w h hr (by simp [keysOf]; omega)
  have hcnt := hi_lo (keysOf 0 t) k hr
  have hhi := hi_le (keysOf 0 t) k
  have hkl : (keysOf 0 t).length = t.length := by simp [keysOf]
  obtain ⟨kv, vv, sv, h1, h2, h3, h4⟩ := h
  obtain ⟨ak, ck, rfl, hk1, hk2⟩ := Hs.form h2
  obtain ⟨av, cv, rfl, hv1, hv2⟩ := Hs.form h3
  have c0 : Hid (w.cell? ⟨b, 0, none⟩ = some (.slice ak (t.map (·.1)).length ck)) := h1.c0
  have c1 : Hid (w.cell? ⟨b, 1, none⟩ = some (.slice av (t.map (·.2)).length cv)) := h1.c1
  have hdelT : Hid (delT 0 t k = t.take (lo (keysOf 0 t) k) ++ t.drop (hi (keysOf 0 t) k)) := rfl
  generalize delT 0 t k = T' at *
  generalize lo (keysOf 0 t) k = L at *
  generalize hi (keysOf 0 t) k = H at *
  have hsK : Hid (∀ w', Nw w w' → Calls Try.prog 82 #[.slice ak (t.map (·.1)).length ck, .int .i64 (L : Int), .int .i64 (H : Int), .slice none 0 0] w' fun e w2 => ∃ u, e = .returned u ∧ Ks w2 u ((t.map (·.1)).take L ++ [] ++ (t.map (·.1)).drop H) ∧ Nw w' w2) :=
    fun w' hw => c_splicedK (os := []) w' (Hs.nw h2 hw) (Hs.nil w') (by omega) (by simp; omega) (by simp; omega) (by simp)
  have hsE : Hid (∀ w', Nw w w' → Calls Try.prog 83 #[.slice av (t.map (·.2)).length cv, .int .i64 (L : Int), .int .i64 (H : Int), .slice none 0 0] w' fun e' w2 => ∃ u, e' = .returned u ∧ Vs w2 u ((t.map (·.2)).take L ++ [] ++ (t.map (·.2)).drop H) ∧ Nw w' w2) :=
    fun w' hw => c_splicedE (os := []) w' (Hs.nw h3 hw) (Hs.nil w') (by omega) (by simp; omega) (by simp; omega) (by simp)
  clear h1 h2 h3 h4 hr hk1 hv1
  generalize (t.map (·.1)).length = nk at *
  generalize (t.map (·.2)).length = nv at *
  go_enter Try.func52, Try.ntmps52
  go_wp2_with (first | (go_at_call 78; refine hleaf.mono ?_; rintro e' w' ⟨rfl, rfl⟩) | (go_at_call 79; refine hspan.mono ?_; rintro e' w' ⟨rfl, rfl⟩))
  have hSof : ∀ w', Nw w w' → (fun w' : World => Nw w w' ∧ w'.cell? ⟨b, 0, none⟩ = some (.slice ak nk ck) ∧ w'.cell? ⟨b, 1, none⟩ = some (.slice av nv cv)) w' := fun w' hw => ⟨hw, hw.cell c0.out, hw.cell c1.out⟩
  have hS := hSof _ (nw_drew (nw_refl w))
  refine wp_region_ord [] 16 [(0, true), (1, true), (2, true), (3, true), (4, true), (5, true), (7, true), (8, true), (9, true), (10, true), (11, true), (12, true), (6, false), (13, false), (14, true), (15, false)] (fun w' : World => Nw w w' ∧ w'.cell? ⟨b, 0, none⟩ = some (.slice ak nk ck) ∧ w'.cell? ⟨b, 1, none⟩ = some (.slice av nv cv)) (by kernel_rfl) (by kernel_rfl) ?_
  refine ord_quietL _ ?_ rfl hS rfl ?_ ?_
  rotate_left
  · rintro w' ⟨hS1, hS2, hS3⟩; go_simp; first | rfl | (rw [if_pos (by omega)]; done) | (rw [if_pos (by omega)]; rfl) | (rw [if_pos (by omega)]; go_simp; rfl)
  simp only [Act.put, List.setIfInBounds_toArray, List.set_cons_zero, List.set_cons_succ]
  refine ord_quietL _ ?_ rfl hS rfl ?_ ?_
  rotate_left
  · rintro w' ⟨hS1, hS2, hS3⟩; go_simp; first | rfl | (rw [if_pos (by omega)]; done) | (rw [if_pos (by omega)]; rfl) | (rw [if_pos (by omega)]; go_simp; rfl)
  simp only [Act.put, List.setIfInBounds_toArray, List.set_cons_zero, List.set_cons_succ]
  refine ord_quietL _ ?_ rfl hS rfl ?_ ?_
  rotate_left
  · rintro w' ⟨hS1, hS2, hS3⟩; go_simp; first | rfl | (rw [if_pos (by omega)]; done) | (rw [if_pos (by omega)]; rfl) | (rw [if_pos (by omega)]; go_simp; rfl)
  simp only [Act.put, List.setIfInBounds_toArray, List.set_cons_zero, List.set_cons_succ]
  refine ord_quietL _ ?_ rfl hS rfl ?_ ?_
  rotate_left
  · rintro w' ⟨hS1, hS2, hS3⟩; go_simp; first | rfl | (rw [if_pos (by omega)]; done) | (rw [if_pos (by omega)]; rfl) | (rw [if_pos (by omega)]; go_simp; rfl)
  simp only [Act.put, List.setIfInBounds_toArray, List.set_cons_zero, List.set_cons_succ]
  refine ord_quietL _ ?_ rfl hS rfl ?_ ?_
  rotate_left
  · rintro w' ⟨hS1, hS2, hS3⟩; go_simp; first | rfl | (rw [if_pos (by omega)]; done) | (rw [if_pos (by omega)]; rfl) | (rw [if_pos (by omega)]; go_simp; rfl)
  simp only [Act.put, List.setIfInBounds_toArray, List.set_cons_zero, List.set_cons_succ]
  refine ord_quietL _ ?_ rfl hS rfl ?_ ?_
  rotate_left
  · rintro w' ⟨hS1, hS2, hS3⟩; go_simp; first | rfl | (rw [if_pos (by omega)]; done) | (rw [if_pos (by omega)]; rfl) | (rw [if_pos (by omega)]; go_simp; rfl)
  simp only [Act.put, List.setIfInBounds_toArray, List.set_cons_zero, List.set_cons_succ]
  refine ord_quietL _ ?_ rfl hS rfl ?_ ?_
  rotate_left
  · rintro w' ⟨hS1, hS2, hS3⟩; go_simp; first | rfl | (rw [if_pos (by omega)]; done) | (rw [if_pos (by omega)]; rfl) | (rw [if_pos (by omega)]; go_simp; rfl)
  simp only [Act.put, List.setIfInBounds_toArray, List.set_cons_zero, List.set_cons_succ]
  refine ord_quietL _ ?_ rfl hS rfl ?_ ?_
  rotate_left
  · rintro w' ⟨hS1, hS2, hS3⟩; go_simp; first | rfl | (rw [if_pos (by omega)]; done) | (rw [if_pos (by omega)]; rfl) | (rw [if_pos (by omega)]; go_simp; rfl)
  simp only [Act.put, List.setIfInBounds_toArray, List.set_cons_zero, List.set_cons_succ]
  refine ord_quietL _ ?_ rfl hS rfl ?_ ?_
  rotate_left
  · rintro w' ⟨hS1, hS2, hS3⟩; go_simp; first | rfl | (rw [if_pos (by omega)]; done) | (rw [if_pos (by omega)]; rfl) | (rw [if_pos (by omega)]; go_simp; rfl)
  simp only [Act.put, List.setIfInBounds_toArray, List.set_cons_zero, List.set_cons_succ]
  refine ord_quietL _ ?_ rfl hS rfl ?_ ?_
  rotate_left
  · rintro w' ⟨hS1, hS2, hS3⟩; go_simp; first | rfl | (rw [if_pos (by omega)]; done) | (rw [if_pos (by omega)]; rfl) | (rw [if_pos (by omega)]; go_simp; rfl)
  simp only [Act.put, List.setIfInBounds_toArray, List.set_cons_zero, List.set_cons_succ]
  refine ord_quietL _ ?_ rfl hS rfl ?_ ?_
  rotate_left
  · rintro w' ⟨hS1, hS2, hS3⟩; go_simp; first | rfl | (rw [if_pos (by omega)]; done) | (rw [if_pos (by omega)]; rfl) | (rw [if_pos (by omega)]; go_simp; rfl)
  simp only [Act.put, List.setIfInBounds_toArray, List.set_cons_zero, List.set_cons_succ]
  refine ord_quietL _ ?_ rfl hS rfl ?_ ?_
  rotate_left
  · rintro w' ⟨hS1, hS2, hS3⟩; go_simp; first | rfl | (rw [if_pos (by omega)]; done) | (rw [if_pos (by omega)]; rfl) | (rw [if_pos (by omega)]; go_simp; rfl)
  simp only [Act.put, List.setIfInBounds_toArray, List.set_cons_zero, List.set_cons_succ]
  refine ord_actL _ rfl (fun K1 hK1 => ?_)
  go_wp2_with (go_at_call 82; refine (hsK.out _ hS.1).mono ?_; rintro e W5 ⟨u5, rfl, hu5, hn5⟩; refine stop_here ?_)
  unfold Hid
  obtain ⟨a5, c5, rfl, _, _⟩ := Hs.form hu5
  have hu5 : Hid (Ks W5 (.slice a5 ((List.map (fun x : Pr => x.1) t).take L ++ [] ++ (List.map (fun x : Pr => x.1) t).drop H).length c5) ((List.map (fun x : Pr => x.1) t).take L ++ [] ++ (List.map (fun x : Pr => x.1) t).drop H)) := hu5
  generalize ((List.map (fun x : Pr => x.1) t).take L ++ [] ++ (List.map (fun x : Pr => x.1) t).drop H).length = n5 at *
  have hW5 := nw_trans hS.1 hn5
  go_wp2
  refine hK1 _ _ (hSof _ hW5) ?_
  clear hK1 K1 hS hn5
  refine ord_actL _ rfl (fun K1 hK1 => ?_)
  go_wp2_with (go_at_call 83; refine (hsE.out _ hW5).mono ?_; rintro e W7 ⟨u7, rfl, hu7, hn7⟩; refine stop_here ?_)
  unfold Hid
  obtain ⟨a7, c7, rfl, _, _⟩ := Hs.form hu7
  have hu7 : Hid (Vs W7 (.slice a7 ((List.map (fun x : Pr => x.2) t).take L ++ [] ++ (List.map (fun x : Pr => x.2) t).drop H).length c7) ((List.map (fun x : Pr => x.2) t).take L ++ [] ++ (List.map (fun x : Pr => x.2) t).drop H)) := hu7
  generalize ((List.map (fun x : Pr => x.2) t).take L ++ [] ++ (List.map (fun x : Pr => x.2) t).drop H).length = n7 at *
  have hW7 := nw_trans hW5 hn7
  go_wp2
  refine hK1 _ _ (hSof _ hW7) ?_
  clear hK1 K1
  have hS := hSof _ hW7
  refine ord_quietL _ ?_ rfl hS rfl ?_ ?_
  rotate_left
  · rintro w' ⟨hS1, hS2, hS3⟩; go_simp; first | rfl | (rw [if_pos (by omega)]; done) | (rw [if_pos (by omega)]; rfl) | (rw [if_pos (by omega)]; go_simp; rfl)
  simp only [Act.put, List.setIfInBounds_toArray, List.set_cons_zero, List.set_cons_succ]
  refine ord_actL _ rfl (fun K1 hK1 => ?_)
  go_wp2
  have hW8 : Nw W7 (W7.alloc (.cells #[.slice a5 n5 c5, .slice a7 n7 c7, .slice none 0 0] 95)) := nw_alloc (nw_refl W7) _
  have hb8 : Nd (W7.alloc (.cells #[.slice a5 n5 c5, .slice a7 n7 c7, .slice none 0 0] 95)) W7.heap.size (.slice a5 n5 c5) (.slice a7 n7 c7) (.slice none 0 0) := heap_alloc_new W7 _
  have hW9 := nw_trans hW7 hW8
  refine hK1 _ _ (hSof _ hW9) ?_
  clear hK1 K1 hSof hS
  generalize W7.alloc (.cells #[.slice a5 n5 c5, .slice a7 n7 c7, .slice none 0 0] 95) = W8 at *
  refine ord_tail ?_
  simp only [List.drop_succ_cons, List.drop_zero]
  go_wp2
  go_ret
  refine ⟨_, rfl, ?_, hW9⟩
  rw [hdelT.out]
  refine ⟨_, _, _, hb8, ?_, ?_, Hs.nil _⟩
  · have := Hs.nw (Hs.nw hu5.out hn7) hW8
    unfold Ks
    simpa [List.map_take, List.map_drop] using this
  · have := Hs.nw hu7.out hW8
    unfold Vs
    simpa [List.map_take, List.map_drop] using this

set_option maxHeartbeats 3200000 in
theorem c_del1 {d : Nat} {t : Tr (d + 1)} {c C' : Tr d} {T' : Tr (d + 1)} {b : Nat} {k : Int} (w : World) (h : NAt w (d + 1) t b) (hr : Rise t.1) (hg : t.2[hi t.1 k]? = some c) (hfm : t.2.length = t.1.length + 1) (hl : t.1.length ≤ 20) (hcs : (keysOf d C').length ≤ 7) (hcf : Fm d C')
    (ih : ∀ w' bc, NAt w' d c bc → Calls Try.prog 52 #[.pointer (some ⟨bc, 0, none⟩), .int .u64 k] w' fun e' w2 => ∃ b', e' = .returned (.pointer (some ⟨b', 0, none⟩)) ∧ NAt w2 d C' b' ∧ Nw w' w2)
    (hT : T' = if (keysOf d C').length < 3 then fusedT d (withT d t (hi t.1 k) C') (hi t.1 k - 1) else withT d t (hi t.1 k) C')
    (hfu : (keysOf d C').length < 3 → ∀ w' b', NAt w' (d + 1) (withT d t (hi t.1 k) C') b' → Calls Try.prog 84 #[.pointer (some ⟨b', 0, none⟩), .int .i64 ((hi t.1 k - 1 : Nat) : Int)] w' fun e' w2 => ∃ b'', e' = .returned (.pointer (some ⟨b'', 0, none⟩)) ∧ NAt w2 (d + 1) (fusedT d (withT d t (hi t.1 k) C') (hi t.1 k - 1)) b'' ∧ Nw w' w2) :
    Calls Try.prog 52 #[.pointer (some ⟨b, 0, none⟩), .int .u64 k] w fun e' w' => ∃ b', e' = .returned (.pointer (some ⟨b', 0, none⟩)) ∧ NAt w' (d + 1) T' b' ∧ Nw w w' := by
  have hleaf := c_isLeaf1 w h (by omega)
  have hway := c_way (k := k) w h hr (by simp [keysOf]; omega)
  rw [show keysOf (d + 1) t = t.1 from rfl] at hway
  have hwith : Hid (∀ w' bc', Nw w w' → NAt w' d C' bc' → Calls Try.prog 81 #[.pointer (some ⟨b, 0, none⟩), .int .i64 (hi t.1 k : Nat), .pointer (some ⟨bc', 0, none⟩)] w' fun e' w2 => ∃ b', e' = .returned (.pointer (some ⟨b', 0, none⟩)) ∧ NAt w2 (d + 1) (withT d t (hi t.1 k) C') b' ∧ Nw w' w2) := by
    intro w' bc' hw hb
    exact c_with w' (h.nw hw) hb (by have := hi_le t.1 k; omega) (by omega) (by omega) (by omega) hcf
  obtain ⟨kv, vv, sv, bs, h1, h2, h3, h4, h5⟩ := h
  have hbl := kids_length h5
  obtain ⟨bc, hbc, nc⟩ := kids_get _ h5 hg
  obtain ⟨av, cv, rfl, hv1, hv2⟩ := Hs.form h4
  obtain ⟨sb, so, rfl, k00⟩ := Ps.get h4 hbc
  have c2 := h1.c2
  have hHl : hi t.1 k < bs.length := by have := hi_le t.1 k; omega
  have hHl2 : bs.length ≤ 21 := by omega
  have hdel := ih w bc nc
  have hfu : Hid _ := hfu
  have hT : Hid _ := hT
  generalize withT d t (hi t.1 k) C' = Tw at *
  generalize hi t.1 k = H at *
  generalize fusedT d Tw (H - 1) = Tf at *
  obtain ⟨J, hJ⟩ : ∃ J : Nat, Hid (J = H - 1) := ⟨_, rfl⟩
  rw [← hJ.out] at hfu
  have hmx : ∀ (w : World) (ts : Array TypeId) (t : TypeId), (Builtin.max_ ts t #[.int .i64 0, .int .i64 ((H : Int) - 1)]).run Try.prog w = .ok (.int .i64 (J : Int)) w := fun w ts t => by
    rw [run_max_int2 w ts t .i64 .i64 0 ((H : Int) - 1)]; congr 2; have := hJ.out; split <;> omega
  clear ih h1 h2 h3 h4 h5 hr hg hfm hl hcf nc hbl hbc
  generalize bs.length = nb at *
  go_enter Try.func52, Try.ntmps52
  go_wp2_with (first | (go_at_call 78; refine hleaf.mono ?_; rintro e' w' ⟨rfl, rfl⟩) | (go_at_call 80; refine hway.mono ?_; rintro e' w' ⟨rfl, rfl⟩) | (go_at_call 52; refine hdel.mono ?_; rintro e' W1 ⟨b1, rfl, hb1, hn1⟩; refine stop_here ?_))
  unfold Hid
  obtain ⟨kv1, vv1, sv1, g1, g2⟩ := hb1.keys
  have d0 := g1.c0
  obtain ⟨ac, cc, rfl, hq1, hq2⟩ := Hs.form g2
  have hb1 : Hid (NAt W1 d C' b1) := hb1
  clear hleaf hway hdel k00 c2 g1 g2
  by_cases hs : (keysOf d C').length < 3
  · have hsi : (((keysOf d C').length : Nat) : Int) < 3 := by omega
    have hT' : Hid (T' = Tf) := by unfold Hid; rw [hT.out, if_pos hs]
    have hfu' : Hid _ := hfu.out hs
    clear hfu hT hs
    generalize (keysOf d C').length = kl at *
    go_wp2_with (go_at_call 81; refine (hwith.out W1 b1 hn1 hb1.out).mono ?_; rintro e' W2 ⟨b2, rfl, hb2, hn2⟩; refine stop_here ?_)
    unfold Hid
    clear d0
    go_wp2_with (go_at_call 84; refine (hfu'.out W2 b2 hb2).mono ?_; rintro e' W3 ⟨b3, rfl, hb3, hn3⟩; refine stop_here ?_)
    unfold Hid
    go_wp2
    go_ret
    rw [hT'.out]
    exact ⟨_, rfl, hb3, nw_trans hn1 (nw_trans hn2 hn3)⟩
  · have hsi : (3 : Int) ≤ (((keysOf d C').length : Nat) : Int) := by omega
    have hT' : Hid (T' = Tw) := by unfold Hid; rw [hT.out, if_neg hs]
    clear hfu hT hs
    generalize (keysOf d C').length = kl at *
    go_wp2_with (go_at_call 81; refine (hwith.out W1 b1 hn1 hb1.out).mono ?_; rintro e' W2 ⟨b2, rfl, hb2, hn2⟩; refine stop_here ?_)
    unfold Hid
    go_wp2
    go_ret
    rw [hT'.out]
    exact ⟨_, rfl, hb2, nw_trans hn1 hn2⟩

theorem c_del {k : Int} : ∀ {n m : Nat} {t : Tr n} {b : Nat} {lo' hi' : Int} (w : World), NAt w n t b → R n m 7 t lo' hi' → (n = 0 ∨ 1 ≤ m) → lo' ≤ k → k < hi' →
    Calls Try.prog 52 #[.pointer (some ⟨b, 0, none⟩), .int .u64 k] w fun e' w' => ∃ b', e' = .returned (.pointer (some ⟨b', 0, none⟩)) ∧ NAt w' n (delT n t k) b' ∧ Nw w w'
  | 0, m, t, b, _, _, w, h, hR, _, _, _ => c_del0 w h hR.2.1 (by have := hR.1; omega)
  | n + 1, m, t, b, _, _, w, h, hR, hm, h1, h2 => by
    obtain ⟨c, mm, nn, g1, g2, g3, g4, g5, g6, g7⟩ := R.find hR h1 h2
    have hp := (del_ok k g2 (.inr (by decide)) g3 g4).1
    have hps := hp.size
    have hil : hi t.1 k < t.2.length := by have := hi_le t.1 k; omega
    refine c_del1 w h (R.keys hR).1 g1 g5 (by omega) hps.2 (R.fm hp) (fun w' bc hb => c_del w' hb g2 (.inr (by decide)) g3 g4) ?_ ?_
    · rw [delT, g7]
    · intro hs w' b' hb'
      obtain ⟨tl, tr, n1, n2, n3, n4, n5⟩ := R.near hR (by omega) hil (c' := delT n c k) (by omega) (R.fm hp)
      have hw : withT n t (hi t.1 k) (delT n c k) = (t.1, t.2.take (hi t.1 k) ++ [delT n c k] ++ t.2.drop (hi t.1 k + 1)) := if_pos hps.2
      rw [hw] at hb' ⊢
      refine c_fused w' hb' n1 n2 ?_ (by simp only; omega) n3 n4 n5
      simp only [List.length_append, List.length_take, List.length_drop, List.length_cons, List.length_nil]
      omega

/-! ### Whole trees -/
/-- A tree in memory. -/
def TAt (w : World) (b : Nat) (n : Nat) (t : Tr n) : Prop := ∃ r, w.heap[b]? = some (.cells #[.pointer (some ⟨r, 0, none⟩)] 80 (0, 0)) ∧ NAt w n t r

theorem TAt.nw {w w' : World} {b n : Nat} {t : Tr n} (h : TAt w b n t) (hw : Nw w w') : TAt w' b n t := by
  obtain ⟨r, h1, h2⟩ := h
  exact ⟨r, hw.blk h1, h2.nw hw⟩

theorem c_topped : ∀ {n : Nat} {t : Tr n} {b : Nat} (w : World), NAt w n t b →
    Calls Try.prog 50 #[.pointer (some ⟨b, 0, none⟩)] w fun e w' => ∃ b', e = .returned (.pointer (some ⟨b', 0, none⟩)) ∧ TAt w' b' (topT n t).1 (topT n t).2 ∧ Nw w w'
  | 0, t, b, w, h => by
    have h0 := h
    obtain ⟨kv, vv, sv, h1, h2, h3, h4⟩ := h
    have c2 := h1.c2
    obtain ⟨av, cv, rfl, hv1, hv2⟩ := Hs.form h4
    have h0 : Hid (NAt w 0 t b) := h0
    clear h1 h2 h3 h4
    go_enter Try.func50, Try.ntmps50
    go_wp2
    go_ret
    have hn := nw_alloc (nw_refl w) (.cells #[.pointer (some ⟨b, 0, none⟩)] 80)
    exact ⟨_, rfl, ⟨_, heap_alloc_new w _, h0.out.nw hn⟩, hn⟩
  | n + 1, t, b, w, h => by
    have h0 := h
    obtain ⟨kv, vv, sv, bs, h1, h2, h3, h4, h5⟩ := h
    have c2 := h1.c2
    have hbl := kids_length h5
    obtain ⟨av, cv, rfl, hv1, hv2⟩ := Hs.form h4
    have h0 : Hid (NAt w (n + 1) t b) := h0
    by_cases hc : t.2.length = 1
    · rw [show topT (n + 1) t = ⟨n, t.2.getD 0 (dflt n)⟩ from if_pos hc]
      obtain ⟨c, hc1⟩ := List.length_eq_one_iff.1 hc
      obtain ⟨bc, hbc, nc⟩ := kids_get 0 h5 (c := c) (by rw [hc1]; rfl)
      obtain ⟨sb, so, rfl, k00⟩ := Ps.get h4 hbc
      have hg : t.2.getD 0 (dflt n) = c := by rw [hc1]; rfl
      rw [hg]
      have hb1 : bs.length = 1 := by omega
      rw [hb1] at c2 hv1
      have nc : Hid (NAt w n c bc) := nc
      simp only [Nat.add_zero] at k00
      clear h1 h2 h3 h4 h5 hbl hg hc hc1 h0
      go_enter Try.func50, Try.ntmps50
      go_wp2
      go_ret
      have hn := nw_alloc (nw_refl w) (.cells #[.pointer (some ⟨bc, 0, none⟩)] 80)
      exact ⟨_, rfl, ⟨_, heap_alloc_new w _, nc.out.nw hn⟩, hn⟩
    · rw [show topT (n + 1) t = ⟨n + 1, t⟩ from if_neg hc]
      have hb1 : ((bs.length : Int) == 1) = false := by simp; omega
      clear h1 h2 h3 h4 h5 hbl hc
      generalize bs.length = nb at *
      go_enter Try.func50, Try.ntmps50
      go_wp2
      go_ret
      have hn := nw_alloc (nw_refl w) (.cells #[.pointer (some ⟨b, 0, none⟩)] 80)
      exact ⟨_, rfl, ⟨_, heap_alloc_new w _, h0.out.nw hn⟩, hn⟩

theorem c_new (w : World) : Calls Try.prog 42 #[] w fun e w' => ∃ b', e = .returned (.pointer (some ⟨b', 0, none⟩)) ∧ TAt w' b' 0 [] ∧ Nw w w' := by
  go_enter Try.func42, Try.ntmps42
  go_wp2
  go_ret
  refine ⟨_, rfl, ⟨w.heap.size, heap_alloc2_new w _ _, ⟨.slice none 0 0, .slice none 0 0, .slice none 0 0, heap_alloc2_old w _ _, Hs.nil _, Hs.nil _, Hs.nil _⟩⟩, nw_alloc (nw_alloc (nw_refl w) _) _⟩

set_option maxHeartbeats 1600000 in
theorem c_Put {n : Nat} {t : Tr n} {b : Nat} {k : Int} {e : Ext} (w : World) (h : TAt w b n t) (hR : Top n t) (h0 : 0 ≤ k) (h1 : k < 18446744073709551616) :
    Calls Try.prog 26 #[.pointer (some ⟨b, 0, none⟩), .int .u64 k, ext e] w fun e' w' => ∃ b', e' = .returned (.pointer (some ⟨b', 0, none⟩)) ∧ TAt w' b' (putTop n t k e).1 (putTop n t k e).2 ∧ Nw w w' := by
  obtain ⟨r, hb, hr⟩ := h
  have c0 : Hid (w.cell? ⟨b, 0, none⟩ = some (.pointer (some ⟨r, 0, none⟩))) := cell_blk hb rfl
  have hp := (put_ok k e hR h0 h1).1
  have hput : Hid (∀ w' ba, NAt w' (n + 1) ([], [t]) ba → Calls Try.prog 51 #[.pointer (some ⟨ba, 0, none⟩), .int .u64 k, ext e] w' fun e' w2 => ∃ b', e' = .returned (.pointer (some ⟨b', 0, none⟩)) ∧ NAt w2 (n + 1) (putT (n + 1) ([], [t]) k e) b' ∧ Nw w' w2) :=
    fun w' ba ha => c_put1 (c := t) w' ha List.Pairwise.nil (by simp [hi]) (by simp [hi]) rfl (by simp) (by have := hp.size; omega) (R.fm hp) (fun w2 bc hbc => c_put w2 hbc hR h0 h1)
  have hW1 : Nw w (w.alloc (.cells #[.int .i64 e.1, .int .i64 e.2] 58)) := nw_alloc (nw_refl w) _
  have hB1 : Hid ((w.alloc (.cells #[.int .i64 e.1, .int .i64 e.2] 58)).heap[w.heap.size]? = some (.cells #[.int .i64 e.1, .int .i64 e.2] 58 (0, 0))) := heap_alloc_new w _
  have hT : Hid (putTop n t k e = topT (n + 1) (putT (n + 1) ([], [t]) k e)) := rfl
  have hr : Hid (NAt w n t r) := hr
  unfold ext at hput ⊢
  clear hb hp
  go_enter Try.func26, Try.ntmps26
  go_upto_region 1 with fail
  generalize w.alloc (.cells #[.int .i64 e.1, .int .i64 e.2] 58) = w1 at *
  have d0 := hW1.cell c0.out
  go_upto_region 2 with fail
  have hL := ps_one w1 r 78
  have hW2 : Nw w1 ((w1.alloc (.cells #[.pointer (some ⟨r, 0, none⟩)] 78)).alloc (.cells #[.slice none 0 0, .slice none 0 0, .slice (some ⟨w1.heap.size, 0, none⟩) 1 1] 95)) := nw_alloc (nw_alloc (nw_refl w1) _) _
  have hA : Hid (NAt ((w1.alloc (.cells #[.pointer (some ⟨r, 0, none⟩)] 78)).alloc (.cells #[.slice none 0 0, .slice none 0 0, .slice (some ⟨w1.heap.size, 0, none⟩) 1 1] 95)) (n + 1) ([], [t]) (w1.heap.size + 1)) :=
    ⟨_, _, _, [r], heap_alloc2_new w1 _ _, Hs.nil _, Hs.nil _, Hs.nw hL (nw_alloc (nw_refl _) _), ⟨(hr.out.nw hW1).nw hW2, trivial⟩⟩
  have e0 := hW2.cell (cell_blk hB1.out rfl : w1.cell? ⟨w.heap.size, 0, none⟩ = some (.int .i64 e.1))
  have e1 := hW2.cell (cell_blk hB1.out rfl : w1.cell? ⟨w.heap.size, 1, none⟩ = some (.int .i64 e.2))
  clear hL d0
  generalize ((w1.alloc (.cells #[.pointer (some ⟨r, 0, none⟩)] 78)).alloc (.cells #[.slice none 0 0, .slice none 0 0, .slice (some ⟨w1.heap.size, 0, none⟩) 1 1] 95)) = w2 at *
  generalize w1.heap.size + 1 = ba at *
  go_wp2_with (go_at_call 51; refine (hput.out w2 ba hA.out).mono ?_; rintro e' W3 ⟨b3, rfl, hb3, hn3⟩; refine stop_here ?_)
  unfold Hid
  clear e0 e1
  go_wp2_with (go_at_call 50; refine (c_topped W3 hb3).mono ?_; rintro e' W4 ⟨b4, rfl, hb4, hn4⟩; refine stop_here ?_)
  unfold Hid
  go_wp2
  go_ret
  rw [hT.out]
  exact ⟨_, rfl, hb4, nw_trans hW1 (nw_trans hW2 (nw_trans hn3 hn4))⟩

theorem c_Del {n : Nat} {t : Tr n} {b : Nat} {k : Int} (w : World) (h : TAt w b n t) (hR : Top n t) (h0 : 0 ≤ k) (h1 : k < 18446744073709551616) :
    Calls Try.prog 27 #[.pointer (some ⟨b, 0, none⟩), .int .u64 k] w fun e' w' => ∃ b', e' = .returned (.pointer (some ⟨b', 0, none⟩)) ∧ TAt w' b' (delTop n t k).1 (delTop n t k).2 ∧ Nw w w' := by
  obtain ⟨r, hb, hr⟩ := h
  have c0 : w.cell? ⟨b, 0, none⟩ = some (.pointer (some ⟨r, 0, none⟩)) := cell_blk hb rfl
  have hdel := c_del (k := k) w hr hR (by omega) h0 h1
  have hT : Hid (delTop n t k = topT n (delT n t k)) := rfl
  clear hb hr
  go_enter Try.func27, Try.ntmps27
  go_wp2_with (go_at_call 52; refine hdel.mono ?_; rintro e' W3 ⟨b3, rfl, hb3, hn3⟩; refine stop_here ?_)
  unfold Hid
  clear hdel c0
  go_wp2_with (go_at_call 50; refine (c_topped W3 hb3).mono ?_; rintro e' W4 ⟨b4, rfl, hb4, hn4⟩; refine stop_here ?_)
  unfold Hid
  go_wp2
  go_ret
  rw [hT.out]
  exact ⟨_, rfl, hb4, nw_trans hn3 hn4⟩
end Go.Proofs.Ytnljfhjindenpab
