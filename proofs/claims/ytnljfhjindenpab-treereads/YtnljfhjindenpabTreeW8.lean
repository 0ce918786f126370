/-
  Package tree: put.
-/
import Derived.Test.YtnljfhjindenpabTreeW7
import Derived.Deep.Cut
namespace Go.Proofs.Ytnljfhjindenpab
set_option linter.unusedVariables false
set_option linter.unusedSimpArgs false
set_option maxRecDepth 20000
open Go.RowKit

theorem c_fused : ∀ {d : Nat} {t : Tr (d + 1)} {tl tr : Tr d} {b i : Nat} (w : World), NAt w (d + 1) t b → t.2[i]? = some tl → t.2[i + 1]? = some tr → t.2.length = t.1.length + 1 → t.1.length ≤ 20 → (keysOf d tl).length + (keysOf d tr).length ≤ 9 → Fm d tl → Fm d tr →
    Calls Try.prog 84 #[.pointer (some ⟨b, 0, none⟩), .int .i64 (i : Int)] w fun e w' => ∃ b', e = .returned (.pointer (some ⟨b', 0, none⟩)) ∧ NAt w' (d + 1) (fusedT d t i) b' ∧ Nw w w'
  | 0, _, _, _, _, _, w, h, h1, h2, h3, h4, h5, h6, h7 => c_fused0 w h h1 h2 h3 h4 h5 h6 h7
  | _ + 1, _, _, _, _, _, w, h, h1, h2, h3, h4, h5, h6, h7 => c_fused1 w h h1 h2 h3 h4 h5 h6 h7

/-- The kid below which a key belongs. -/
theorem R.find {n m : Nat} {t : Tr (n + 1)} {a b k : Int} (h : R (n + 1) m 7 t a b) (hak : a ≤ k) (hkb : k < b) :
    ∃ c mm nn, t.2[hi t.1 k]? = some c ∧ R n 3 7 c mm nn ∧ mm ≤ k ∧ k < nn ∧ t.2.length = t.1.length + 1 ∧ t.1.length ≤ 7 ∧ t.2.getD (hi t.1 k) (dflt n) = c := by
  obtain ⟨ks, cs⟩ := t
  obtain ⟨⟨h1, h2⟩, h3⟩ := h
  have hl := bds_length h3
  obtain ⟨ks1, ks2, cs1, c, cs2, mm, nn, rfl, rfl, e3, e4, h4, h5, h6, h7, h8⟩ := bds_find R.kidlt k h3 hak hkb
  have hg := (take_mid (xs := cs1) (ys := cs2) (x := c) e4).2.2
  exact ⟨c, mm, nn, hg, h5, h7, h8, hl, h2, by rw [List.getD_eq_getElem?_getD, hg]; rfl⟩

theorem R.near {n m : Nat} {t : Tr (n + 1)} {a b : Int} (h : R (n + 1) m 7 t a b) (hm : 1 ≤ m) {i : Nat} (hi : i < t.2.length) {c' : Tr n} (hc : (keysOf n c').length ≤ 2) (hf : Fm n c') :
    ∃ tl tr, (t.2.take i ++ [c'] ++ t.2.drop (i + 1))[i - 1]? = some tl ∧ (t.2.take i ++ [c'] ++ t.2.drop (i + 1))[i - 1 + 1]? = some tr ∧ (keysOf n tl).length + (keysOf n tr).length ≤ 9 ∧ Fm n tl ∧ Fm n tr := by
  obtain ⟨ks, cs⟩ := t
  obtain ⟨⟨h1, h2⟩, h3⟩ := h
  have hl := bds_length h3
  simp only at h1 h2 hl hi ⊢
  have hall : ∀ c ∈ cs, (keysOf n c).length ≤ 7 ∧ Fm n c := fun c hc => by
    obtain ⟨x, y, hxy⟩ := bds_mem h3 hc
    exact ⟨hxy.size.2, R.fm hxy⟩
  by_cases h0 : i = 0
  · subst h0
    have h1' : 1 < cs.length := by omega
    obtain ⟨g1, g2⟩ := hall cs[1] (List.getElem_mem h1')
    refine ⟨c', cs[1], by simp, ?_, by omega, hf, g2⟩
    simp
  · have h1' : i - 1 < cs.length := by omega
    obtain ⟨g1, g2⟩ := hall cs[i - 1] (List.getElem_mem h1')
    refine ⟨cs[i - 1], c', ?_, ?_, by omega, g2, hf⟩
    · rw [List.append_assoc, List.getElem?_append_left (by simp; omega), List.getElem?_take, if_pos (by omega), List.getElem?_eq_getElem h1']
    · have e : i - 1 + 1 = i := by omega
      rw [e, List.append_assoc, List.getElem?_append_right (by simp; omega), List.length_take, Nat.min_eq_left (by omega), Nat.sub_self]
      rfl

set_option maxHeartbeats 3200000 in
theorem c_put0 {t : Tr 0} {b : Nat} {k : Int} {e : Ext} (w : World) (h : NAt w 0 t b) (hr : Rise (t.map (·.1))) (hl : t.length ≤ 50) :
    Calls Try.prog 51 #[.pointer (some ⟨b, 0, none⟩), .int .u64 k, ext e] w fun e' w' => ∃ b', e' = .returned (.pointer (some ⟨b', 0, none⟩)) ∧ NAt w' 0 (putT 0 t k e) b' ∧ Nw w w' := by
  have hleaf : Hid (∀ w', Nw w w' → Calls Try.prog 78 #[.pointer (some ⟨b, 0, none⟩)] w' fun e w2 => e = .returned (.bool true) ∧ w' = w2) := fun w' hw => c_isLeaf0 w' (h.nw hw)
  have hspan : Hid (∀ w', Nw w w' → Calls Try.prog 79 #[.pointer (some ⟨b, 0, none⟩), .int .u64 k] w' fun e w2 => e = .returned (.tuple #[.int .i64 (lo (keysOf 0 t) k : Nat), .int .i64 (hi (keysOf 0 t) k : Nat)]) ∧ w' = w2) := fun w' hw => c_span w' (h.nw hw) hr (by simp [keysOf]; omega)
  have hcnt := hi_lo (keysOf 0 t) k hr
  have hhi := hi_le (keysOf 0 t) k
  have hkl : (keysOf 0 t).length = t.length := by simp [keysOf]
  obtain ⟨kv, vv, sv, h1, h2, h3, h4⟩ := h
  obtain ⟨ak, ck, rfl, hk1, hk2⟩ := Hs.form h2
  obtain ⟨av, cv, rfl, hv1, hv2⟩ := Hs.form h3
  have c0 : Hid (w.cell? ⟨b, 0, none⟩ = some (.slice ak (t.map (·.1)).length ck)) := h1.c0
  have c1 : Hid (w.cell? ⟨b, 1, none⟩ = some (.slice av (t.map (·.2)).length cv)) := h1.c1
  have hputT : Hid (putT 0 t k e = t.take (lo (keysOf 0 t) k) ++ [(k, e)] ++ t.drop (hi (keysOf 0 t) k)) := rfl
  generalize putT 0 t k e = T' at *
  generalize lo (keysOf 0 t) k = L at *
  generalize hi (keysOf 0 t) k = H at *
  have hsK : Hid (∀ w', Nw w w' → ∀ o, Ks w' o [k] → Calls Try.prog 82 #[.slice ak (t.map (·.1)).length ck, .int .i64 (L : Int), .int .i64 (H : Int), o] w' fun e w2 => ∃ u, e = .returned u ∧ Ks w2 u ((t.map (·.1)).take L ++ [k] ++ (t.map (·.1)).drop H) ∧ Nw w' w2) :=
    fun w' hw o ho => c_splicedK (os := [k]) w' (Hs.nw h2 hw) ho (by omega) (by simp; omega) (by simp; omega) (by simp)
  have hsE : Hid (∀ w', Nw w w' → ∀ o, Vs w' o [e] → Calls Try.prog 83 #[.slice av (t.map (·.2)).length cv, .int .i64 (L : Int), .int .i64 (H : Int), o] w' fun e' w2 => ∃ u, e' = .returned u ∧ Vs w2 u ((t.map (·.2)).take L ++ [e] ++ (t.map (·.2)).drop H) ∧ Nw w' w2) :=
    fun w' hw o ho => c_splicedE (os := [e]) w' (Hs.nw h3 hw) ho (by omega) (by simp; omega) (by simp; omega) (by simp)
  clear h1 h2 h3 h4 hr hk1 hv1
  generalize (t.map (·.1)).length = nk at *
  generalize (t.map (·.2)).length = nv at *
  have hW1 : Nw w (w.alloc (.cells #[.int .i64 e.1, .int .i64 e.2] 58)) := nw_alloc (nw_refl w) _
  have hB1 : Hid ((w.alloc (.cells #[.int .i64 e.1, .int .i64 e.2] 58)).heap[w.heap.size]? = some (.cells #[.int .i64 e.1, .int .i64 e.2] 58 (0, 0))) := heap_alloc_new w _
  unfold ext
  go_enter Try.func51, Try.ntmps51
  go_upto_region 1 with fail
  generalize w.alloc (.cells #[.int .i64 e.1, .int .i64 e.2] 58) = w1 at *
  go_wp2_with (first | (go_at_call 78; refine (hleaf.out _ hW1).mono ?_; rintro e' w' ⟨rfl, rfl⟩) | (go_at_call 79; refine (hspan.out _ hW1).mono ?_; rintro e' w' ⟨rfl, rfl⟩))
  have hSof : ∀ w', Nw w1 w' → (fun w' : World => Nw w1 w' ∧ w'.cell? ⟨b, 0, none⟩ = some (.slice ak nk ck) ∧ w'.cell? ⟨b, 1, none⟩ = some (.slice av nv cv) ∧ w'.cell? ⟨w.heap.size, 0, none⟩ = some (.int .i64 e.1) ∧ w'.cell? ⟨w.heap.size, 1, none⟩ = some (.int .i64 e.2)) w' := fun w' hw => ⟨hw, hw.cell (hW1.cell c0.out), hw.cell (hW1.cell c1.out), hw.cell (cell_blk hB1.out rfl), hw.cell (cell_blk hB1.out rfl)⟩
  have hS := hSof _ (nw_drew (nw_refl w1))
  refine wp_region_plan [] 20 [(0, []), (1, []), (2, []), (3, []), (4, []), (5, []), (6, []), (9, []), (10, []), (11, []), (12, []), (13, []), (14, []), (15, []), (0, [(7, []), (8, [7]), (16, []), (17, [8, 16])]), (18, []), (0, [(19, [])])] (fun w' : World => Nw w1 w' ∧ w'.cell? ⟨b, 0, none⟩ = some (.slice ak nk ck) ∧ w'.cell? ⟨b, 1, none⟩ = some (.slice av nv cv) ∧ w'.cell? ⟨w.heap.size, 0, none⟩ = some (.int .i64 e.1) ∧ w'.cell? ⟨w.heap.size, 1, none⟩ = some (.int .i64 e.2)) (by kernel_rfl) (by kernel_rfl) ?_
  refine plan_quiet _ ?_ rfl hS rfl ?_ ?_
  rotate_left
  · rintro w' ⟨hS1, hC0, hC1, hC2, hC3⟩; go_simp; first | rfl | (rw [if_pos (by omega)]; done) | (rw [if_pos (by omega)]; rfl) | (rw [if_pos (by omega)]; go_simp; rfl)
  simp only [Act.put, List.setIfInBounds_toArray, List.set_cons_zero, List.set_cons_succ]
  refine plan_quiet _ ?_ rfl hS rfl ?_ ?_
  rotate_left
  · rintro w' ⟨hS1, hC0, hC1, hC2, hC3⟩; go_simp; first | rfl | (rw [if_pos (by omega)]; done) | (rw [if_pos (by omega)]; rfl) | (rw [if_pos (by omega)]; go_simp; rfl)
  simp only [Act.put, List.setIfInBounds_toArray, List.set_cons_zero, List.set_cons_succ]
  refine plan_quiet _ ?_ rfl hS rfl ?_ ?_
  rotate_left
  · rintro w' ⟨hS1, hC0, hC1, hC2, hC3⟩; go_simp; first | rfl | (rw [if_pos (by omega)]; done) | (rw [if_pos (by omega)]; rfl) | (rw [if_pos (by omega)]; go_simp; rfl)
  simp only [Act.put, List.setIfInBounds_toArray, List.set_cons_zero, List.set_cons_succ]
  refine plan_quiet _ ?_ rfl hS rfl ?_ ?_
  rotate_left
  · rintro w' ⟨hS1, hC0, hC1, hC2, hC3⟩; go_simp; first | rfl | (rw [if_pos (by omega)]; done) | (rw [if_pos (by omega)]; rfl) | (rw [if_pos (by omega)]; go_simp; rfl)
  simp only [Act.put, List.setIfInBounds_toArray, List.set_cons_zero, List.set_cons_succ]
  refine plan_quiet _ ?_ rfl hS rfl ?_ ?_
  rotate_left
  · rintro w' ⟨hS1, hC0, hC1, hC2, hC3⟩; go_simp; first | rfl | (rw [if_pos (by omega)]; done) | (rw [if_pos (by omega)]; rfl) | (rw [if_pos (by omega)]; go_simp; rfl)
  simp only [Act.put, List.setIfInBounds_toArray, List.set_cons_zero, List.set_cons_succ]
  refine plan_quiet _ ?_ rfl hS rfl ?_ ?_
  rotate_left
  · rintro w' ⟨hS1, hC0, hC1, hC2, hC3⟩; go_simp; first | rfl | (rw [if_pos (by omega)]; done) | (rw [if_pos (by omega)]; rfl) | (rw [if_pos (by omega)]; go_simp; rfl)
  simp only [Act.put, List.setIfInBounds_toArray, List.set_cons_zero, List.set_cons_succ]
  refine plan_quiet _ ?_ rfl hS rfl ?_ ?_
  rotate_left
  · rintro w' ⟨hS1, hC0, hC1, hC2, hC3⟩; go_simp; first | rfl | (rw [if_pos (by omega)]; done) | (rw [if_pos (by omega)]; rfl) | (rw [if_pos (by omega)]; go_simp; rfl)
  simp only [Act.put, List.setIfInBounds_toArray, List.set_cons_zero, List.set_cons_succ]
  refine plan_quiet _ ?_ rfl hS rfl ?_ ?_
  rotate_left
  · rintro w' ⟨hS1, hC0, hC1, hC2, hC3⟩; go_simp; first | rfl | (rw [if_pos (by omega)]; done) | (rw [if_pos (by omega)]; rfl) | (rw [if_pos (by omega)]; go_simp; rfl)
  simp only [Act.put, List.setIfInBounds_toArray, List.set_cons_zero, List.set_cons_succ]
  refine plan_quiet _ ?_ rfl hS rfl ?_ ?_
  rotate_left
  · rintro w' ⟨hS1, hC0, hC1, hC2, hC3⟩; go_simp; first | rfl | (rw [if_pos (by omega)]; done) | (rw [if_pos (by omega)]; rfl) | (rw [if_pos (by omega)]; go_simp; rfl)
  simp only [Act.put, List.setIfInBounds_toArray, List.set_cons_zero, List.set_cons_succ]
  refine plan_quiet _ ?_ rfl hS rfl ?_ ?_
  rotate_left
  · rintro w' ⟨hS1, hC0, hC1, hC2, hC3⟩; go_simp; first | rfl | (rw [if_pos (by omega)]; done) | (rw [if_pos (by omega)]; rfl) | (rw [if_pos (by omega)]; go_simp; rfl)
  simp only [Act.put, List.setIfInBounds_toArray, List.set_cons_zero, List.set_cons_succ]
  refine plan_quiet _ ?_ rfl hS rfl ?_ ?_
  rotate_left
  · rintro w' ⟨hS1, hC0, hC1, hC2, hC3⟩; go_simp; first | rfl | (rw [if_pos (by omega)]; done) | (rw [if_pos (by omega)]; rfl) | (rw [if_pos (by omega)]; go_simp; rfl)
  simp only [Act.put, List.setIfInBounds_toArray, List.set_cons_zero, List.set_cons_succ]
  refine plan_quiet _ ?_ rfl hS rfl ?_ ?_
  rotate_left
  · rintro w' ⟨hS1, hC0, hC1, hC2, hC3⟩; go_simp; first | rfl | (rw [if_pos (by omega)]; done) | (rw [if_pos (by omega)]; rfl) | (rw [if_pos (by omega)]; go_simp; rfl)
  simp only [Act.put, List.setIfInBounds_toArray, List.set_cons_zero, List.set_cons_succ]
  refine plan_quiet _ ?_ rfl hS rfl ?_ ?_
  rotate_left
  · rintro w' ⟨hS1, hC0, hC1, hC2, hC3⟩; go_simp; first | rfl | (rw [if_pos (by omega)]; done) | (rw [if_pos (by omega)]; rfl) | (rw [if_pos (by omega)]; go_simp; rfl)
  simp only [Act.put, List.setIfInBounds_toArray, List.set_cons_zero, List.set_cons_succ]
  refine plan_quiet _ ?_ rfl hS rfl ?_ ?_
  rotate_left
  · rintro w' ⟨hS1, hC0, hC1, hC2, hC3⟩; go_simp; first | rfl | (rw [if_pos (by omega)]; done) | (rw [if_pos (by omega)]; rfl) | (rw [if_pos (by omega)]; go_simp; rfl)
  simp only [Act.put, List.setIfInBounds_toArray, List.set_cons_zero, List.set_cons_succ]
  refine plan_group (fun | 7 => 42 | 8 => 43 | 16 => 51 | 17 => 52 | _ => 0) (fun | 7 => fun v w => Ks w v [k] | 8 => fun v w => Ks w v ((t.map (·.1)).take L ++ [k] ++ (t.map (·.1)).drop H) | 16 => fun v w => Vs w v [e] | 17 => fun v w => Vs w v ((t.map (·.2)).take L ++ [e] ++ (t.map (·.2)).drop H) | _ => fun _ _ => True) Nw (by decide) (by decide) (by decide) (fun w1 w2 h1 h2 => hSof _ (nw_trans h1.1 h2)) ?FG hS ?steps ?fin
  case FG =>
    intro p hp v w1 w2 h1 h2
    simp only [List.mem_cons, List.not_mem_nil, or_false] at hp
    rcases hp with rfl | rfl | rfl | rfl <;> exact Hs.nw h1 h2
  case steps =>
    intro p hp x w2 hS2 hd
    simp only [List.mem_cons, List.not_mem_nil, or_false] at hp
    rcases hp with rfl | rfl | rfl | rfl
    · refine ⟨_, rfl, fun K hK => ?_⟩
      simp only [putAll, Act.put, List.setIfInBounds_toArray, List.set_cons_zero, List.set_cons_succ] at hK ⊢
      clear hd hS
      go_wp2
      exact hK _ _ (nw_alloc (nw_refl w2) _) (ks_one w2 k _)
    · refine ⟨_, rfl, fun K hK => ?_⟩
      simp only [putAll, Act.put, List.setIfInBounds_toArray, List.set_cons_zero, List.set_cons_succ] at hK ⊢
      have h7 := hsK.out w2 (nw_trans hW1 hS2.1) (x 7) (hd 7 (by simp))
      clear hd hS
      go_wp2_with (go_at_call 82; refine h7.mono ?_; rintro e w3 ⟨u, rfl, hu, hn⟩; refine stop_here ?_)
      unfold Hid
      go_wp2
      exact hK _ _ hn hu
    · refine ⟨_, rfl, fun K hK => ?_⟩
      simp only [putAll, Act.put, List.setIfInBounds_toArray, List.set_cons_zero, List.set_cons_succ] at hK ⊢
      clear hd hS
      go_wp2
      exact hK _ _ (nw_alloc (nw_refl w2) _) (es_one w2 e _)
    · refine ⟨_, rfl, fun K hK => ?_⟩
      simp only [putAll, Act.put, List.setIfInBounds_toArray, List.set_cons_zero, List.set_cons_succ] at hK ⊢
      have h7 := hsE.out w2 (nw_trans hW1 hS2.1) (x 16) (hd 16 (by simp))
      clear hd hS
      go_wp2_with (go_at_call 83; refine h7.mono ?_; rintro e9 w3 ⟨u, rfl, hu, hn⟩; refine stop_here ?_)
      unfold Hid
      go_wp2
      exact hK _ _ hn hu
  case fin =>
    intro x w2 hS2 hF
    have f8 : Ks w2 (x 8) ((t.map (·.1)).take L ++ [k] ++ (t.map (·.1)).drop H) := hF (8, [7]) (by simp)
    have f19 : Vs w2 (x 17) ((t.map (·.2)).take L ++ [e] ++ (t.map (·.2)).drop H) := hF (17, [8, 16]) (by simp)
    obtain ⟨a8, c8, e8, _, _⟩ := Hs.form f8
    obtain ⟨a19, c19, e19, _, _⟩ := Hs.form f19
    clear hF hS
    simp only [putAll, Act.put, List.setIfInBounds_toArray, List.set_cons_zero, List.set_cons_succ]
    rw [e8] at f8
    rw [e19] at f19
    rw [e8, e19]
    have f8 : Hid (Ks w2 (.slice a8 ((t.map (·.1)).take L ++ [k] ++ (t.map (·.1)).drop H).length c8) ((t.map (·.1)).take L ++ [k] ++ (t.map (·.1)).drop H)) := f8
    have f19 : Hid (Vs w2 (.slice a19 ((t.map (·.2)).take L ++ [e] ++ (t.map (·.2)).drop H).length c19) ((t.map (·.2)).take L ++ [e] ++ (t.map (·.2)).drop H)) := f19
    generalize ((t.map (·.1)).take L ++ [k] ++ (t.map (·.1)).drop H).length = n8 at *
    generalize ((t.map (·.2)).take L ++ [e] ++ (t.map (·.2)).drop H).length = n19 at *
    clear e8 e19
    refine plan_quiet _ ?_ rfl hS2 rfl ?_ ?_
    rotate_left
    · rintro w' ⟨hS1, hC0, hC1, hC2, hC3⟩; go_simp; first | rfl | (rw [if_pos (by omega)]; done) | (rw [if_pos (by omega)]; rfl) | (rw [if_pos (by omega)]; go_simp; rfl)
    simp only [Act.put, List.setIfInBounds_toArray, List.set_cons_zero, List.set_cons_succ]
    refine plan_act _ rfl (fun K1 hK1 => ?_)
    go_wp2
    have hW3 : Nw w2 (w2.alloc (.cells #[.slice a8 n8 c8, .slice a19 n19 c19, .slice none 0 0] 95)) := nw_alloc (nw_refl w2) _
    have hb3 : Nd (w2.alloc (.cells #[.slice a8 n8 c8, .slice a19 n19 c19, .slice none 0 0] 95)) w2.heap.size (.slice a8 n8 c8) (.slice a19 n19 c19) (.slice none 0 0) := heap_alloc_new w2 _
    have hW4 := nw_trans hS2.1 hW3
    refine hK1 _ _ (hSof _ hW4) ?_
    clear hK1 K1 hSof hS2
    generalize w2.alloc (.cells #[.slice a8 n8 c8, .slice a19 n19 c19, .slice none 0 0] 95) = W3 at *
    refine plan_tail ?_
    simp only [List.drop_succ_cons, List.drop_zero]
    go_wp2
    go_ret
    refine ⟨_, rfl, ?_, nw_trans hW1 hW4⟩
    rw [hputT.out]
    refine ⟨_, _, _, hb3, ?_, ?_, Hs.nil _⟩
    · have := Hs.nw f8.out hW3
      unfold Ks
      simpa [List.map_take, List.map_drop] using this
    · have := Hs.nw f19.out hW3
      unfold Vs
      simpa [List.map_take, List.map_drop] using this

set_option maxHeartbeats 3200000 in
theorem c_put1 {d : Nat} {t : Tr (d + 1)} {c : Tr d} {b : Nat} {k : Int} {e : Ext} (w : World) (h : NAt w (d + 1) t b) (hr : Rise t.1) (hg : t.2[hi t.1 k]? = some c) (hgd : t.2.getD (hi t.1 k) (dflt d) = c) (hfm : t.2.length = t.1.length + 1) (hl : t.1.length ≤ 20) (hcs : (keysOf d (putT d c k e)).length ≤ 10) (hcf : Fm d (putT d c k e))
    (ih : ∀ w' bc, NAt w' d c bc → Calls Try.prog 51 #[.pointer (some ⟨bc, 0, none⟩), .int .u64 k, ext e] w' fun e' w2 => ∃ b', e' = .returned (.pointer (some ⟨b', 0, none⟩)) ∧ NAt w2 d (putT d c k e) b' ∧ Nw w' w2) :
    Calls Try.prog 51 #[.pointer (some ⟨b, 0, none⟩), .int .u64 k, ext e] w fun e' w' => ∃ b', e' = .returned (.pointer (some ⟨b', 0, none⟩)) ∧ NAt w' (d + 1) (putT (d + 1) t k e) b' ∧ Nw w w' := by
  have hleaf : Hid (∀ w', Nw w w' → Calls Try.prog 78 #[.pointer (some ⟨b, 0, none⟩)] w' fun e w2 => e = .returned (.bool false) ∧ w' = w2) := fun w' hw => c_isLeaf1 w' (h.nw hw) (by omega)
  have hway : Hid (∀ w', Nw w w' → Calls Try.prog 80 #[.pointer (some ⟨b, 0, none⟩), .int .u64 k] w' fun e w2 => e = .returned (.int .i64 (hi (keysOf (d + 1) t) k : Nat)) ∧ w' = w2) := fun w' hw => c_way w' (h.nw hw) hr (by simp [keysOf]; omega)
  have hkl : keysOf (d + 1) t = t.1 := rfl
  rw [hkl] at hway
  have hwith : Hid (∀ w' bc', Nw w w' → NAt w' d (putT d c k e) bc' → Calls Try.prog 81 #[.pointer (some ⟨b, 0, none⟩), .int .i64 (hi t.1 k : Nat), .pointer (some ⟨bc', 0, none⟩)] w' fun e' w2 => ∃ b', e' = .returned (.pointer (some ⟨b', 0, none⟩)) ∧ NAt w2 (d + 1) (putT (d + 1) t k e) b' ∧ Nw w' w2) := by
    intro w' bc' hw hb
    rw [show putT (d + 1) t k e = withT d t (hi t.1 k) (putT d c k e) by rw [putT, hgd]]
    exact c_with w' (h.nw hw) hb (by have := hi_le t.1 k; omega) (by omega) (by omega) hcs hcf
  obtain ⟨kv, vv, sv, bs, h1, h2, h3, h4, h5⟩ := h
  have hbl := kids_length h5
  obtain ⟨bc, hbc, nc⟩ := kids_get _ h5 hg
  obtain ⟨av, cv, rfl, hv1, hv2⟩ := Hs.form h4
  obtain ⟨sb, so, rfl, k00⟩ := Ps.get h4 hbc
  have c2 : Hid (w.cell? ⟨b, 2, none⟩ = some (.slice (some ⟨sb, so, none⟩) bs.length cv)) := h1.c2
  have hHl : hi t.1 k < bs.length := by have := hi_le t.1 k; omega
  have hHl2 : bs.length ≤ 21 := by omega
  have hput : Hid (∀ w', Nw w w' → Calls Try.prog 51 #[.pointer (some ⟨bc, 0, none⟩), .int .u64 k, ext e] w' fun e' w2 => ∃ b', e' = .returned (.pointer (some ⟨b', 0, none⟩)) ∧ NAt w2 d (putT d c k e) b' ∧ Nw w' w2) := fun w' hw => ih w' bc (nc.nw hw)
  generalize putT (d + 1) t k e = T' at *
  generalize putT d c k e = C' at *
  generalize hi t.1 k = H at *
  have k0 : Hid (w.cell? ⟨sb, so + H, none⟩ = some (.pointer (some ⟨bc, 0, none⟩))) := k00
  clear ih h1 h2 h3 h4 h5 hr hg hgd hfm hl hcs hcf nc hbl hkl k00 hbc
  generalize bs.length = nb at *
  have hW1 : Nw w (w.alloc (.cells #[.int .i64 e.1, .int .i64 e.2] 58)) := nw_alloc (nw_refl w) _
  have hB1 : Hid ((w.alloc (.cells #[.int .i64 e.1, .int .i64 e.2] 58)).heap[w.heap.size]? = some (.cells #[.int .i64 e.1, .int .i64 e.2] 58 (0, 0))) := heap_alloc_new w _
  unfold ext at hput ⊢
  go_enter Try.func51, Try.ntmps51
  go_upto_region 1 with fail
  generalize w.alloc (.cells #[.int .i64 e.1, .int .i64 e.2] 58) = w1 at *
  go_wp2_with (first | (go_at_call 78; refine (hleaf.out _ hW1).mono ?_; rintro e' w' ⟨rfl, rfl⟩) | (go_at_call 80; refine (hway.out _ hW1).mono ?_; rintro e' w' ⟨rfl, rfl⟩))
  have hSof : ∀ w', Nw w1 w' → (fun w' : World => Nw w1 w' ∧ w'.cell? ⟨b, 2, none⟩ = some (.slice (some ⟨sb, so, none⟩) nb cv) ∧ w'.cell? ⟨sb, so + H, none⟩ = some (.pointer (some ⟨bc, 0, none⟩)) ∧ w'.cell? ⟨w.heap.size, 0, none⟩ = some (.int .i64 e.1) ∧ w'.cell? ⟨w.heap.size, 1, none⟩ = some (.int .i64 e.2)) w' := fun w' hw => ⟨hw, hw.cell (hW1.cell c2.out), hw.cell (hW1.cell k0.out), hw.cell (cell_blk hB1.out rfl), hw.cell (cell_blk hB1.out rfl)⟩
  have hS := hSof _ (nw_drew (nw_refl w1))
  refine wp_region_ord [] 13 [(0, true), (1, true), (2, true), (3, true), (4, true), (5, true), (6, true), (7, true), (8, true), (9, true), (10, true), (11, false), (12, false)] (fun w' : World => Nw w1 w' ∧ w'.cell? ⟨b, 2, none⟩ = some (.slice (some ⟨sb, so, none⟩) nb cv) ∧ w'.cell? ⟨sb, so + H, none⟩ = some (.pointer (some ⟨bc, 0, none⟩)) ∧ w'.cell? ⟨w.heap.size, 0, none⟩ = some (.int .i64 e.1) ∧ w'.cell? ⟨w.heap.size, 1, none⟩ = some (.int .i64 e.2)) (by kernel_rfl) (by kernel_rfl) ?_
  refine ord_quietL _ ?_ rfl hS rfl ?_ ?_
  rotate_left
  · rintro w' ⟨hS1, hC0, hC1, hC2, hC3⟩; go_simp; first | rfl | (rw [if_pos (by omega)]; done) | (rw [if_pos (by omega)]; rfl) | (rw [if_pos (by omega)]; go_simp; rfl)
  simp only [Act.put, List.setIfInBounds_toArray, List.set_cons_zero, List.set_cons_succ]
  refine ord_quietL _ ?_ rfl hS rfl ?_ ?_
  rotate_left
  · rintro w' ⟨hS1, hC0, hC1, hC2, hC3⟩; go_simp; first | rfl | (rw [if_pos (by omega)]; done) | (rw [if_pos (by omega)]; rfl) | (rw [if_pos (by omega)]; go_simp; rfl)
  simp only [Act.put, List.setIfInBounds_toArray, List.set_cons_zero, List.set_cons_succ]
  refine ord_quietL _ ?_ rfl hS rfl ?_ ?_
  rotate_left
  · rintro w' ⟨hS1, hC0, hC1, hC2, hC3⟩; go_simp; first | rfl | (rw [if_pos (by omega)]; done) | (rw [if_pos (by omega)]; rfl) | (rw [if_pos (by omega)]; go_simp; rfl)
  simp only [Act.put, List.setIfInBounds_toArray, List.set_cons_zero, List.set_cons_succ]
  refine ord_quietL _ ?_ rfl hS rfl ?_ ?_
  rotate_left
  · rintro w' ⟨hS1, hC0, hC1, hC2, hC3⟩; go_simp; first | rfl | (rw [if_pos (by omega)]; done) | (rw [if_pos (by omega)]; rfl) | (rw [if_pos (by omega)]; go_simp; rfl)
  simp only [Act.put, List.setIfInBounds_toArray, List.set_cons_zero, List.set_cons_succ]
  refine ord_quietL _ ?_ rfl hS rfl ?_ ?_
  rotate_left
  · rintro w' ⟨hS1, hC0, hC1, hC2, hC3⟩; go_simp; first | rfl | (rw [if_pos (by omega)]; done) | (rw [if_pos (by omega)]; rfl) | (rw [if_pos (by omega)]; go_simp; rfl)
  simp only [Act.put, List.setIfInBounds_toArray, List.set_cons_zero, List.set_cons_succ]
  refine ord_quietL _ ?_ rfl hS rfl ?_ ?_
  rotate_left
  · rintro w' ⟨hS1, hC0, hC1, hC2, hC3⟩; go_simp; first | rfl | (rw [if_pos (by omega)]; done) | (rw [if_pos (by omega)]; rfl) | (rw [if_pos (by omega)]; go_simp; rfl)
  simp only [Act.put, List.setIfInBounds_toArray, List.set_cons_zero, List.set_cons_succ]
  refine ord_quietL _ ?_ rfl hS rfl ?_ ?_
  rotate_left
  · rintro w' ⟨hS1, hC0, hC1, hC2, hC3⟩; go_simp; first | rfl | (rw [if_pos (by omega)]; done) | (rw [if_pos (by omega)]; rfl) | (rw [if_pos (by omega)]; go_simp; rfl)
  simp only [Act.put, List.setIfInBounds_toArray, List.set_cons_zero, List.set_cons_succ]
  refine ord_quietL _ ?_ rfl hS rfl ?_ ?_
  rotate_left
  · rintro w' ⟨hS1, hC0, hC1, hC2, hC3⟩; go_simp; first | rfl | (rw [if_pos (by omega)]; done) | (rw [if_pos (by omega)]; rfl) | (rw [if_pos (by omega)]; go_simp; rfl)
  simp only [Act.put, List.setIfInBounds_toArray, List.set_cons_zero, List.set_cons_succ]
  refine ord_quietL _ ?_ rfl hS rfl ?_ ?_
  rotate_left
  · rintro w' ⟨hS1, hC0, hC1, hC2, hC3⟩; go_simp; first | rfl | (rw [if_pos (by omega)]; done) | (rw [if_pos (by omega)]; rfl) | (rw [if_pos (by omega)]; go_simp; rfl)
  simp only [Act.put, List.setIfInBounds_toArray, List.set_cons_zero, List.set_cons_succ]
  refine ord_quietL _ ?_ rfl hS rfl ?_ ?_
  rotate_left
  · rintro w' ⟨hS1, hC0, hC1, hC2, hC3⟩; go_simp; first | rfl | (rw [if_pos (by omega)]; done) | (rw [if_pos (by omega)]; rfl) | (rw [if_pos (by omega)]; go_simp; rfl)
  simp only [Act.put, List.setIfInBounds_toArray, List.set_cons_zero, List.set_cons_succ]
  refine ord_quietL _ ?_ rfl hS rfl ?_ ?_
  rotate_left
  · rintro w' ⟨hS1, hC0, hC1, hC2, hC3⟩; go_simp; first | rfl | (rw [if_pos (by omega)]; done) | (rw [if_pos (by omega)]; rfl) | (rw [if_pos (by omega)]; go_simp; rfl)
  simp only [Act.put, List.setIfInBounds_toArray, List.set_cons_zero, List.set_cons_succ]
  refine ord_actL _ rfl (fun K1 hK1 => ?_)
  go_wp2_with (go_at_call 51; refine (hput.out _ (nw_trans hW1 hS.1)).mono ?_; rintro e' W5 ⟨b5, rfl, hu5, hn5⟩; refine stop_here ?_)
  unfold Hid
  have hW5 := nw_trans hS.1 hn5
  go_wp2
  refine hK1 _ _ (hSof _ hW5) ?_
  clear hK1 K1 hS hn5
  refine ord_actL _ rfl (fun K1 hK1 => ?_)
  go_wp2_with (go_at_call 81; refine (hwith.out _ b5 (nw_trans hW1 hW5) hu5).mono ?_; rintro e' W6 ⟨b6, rfl, hu6, hn6⟩; refine stop_here ?_)
  unfold Hid
  have hW6 := nw_trans hW5 hn6
  go_wp2
  refine hK1 _ _ (hSof _ hW6) ?_
  clear hK1 K1 hSof
  refine ord_tail ?_
  simp only [List.drop_succ_cons, List.drop_zero]
  go_wp2
  go_ret
  exact ⟨_, rfl, hu6, nw_trans hW1 hW6⟩

theorem c_put {k : Int} {e : Ext} : ∀ {n m : Nat} {t : Tr n} {b : Nat} {lo' hi' : Int} (w : World), NAt w n t b → R n m 7 t lo' hi' → lo' ≤ k → k < hi' →
    Calls Try.prog 51 #[.pointer (some ⟨b, 0, none⟩), .int .u64 k, ext e] w fun e' w' => ∃ b', e' = .returned (.pointer (some ⟨b', 0, none⟩)) ∧ NAt w' n (putT n t k e) b' ∧ Nw w w'
  | 0, m, t, b, _, _, w, h, hR, _, _ => c_put0 w h hR.2.1 (by have := hR.1; omega)
  | n + 1, m, t, b, _, _, w, h, hR, h1, h2 => by
    obtain ⟨c, mm, nn, g1, g2, g3, g4, g5, g6, g7⟩ := R.find hR h1 h2
    have hp := (put_ok k e g2 g3 g4).1
    exact c_put1 w h (R.keys hR).1 g1 g7 g5 (by omega) (by have := hp.size; omega) (R.fm hp) (fun w' bc hb => c_put w' hb g2 g3 g4)
end Go.Proofs.Ytnljfhjindenpab
