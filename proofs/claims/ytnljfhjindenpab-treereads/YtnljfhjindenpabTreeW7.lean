/-
  Package tree: fused.
-/
import Derived.Test.YtnljfhjindenpabTreeW6
import Derived.Deep.QuietTactic
import Derived.BigQuiet
namespace Go.Proofs.Ytnljfhjindenpab
set_option linter.unusedVariables false
set_option linter.unusedSimpArgs false
set_option maxRecDepth 20000
open Go.RowKit

theorem nw_drewN (n : Nat) (w : World) : Nw w (w.drewN n) := ⟨rfl, rfl, rfl, Nat.le_refl _, fun _ _ _ => rfl⟩

abbrev kp (v : Value) (ks : List Int) : Part := (v, ks.length, ks.map kcell)
abbrev ep (v : Value) (es : List Ext) : Part := (v, es.length, ecells es)
abbrev pp (v : Value) (bs : List Nat) : Part := (v, bs.length, bs.map pcell)

theorem cat2K {v1 v2 o : Value} {k1 k2 : List Int} (w : World) (h1 : Ks w v1 k1) (h2 : Ks w v2 k2) (l1 : k1.length ≤ 100) (l2 : k2.length ≤ 100) (ho : Hs w o 2 [v1, v2]) :
    Calls Try.prog 98 #[o] w fun e w' => ∃ u, e = .returned u ∧ Ks w' u (k1 ++ k2) ∧ Nw w w' := by
  refine (c_concatK (ps := [kp v1 k1, kp v2 k2]) w ho (fun p hp => ?_) (by simp)).mono ?_
  · simp only [List.mem_cons, List.not_mem_nil, or_false] at hp
    rcases hp with rfl | rfl
    · exact ks_ok h1 l1
    · exact ks_ok h2 l2
  · rintro e w' ⟨u, rfl, hr, hn⟩
    refine ⟨u, rfl, ?_, hn⟩
    have := hs_of_owns hr
    unfold Ks
    simpa [total, List.map_append, Nat.add_assoc] using this

theorem cat3K {v1 v2 v3 o : Value} {k1 k2 k3 : List Int} (w : World) (h1 : Ks w v1 k1) (h2 : Ks w v2 k2) (h3 : Ks w v3 k3) (l1 : k1.length ≤ 100) (l2 : k2.length ≤ 100) (l3 : k3.length ≤ 100) (ho : Hs w o 3 [v1, v2, v3]) :
    Calls Try.prog 98 #[o] w fun e w' => ∃ u, e = .returned u ∧ Ks w' u (k1 ++ k2 ++ k3) ∧ Nw w w' := by
  refine (c_concatK (ps := [kp v1 k1, kp v2 k2, kp v3 k3]) w ho (fun p hp => ?_) (by simp)).mono ?_
  · simp only [List.mem_cons, List.not_mem_nil, or_false] at hp
    rcases hp with rfl | rfl | rfl
    · exact ks_ok h1 l1
    · exact ks_ok h2 l2
    · exact ks_ok h3 l3
  · rintro e w' ⟨u, rfl, hr, hn⟩
    refine ⟨u, rfl, ?_, hn⟩
    have := hs_of_owns hr
    unfold Ks
    simpa [total, List.map_append, Nat.add_assoc] using this

theorem cat2E {v1 v2 o : Value} {k1 k2 : List Ext} (w : World) (h1 : Vs w v1 k1) (h2 : Vs w v2 k2) (l1 : k1.length ≤ 100) (l2 : k2.length ≤ 100) (ho : Hs w o 2 [v1, v2]) :
    Calls Try.prog 99 #[o] w fun e w' => ∃ u, e = .returned u ∧ Vs w' u (k1 ++ k2) ∧ Nw w w' := by
  refine (c_concatE (ps := [ep v1 k1, ep v2 k2]) w ho (fun p hp => ?_) (by simp)).mono ?_
  · simp only [List.mem_cons, List.not_mem_nil, or_false] at hp
    rcases hp with rfl | rfl
    · exact es_ok h1 l1
    · exact es_ok h2 l2
  · rintro e w' ⟨u, rfl, hr, hn⟩
    refine ⟨u, rfl, ?_, hn⟩
    have := hs_of_owns hr
    unfold Vs
    simpa [total, ecells_append, Nat.add_assoc] using this

theorem cat2P {v1 v2 o : Value} {k1 k2 : List Nat} (w : World) (h1 : Ps w v1 k1) (h2 : Ps w v2 k2) (l1 : k1.length ≤ 100) (l2 : k2.length ≤ 100) (ho : Hs w o 2 [v1, v2]) :
    Calls Try.prog 100 #[o] w fun e w' => ∃ u, e = .returned u ∧ Ps w' u (k1 ++ k2) ∧ Nw w w' := by
  refine (c_concatP (ps := [pp v1 k1, pp v2 k2]) w ho (fun p hp => ?_) (by simp)).mono ?_
  · simp only [List.mem_cons, List.not_mem_nil, or_false] at hp
    rcases hp with rfl | rfl
    · exact ps_ok h1 l1
    · exact ps_ok h2 l2
  · rintro e w' ⟨u, rfl, hr, hn⟩
    refine ⟨u, rfl, ?_, hn⟩
    have := hs_of_owns hr
    unfold Ps
    simpa [total, List.map_append, Nat.add_assoc] using this

set_option maxHeartbeats 6400000 in
theorem c_fused0 {t : Tr (0 + 1)} {tl tr : Tr 0} {b i : Nat} (w : World) (h : NAt w (0 + 1) t b) (hl : t.2[i]? = some tl) (hr : t.2[i + 1]? = some tr) (hfm : t.2.length = t.1.length + 1) (ht : t.1.length ≤ 20) (hsz : (keysOf 0 tl).length + (keysOf 0 tr).length ≤ 9) (hfl : Fm 0 tl) (hfr : Fm 0 tr) :
    Calls Try.prog 84 #[.pointer (some ⟨b, 0, none⟩), .int .i64 (i : Int)] w fun e w' => ∃ b', e = .returned (.pointer (some ⟨b', 0, none⟩)) ∧ NAt w' (0 + 1) (fusedT 0 t i) b' ∧ Nw w w' := by
  have hil : i + 1 < t.2.length := (List.getElem?_eq_some_iff.1 hr).1
  obtain ⟨kv, vv, sv, bs, h1, h2, h3, h4, h5⟩ := h
  have hbl0 := kids_length h5
  obtain ⟨bl, hbl, nl⟩ := kids_get i h5 hl
  obtain ⟨br, hbr, nr⟩ := kids_get (i + 1) h5 hr
  have nl0 := nl
  have nr0 := nr
  obtain ⟨kL, vL, sL, l1, l2, l3, l4⟩ := nl
  obtain ⟨kR, vR, sR, r1, r2, r3, r4⟩ := nr
  have hleaf : Hid (∀ w', Nw w w' → Calls Try.prog 78 #[.pointer (some ⟨bl, 0, none⟩)] w' fun e w2 => e = .returned (.bool true) ∧ w' = w2) := fun w' hw => c_isLeaf0 w' (nl0.nw hw)
  have hsz : tl.length + tr.length ≤ 9 := by simpa [keysOf] using hsz
  obtain ⟨ak, ck, rfl, hk1, hk2⟩ := Hs.form h2
  obtain ⟨av, cv, rfl, hv1, hv2⟩ := Hs.form h4
  obtain ⟨aL, cL, rfl, _, _⟩ := Hs.form l2
  obtain ⟨aR, cR, rfl, _, _⟩ := Hs.form r2
  obtain ⟨uL, dL, rfl, _, _⟩ := Hs.form l3
  obtain ⟨uR, dR, rfl, _, _⟩ := Hs.form r3
  obtain ⟨sb, so, rfl, k00⟩ := Ps.get h4 hbl
  obtain ⟨sb', so', hso, k11⟩ := Ps.get h4 hbr
  simp only [Option.some.injEq, Addr.mk.injEq, and_true] at hso
  obtain ⟨rfl, rfl⟩ := hso
  have c0 : Hid (w.cell? ⟨b, 0, none⟩ = some (.slice ak t.1.length ck)) := h1.c0
  have c2 : Hid (w.cell? ⟨b, 2, none⟩ = some (.slice (some ⟨sb, so, none⟩) bs.length cv)) := h1.c2
  have cL0 : Hid (w.cell? ⟨bl, 0, none⟩ = some (.slice aL (tl.map (·.1)).length cL)) := l1.c0
  have cR0 : Hid (w.cell? ⟨br, 0, none⟩ = some (.slice aR (tr.map (·.1)).length cR)) := r1.c0
  have cL1 : Hid (w.cell? ⟨bl, 1, none⟩ = some (.slice uL (tl.map (·.2)).length dL)) := l1.c1
  have cR1 : Hid (w.cell? ⟨br, 1, none⟩ = some (.slice uR (tr.map (·.2)).length dR)) := r1.c1
  have k0 : Hid (w.cell? ⟨sb, so + i, none⟩ = some (.pointer (some ⟨bl, 0, none⟩))) := k00
  have k1 : Hid (w.cell? ⟨sb, so + (i + 1), none⟩ = some (.pointer (some ⟨br, 0, none⟩))) := k11
  have hcK : Hid (∀ w', Nw w w' → ∀ o, Hs w' o 2 [.slice aL (tl.map (·.1)).length cL, .slice aR (tr.map (·.1)).length cR] → Calls Try.prog 98 #[o] w' fun e w2 => ∃ u, e = .returned u ∧ Ks w2 u ((tl.map (·.1)) ++ (tr.map (·.1))) ∧ Nw w' w2) :=
    fun w' hw o ho => cat2K w' (Hs.nw l2 hw) (Hs.nw r2 hw) (by simp; omega) (by simp; omega) ho
  have hcE : Hid (∀ w', Nw w w' → ∀ o, Hs w' o 2 [.slice uL (tl.map (·.2)).length dL, .slice uR (tr.map (·.2)).length dR] → Calls Try.prog 99 #[o] w' fun e w2 => ∃ u, e = .returned u ∧ Vs w2 u ((tl.map (·.2)) ++ (tr.map (·.2))) ∧ Nw w' w2) :=
    fun w' hw o ho => cat2E w' (Hs.nw l3 hw) (Hs.nw r3 hw) (by simp; omega) (by simp; omega) ho
  have hspK : Hid (∀ w', Nw w w' → Calls Try.prog 82 #[.slice ak t.1.length ck, .int .i64 (i : Int), .int .i64 ((i : Int) + 1), .slice none 0 0] w' fun e w2 => ∃ u, e = .returned u ∧ Ks w2 u (t.1.take i ++ [] ++ t.1.drop (i + 1)) ∧ Nw w' w2) :=
    fun w' hw => c_splicedK (i := i) (j := i + 1) (os := []) w' (Hs.nw h2 hw) (Hs.nil w') (by omega) (by omega) (by omega) (by simp)
  have hspP : Hid (∀ w', Nw w w' → Calls Try.prog 96 #[.slice (some ⟨sb, so, none⟩) bs.length cv, .int .i64 (i : Int), .int .i64 ((i : Int) + 1), .slice none 0 0] w' fun e w2 => ∃ u, e = .returned u ∧ Ps w2 u (bs.take i ++ [] ++ bs.drop (i + 1)) ∧ Nw w' w2) :=
    fun w' hw => c_splicedP (i := i) (j := i + 1) (os := []) w' (Hs.nw h4 hw) (Hs.nil w') (by omega) (by omega) (by omega) (by simp)
  have hfew : Hid (∀ w', Nw w w' → Kids (NAt w' 0) (t.2.take i ++ t.2.drop (i + 1)) (bs.take i ++ bs.drop (i + 1))) := fun w' hw => kids_append (kids_take i (h5.nw hw)) (kids_drop (i + 1) (h5.nw hw))
  have hfit : Hid (fusedT 0 t i = withT 0 (t.1.take i ++ t.1.drop (i + 1), t.2.take i ++ t.2.drop (i + 1)) i (tl ++ tr)) := by
    unfold Hid fusedT fewerT
    rw [List.getD_eq_getElem?_getD (l := t.2), List.getD_eq_getElem?_getD (l := t.2), hl, hr]
    rfl
  have hjs : (keysOf 0 (tl ++ tr)).length ≤ 10 := by simp [keysOf]; omega
  have hjf : Fm 0 (tl ++ tr) := trivial
  have hwith : Hid (∀ w' bf bo, NAt w' (0 + 1) (t.1.take i ++ t.1.drop (i + 1), t.2.take i ++ t.2.drop (i + 1)) bf → NAt w' 0 (tl ++ tr) bo → Calls Try.prog 81 #[.pointer (some ⟨bf, 0, none⟩), .int .i64 (i : Int), .pointer (some ⟨bo, 0, none⟩)] w' fun e w2 => ∃ b', e = .returned (.pointer (some ⟨b', 0, none⟩)) ∧ NAt w2 (0 + 1) (fusedT 0 t i) b' ∧ Nw w' w2) := by
    intro w' bf bo hf ho
    rw [hfit.out]
    exact c_with w' hf ho (by simp; omega) (by simp; omega) (by simp; omega) hjs hjf
  have hbi : i + 1 < bs.length := by omega
  have hbi0 : i < bs.length := by omega
  have hi100 : i ≤ 100 := by omega
  have hikt : i < t.1.length := by omega
  have hx1 : (i : Int) + 1 < (bs.length : Int) := by omega
  have hx2 : (0 : Int) ≤ (i : Int) + 1 := by omega
  have hx3 : ((i : Int) + 1).toNat = i + 1 := by omega
  have hx5 : (i : Int) + 1 ≤ (ck : Int) := by omega
  have hx6 : i + 1 - i = 1 := by omega
  have hwr : IntKind.i64.wrap ((i : Int) + 1) = (i : Int) + 1 := by rw [IntKind.wrap_i64]; omega
  generalize fusedT 0 t i = T' at *
  have l2 : Hid _ := l2
  have l3 : Hid _ := l3
  clear hfit hjs hjf  h1 h2 h3 h4 h5 l1 r1 r2 r3 nl0 nr0 hl hr hbl hbr hfm ht hsz hil hbl0 hfl hfr l4 r4
  clear l2 l3 k00 k11
  generalize (tl.map (·.1)).length = nL at *
  generalize (tr.map (·.1)).length = nR at *
  generalize (tl.map (·.2)).length = mL at *
  generalize (tr.map (·.2)).length = mR at *
  go_enter Try.func84, Try.ntmps84
  go_wp2
  have d2 := c2.out
  have e0 := k0.out
  have e1 := k1.out
  go_quiet (fail)
  have hW0 : Nw w (w.drewN nq) := nw_drewN nq w
  clear d2 e0 e1
  generalize w.drewN nq = W0 at *
  go_wp2
  have hSof : ∀ w', Nw w w' → (fun w' : World => Nw w w' ∧ w'.cell? ⟨bl, 0, none⟩ = some (.slice aL nL cL) ∧ w'.cell? ⟨br, 0, none⟩ = some (.slice aR nR cR) ∧ w'.cell? ⟨bl, 1, none⟩ = some (.slice uL mL dL) ∧ w'.cell? ⟨br, 1, none⟩ = some (.slice uR mR dR)) w' := fun w' hw => ⟨hw, hw.cell cL0.out, hw.cell cR0.out, hw.cell cL1.out, hw.cell cR1.out⟩
  have hS := hSof _ (nw_drew hW0)
  refine wp_region_plan [] 22 [(0, []), (1, []), (2, []), (3, []), (4, []), (5, []), (6, []), (7, []), (10, []), (11, []), (12, []), (13, []), (14, []), (15, []), (16, []), (17, []), (0, [(8, []), (9, [8]), (18, []), (19, [9, 18])]), (20, []), (0, [(21, [])])] (fun w' : World => Nw w w' ∧ w'.cell? ⟨bl, 0, none⟩ = some (.slice aL nL cL) ∧ w'.cell? ⟨br, 0, none⟩ = some (.slice aR nR cR) ∧ w'.cell? ⟨bl, 1, none⟩ = some (.slice uL mL dL) ∧ w'.cell? ⟨br, 1, none⟩ = some (.slice uR mR dR)) (by kernel_rfl) (by kernel_rfl) ?_
  refine plan_quiet _ ?_ rfl hS rfl ?_ ?_
  rotate_left
  · rintro w' ⟨hS1, hC0, hC1, hC2, hC3⟩; go_simp; first | rfl | (rw [if_pos (by omega)]; done) | (rw [if_pos (by omega)]; rfl) | (rw [if_pos (by omega)]; go_simp; rfl)
  simp only [Act.put, List.setIfInBounds_toArray, List.set_cons_zero, List.set_cons_succ]
  refine plan_quiet _ ?_ rfl hS rfl ?_ ?_
  rotate_left
  · rintro w' ⟨hS1, hC0, hC1, hC2, hC3⟩; go_simp; first | rfl | (rw [if_pos (by omega)]; done) | (rw [if_pos (by omega)]; rfl) | (rw [if_pos (by omega)]; go_simp; rfl)
  simp only [Act.put, List.setIfInBounds_toArray, List.set_cons_zero, List.set_cons_succ]
  refine plan_quiet _ ?_ rfl hS rfl ?_ ?_
  rotate_left
  · rintro w' ⟨hS1, hC0, hC1, hC2, hC3⟩; go_simp; first | rfl | (rw [if_pos (by omega)]; done) | (rw [if_pos (by omega)]; rfl) | (rw [if_pos (by omega)]; go_simp; rfl)
  simp only [Act.put, List.setIfInBounds_toArray, List.set_cons_zero, List.set_cons_succ]
  refine plan_quiet _ ?_ rfl hS rfl ?_ ?_
  rotate_left
  · rintro w' ⟨hS1, hC0, hC1, hC2, hC3⟩; go_simp; first | rfl | (rw [if_pos (by omega)]; done) | (rw [if_pos (by omega)]; rfl) | (rw [if_pos (by omega)]; go_simp; rfl)
  simp only [Act.put, List.setIfInBounds_toArray, List.set_cons_zero, List.set_cons_succ]
  refine plan_quiet _ ?_ rfl hS rfl ?_ ?_
  rotate_left
  · rintro w' ⟨hS1, hC0, hC1, hC2, hC3⟩; go_simp; first | rfl | (rw [if_pos (by omega)]; done) | (rw [if_pos (by omega)]; rfl) | (rw [if_pos (by omega)]; go_simp; rfl)
  simp only [Act.put, List.setIfInBounds_toArray, List.set_cons_zero, List.set_cons_succ]
  refine plan_quiet _ ?_ rfl hS rfl ?_ ?_
  rotate_left
  · rintro w' ⟨hS1, hC0, hC1, hC2, hC3⟩; go_simp; first | rfl | (rw [if_pos (by omega)]; done) | (rw [if_pos (by omega)]; rfl) | (rw [if_pos (by omega)]; go_simp; rfl)
  simp only [Act.put, List.setIfInBounds_toArray, List.set_cons_zero, List.set_cons_succ]
  refine plan_quiet _ ?_ rfl hS rfl ?_ ?_
  rotate_left
  · rintro w' ⟨hS1, hC0, hC1, hC2, hC3⟩; go_simp; first | rfl | (rw [if_pos (by omega)]; done) | (rw [if_pos (by omega)]; rfl) | (rw [if_pos (by omega)]; go_simp; rfl)
  simp only [Act.put, List.setIfInBounds_toArray, List.set_cons_zero, List.set_cons_succ]
  refine plan_quiet _ ?_ rfl hS rfl ?_ ?_
  rotate_left
  · rintro w' ⟨hS1, hC0, hC1, hC2, hC3⟩; go_simp; first | rfl | (rw [if_pos (by omega)]; done) | (rw [if_pos (by omega)]; rfl) | (rw [if_pos (by omega)]; go_simp; rfl)
  simp only [Act.put, List.setIfInBounds_toArray, List.set_cons_zero, List.set_cons_succ]
  refine plan_quiet _ ?_ rfl hS rfl ?_ ?_
  rotate_left
  · rintro w' ⟨hS1, hC0, hC1, hC2, hC3⟩; go_simp; first | rfl | (rw [if_pos (by omega)]; done) | (rw [if_pos (by omega)]; rfl) | (rw [if_pos (by omega)]; go_simp; rfl)
  simp only [Act.put, List.setIfInBounds_toArray, List.set_cons_zero, List.set_cons_succ]
  refine plan_quiet _ ?_ rfl hS rfl ?_ ?_
  rotate_left
  · rintro w' ⟨hS1, hC0, hC1, hC2, hC3⟩; go_simp; first | rfl | (rw [if_pos (by omega)]; done) | (rw [if_pos (by omega)]; rfl) | (rw [if_pos (by omega)]; go_simp; rfl)
  simp only [Act.put, List.setIfInBounds_toArray, List.set_cons_zero, List.set_cons_succ]
  refine plan_quiet _ ?_ rfl hS rfl ?_ ?_
  rotate_left
  · rintro w' ⟨hS1, hC0, hC1, hC2, hC3⟩; go_simp; first | rfl | (rw [if_pos (by omega)]; done) | (rw [if_pos (by omega)]; rfl) | (rw [if_pos (by omega)]; go_simp; rfl)
  simp only [Act.put, List.setIfInBounds_toArray, List.set_cons_zero, List.set_cons_succ]
  refine plan_quiet _ ?_ rfl hS rfl ?_ ?_
  rotate_left
  · rintro w' ⟨hS1, hC0, hC1, hC2, hC3⟩; go_simp; first | rfl | (rw [if_pos (by omega)]; done) | (rw [if_pos (by omega)]; rfl) | (rw [if_pos (by omega)]; go_simp; rfl)
  simp only [Act.put, List.setIfInBounds_toArray, List.set_cons_zero, List.set_cons_succ]
  refine plan_quiet _ ?_ rfl hS rfl ?_ ?_
  rotate_left
  · rintro w' ⟨hS1, hC0, hC1, hC2, hC3⟩; go_simp; first | rfl | (rw [if_pos (by omega)]; done) | (rw [if_pos (by omega)]; rfl) | (rw [if_pos (by omega)]; go_simp; rfl)
  simp only [Act.put, List.setIfInBounds_toArray, List.set_cons_zero, List.set_cons_succ]
  refine plan_quiet _ ?_ rfl hS rfl ?_ ?_
  rotate_left
  · rintro w' ⟨hS1, hC0, hC1, hC2, hC3⟩; go_simp; first | rfl | (rw [if_pos (by omega)]; done) | (rw [if_pos (by omega)]; rfl) | (rw [if_pos (by omega)]; go_simp; rfl)
  simp only [Act.put, List.setIfInBounds_toArray, List.set_cons_zero, List.set_cons_succ]
  refine plan_quiet _ ?_ rfl hS rfl ?_ ?_
  rotate_left
  · rintro w' ⟨hS1, hC0, hC1, hC2, hC3⟩; go_simp; first | rfl | (rw [if_pos (by omega)]; done) | (rw [if_pos (by omega)]; rfl) | (rw [if_pos (by omega)]; go_simp; rfl)
  simp only [Act.put, List.setIfInBounds_toArray, List.set_cons_zero, List.set_cons_succ]
  refine plan_quiet _ ?_ rfl hS rfl ?_ ?_
  rotate_left
  · rintro w' ⟨hS1, hC0, hC1, hC2, hC3⟩; go_simp; first | rfl | (rw [if_pos (by omega)]; done) | (rw [if_pos (by omega)]; rfl) | (rw [if_pos (by omega)]; go_simp; rfl)
  simp only [Act.put, List.setIfInBounds_toArray, List.set_cons_zero, List.set_cons_succ]
  refine plan_group (fun | 8 => 32 | 9 => 33 | 18 => 42 | 19 => 43 | _ => 0) (fun | 8 => fun v w => Hs w v 2 [.slice aL nL cL, .slice aR nR cR] | 9 => fun v w => Ks w v ((tl.map (·.1)) ++ (tr.map (·.1))) | 18 => fun v w => Hs w v 2 [.slice uL mL dL, .slice uR mR dR] | 19 => fun v w => Vs w v ((tl.map (·.2)) ++ (tr.map (·.2))) | _ => fun _ _ => True) Nw (by decide) (by decide) (by decide) (fun w1 w2 h1 h2 => hSof _ (nw_trans h1.1 h2)) ?FG hS ?steps ?fin
  case FG =>
    intro p hp v w1 w2 h1 h2
    simp only [List.mem_cons, List.not_mem_nil, or_false] at hp
    rcases hp with rfl | rfl | rfl | rfl <;> exact Hs.nw h1 h2
  case steps =>
    intro p hp x w2 hS2 hd
    simp only [List.mem_cons, List.not_mem_nil, or_false] at hp
    rcases hp with rfl | rfl | rfl | rfl
    · refine ⟨_, rfl, fun K hK => ?_⟩
      simp only [putAll, Act.put, List.setIfInBounds_toArray, List.set_cons_zero, List.set_cons_succ] at hK ⊢
      clear hd hS
      go_wp2
      exact hK _ _ (nw_alloc (nw_refl w2) _) (hs_lit w2 #[.slice aL nL cL, .slice aR nR cR] _ 2 (by omega))
    · refine ⟨_, rfl, fun K hK => ?_⟩
      simp only [putAll, Act.put, List.setIfInBounds_toArray, List.set_cons_zero, List.set_cons_succ] at hK ⊢
      have h7 := hcK.out w2 hS2.1 (x 8) (hd 8 (by simp))
      clear hd hS
      go_wp2_with (go_at_call 98; refine h7.mono ?_; rintro e w3 ⟨u, rfl, hu, hn⟩; refine stop_here ?_)
      unfold Hid
      go_wp2
      exact hK _ _ hn hu
    · refine ⟨_, rfl, fun K hK => ?_⟩
      simp only [putAll, Act.put, List.setIfInBounds_toArray, List.set_cons_zero, List.set_cons_succ] at hK ⊢
      clear hd hS
      go_wp2
      exact hK _ _ (nw_alloc (nw_refl w2) _) (hs_lit w2 #[.slice uL mL dL, .slice uR mR dR] _ 2 (by omega))
    · refine ⟨_, rfl, fun K hK => ?_⟩
      simp only [putAll, Act.put, List.setIfInBounds_toArray, List.set_cons_zero, List.set_cons_succ] at hK ⊢
      have h7 := hcE.out w2 hS2.1 (x 18) (hd 18 (by simp))
      clear hd hS
      go_wp2_with (go_at_call 99; refine h7.mono ?_; rintro e w3 ⟨u, rfl, hu, hn⟩; refine stop_here ?_)
      unfold Hid
      go_wp2
      exact hK _ _ hn hu
  case fin =>
    intro x w2 hS2 hF
    have f8 : Ks w2 (x 9) ((tl.map (·.1)) ++ (tr.map (·.1))) := hF (9, [8]) (by simp)
    have f19 : Vs w2 (x 19) ((tl.map (·.2)) ++ (tr.map (·.2))) := hF (19, [9, 18]) (by simp)
    obtain ⟨a8, c8, e8, _, _⟩ := Hs.form f8
    obtain ⟨a19, c19, e19, _, _⟩ := Hs.form f19
    clear hF hS
    simp only [putAll, Act.put, List.setIfInBounds_toArray, List.set_cons_zero, List.set_cons_succ]
    rw [e8] at f8
    rw [e19] at f19
    rw [e8, e19]
    have f8 : Hid (Ks w2 (.slice a8 ((tl.map (·.1)) ++ (tr.map (·.1))).length c8) ((tl.map (·.1)) ++ (tr.map (·.1)))) := f8
    have f19 : Hid (Vs w2 (.slice a19 ((tl.map (·.2)) ++ (tr.map (·.2))).length c19) ((tl.map (·.2)) ++ (tr.map (·.2)))) := f19
    generalize ((tl.map (·.1)) ++ (tr.map (·.1))).length = n8 at *
    generalize ((tl.map (·.2)) ++ (tr.map (·.2)) : List Ext).length = n19 at *
    clear e8 e19
    refine plan_quiet _ ?_ rfl hS2 rfl ?_ ?_
    rotate_left
    · rintro w' ⟨hS1, hC0, hC1, hC2, hC3⟩; go_simp; first | rfl | (rw [if_pos (by omega)]; done) | (rw [if_pos (by omega)]; rfl) | (rw [if_pos (by omega)]; go_simp; rfl)
    simp only [Act.put, List.setIfInBounds_toArray, List.set_cons_zero, List.set_cons_succ]
    refine plan_act _ rfl (fun K1 hK1 => ?_)
    go_wp2
    have hW3 : Nw w2 (w2.alloc (.cells #[.slice a8 n8 c8, .slice a19 n19 c19, .slice none 0 0] 95)) := nw_alloc (nw_refl w2) _
    have hb3 : Nd (w2.alloc (.cells #[.slice a8 n8 c8, .slice a19 n19 c19, .slice none 0 0] 95)) w2.heap.size (.slice a8 n8 c8) (.slice a19 n19 c19) (.slice none 0 0) := heap_alloc_new w2 _
    have hW4 := nw_trans hS2.1 hW3
    refine hK1 _ _ (hSof _ hW4) ?_
    clear hK1 K1 hSof hS2 hW0
    have hOne : Hid (NAt (w2.alloc (.cells #[.slice a8 n8 c8, .slice a19 n19 c19, .slice none 0 0] 95)) 0 (tl ++ tr) w2.heap.size) := by
      refine ⟨_, _, _, hb3, ?_, ?_, Hs.nil _⟩
      · have := Hs.nw f8.out hW3; rw [← List.map_append] at this; exact this
      · have := Hs.nw f19.out hW3; rw [← List.map_append] at this; exact this
    clear f8 f19 hb3
    generalize w2.alloc (.cells #[.slice a8 n8 c8, .slice a19 n19 c19, .slice none 0 0] 95) = W3 at *
    clear hW3
    generalize w2.heap.size = b0 at *
    refine plan_tail ?_
    simp only [List.drop_succ_cons, List.drop_zero]
    go_wp2_with (go_at_call 78; refine (hleaf.out _ hW4).mono ?_; rintro e w' ⟨rfl, rfl⟩)
    have hSof : ∀ w', Nw w w' ∧ Nw W3 w' → (fun w' : World => (Nw w w' ∧ Nw W3 w') ∧ w'.cell? ⟨b, 0, none⟩ = some (.slice ak t.1.length ck) ∧ w'.cell? ⟨b, 2, none⟩ = some (.slice (some ⟨sb, so, none⟩) bs.length cv)) w' := fun w' hw => ⟨hw, hw.1.cell c0.out, hw.1.cell c2.out⟩
    have hS := hSof _ ⟨nw_drew hW4, nw_drew (nw_refl W3)⟩
    refine wp_region_ord [] 18 [(0, true), (1, true), (2, true), (3, true), (4, true), (5, true), (6, true), (8, true), (9, true), (10, true), (11, true), (12, true), (13, true), (14, true), (7, false), (15, false), (16, true), (17, false)] (fun w' : World => (Nw w w' ∧ Nw W3 w') ∧ w'.cell? ⟨b, 0, none⟩ = some (.slice ak t.1.length ck) ∧ w'.cell? ⟨b, 2, none⟩ = some (.slice (some ⟨sb, so, none⟩) bs.length cv)) (by kernel_rfl) (by kernel_rfl) ?_
    refine ord_quietL _ ?_ rfl hS rfl ?_ ?_
    rotate_left
    · rintro w' ⟨hS1, hS2, hS3⟩; go_simp; first | rfl | (rw [if_pos (by omega)]; done) | (rw [if_pos (by omega)]; rfl) | (rw [if_pos (by omega)]; go_simp; rfl)
    simp only [Act.put, List.setIfInBounds_toArray, List.set_cons_zero, List.set_cons_succ]
    refine ord_quietL _ ?_ rfl hS rfl ?_ ?_
    rotate_left
    · rintro w' ⟨hS1, hS2, hS3⟩; go_simp; first | rfl | (rw [if_pos (by omega)]; done) | (rw [if_pos (by omega)]; rfl) | (rw [if_pos (by omega)]; go_simp; rfl)
    simp only [Act.put, List.setIfInBounds_toArray, List.set_cons_zero, List.set_cons_succ]
    refine ord_quietL _ ?_ rfl hS rfl ?_ ?_
    rotate_left
    · rintro w' ⟨hS1, hS2, hS3⟩; go_simp; first | rfl | (rw [if_pos (by omega)]; done) | (rw [if_pos (by omega)]; rfl) | (rw [if_pos (by omega)]; go_simp; rfl)
    simp only [Act.put, List.setIfInBounds_toArray, List.set_cons_zero, List.set_cons_succ]
    refine ord_quietL _ ?_ rfl hS rfl ?_ ?_
    rotate_left
    · rintro w' ⟨hS1, hS2, hS3⟩; go_simp; first | rfl | (rw [if_pos (by omega)]; done) | (rw [if_pos (by omega)]; rfl) | (rw [if_pos (by omega)]; go_simp; rfl)
    simp only [Act.put, List.setIfInBounds_toArray, List.set_cons_zero, List.set_cons_succ]
    refine ord_quietL _ ?_ rfl hS rfl ?_ ?_
    rotate_left
    · rintro w' ⟨hS1, hS2, hS3⟩; go_simp; first | rfl | (rw [if_pos (by omega)]; done) | (rw [if_pos (by omega)]; rfl) | (rw [if_pos (by omega)]; go_simp; rfl)
    simp only [Act.put, List.setIfInBounds_toArray, List.set_cons_zero, List.set_cons_succ]
    refine ord_quietL _ ?_ rfl hS rfl ?_ ?_
    rotate_left
    · rintro w' ⟨hS1, hS2, hS3⟩; go_simp; first | rfl | (rw [if_pos (by omega)]; done) | (rw [if_pos (by omega)]; rfl) | (rw [if_pos (by omega)]; go_simp; rfl)
    simp only [Act.put, List.setIfInBounds_toArray, List.set_cons_zero, List.set_cons_succ]
    refine ord_quietL _ (.int .i64 ((i : Int) + 1)) rfl hS rfl ?_ ?_
    · rintro w' ⟨hS1, hS2, hS3⟩; go_simp
    simp only [Act.put, List.setIfInBounds_toArray, List.set_cons_zero, List.set_cons_succ]
    refine ord_quietL _ ?_ rfl hS rfl ?_ ?_
    rotate_left
    · rintro w' ⟨hS1, hS2, hS3⟩; go_simp; first | rfl | (rw [if_pos (by omega)]; done) | (rw [if_pos (by omega)]; rfl) | (rw [if_pos (by omega)]; go_simp; rfl)
    simp only [Act.put, List.setIfInBounds_toArray, List.set_cons_zero, List.set_cons_succ]
    refine ord_quietL _ ?_ rfl hS rfl ?_ ?_
    rotate_left
    · rintro w' ⟨hS1, hS2, hS3⟩; go_simp; first | rfl | (rw [if_pos (by omega)]; done) | (rw [if_pos (by omega)]; rfl) | (rw [if_pos (by omega)]; go_simp; rfl)
    simp only [Act.put, List.setIfInBounds_toArray, List.set_cons_zero, List.set_cons_succ]
    refine ord_quietL _ ?_ rfl hS rfl ?_ ?_
    rotate_left
    · rintro w' ⟨hS1, hS2, hS3⟩; go_simp; first | rfl | (rw [if_pos (by omega)]; done) | (rw [if_pos (by omega)]; rfl) | (rw [if_pos (by omega)]; go_simp; rfl)
    simp only [Act.put, List.setIfInBounds_toArray, List.set_cons_zero, List.set_cons_succ]
    refine ord_quietL _ ?_ rfl hS rfl ?_ ?_
    rotate_left
    · rintro w' ⟨hS1, hS2, hS3⟩; go_simp; first | rfl | (rw [if_pos (by omega)]; done) | (rw [if_pos (by omega)]; rfl) | (rw [if_pos (by omega)]; go_simp; rfl)
    simp only [Act.put, List.setIfInBounds_toArray, List.set_cons_zero, List.set_cons_succ]
    refine ord_quietL _ ?_ rfl hS rfl ?_ ?_
    rotate_left
    · rintro w' ⟨hS1, hS2, hS3⟩; go_simp; first | rfl | (rw [if_pos (by omega)]; done) | (rw [if_pos (by omega)]; rfl) | (rw [if_pos (by omega)]; go_simp; rfl)
    simp only [Act.put, List.setIfInBounds_toArray, List.set_cons_zero, List.set_cons_succ]
    refine ord_quietL _ ?_ rfl hS rfl ?_ ?_
    rotate_left
    · rintro w' ⟨hS1, hS2, hS3⟩; go_simp; first | rfl | (rw [if_pos (by omega)]; done) | (rw [if_pos (by omega)]; rfl) | (rw [if_pos (by omega)]; go_simp; rfl)
    simp only [Act.put, List.setIfInBounds_toArray, List.set_cons_zero, List.set_cons_succ]
    refine ord_quietL _ (.int .i64 ((i : Int) + 1)) rfl hS rfl ?_ ?_
    · rintro w' ⟨hS1, hS2, hS3⟩; go_simp
    simp only [Act.put, List.setIfInBounds_toArray, List.set_cons_zero, List.set_cons_succ]
    refine ord_actL _ rfl (fun K1 hK1 => ?_)
    go_wp2_with (go_at_call 82; refine (hspK.out _ hS.1.1).mono ?_; rintro e W5 ⟨u5, rfl, hu5, hn5⟩; refine stop_here ?_)
    unfold Hid
    obtain ⟨a5, c5, rfl, _, _⟩ := Hs.form hu5
    have hu5 : Hid (Ks W5 (.slice a5 (t.1.take i ++ [] ++ t.1.drop (i + 1)).length c5) (t.1.take i ++ [] ++ t.1.drop (i + 1))) := hu5
    generalize (t.1.take i ++ [] ++ t.1.drop (i + 1)).length = n5 at *
    have hW5 : Nw w W5 ∧ Nw W3 W5 := ⟨nw_trans hS.1.1 hn5, nw_trans hS.1.2 hn5⟩
    go_wp2
    refine hK1 _ _ (hSof _ hW5) ?_
    clear hK1 K1 hS hn5
    refine ord_actL _ rfl (fun K1 hK1 => ?_)
    go_wp2_with (go_at_call 96; refine (hspP.out _ hW5.1).mono ?_; rintro e W7 ⟨u7, rfl, hu7, hn7⟩; refine stop_here ?_)
    unfold Hid
    obtain ⟨a7, c7, rfl, _, _⟩ := Hs.form hu7
    have hu7 : Hid (Ps W7 (.slice a7 (bs.take i ++ [] ++ bs.drop (i + 1)).length c7) (bs.take i ++ [] ++ bs.drop (i + 1))) := hu7
    generalize (bs.take i ++ [] ++ bs.drop (i + 1)).length = n7 at *
    have hW7 : Nw w W7 ∧ Nw W3 W7 := ⟨nw_trans hW5.1 hn7, nw_trans hW5.2 hn7⟩
    go_wp2
    refine hK1 _ _ (hSof _ hW7) ?_
    clear hK1 K1
    have hS := hSof _ hW7
    refine ord_quietL _ ?_ rfl hS rfl ?_ ?_
    rotate_left
    · rintro w' ⟨hS1, hS2, hS3⟩; go_simp; first | rfl | (rw [if_pos (by omega)]; done) | (rw [if_pos (by omega)]; rfl) | (rw [if_pos (by omega)]; go_simp; rfl)
    simp only [Act.put, List.setIfInBounds_toArray, List.set_cons_zero, List.set_cons_succ]
    refine ord_actL _ rfl (fun K1 hK1 => ?_)
    go_wp2
    have hW8 : Nw W7 (W7.alloc (.cells #[.slice a5 n5 c5, .slice none 0 0, .slice a7 n7 c7] 95)) := nw_alloc (nw_refl W7) _
    have hb8 : Nd (W7.alloc (.cells #[.slice a5 n5 c5, .slice none 0 0, .slice a7 n7 c7] 95)) W7.heap.size (.slice a5 n5 c5) (.slice none 0 0) (.slice a7 n7 c7) := heap_alloc_new W7 _
    have hW9 : Nw w _ ∧ Nw W3 _ := ⟨nw_trans hW7.1 hW8, nw_trans hW7.2 hW8⟩
    refine hK1 _ _ (hSof _ hW9) ?_
    have hFew : Hid (NAt (W7.alloc (.cells #[.slice a5 n5 c5, .slice none 0 0, .slice a7 n7 c7] 95)) (0 + 1) (t.1.take i ++ t.1.drop (i + 1), t.2.take i ++ t.2.drop (i + 1)) W7.heap.size) := by
      have e1 := Hs.nw (Hs.nw hu5.out hn7) hW8
      have e2 := Hs.nw hu7.out hW8
      rw [List.append_nil] at e1 e2
      exact ⟨_, _, _, _, hb8, e1, Hs.nil _, e2, hfew.out _ hW9.1⟩
    clear hK1 K1 hSof hS hb8 hu5 hu7
    generalize W7.alloc (.cells #[.slice a5 n5 c5, .slice none 0 0, .slice a7 n7 c7] 95) = W8 at *
    generalize W7.heap.size = b8 at *
    refine ord_tail ?_
    simp only [List.drop_succ_cons, List.drop_zero]
    go_wp2_with (go_at_call 81; refine (hwith.out W8 b8 b0 hFew.out (hOne.out.nw hW9.2)).mono ?_; rintro e W9 ⟨b9, rfl, hb9, hn9⟩; refine stop_here ?_)
    unfold Hid
    go_wp2
    go_ret
    exact ⟨_, rfl, hb9, nw_trans hW9.1 hn9⟩

set_option maxHeartbeats 6400000 in
theorem c_fused1 {d : Nat} {t : Tr (d + 1 + 1)} {tl tr : Tr (d + 1)} {b i : Nat} (w : World) (h : NAt w (d + 1 + 1) t b) (hl : t.2[i]? = some tl) (hr : t.2[i + 1]? = some tr) (hfm : t.2.length = t.1.length + 1) (ht : t.1.length ≤ 20) (hsz : (keysOf (d + 1) tl).length + (keysOf (d + 1) tr).length ≤ 9) (hfl : Fm (d + 1) tl) (hfr : Fm (d + 1) tr) :
    Calls Try.prog 84 #[.pointer (some ⟨b, 0, none⟩), .int .i64 (i : Int)] w fun e w' => ∃ b', e = .returned (.pointer (some ⟨b', 0, none⟩)) ∧ NAt w' (d + 1 + 1) (fusedT (d + 1) t i) b' ∧ Nw w w' := by
  have hil : i + 1 < t.2.length := (List.getElem?_eq_some_iff.1 hr).1
  obtain ⟨kv, vv, sv, bs, h1, h2, h3, h4, h5⟩ := h
  have hbl0 := kids_length h5
  obtain ⟨bl, hbl, nl⟩ := kids_get i h5 hl
  obtain ⟨br, hbr, nr⟩ := kids_get (i + 1) h5 hr
  have nl0 := nl
  have nr0 := nr
  obtain ⟨kL, vL, sL, bsL, l1, l2, l3, l4, l5⟩ := nl
  obtain ⟨kR, vR, sR, bsR, r1, r2, r3, r4, r5⟩ := nr
  have hfl' : tl.2.length = tl.1.length + 1 := hfl
  have hfr' : tr.2.length = tr.1.length + 1 := hfr
  have hsz : tl.1.length + tr.1.length ≤ 9 := hsz
  have hleaf : Hid (∀ w', Nw w w' → Calls Try.prog 78 #[.pointer (some ⟨bl, 0, none⟩)] w' fun e w2 => e = .returned (.bool false) ∧ w' = w2) := fun w' hw => c_isLeaf1 w' (nl0.nw hw) (by omega)
  have hlenL := kids_length l5
  have hlenR := kids_length r5
  obtain ⟨ak, ck, rfl, hk1, hk2⟩ := Hs.form h2
  obtain ⟨av, cv, rfl, hv1, hv2⟩ := Hs.form h4
  obtain ⟨aL, cL, rfl, _, _⟩ := Hs.form l2
  obtain ⟨aR, cR, rfl, _, _⟩ := Hs.form r2
  obtain ⟨uL, dL, rfl, _, _⟩ := Hs.form l3
  obtain ⟨uR, dR, rfl, _, _⟩ := Hs.form r3
  obtain ⟨pL, qL, rfl, _, _⟩ := Hs.form l4
  obtain ⟨pR, qR, rfl, _, _⟩ := Hs.form r4
  obtain ⟨kb, ko, rfl, hkc⟩ := Ks.get h2 (i := i) (by omega)
  clear hkc
  obtain ⟨sb, so, rfl, k00⟩ := Ps.get h4 hbl
  obtain ⟨sb', so', hso, k11⟩ := Ps.get h4 hbr
  simp only [Option.some.injEq, Addr.mk.injEq, and_true] at hso
  obtain ⟨rfl, rfl⟩ := hso
  have c0 : Hid (w.cell? ⟨b, 0, none⟩ = some (.slice (some ⟨kb, ko, none⟩) t.1.length ck)) := h1.c0
  have c2 : Hid (w.cell? ⟨b, 2, none⟩ = some (.slice (some ⟨sb, so, none⟩) bs.length cv)) := h1.c2
  have cL0 : Hid (w.cell? ⟨bl, 0, none⟩ = some (.slice aL tl.1.length cL)) := l1.c0
  have cR0 : Hid (w.cell? ⟨br, 0, none⟩ = some (.slice aR tr.1.length cR)) := r1.c0
  have cL1 : Hid (w.cell? ⟨bl, 1, none⟩ = some (.slice uL 0 dL)) := l1.c1
  have cR1 : Hid (w.cell? ⟨br, 1, none⟩ = some (.slice uR 0 dR)) := r1.c1
  have k0 : Hid (w.cell? ⟨sb, so + i, none⟩ = some (.pointer (some ⟨bl, 0, none⟩))) := k00
  have k1 : Hid (w.cell? ⟨sb, so + (i + 1), none⟩ = some (.pointer (some ⟨br, 0, none⟩))) := k11
  have hcK : Hid (∀ w', Nw w w' → ∀ o, Hs w' o 2 [.slice aL tl.1.length cL, .slice aR tr.1.length cR] → Calls Try.prog 98 #[o] w' fun e w2 => ∃ u, e = .returned u ∧ Ks w2 u (tl.1 ++ tr.1) ∧ Nw w' w2) :=
    fun w' hw o ho => cat2K w' (Hs.nw l2 hw) (Hs.nw r2 hw) (by omega) (by omega) ho
  have hcE : Hid (∀ w', Nw w w' → ∀ o, Hs w' o 2 [.slice uL 0 dL, .slice uR 0 dR] → Calls Try.prog 99 #[o] w' fun e w2 => ∃ u, e = .returned u ∧ Vs w2 u ([] ++ []) ∧ Nw w' w2) :=
    fun w' hw o ho => cat2E w' (Hs.nw l3 hw) (Hs.nw r3 hw) (by simp) (by simp) ho
  have hspK : Hid (∀ w', Nw w w' → Calls Try.prog 82 #[.slice (some ⟨kb, ko, none⟩) t.1.length ck, .int .i64 (i : Int), .int .i64 ((i : Int) + 1), .slice none 0 0] w' fun e w2 => ∃ u, e = .returned u ∧ Ks w2 u (t.1.take i ++ [] ++ t.1.drop (i + 1)) ∧ Nw w' w2) :=
    fun w' hw => c_splicedK (i := i) (j := i + 1) (os := []) w' (Hs.nw h2 hw) (Hs.nil w') (by omega) (by omega) (by omega) (by simp)
  have hspP : Hid (∀ w', Nw w w' → Calls Try.prog 96 #[.slice (some ⟨sb, so, none⟩) bs.length cv, .int .i64 (i : Int), .int .i64 ((i : Int) + 1), .slice none 0 0] w' fun e w2 => ∃ u, e = .returned u ∧ Ps w2 u (bs.take i ++ [] ++ bs.drop (i + 1)) ∧ Nw w' w2) :=
    fun w' hw => c_splicedP (i := i) (j := i + 1) (os := []) w' (Hs.nw h4 hw) (Hs.nil w') (by omega) (by omega) (by omega) (by simp)
  have hfew : Hid (∀ w', Nw w w' → Kids (NAt w' (d + 1)) (t.2.take i ++ t.2.drop (i + 1)) (bs.take i ++ bs.drop (i + 1))) := fun w' hw => kids_append (kids_take i (h5.nw hw)) (kids_drop (i + 1) (h5.nw hw))
  have hmidS := Ks.cut h2 i (i + 1) (by omega) (by omega)
  have hmidL : (t.1.drop i).take (i + 1 - i) = [t.1.getD i 0] := by
    rw [Nat.add_sub_cancel_left, List.drop_eq_getElem_cons (by omega), List.take_succ_cons, List.take_zero, List.getD_eq_getElem?_getD, List.getElem?_eq_getElem (by omega)]
    rfl
  rw [hmidL] at hmidS
  obtain ⟨am, ham⟩ : ∃ am : Option Addr, Hid (am = if ck = i then (some ⟨kb, ko, none⟩) else Option.map (fun x : Addr => x.add (i * 1)) (some ⟨kb, ko, none⟩)) := ⟨_, rfl⟩
  rw [show sliced (some ⟨kb, ko, none⟩) i (i + 1) ck 1 = .slice am 1 (ck - i) by rw [ham.out]; unfold sliced; rw [Nat.add_sub_cancel_left]] at hmidS
  have cL2 : Hid (w.cell? ⟨bl, 2, none⟩ = some (.slice pL bsL.length qL)) := l1.c2
  have cR2 : Hid (w.cell? ⟨br, 2, none⟩ = some (.slice pR bsR.length qR)) := r1.c2
  have hcK3 : Hid (∀ w', Nw w w' → ∀ o, Hs w' o 3 [.slice aL tl.1.length cL, .slice am 1 (ck - i), .slice aR tr.1.length cR] → Calls Try.prog 98 #[o] w' fun e w2 => ∃ u, e = .returned u ∧ Ks w2 u (tl.1 ++ [t.1.getD i 0] ++ tr.1) ∧ Nw w' w2) :=
    fun w' hw o ho => cat3K w' (Hs.nw l2 hw) (Hs.nw hmidS hw) (Hs.nw r2 hw) (by omega) (by simp) (by omega) ho
  have hcP : Hid (∀ w', Nw w w' → ∀ o, Hs w' o 2 [.slice pL bsL.length qL, .slice pR bsR.length qR] → Calls Try.prog 100 #[o] w' fun e w2 => ∃ u, e = .returned u ∧ Ps w2 u (bsL ++ bsR) ∧ Nw w' w2) :=
    fun w' hw o ho => cat2P w' (Hs.nw l4 hw) (Hs.nw r4 hw) (by omega) (by omega) ho
  have hone : Hid (∀ w', Nw w w' → Kids (NAt w' d) (tl.2 ++ tr.2) (bsL ++ bsR)) := fun w' hw => kids_append (l5.nw hw) (r5.nw hw)
  have hfit : Hid (fusedT (d + 1) t i = withT (d + 1) (t.1.take i ++ t.1.drop (i + 1), t.2.take i ++ t.2.drop (i + 1)) i (tl.1 ++ [t.1.getD i 0] ++ tr.1, tl.2 ++ tr.2)) := by
    unfold Hid fusedT fewerT
    rw [List.getD_eq_getElem?_getD, List.getD_eq_getElem?_getD (l := t.2), hl, hr]
    rfl
  have hjs : (keysOf (d + 1) (tl.1 ++ [t.1.getD i 0] ++ tr.1, tl.2 ++ tr.2)).length ≤ 10 := by simp [keysOf]; omega
  have hjf : Fm (d + 1) (tl.1 ++ [t.1.getD i 0] ++ tr.1, tl.2 ++ tr.2) := by simp [Fm]; omega
  have hwith : Hid (∀ w' bf bo, NAt w' (d + 1 + 1) (t.1.take i ++ t.1.drop (i + 1), t.2.take i ++ t.2.drop (i + 1)) bf → NAt w' (d + 1) (tl.1 ++ [t.1.getD i 0] ++ tr.1, tl.2 ++ tr.2) bo → Calls Try.prog 81 #[.pointer (some ⟨bf, 0, none⟩), .int .i64 (i : Int), .pointer (some ⟨bo, 0, none⟩)] w' fun e w2 => ∃ b', e = .returned (.pointer (some ⟨b', 0, none⟩)) ∧ NAt w2 (d + 1 + 1) (fusedT (d + 1) t i) b' ∧ Nw w' w2) := by
    intro w' bf bo hf ho
    rw [hfit.out]
    exact c_with w' hf ho (by simp; omega) (by simp; omega) (by simp; omega) hjs hjf
  have hbi : i + 1 < bs.length := by omega
  have hbi0 : i < bs.length := by omega
  have hi100 : i ≤ 100 := by omega
  have hikt : i < t.1.length := by omega
  have hx1 : (i : Int) + 1 < (bs.length : Int) := by omega
  have hx2 : (0 : Int) ≤ (i : Int) + 1 := by omega
  have hx3 : ((i : Int) + 1).toNat = i + 1 := by omega
  have hx5 : (i : Int) + 1 ≤ (ck : Int) := by omega
  have hx6 : i + 1 - i = 1 := by omega
  have hwr : IntKind.i64.wrap ((i : Int) + 1) = (i : Int) + 1 := by rw [IntKind.wrap_i64]; omega
  generalize fusedT (d + 1) t i = T' at *
  have l2 : Hid _ := l2
  have l3 : Hid _ := l3
  clear hfit hjs hjf  h1 h2 h3 h4 h5 l1 r1 r2 r3 nl0 nr0 hl hr hbl hbr hfm ht hsz hil hbl0 hfl hfr hmidS hmidL hlenL hlenR l4 r4 l5 r5
  clear l2 l3 k00 k11
  clear hfl' hfr'
  go_enter Try.func84, Try.ntmps84
  go_wp2
  have d2 := c2.out
  have e0 := k0.out
  have e1 := k1.out
  go_quiet (fail)
  have hW0 : Nw w (w.drewN nq) := nw_drewN nq w
  clear d2 e0 e1
  generalize w.drewN nq = W0 at *
  go_wp2
  have hSof : ∀ w', Nw w w' → (fun w' : World => Nw w w' ∧ w'.cell? ⟨bl, 0, none⟩ = some (.slice aL tl.1.length cL) ∧ w'.cell? ⟨br, 0, none⟩ = some (.slice aR tr.1.length cR) ∧ w'.cell? ⟨bl, 1, none⟩ = some (.slice uL 0 dL) ∧ w'.cell? ⟨br, 1, none⟩ = some (.slice uR 0 dR)) w' := fun w' hw => ⟨hw, hw.cell cL0.out, hw.cell cR0.out, hw.cell cL1.out, hw.cell cR1.out⟩
  have hS := hSof _ (nw_drew hW0)
  refine wp_region_plan [] 22 [(0, []), (1, []), (2, []), (3, []), (4, []), (5, []), (6, []), (7, []), (10, []), (11, []), (12, []), (13, []), (14, []), (15, []), (16, []), (17, []), (0, [(8, []), (9, [8]), (18, []), (19, [9, 18])]), (20, []), (0, [(21, [])])] (fun w' : World => Nw w w' ∧ w'.cell? ⟨bl, 0, none⟩ = some (.slice aL tl.1.length cL) ∧ w'.cell? ⟨br, 0, none⟩ = some (.slice aR tr.1.length cR) ∧ w'.cell? ⟨bl, 1, none⟩ = some (.slice uL 0 dL) ∧ w'.cell? ⟨br, 1, none⟩ = some (.slice uR 0 dR)) (by kernel_rfl) (by kernel_rfl) ?_
  refine plan_quiet _ ?_ rfl hS rfl ?_ ?_
  rotate_left
  · rintro w' ⟨hS1, hC0, hC1, hC2, hC3⟩; go_simp; first | rfl | (rw [if_pos (by omega)]; done) | (rw [if_pos (by omega)]; rfl) | (rw [if_pos (by omega)]; go_simp; rfl)
  simp only [Act.put, List.setIfInBounds_toArray, List.set_cons_zero, List.set_cons_succ]
  refine plan_quiet _ ?_ rfl hS rfl ?_ ?_
  rotate_left
  · rintro w' ⟨hS1, hC0, hC1, hC2, hC3⟩; go_simp; first | rfl | (rw [if_pos (by omega)]; done) | (rw [if_pos (by omega)]; rfl) | (rw [if_pos (by omega)]; go_simp; rfl)
  simp only [Act.put, List.setIfInBounds_toArray, List.set_cons_zero, List.set_cons_succ]
  refine plan_quiet _ ?_ rfl hS rfl ?_ ?_
  rotate_left
  · rintro w' ⟨hS1, hC0, hC1, hC2, hC3⟩; go_simp; first | rfl | (rw [if_pos (by omega)]; done) | (rw [if_pos (by omega)]; rfl) | (rw [if_pos (by omega)]; go_simp; rfl)
  simp only [Act.put, List.setIfInBounds_toArray, List.set_cons_zero, List.set_cons_succ]
  refine plan_quiet _ ?_ rfl hS rfl ?_ ?_
  rotate_left
  · rintro w' ⟨hS1, hC0, hC1, hC2, hC3⟩; go_simp; first | rfl | (rw [if_pos (by omega)]; done) | (rw [if_pos (by omega)]; rfl) | (rw [if_pos (by omega)]; go_simp; rfl)
  simp only [Act.put, List.setIfInBounds_toArray, List.set_cons_zero, List.set_cons_succ]
  refine plan_quiet _ ?_ rfl hS rfl ?_ ?_
  rotate_left
  · rintro w' ⟨hS1, hC0, hC1, hC2, hC3⟩; go_simp; first | rfl | (rw [if_pos (by omega)]; done) | (rw [if_pos (by omega)]; rfl) | (rw [if_pos (by omega)]; go_simp; rfl)
  simp only [Act.put, List.setIfInBounds_toArray, List.set_cons_zero, List.set_cons_succ]
  refine plan_quiet _ ?_ rfl hS rfl ?_ ?_
  rotate_left
  · rintro w' ⟨hS1, hC0, hC1, hC2, hC3⟩; go_simp; first | rfl | (rw [if_pos (by omega)]; done) | (rw [if_pos (by omega)]; rfl) | (rw [if_pos (by omega)]; go_simp; rfl)
  simp only [Act.put, List.setIfInBounds_toArray, List.set_cons_zero, List.set_cons_succ]
  refine plan_quiet _ ?_ rfl hS rfl ?_ ?_
  rotate_left
  · rintro w' ⟨hS1, hC0, hC1, hC2, hC3⟩; go_simp; first | rfl | (rw [if_pos (by omega)]; done) | (rw [if_pos (by omega)]; rfl) | (rw [if_pos (by omega)]; go_simp; rfl)
  simp only [Act.put, List.setIfInBounds_toArray, List.set_cons_zero, List.set_cons_succ]
  refine plan_quiet _ ?_ rfl hS rfl ?_ ?_
  rotate_left
  · rintro w' ⟨hS1, hC0, hC1, hC2, hC3⟩; go_simp; first | rfl | (rw [if_pos (by omega)]; done) | (rw [if_pos (by omega)]; rfl) | (rw [if_pos (by omega)]; go_simp; rfl)
  simp only [Act.put, List.setIfInBounds_toArray, List.set_cons_zero, List.set_cons_succ]
  refine plan_quiet _ ?_ rfl hS rfl ?_ ?_
  rotate_left
  · rintro w' ⟨hS1, hC0, hC1, hC2, hC3⟩; go_simp; first | rfl | (rw [if_pos (by omega)]; done) | (rw [if_pos (by omega)]; rfl) | (rw [if_pos (by omega)]; go_simp; rfl)
  simp only [Act.put, List.setIfInBounds_toArray, List.set_cons_zero, List.set_cons_succ]
  refine plan_quiet _ ?_ rfl hS rfl ?_ ?_
  rotate_left
  · rintro w' ⟨hS1, hC0, hC1, hC2, hC3⟩; go_simp; first | rfl | (rw [if_pos (by omega)]; done) | (rw [if_pos (by omega)]; rfl) | (rw [if_pos (by omega)]; go_simp; rfl)
  simp only [Act.put, List.setIfInBounds_toArray, List.set_cons_zero, List.set_cons_succ]
  refine plan_quiet _ ?_ rfl hS rfl ?_ ?_
  rotate_left
  · rintro w' ⟨hS1, hC0, hC1, hC2, hC3⟩; go_simp; first | rfl | (rw [if_pos (by omega)]; done) | (rw [if_pos (by omega)]; rfl) | (rw [if_pos (by omega)]; go_simp; rfl)
  simp only [Act.put, List.setIfInBounds_toArray, List.set_cons_zero, List.set_cons_succ]
  refine plan_quiet _ ?_ rfl hS rfl ?_ ?_
  rotate_left
  · rintro w' ⟨hS1, hC0, hC1, hC2, hC3⟩; go_simp; first | rfl | (rw [if_pos (by omega)]; done) | (rw [if_pos (by omega)]; rfl) | (rw [if_pos (by omega)]; go_simp; rfl)
  simp only [Act.put, List.setIfInBounds_toArray, List.set_cons_zero, List.set_cons_succ]
  refine plan_quiet _ ?_ rfl hS rfl ?_ ?_
  rotate_left
  · rintro w' ⟨hS1, hC0, hC1, hC2, hC3⟩; go_simp; first | rfl | (rw [if_pos (by omega)]; done) | (rw [if_pos (by omega)]; rfl) | (rw [if_pos (by omega)]; go_simp; rfl)
  simp only [Act.put, List.setIfInBounds_toArray, List.set_cons_zero, List.set_cons_succ]
  refine plan_quiet _ ?_ rfl hS rfl ?_ ?_
  rotate_left
  · rintro w' ⟨hS1, hC0, hC1, hC2, hC3⟩; go_simp; first | rfl | (rw [if_pos (by omega)]; done) | (rw [if_pos (by omega)]; rfl) | (rw [if_pos (by omega)]; go_simp; rfl)
  simp only [Act.put, List.setIfInBounds_toArray, List.set_cons_zero, List.set_cons_succ]
  refine plan_quiet _ ?_ rfl hS rfl ?_ ?_
  rotate_left
  · rintro w' ⟨hS1, hC0, hC1, hC2, hC3⟩; go_simp; first | rfl | (rw [if_pos (by omega)]; done) | (rw [if_pos (by omega)]; rfl) | (rw [if_pos (by omega)]; go_simp; rfl)
  simp only [Act.put, List.setIfInBounds_toArray, List.set_cons_zero, List.set_cons_succ]
  refine plan_quiet _ ?_ rfl hS rfl ?_ ?_
  rotate_left
  · rintro w' ⟨hS1, hC0, hC1, hC2, hC3⟩; go_simp; first | rfl | (rw [if_pos (by omega)]; done) | (rw [if_pos (by omega)]; rfl) | (rw [if_pos (by omega)]; go_simp; rfl)
  simp only [Act.put, List.setIfInBounds_toArray, List.set_cons_zero, List.set_cons_succ]
  refine plan_group (fun | 8 => 32 | 9 => 33 | 18 => 42 | 19 => 43 | _ => 0) (fun | 8 => fun v w => Hs w v 2 [.slice aL tl.1.length cL, .slice aR tr.1.length cR] | 9 => fun v w => Ks w v (tl.1 ++ tr.1) | 18 => fun v w => Hs w v 2 [.slice uL 0 dL, .slice uR 0 dR] | 19 => fun v w => Vs w v ([] ++ []) | _ => fun _ _ => True) Nw (by decide) (by decide) (by decide) (fun w1 w2 h1 h2 => hSof _ (nw_trans h1.1 h2)) ?FG hS ?steps ?fin
  case FG =>
    intro p hp v w1 w2 h1 h2
    simp only [List.mem_cons, List.not_mem_nil, or_false] at hp
    rcases hp with rfl | rfl | rfl | rfl <;> exact Hs.nw h1 h2
  case steps =>
    intro p hp x w2 hS2 hd
    simp only [List.mem_cons, List.not_mem_nil, or_false] at hp
    rcases hp with rfl | rfl | rfl | rfl
    · refine ⟨_, rfl, fun K hK => ?_⟩
      simp only [putAll, Act.put, List.setIfInBounds_toArray, List.set_cons_zero, List.set_cons_succ] at hK ⊢
      clear hd hS
      go_wp2
      exact hK _ _ (nw_alloc (nw_refl w2) _) (hs_lit w2 #[.slice aL tl.1.length cL, .slice aR tr.1.length cR] _ 2 (by omega))
    · refine ⟨_, rfl, fun K hK => ?_⟩
      simp only [putAll, Act.put, List.setIfInBounds_toArray, List.set_cons_zero, List.set_cons_succ] at hK ⊢
      have h7 := hcK.out w2 hS2.1 (x 8) (hd 8 (by simp))
      clear hd hS
      go_wp2_with (go_at_call 98; refine h7.mono ?_; rintro e w3 ⟨u, rfl, hu, hn⟩; refine stop_here ?_)
      unfold Hid
      go_wp2
      exact hK _ _ hn hu
    · refine ⟨_, rfl, fun K hK => ?_⟩
      simp only [putAll, Act.put, List.setIfInBounds_toArray, List.set_cons_zero, List.set_cons_succ] at hK ⊢
      clear hd hS
      go_wp2
      exact hK _ _ (nw_alloc (nw_refl w2) _) (hs_lit w2 #[.slice uL 0 dL, .slice uR 0 dR] _ 2 (by omega))
    · refine ⟨_, rfl, fun K hK => ?_⟩
      simp only [putAll, Act.put, List.setIfInBounds_toArray, List.set_cons_zero, List.set_cons_succ] at hK ⊢
      have h7 := hcE.out w2 hS2.1 (x 18) (hd 18 (by simp))
      clear hd hS
      go_wp2_with (go_at_call 99; refine h7.mono ?_; rintro e w3 ⟨u, rfl, hu, hn⟩; refine stop_here ?_)
      unfold Hid
      go_wp2
      exact hK _ _ hn hu
  case fin =>
    intro x w2 hS2 hF
    have f8 : Ks w2 (x 9) (tl.1 ++ tr.1) := hF (9, [8]) (by simp)
    have f19 : Vs w2 (x 19) ([] ++ []) := hF (19, [9, 18]) (by simp)
    obtain ⟨a8, c8, e8, _, _⟩ := Hs.form f8
    obtain ⟨a19, c19, e19, _, _⟩ := Hs.form f19
    clear hF hS
    simp only [putAll, Act.put, List.setIfInBounds_toArray, List.set_cons_zero, List.set_cons_succ]
    rw [e8] at f8
    rw [e19] at f19
    rw [e8, e19]
    have f8 : Hid (Ks w2 (.slice a8 (tl.1 ++ tr.1).length c8) (tl.1 ++ tr.1)) := f8
    have f19 : Hid (Vs w2 (.slice a19 ([] ++ []).length c19) ([] ++ [])) := f19
    generalize (tl.1 ++ tr.1).length = n8 at *
    generalize ([] ++ [] : List Ext).length = n19 at *
    clear e8 e19
    refine plan_quiet _ ?_ rfl hS2 rfl ?_ ?_
    rotate_left
    · rintro w' ⟨hS1, hC0, hC1, hC2, hC3⟩; go_simp; first | rfl | (rw [if_pos (by omega)]; done) | (rw [if_pos (by omega)]; rfl) | (rw [if_pos (by omega)]; go_simp; rfl)
    simp only [Act.put, List.setIfInBounds_toArray, List.set_cons_zero, List.set_cons_succ]
    refine plan_act _ rfl (fun K1 hK1 => ?_)
    go_wp2
    have hW3 : Nw w2 (w2.alloc (.cells #[.slice a8 n8 c8, .slice a19 n19 c19, .slice none 0 0] 95)) := nw_alloc (nw_refl w2) _
    have hb3 : Nd (w2.alloc (.cells #[.slice a8 n8 c8, .slice a19 n19 c19, .slice none 0 0] 95)) w2.heap.size (.slice a8 n8 c8) (.slice a19 n19 c19) (.slice none 0 0) := heap_alloc_new w2 _
    have hW4 := nw_trans hS2.1 hW3
    refine hK1 _ _ (hSof _ hW4) ?_
    clear hK1 K1 hSof hS2 hW0
    clear f8 f19 hb3
    generalize w2.alloc (.cells #[.slice a8 n8 c8, .slice a19 n19 c19, .slice none 0 0] 95) = W3 at *
    clear hW3
    generalize w2.heap.size = b0 at *
    refine plan_tail ?_
    simp only [List.drop_succ_cons, List.drop_zero]
    go_wp2_with (go_at_call 78; refine (hleaf.out _ hW4).mono ?_; rintro e w' ⟨rfl, rfl⟩)
    have hSof : ∀ w', Nw w w' → (fun w' : World => Nw w w' ∧ w'.cell? ⟨bl, 0, none⟩ = some (.slice aL tl.1.length cL) ∧ w'.cell? ⟨b, 0, none⟩ = some (.slice (some ⟨kb, ko, none⟩) t.1.length ck) ∧ w'.cell? ⟨br, 0, none⟩ = some (.slice aR tr.1.length cR) ∧ w'.cell? ⟨bl, 2, none⟩ = some (.slice pL bsL.length qL) ∧ w'.cell? ⟨br, 2, none⟩ = some (.slice pR bsR.length qR)) w' := fun w' hw => ⟨hw, hw.cell cL0.out, hw.cell c0.out, hw.cell cR0.out, hw.cell cL2.out, hw.cell cR2.out⟩
    have hS := hSof _ (nw_drew hW4)
    refine wp_region_plan [] 30 [(0, []), (1, []), (2, []), (3, []), (4, []), (5, []), (6, []), (7, []), (8, []), (9, []), (10, []), (11, []), (12, []), (13, []), (14, []), (15, []), (18, []), (19, []), (20, []), (21, []), (22, []), (23, []), (24, []), (25, []), (0, [(16, []), (17, [16]), (26, []), (27, [17, 26])]), (28, []), (0, [(29, [])])] (fun w' : World => Nw w w' ∧ w'.cell? ⟨bl, 0, none⟩ = some (.slice aL tl.1.length cL) ∧ w'.cell? ⟨b, 0, none⟩ = some (.slice (some ⟨kb, ko, none⟩) t.1.length ck) ∧ w'.cell? ⟨br, 0, none⟩ = some (.slice aR tr.1.length cR) ∧ w'.cell? ⟨bl, 2, none⟩ = some (.slice pL bsL.length qL) ∧ w'.cell? ⟨br, 2, none⟩ = some (.slice pR bsR.length qR)) (by kernel_rfl) (by kernel_rfl) ?_
    refine plan_quiet _ ?_ rfl hS rfl ?_ ?_
    rotate_left
    · rintro w' ⟨hS1, hC0, hC1, hC2, hC3, hC4⟩; go_simp; first | rfl | (rw [if_pos (by omega)]; done) | (rw [if_pos (by omega)]; rfl) | (rw [if_pos (by omega)]; go_simp; rfl)
    simp only [Act.put, List.setIfInBounds_toArray, List.set_cons_zero, List.set_cons_succ]
    refine plan_quiet _ ?_ rfl hS rfl ?_ ?_
    rotate_left
    · rintro w' ⟨hS1, hC0, hC1, hC2, hC3, hC4⟩; go_simp; first | rfl | (rw [if_pos (by omega)]; done) | (rw [if_pos (by omega)]; rfl) | (rw [if_pos (by omega)]; go_simp; rfl)
    simp only [Act.put, List.setIfInBounds_toArray, List.set_cons_zero, List.set_cons_succ]
    refine plan_quiet _ ?_ rfl hS rfl ?_ ?_
    rotate_left
    · rintro w' ⟨hS1, hC0, hC1, hC2, hC3, hC4⟩; go_simp; first | rfl | (rw [if_pos (by omega)]; done) | (rw [if_pos (by omega)]; rfl) | (rw [if_pos (by omega)]; go_simp; rfl)
    simp only [Act.put, List.setIfInBounds_toArray, List.set_cons_zero, List.set_cons_succ]
    refine plan_quiet _ ?_ rfl hS rfl ?_ ?_
    rotate_left
    · rintro w' ⟨hS1, hC0, hC1, hC2, hC3, hC4⟩; go_simp; first | rfl | (rw [if_pos (by omega)]; done) | (rw [if_pos (by omega)]; rfl) | (rw [if_pos (by omega)]; go_simp; rfl)
    simp only [Act.put, List.setIfInBounds_toArray, List.set_cons_zero, List.set_cons_succ]
    refine plan_quiet _ ?_ rfl hS rfl ?_ ?_
    rotate_left
    · rintro w' ⟨hS1, hC0, hC1, hC2, hC3, hC4⟩; go_simp; first | rfl | (rw [if_pos (by omega)]; done) | (rw [if_pos (by omega)]; rfl) | (rw [if_pos (by omega)]; go_simp; rfl)
    simp only [Act.put, List.setIfInBounds_toArray, List.set_cons_zero, List.set_cons_succ]
    refine plan_quiet _ ?_ rfl hS rfl ?_ ?_
    rotate_left
    · rintro w' ⟨hS1, hC0, hC1, hC2, hC3, hC4⟩; go_simp; first | rfl | (rw [if_pos (by omega)]; done) | (rw [if_pos (by omega)]; rfl) | (rw [if_pos (by omega)]; go_simp; rfl)
    simp only [Act.put, List.setIfInBounds_toArray, List.set_cons_zero, List.set_cons_succ]
    refine plan_quiet _ ?_ rfl hS rfl ?_ ?_
    rotate_left
    · rintro w' ⟨hS1, hC0, hC1, hC2, hC3, hC4⟩; go_simp; first | rfl | (rw [if_pos (by omega)]; done) | (rw [if_pos (by omega)]; rfl) | (rw [if_pos (by omega)]; go_simp; rfl)
    simp only [Act.put, List.setIfInBounds_toArray, List.set_cons_zero, List.set_cons_succ]
    refine plan_quiet _ ?_ rfl hS rfl ?_ ?_
    rotate_left
    · rintro w' ⟨hS1, hC0, hC1, hC2, hC3, hC4⟩; go_simp; first | rfl | (rw [if_pos (by omega)]; done) | (rw [if_pos (by omega)]; rfl) | (rw [if_pos (by omega)]; go_simp; rfl)
    simp only [Act.put, List.setIfInBounds_toArray, List.set_cons_zero, List.set_cons_succ]
    refine plan_quiet _ ?_ rfl hS rfl ?_ ?_
    rotate_left
    · rintro w' ⟨hS1, hC0, hC1, hC2, hC3, hC4⟩; go_simp; first | rfl | (rw [if_pos (by omega)]; done) | (rw [if_pos (by omega)]; rfl) | (rw [if_pos (by omega)]; go_simp; rfl)
    simp only [Act.put, List.setIfInBounds_toArray, List.set_cons_zero, List.set_cons_succ]
    refine plan_quiet _ ?_ rfl hS rfl ?_ ?_
    rotate_left
    · rintro w' ⟨hS1, hC0, hC1, hC2, hC3, hC4⟩; go_simp; first | rfl | (rw [if_pos (by omega)]; done) | (rw [if_pos (by omega)]; rfl) | (rw [if_pos (by omega)]; go_simp; rfl)
    simp only [Act.put, List.setIfInBounds_toArray, List.set_cons_zero, List.set_cons_succ]
    refine plan_quiet _ (.int .i64 ((i : Int) + 1)) rfl hS rfl ?_ ?_
    · rintro w' ⟨hS1, hC0, hC1, hC2, hC3, hC4⟩; go_simp
    simp only [Act.put, List.setIfInBounds_toArray, List.set_cons_zero, List.set_cons_succ]
    refine plan_quiet _ (.slice am 1 (ck - i)) rfl hS rfl ?_ ?_
    · rintro w' ⟨hS1, hC0, hC1, hC2, hC3, hC4⟩; go_simp; rw [ham.out]; simp [add_plain]
    simp only [Act.put, List.setIfInBounds_toArray, List.set_cons_zero, List.set_cons_succ]
    refine plan_quiet _ ?_ rfl hS rfl ?_ ?_
    rotate_left
    · rintro w' ⟨hS1, hC0, hC1, hC2, hC3, hC4⟩; go_simp; first | rfl | (rw [if_pos (by omega)]; done) | (rw [if_pos (by omega)]; rfl) | (rw [if_pos (by omega)]; go_simp; rfl)
    simp only [Act.put, List.setIfInBounds_toArray, List.set_cons_zero, List.set_cons_succ]
    refine plan_quiet _ ?_ rfl hS rfl ?_ ?_
    rotate_left
    · rintro w' ⟨hS1, hC0, hC1, hC2, hC3, hC4⟩; go_simp; first | rfl | (rw [if_pos (by omega)]; done) | (rw [if_pos (by omega)]; rfl) | (rw [if_pos (by omega)]; go_simp; rfl)
    simp only [Act.put, List.setIfInBounds_toArray, List.set_cons_zero, List.set_cons_succ]
    refine plan_quiet _ ?_ rfl hS rfl ?_ ?_
    rotate_left
    · rintro w' ⟨hS1, hC0, hC1, hC2, hC3, hC4⟩; go_simp; first | rfl | (rw [if_pos (by omega)]; done) | (rw [if_pos (by omega)]; rfl) | (rw [if_pos (by omega)]; go_simp; rfl)
    simp only [Act.put, List.setIfInBounds_toArray, List.set_cons_zero, List.set_cons_succ]
    refine plan_quiet _ ?_ rfl hS rfl ?_ ?_
    rotate_left
    · rintro w' ⟨hS1, hC0, hC1, hC2, hC3, hC4⟩; go_simp; first | rfl | (rw [if_pos (by omega)]; done) | (rw [if_pos (by omega)]; rfl) | (rw [if_pos (by omega)]; go_simp; rfl)
    simp only [Act.put, List.setIfInBounds_toArray, List.set_cons_zero, List.set_cons_succ]
    refine plan_quiet _ ?_ rfl hS rfl ?_ ?_
    rotate_left
    · rintro w' ⟨hS1, hC0, hC1, hC2, hC3, hC4⟩; go_simp; first | rfl | (rw [if_pos (by omega)]; done) | (rw [if_pos (by omega)]; rfl) | (rw [if_pos (by omega)]; go_simp; rfl)
    simp only [Act.put, List.setIfInBounds_toArray, List.set_cons_zero, List.set_cons_succ]
    refine plan_quiet _ ?_ rfl hS rfl ?_ ?_
    rotate_left
    · rintro w' ⟨hS1, hC0, hC1, hC2, hC3, hC4⟩; go_simp; first | rfl | (rw [if_pos (by omega)]; done) | (rw [if_pos (by omega)]; rfl) | (rw [if_pos (by omega)]; go_simp; rfl)
    simp only [Act.put, List.setIfInBounds_toArray, List.set_cons_zero, List.set_cons_succ]
    refine plan_quiet _ ?_ rfl hS rfl ?_ ?_
    rotate_left
    · rintro w' ⟨hS1, hC0, hC1, hC2, hC3, hC4⟩; go_simp; first | rfl | (rw [if_pos (by omega)]; done) | (rw [if_pos (by omega)]; rfl) | (rw [if_pos (by omega)]; go_simp; rfl)
    simp only [Act.put, List.setIfInBounds_toArray, List.set_cons_zero, List.set_cons_succ]
    refine plan_quiet _ ?_ rfl hS rfl ?_ ?_
    rotate_left
    · rintro w' ⟨hS1, hC0, hC1, hC2, hC3, hC4⟩; go_simp; first | rfl | (rw [if_pos (by omega)]; done) | (rw [if_pos (by omega)]; rfl) | (rw [if_pos (by omega)]; go_simp; rfl)
    simp only [Act.put, List.setIfInBounds_toArray, List.set_cons_zero, List.set_cons_succ]
    refine plan_quiet _ ?_ rfl hS rfl ?_ ?_
    rotate_left
    · rintro w' ⟨hS1, hC0, hC1, hC2, hC3, hC4⟩; go_simp; first | rfl | (rw [if_pos (by omega)]; done) | (rw [if_pos (by omega)]; rfl) | (rw [if_pos (by omega)]; go_simp; rfl)
    simp only [Act.put, List.setIfInBounds_toArray, List.set_cons_zero, List.set_cons_succ]
    refine plan_quiet _ ?_ rfl hS rfl ?_ ?_
    rotate_left
    · rintro w' ⟨hS1, hC0, hC1, hC2, hC3, hC4⟩; go_simp; first | rfl | (rw [if_pos (by omega)]; done) | (rw [if_pos (by omega)]; rfl) | (rw [if_pos (by omega)]; go_simp; rfl)
    simp only [Act.put, List.setIfInBounds_toArray, List.set_cons_zero, List.set_cons_succ]
    refine plan_quiet _ ?_ rfl hS rfl ?_ ?_
    rotate_left
    · rintro w' ⟨hS1, hC0, hC1, hC2, hC3, hC4⟩; go_simp; first | rfl | (rw [if_pos (by omega)]; done) | (rw [if_pos (by omega)]; rfl) | (rw [if_pos (by omega)]; go_simp; rfl)
    simp only [Act.put, List.setIfInBounds_toArray, List.set_cons_zero, List.set_cons_succ]
    refine plan_quiet _ ?_ rfl hS rfl ?_ ?_
    rotate_left
    · rintro w' ⟨hS1, hC0, hC1, hC2, hC3, hC4⟩; go_simp; first | rfl | (rw [if_pos (by omega)]; done) | (rw [if_pos (by omega)]; rfl) | (rw [if_pos (by omega)]; go_simp; rfl)
    simp only [Act.put, List.setIfInBounds_toArray, List.set_cons_zero, List.set_cons_succ]
    refine plan_group (fun | 16 => 65 | 17 => 66 | 26 => 75 | 27 => 76 | _ => 0) (fun | 16 => fun v w => Hs w v 3 [.slice aL tl.1.length cL, .slice am 1 (ck - i), .slice aR tr.1.length cR] | 17 => fun v w => Ks w v (tl.1 ++ [t.1.getD i 0] ++ tr.1) | 26 => fun v w => Hs w v 2 [.slice pL bsL.length qL, .slice pR bsR.length qR] | 27 => fun v w => Ps w v (bsL ++ bsR) | _ => fun _ _ => True) Nw (by decide) (by decide) (by decide) (fun w1 w2 h1 h2 => hSof _ (nw_trans h1.1 h2)) ?FG hS ?steps ?fin
    case FG =>
      intro p hp v w1 w2 h1 h2
      simp only [List.mem_cons, List.not_mem_nil, or_false] at hp
      rcases hp with rfl | rfl | rfl | rfl <;> exact Hs.nw h1 h2
    case steps =>
      intro p hp x w2 hS2 hd
      simp only [List.mem_cons, List.not_mem_nil, or_false] at hp
      rcases hp with rfl | rfl | rfl | rfl
      · refine ⟨_, rfl, fun K hK => ?_⟩
        simp only [putAll, Act.put, List.setIfInBounds_toArray, List.set_cons_zero, List.set_cons_succ] at hK ⊢
        clear hd hS
        go_wp2
        exact hK _ _ (nw_alloc (nw_refl w2) _) (hs_lit w2 #[.slice aL tl.1.length cL, .slice am 1 (ck - i), .slice aR tr.1.length cR] _ 3 (by omega))
      · refine ⟨_, rfl, fun K hK => ?_⟩
        simp only [putAll, Act.put, List.setIfInBounds_toArray, List.set_cons_zero, List.set_cons_succ] at hK ⊢
        have h7 := hcK3.out w2 hS2.1 (x 16) (hd 16 (by simp))
        clear hd hS
        go_wp2_with (go_at_call 98; refine h7.mono ?_; rintro e w3 ⟨u, rfl, hu, hn⟩; refine stop_here ?_)
        unfold Hid
        go_wp2
        exact hK _ _ hn hu
      · refine ⟨_, rfl, fun K hK => ?_⟩
        simp only [putAll, Act.put, List.setIfInBounds_toArray, List.set_cons_zero, List.set_cons_succ] at hK ⊢
        clear hd hS
        go_wp2
        exact hK _ _ (nw_alloc (nw_refl w2) _) (hs_lit w2 #[.slice pL bsL.length qL, .slice pR bsR.length qR] _ 2 (by omega))
      · refine ⟨_, rfl, fun K hK => ?_⟩
        simp only [putAll, Act.put, List.setIfInBounds_toArray, List.set_cons_zero, List.set_cons_succ] at hK ⊢
        have h7 := hcP.out w2 hS2.1 (x 26) (hd 26 (by simp))
        clear hd hS
        go_wp2_with (go_at_call 100; refine h7.mono ?_; rintro e w3 ⟨u, rfl, hu, hn⟩; refine stop_here ?_)
        unfold Hid
        go_wp2
        exact hK _ _ hn hu
    case fin =>
      intro x w2 hS2 hF
      have f8 : Ks w2 (x 17) (tl.1 ++ [t.1.getD i 0] ++ tr.1) := hF (17, [16]) (by simp)
      have f19 : Ps w2 (x 27) (bsL ++ bsR) := hF (27, [17, 26]) (by simp)
      obtain ⟨a8, c8, e8, _, _⟩ := Hs.form f8
      obtain ⟨a19, c19, e19, _, _⟩ := Hs.form f19
      clear hF hS
      simp only [putAll, Act.put, List.setIfInBounds_toArray, List.set_cons_zero, List.set_cons_succ]
      rw [e8] at f8
      rw [e19] at f19
      rw [e8, e19]
      have f8 : Hid (Ks w2 (.slice a8 (tl.1 ++ [t.1.getD i 0] ++ tr.1).length c8) (tl.1 ++ [t.1.getD i 0] ++ tr.1)) := f8
      have f19 : Hid (Ps w2 (.slice a19 (bsL ++ bsR).length c19) (bsL ++ bsR)) := f19
      generalize (tl.1 ++ [t.1.getD i 0] ++ tr.1).length = n8 at *
      generalize (bsL ++ bsR).length = n19 at *
      clear e8 e19
      refine plan_quiet _ ?_ rfl hS2 rfl ?_ ?_
      rotate_left
      · rintro w' ⟨hS1, hC0, hC1, hC2, hC3, hC4⟩; go_simp; first | rfl | (rw [if_pos (by omega)]; done) | (rw [if_pos (by omega)]; rfl) | (rw [if_pos (by omega)]; go_simp; rfl)
      simp only [Act.put, List.setIfInBounds_toArray, List.set_cons_zero, List.set_cons_succ]
      refine plan_act _ rfl (fun K1 hK1 => ?_)
      go_wp2
      have hW3 : Nw w2 (w2.alloc (.cells #[.slice a8 n8 c8, .slice none 0 0, .slice a19 n19 c19] 95)) := nw_alloc (nw_refl w2) _
      have hb3 : Nd (w2.alloc (.cells #[.slice a8 n8 c8, .slice none 0 0, .slice a19 n19 c19] 95)) w2.heap.size (.slice a8 n8 c8) (.slice none 0 0) (.slice a19 n19 c19) := heap_alloc_new w2 _
      have hW6 := nw_trans hS2.1 hW3
      refine hK1 _ _ (hSof _ hW6) ?_
      clear hK1 K1 hSof hS2 hW4
      have hOne : Hid (NAt (w2.alloc (.cells #[.slice a8 n8 c8, .slice none 0 0, .slice a19 n19 c19] 95)) (d + 1) (tl.1 ++ [t.1.getD i 0] ++ tr.1, tl.2 ++ tr.2) w2.heap.size) := ⟨_, _, _, _, hb3, Hs.nw f8.out hW3, Hs.nil _, Hs.nw f19.out hW3, hone.out _ hW6⟩
      clear f8 f19 hb3
      generalize w2.alloc (.cells #[.slice a8 n8 c8, .slice none 0 0, .slice a19 n19 c19] 95) = W4 at *
      clear hW3
      generalize w2.heap.size = b1 at *
      refine plan_tail ?_
      simp only [List.drop_succ_cons, List.drop_zero]
      go_wp2
      have hSof : ∀ w', Nw w w' ∧ Nw W4 w' → (fun w' : World => (Nw w w' ∧ Nw W4 w') ∧ w'.cell? ⟨b, 0, none⟩ = some (.slice (some ⟨kb, ko, none⟩) t.1.length ck) ∧ w'.cell? ⟨b, 2, none⟩ = some (.slice (some ⟨sb, so, none⟩) bs.length cv)) w' := fun w' hw => ⟨hw, hw.1.cell c0.out, hw.1.cell c2.out⟩
      have hS := hSof _ ⟨nw_drew hW6, nw_drew (nw_refl W4)⟩
      refine wp_region_ord [] 18 [(0, true), (1, true), (2, true), (3, true), (4, true), (5, true), (6, true), (8, true), (9, true), (10, true), (11, true), (12, true), (13, true), (14, true), (7, false), (15, false), (16, true), (17, false)] (fun w' : World => (Nw w w' ∧ Nw W4 w') ∧ w'.cell? ⟨b, 0, none⟩ = some (.slice (some ⟨kb, ko, none⟩) t.1.length ck) ∧ w'.cell? ⟨b, 2, none⟩ = some (.slice (some ⟨sb, so, none⟩) bs.length cv)) (by kernel_rfl) (by kernel_rfl) ?_
      refine ord_quietL _ ?_ rfl hS rfl ?_ ?_
      rotate_left
      · rintro w' ⟨hS1, hS2, hS3⟩; go_simp; first | rfl | (rw [if_pos (by omega)]; done) | (rw [if_pos (by omega)]; rfl) | (rw [if_pos (by omega)]; go_simp; rfl)
      simp only [Act.put, List.setIfInBounds_toArray, List.set_cons_zero, List.set_cons_succ]
      refine ord_quietL _ ?_ rfl hS rfl ?_ ?_
      rotate_left
      · rintro w' ⟨hS1, hS2, hS3⟩; go_simp; first | rfl | (rw [if_pos (by omega)]; done) | (rw [if_pos (by omega)]; rfl) | (rw [if_pos (by omega)]; go_simp; rfl)
      simp only [Act.put, List.setIfInBounds_toArray, List.set_cons_zero, List.set_cons_succ]
      refine ord_quietL _ ?_ rfl hS rfl ?_ ?_
      rotate_left
      · rintro w' ⟨hS1, hS2, hS3⟩; go_simp; first | rfl | (rw [if_pos (by omega)]; done) | (rw [if_pos (by omega)]; rfl) | (rw [if_pos (by omega)]; go_simp; rfl)
      simp only [Act.put, List.setIfInBounds_toArray, List.set_cons_zero, List.set_cons_succ]
      refine ord_quietL _ ?_ rfl hS rfl ?_ ?_
      rotate_left
      · rintro w' ⟨hS1, hS2, hS3⟩; go_simp; first | rfl | (rw [if_pos (by omega)]; done) | (rw [if_pos (by omega)]; rfl) | (rw [if_pos (by omega)]; go_simp; rfl)
      simp only [Act.put, List.setIfInBounds_toArray, List.set_cons_zero, List.set_cons_succ]
      refine ord_quietL _ ?_ rfl hS rfl ?_ ?_
      rotate_left
      · rintro w' ⟨hS1, hS2, hS3⟩; go_simp; first | rfl | (rw [if_pos (by omega)]; done) | (rw [if_pos (by omega)]; rfl) | (rw [if_pos (by omega)]; go_simp; rfl)
      simp only [Act.put, List.setIfInBounds_toArray, List.set_cons_zero, List.set_cons_succ]
      refine ord_quietL _ ?_ rfl hS rfl ?_ ?_
      rotate_left
      · rintro w' ⟨hS1, hS2, hS3⟩; go_simp; first | rfl | (rw [if_pos (by omega)]; done) | (rw [if_pos (by omega)]; rfl) | (rw [if_pos (by omega)]; go_simp; rfl)
      simp only [Act.put, List.setIfInBounds_toArray, List.set_cons_zero, List.set_cons_succ]
      refine ord_quietL _ (.int .i64 ((i : Int) + 1)) rfl hS rfl ?_ ?_
      · rintro w' ⟨hS1, hS2, hS3⟩; go_simp
      simp only [Act.put, List.setIfInBounds_toArray, List.set_cons_zero, List.set_cons_succ]
      refine ord_quietL _ ?_ rfl hS rfl ?_ ?_
      rotate_left
      · rintro w' ⟨hS1, hS2, hS3⟩; go_simp; first | rfl | (rw [if_pos (by omega)]; done) | (rw [if_pos (by omega)]; rfl) | (rw [if_pos (by omega)]; go_simp; rfl)
      simp only [Act.put, List.setIfInBounds_toArray, List.set_cons_zero, List.set_cons_succ]
      refine ord_quietL _ ?_ rfl hS rfl ?_ ?_
      rotate_left
      · rintro w' ⟨hS1, hS2, hS3⟩; go_simp; first | rfl | (rw [if_pos (by omega)]; done) | (rw [if_pos (by omega)]; rfl) | (rw [if_pos (by omega)]; go_simp; rfl)
      simp only [Act.put, List.setIfInBounds_toArray, List.set_cons_zero, List.set_cons_succ]
      refine ord_quietL _ ?_ rfl hS rfl ?_ ?_
      rotate_left
      · rintro w' ⟨hS1, hS2, hS3⟩; go_simp; first | rfl | (rw [if_pos (by omega)]; done) | (rw [if_pos (by omega)]; rfl) | (rw [if_pos (by omega)]; go_simp; rfl)
      simp only [Act.put, List.setIfInBounds_toArray, List.set_cons_zero, List.set_cons_succ]
      refine ord_quietL _ ?_ rfl hS rfl ?_ ?_
      rotate_left
      · rintro w' ⟨hS1, hS2, hS3⟩; go_simp; first | rfl | (rw [if_pos (by omega)]; done) | (rw [if_pos (by omega)]; rfl) | (rw [if_pos (by omega)]; go_simp; rfl)
      simp only [Act.put, List.setIfInBounds_toArray, List.set_cons_zero, List.set_cons_succ]
      refine ord_quietL _ ?_ rfl hS rfl ?_ ?_
      rotate_left
      · rintro w' ⟨hS1, hS2, hS3⟩; go_simp; first | rfl | (rw [if_pos (by omega)]; done) | (rw [if_pos (by omega)]; rfl) | (rw [if_pos (by omega)]; go_simp; rfl)
      simp only [Act.put, List.setIfInBounds_toArray, List.set_cons_zero, List.set_cons_succ]
      refine ord_quietL _ ?_ rfl hS rfl ?_ ?_
      rotate_left
      · rintro w' ⟨hS1, hS2, hS3⟩; go_simp; first | rfl | (rw [if_pos (by omega)]; done) | (rw [if_pos (by omega)]; rfl) | (rw [if_pos (by omega)]; go_simp; rfl)
      simp only [Act.put, List.setIfInBounds_toArray, List.set_cons_zero, List.set_cons_succ]
      refine ord_quietL _ (.int .i64 ((i : Int) + 1)) rfl hS rfl ?_ ?_
      · rintro w' ⟨hS1, hS2, hS3⟩; go_simp
      simp only [Act.put, List.setIfInBounds_toArray, List.set_cons_zero, List.set_cons_succ]
      refine ord_actL _ rfl (fun K1 hK1 => ?_)
      go_wp2_with (go_at_call 82; refine (hspK.out _ hS.1.1).mono ?_; rintro e W5 ⟨u5, rfl, hu5, hn5⟩; refine stop_here ?_)
      unfold Hid
      obtain ⟨a5, c5, rfl, _, _⟩ := Hs.form hu5
      have hu5 : Hid (Ks W5 (.slice a5 (t.1.take i ++ [] ++ t.1.drop (i + 1)).length c5) (t.1.take i ++ [] ++ t.1.drop (i + 1))) := hu5
      generalize (t.1.take i ++ [] ++ t.1.drop (i + 1)).length = n5 at *
      have hW5 : Nw w W5 ∧ Nw W4 W5 := ⟨nw_trans hS.1.1 hn5, nw_trans hS.1.2 hn5⟩
      go_wp2
      refine hK1 _ _ (hSof _ hW5) ?_
      clear hK1 K1 hS hn5
      refine ord_actL _ rfl (fun K1 hK1 => ?_)
      go_wp2_with (go_at_call 96; refine (hspP.out _ hW5.1).mono ?_; rintro e W7 ⟨u7, rfl, hu7, hn7⟩; refine stop_here ?_)
      unfold Hid
      obtain ⟨a7, c7, rfl, _, _⟩ := Hs.form hu7
      have hu7 : Hid (Ps W7 (.slice a7 (bs.take i ++ [] ++ bs.drop (i + 1)).length c7) (bs.take i ++ [] ++ bs.drop (i + 1))) := hu7
      generalize (bs.take i ++ [] ++ bs.drop (i + 1)).length = n7 at *
      have hW7 : Nw w W7 ∧ Nw W4 W7 := ⟨nw_trans hW5.1 hn7, nw_trans hW5.2 hn7⟩
      go_wp2
      refine hK1 _ _ (hSof _ hW7) ?_
      clear hK1 K1
      have hS := hSof _ hW7
      refine ord_quietL _ ?_ rfl hS rfl ?_ ?_
      rotate_left
      · rintro w' ⟨hS1, hS2, hS3⟩; go_simp; first | rfl | (rw [if_pos (by omega)]; done) | (rw [if_pos (by omega)]; rfl) | (rw [if_pos (by omega)]; go_simp; rfl)
      simp only [Act.put, List.setIfInBounds_toArray, List.set_cons_zero, List.set_cons_succ]
      refine ord_actL _ rfl (fun K1 hK1 => ?_)
      go_wp2
      have hW8 : Nw W7 (W7.alloc (.cells #[.slice a5 n5 c5, .slice none 0 0, .slice a7 n7 c7] 95)) := nw_alloc (nw_refl W7) _
      have hb8 : Nd (W7.alloc (.cells #[.slice a5 n5 c5, .slice none 0 0, .slice a7 n7 c7] 95)) W7.heap.size (.slice a5 n5 c5) (.slice none 0 0) (.slice a7 n7 c7) := heap_alloc_new W7 _
      have hW9 : Nw w _ ∧ Nw W4 _ := ⟨nw_trans hW7.1 hW8, nw_trans hW7.2 hW8⟩
      refine hK1 _ _ (hSof _ hW9) ?_
      have hFew : Hid (NAt (W7.alloc (.cells #[.slice a5 n5 c5, .slice none 0 0, .slice a7 n7 c7] 95)) (d + 1 + 1) (t.1.take i ++ t.1.drop (i + 1), t.2.take i ++ t.2.drop (i + 1)) W7.heap.size) := by
        have e1 := Hs.nw (Hs.nw hu5.out hn7) hW8
        have e2 := Hs.nw hu7.out hW8
        rw [List.append_nil] at e1 e2
        exact ⟨_, _, _, _, hb8, e1, Hs.nil _, e2, hfew.out _ hW9.1⟩
      clear hK1 K1 hSof hS hb8 hu5 hu7
      generalize W7.alloc (.cells #[.slice a5 n5 c5, .slice none 0 0, .slice a7 n7 c7] 95) = W8 at *
      generalize W7.heap.size = b8 at *
      refine ord_tail ?_
      simp only [List.drop_succ_cons, List.drop_zero]
      go_wp2_with (go_at_call 81; refine (hwith.out W8 b8 b1 hFew.out (hOne.out.nw hW9.2)).mono ?_; rintro e W9 ⟨b9, rfl, hb9, hn9⟩; refine stop_here ?_)
      unfold Hid
      go_wp2
      go_ret
      exact ⟨_, rfl, hb9, nw_trans hW9.1 hn9⟩

end Go.Proofs.Ytnljfhjindenpab
