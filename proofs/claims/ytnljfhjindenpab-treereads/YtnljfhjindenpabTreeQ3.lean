/-
  Of, whole; and TreeShapes' walk.
-/
import Derived.Test.YtnljfhjindenpabTreeQ2
import Derived.Test.YtnljfhjindenpabTreeF2
import Derived.Test.YtnljfhjindenpabTreeOpen2
namespace Go.Proofs.Ytnljfhjindenpab
set_option linter.unusedVariables false
set_option linter.unusedSimpArgs false
set_option maxRecDepth 20000
open Go.RowKit

theorem nodes_short : ∀ {n m M : Nat} {t : Tr n} {a b : Int} (k : Nat), R n m M t a b → M ≤ 7 → ∀ nd ∈ nodesT n t k, nd.1.length ≤ 7
  | 0, m, M, t, a, b, k, h, hM, nd, hnd => by
    have : nd = (t.map (·.1), t.map (·.2), []) := by simpa [nodesT] using hnd
    subst this
    have := h.1.2
    simp only [List.length_map]
    omega
  | n + 1, m, M, t, a, b, k, h, hM, nd, hnd => by
    rw [nodesT, List.mem_cons] at hnd
    rcases hnd with rfl | hnd
    · have := h.1.2
      simp only
      omega
    · obtain ⟨j, k', hj, hmem⟩ := kidsG_mem hnd
      rw [getD_get hj] at hmem
      exact nodes_short k' (bds_get h.2 (List.getElem?_eq_getElem hj)) (by decide) nd hmem

theorem c_Of {v : Value} {nds : List Nv} (w : World) (h : Nds w v nds) (hb : nds.length ≤ 1000000) (hkl : ∀ nd ∈ nds, nd.1.length < 9223372036854775807) (hk : ∀ nd ∈ nds, ∀ k ∈ nd.1, 0 ≤ k ∧ k < 18446744073709551616) :
    Calls Try.prog 22 #[v] w fun e w' => Nw w w' ∧ OfPost nds e w' := by
  obtain ⟨ao, cap, rfl, _, _⟩ := h.form
  exact c_OfG w hk ⟨ao, cap, rfl⟩ (c_joined w h hb hkl)

set_option maxRecDepth 20000 in
set_option maxHeartbeats 6400000 in
theorem c_shapes {v : Value} {xs : List TAct} (w : World) (w0 : TActsAt w.heap.size w v xs) :
    Calls Try.prog 5 #[v] w fun e w' => e = .returned (.bool true) ∧ Nw w w' := by
  obtain ⟨ao, cap, rfl, hac, hac2⟩ := w0.form
  replace w0 : Hid (TActsAt w.heap.size w (.slice ao xs.length cap) xs) := w0
  go_enter Try.func5, Try.ntmps5
  go_wp2_with (go_at_call 17; refine (c_alive _).mono ?_; rintro e W1 ⟨rfl, n1⟩; refine stop_here ?_)
  unfold Hid
  by_cases h300 : 300 < xs.length
  · have hd : decide ((300 : Int) < (xs.length : Int)) = true := decide_eq_true (by omega)
    go_wp2
    go_ret
    exact ⟨rfl, n1⟩
  have hd : decide ((300 : Int) < (xs.length : Int)) = false := decide_eq_false (by omega)
  have hg := c_grown W1 (w0.out.nw n1 (Nat.le_refl _)) n1.size (by omega)
  obtain ⟨L, hL⟩ : ∃ L, Hid (L = actsL xs) := ⟨_, rfl⟩
  rw [← hL.out] at hg
  go_wp2_with (go_at_call 18; refine hg.mono ?_; rintro e W2 ⟨b, u, rfl, hT, hP, hlen, n2⟩; refine stop_here ?_)
  unfold Hid
  clear hg hd
  have n12 := nw_trans n1 n2
  have hl300 : L.length ≤ 300 := by omega
  obtain ⟨ua, uc, rfl, hu1, hu2⟩ := hP.form
  obtain ⟨n, t, hTA, hTop, hfl⟩ := hT.ex
  have hkeys := hT.keys
  have hnl : (nodesT n t 0).length ≤ 301 := by have := nodes_top 0 hTop; rw [hfl] at this; omega
  have hshort : Hid (∀ nd ∈ nodesT n t 0, nd.1.length < 9223372036854775807) := fun nd hnd => by have := nodes_short 0 hTop (Nat.le_refl _) nd hnd; omega
  have hkb : Hid (∀ nd ∈ nodesT n t 0, ∀ k ∈ nd.1, 0 ≤ k ∧ k < 18446744073709551616) := fun nd hnd k hk => nodes_keys 0 hTop nd hnd k hk
  have hread : Hid (readL (nodesT n t 0) = some L) := by unfold Hid; rw [readL_tree hTop, hfl]
  have q1 : Hid (∀ w', Nw W2 w' → Calls Try.prog 20 #[.pointer (some ⟨b, 0, none⟩)] w' fun e w'' => ∃ v, e = .returned v ∧ Nds w'' v (nodesT n t 0) ∧ Nw w' w'') := fun w' hw => c_Nodes w' (hTA.nw hw) hTop (by rw [hfl]; omega)
  generalize nodesT n t 0 = nds at *
  replace hP : Hid (Prs W2 (.slice ua L.length uc) L) := hP
  obtain ⟨nL, hnL⟩ : ∃ nL, Hid (L.length = nL) := ⟨_, rfl⟩
  rw [hnL.out] at hP hl300 hu1 ⊢
  replace hkeys : Hid _ := hkeys
  clear hlen h300 hT hTA hTop hfl
  obtain ⟨N, hN⟩ : ∃ N, Hid (nds.length = N) := ⟨_, rfl⟩
  rw [hN.out] at hnl
  go_wp2_with (go_at_call 20; refine (q1.out _ (nw_refl _)).mono ?_; rintro e W3 ⟨v3, rfl, h3, n3⟩; refine stop_here ?_)
  unfold Hid
  have n13 := nw_trans n12 n3
  have hr := c_Read W3 h3 (by rw [hN.out]; omega)
  rw [hread.out] at hr
  unfold rlV at hr
  obtain ⟨va, vc, rfl, hv1, hv2⟩ := h3.form
  rw [hN.out] at hv1 hr ⊢
  clear h3
  go_wp2_with (go_at_call 19; refine hr.mono ?_; rintro e W4 ⟨u4, n4, rfl, h4⟩; refine stop_here ?_)
  unfold Hid
  have hp4 := h4 L rfl
  have n14 := nw_trans n13 n4
  have n24 := nw_trans n3 n4
  have hs4 := c_same W4 hp4 (hP.out.nw n24) (by rw [hnL.out]; omega) (by rw [hnL.out]; omega)
  rw [decide_eq_true (rfl : L = L)] at hs4
  obtain ⟨pa, pc, rfl, hq1, hq2⟩ := hp4.form
  rw [hnL.out] at hq1 hs4 ⊢
  clear hp4 h4 hr
  go_wp2_with (go_at_call 21; refine hs4.mono ?_; rintro e W5 ⟨rfl, n5⟩; refine stop_here ?_)
  unfold Hid
  have n15 := nw_trans n14 n5
  have n25 := nw_trans n24 n5
  clear hs4
  go_upto_region 11 with fail
  go_wp2_with (go_at_call 20; refine (q1.out _ n25).mono ?_; rintro e W6 ⟨v6, rfl, h6, n6⟩; refine stop_here ?_)
  unfold Hid
  have hof := c_Of W6 h6 (by rw [hN.out]; omega) hshort.out hkb.out
  unfold OfPost at hof
  rw [hread.out] at hof
  obtain ⟨wa, wc, rfl, hw1, hw2⟩ := h6.form
  rw [hN.out] at hw1 hof ⊢
  clear h6
  have n26 := nw_trans n25 n6
  have n16 := nw_trans n15 n6
  go_wp2_with (go_at_call 22; refine hof.mono ?_; rintro e W7 ⟨n7, g7, m7, t7, rfl, k1, k2, k3⟩; refine stop_here ?_)
  unfold Hid
  have hTP : TP W7 g7 L := ⟨m7, t7, k1, k2, k3⟩
  have n27 := nw_trans n26 n7
  have n17 := nw_trans n16 n7
  have ha := t_All W7 hTP (by rw [hnL.out]; omega)
  clear hof k1 k2 k3
  go_wp2_with (go_at_call 23; refine ha.mono ?_; rintro e W8 ⟨v8, rfl, h8, n8⟩; refine stop_here ?_)
  unfold Hid
  have hs8 := c_same W8 h8 (hP.out.nw (nw_trans n27 n8)) (by rw [hnL.out]; omega) (by rw [hnL.out]; omega)
  rw [decide_eq_true (rfl : L = L)] at hs8
  obtain ⟨xa, xc, rfl, hx1, hx2⟩ := h8.form
  rw [hnL.out] at hx1 hs8 ⊢
  clear h8 ha
  go_wp2_with (go_at_call 21; refine hs8.mono ?_; rintro e W9 ⟨rfl, n9⟩; refine stop_here ?_)
  unfold Hid
  have n79 := nw_trans n8 n9
  have hln := t_Len W9 (hTP.nw n79) (by rw [hnL.out]; omega)
  rw [hnL.out] at hln
  have hfin := nw_trans n17 n79
  clear hs8
  go_wp2_with (go_at_call 24; refine hln.mono ?_; rintro e W10 ⟨rfl, rfl⟩; refine stop_here ?_)
  unfold Hid
  have hbb : ((nL : Int) == (nL : Int)) = true := by simp
  go_wp2
  go_ret
  exact ⟨by first | rfl | simp, hfin⟩
end Go.Proofs.Ytnljfhjindenpab
