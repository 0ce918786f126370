/-
  TreeReads' walk.
-/
import Derived.Test.YtnljfhjindenpabTreeQ4
import Derived.Test.YtnljfhjindenpabTreeR2
namespace Go.Proofs.Ytnljfhjindenpab
set_option linter.unusedVariables false
set_option linter.unusedSimpArgs false
set_option maxRecDepth 20000
open Go.RowKit

theorem kids_flat {n : Nat} (hc : ∀ (c : Tr n), (∃ a b, R n 3 7 c a b) → ∀ k, (flat n c).length ≤ 7 * (nodesT n c k).length) : ∀ (cs : List (Tr n)) (k : Nat), (∀ c ∈ cs, ∃ a b, R n 3 7 c a b) → (cs.flatMap (flat n)).length ≤ 7 * (kidsG (gOf cs) cs.length k).2.length
  | [], k, _ => by simp
  | c :: cs, k, h => by
    rw [List.length_cons, kids_cons]
    have h1 := hc c (h c List.mem_cons_self) k
    have h2 := kids_flat hc cs (k + (nodesT n c k).length) (fun x hx => h x (List.mem_cons_of_mem _ hx))
    rw [List.flatMap_cons, List.length_append, List.length_append]
    omega

theorem flat_nodes : ∀ {n m M : Nat} {t : Tr n} {a b : Int} (k : Nat), R n m M t a b → M ≤ 7 → (flat n t).length ≤ 7 * (nodesT n t k).length
  | 0, m, M, t, a, b, k, h, hM => by
    have := h.1.2
    have e : (nodesT 0 t k).length = 1 := rfl
    rw [e]
    show t.length ≤ 7 * 1
    omega
  | n + 1, m, M, t, a, b, k, h, hM => by
    have hk := kids_flat (n := n) (fun c hc k => by obtain ⟨a, b, hab⟩ := hc; exact flat_nodes k hab (by decide)) t.2 (k + 1) (fun c hc => bds_mem h.2 hc)
    rw [nodesT, List.length_cons]
    have e : (flat (n + 1) t).length ≤ (t.2.flatMap (flat n)).length := Nat.le_refl _
    have e2 : (kidsG (gOf t.2) t.2.length (k + 1)).2.length = (kidsG (fun j k => nodesT n (t.2.getD j (dflt n)) k) t.2.length (k + 1)).2.length := rfl
    rw [e2] at hk
    omega

theorem readL_len {l : List Nv} {ps : List Pr} (h : readL l = some ps) (hk : ∀ nd ∈ l, ∀ k ∈ nd.1, 0 ≤ k ∧ k < 18446744073709551616) (hl : l.length ≤ 300) : ps.length ≤ 2100 := by
  obtain ⟨n, t, h1, h2, rfl⟩ := readL_sound h hk
  have := flat_nodes 0 h1 (Nat.le_refl _)
  rw [h2] at this
  omega

set_option maxRecDepth 20000 in
set_option maxHeartbeats 6400000 in
theorem c_reads {v : Value} {nds : List Nv} {key : Int} (w : World) (h : Nds w v nds) (hk : ∀ nd ∈ nds, ∀ k ∈ nd.1, 0 ≤ k ∧ k < 18446744073709551616) (hB : ∀ nd ∈ nds, nd.1.length * 8 ≤ reachBytes ∧ nd.2.1.length * 16 ≤ reachBytes ∧ nd.2.2.length * 8 ≤ reachBytes) (k0 : 0 ≤ key) (k1 : key < 18446744073709551616) :
    Calls Try.prog 6 #[v, .int .u64 key] w fun e w' => e = .returned (.bool true) ∧ Nw w w' := by
  obtain ⟨ao, cap, rfl, hac, hac2⟩ := h.form
  obtain ⟨N, hN⟩ : ∃ N, Hid (nds.length = N) := ⟨_, rfl⟩
  rw [hN.out] at hac ⊢
  rw [hN.out] at h
  replace h : Hid (Nds w (.slice ao N cap) nds) := h
  have hB2 : Hid (∀ nd ∈ nds, nd.1.length ≤ 17592186044416 ∧ nd.2.1.length ≤ 8796093022208 ∧ nd.2.2.length ≤ 17592186044416) := fun nd hnd => by
    have := hB nd hnd
    unfold reachBytes at this
    omega
  have hB3 : Hid (∀ nd ∈ nds, nd.1.length < 9223372036854775807) := fun nd hnd => by have := (hB2.out nd hnd).1; omega
  replace hk : Hid _ := hk
  clear hB
  go_enter Try.func6, Try.ntmps6
  go_wp2_with (go_at_call 17; refine (c_alive _).mono ?_; rintro e W1 ⟨rfl, n1⟩; refine stop_here ?_)
  unfold Hid
  by_cases h300 : 300 < N
  · have hd : decide ((300 : Int) < (N : Int)) = true := decide_eq_true (by omega)
    go_wp2
    go_ret
    exact ⟨rfl, n1⟩
  have hd : decide ((300 : Int) < (N : Int)) = false := decide_eq_false (by omega)
  have hcp := c_copyN W1 (h.out.nw n1) (by rw [hN.out]; omega) hB2.out
  go_wp2_with (go_at_call 25; refine hcp.mono ?_; rintro e W2 ⟨u2, rfl, h2, n2⟩; refine stop_here ?_)
  unfold Hid
  have n12 := nw_trans n1 n2
  have hof := c_Of W2 h2 (by rw [hN.out]; omega) hB3.out hk.out
  obtain ⟨va, vc, rfl, hv1, hv2⟩ := h2.form
  rw [hN.out] at hv1 hof ⊢
  clear hcp hd h2
  cases hr : readL nds with
  | none =>
    unfold OfPost at hof
    rw [hr] at hof
    go_wp2_with (go_at_call 22; refine hof.mono ?_; rintro e W3 ⟨n3, rfl⟩; refine stop_here ?_)
    unfold Hid
    have n13 := nw_trans n12 n3
    have hrd := c_Read W3 (h.out.nw n13) (by rw [hN.out]; omega)
    rw [hr] at hrd
    unfold rlV at hrd
    clear hof
    go_wp2_with (go_at_call 19; refine hrd.mono ?_; rintro e W4 ⟨u4, n4, rfl, h4⟩; refine stop_here ?_)
    unfold Hid
    have hfin := nw_trans n13 n4
    clear hrd h4
    go_wp2
    go_ret
    exact ⟨by first | rfl | simp, hfin⟩
  | some L =>
    unfold OfPost at hof
    rw [hr] at hof
    have hL := readL_len hr hk.out (by rw [hN.out]; omega)
    replace hr : Hid (readL nds = some L) := hr
    go_wp2_with (go_at_call 22; refine hof.mono ?_; rintro e W3 ⟨n3, g, n, t, rfl, q1, q2, q3⟩; refine stop_here ?_)
    unfold Hid
    have n13 := nw_trans n12 n3
    have hT : TP W3 g L := ⟨n, t, q1, q2, q3⟩
    have hrise : Hid (Rise (L.map (·.1))) := hT.rise
    have hrd := c_Read W3 (h.out.nw n13) (by rw [hN.out]; omega)
    rw [hr.out] at hrd
    unfold rlV at hrd
    clear hof q1 q2 q3
    go_wp2_with (go_at_call 19; refine hrd.mono ?_; rintro e W4 ⟨u4, n4, rfl, h4⟩; refine stop_here ?_)
    unfold Hid
    have hP := h4 L rfl
    have n14 := nw_trans n13 n4
    replace hT := hT.nw n4
    clear hrd h4
    obtain ⟨pa, pc, rfl, hp1, hp2⟩ := hP.form
    obtain ⟨nL, hnL⟩ : ∃ nL, Hid (L.length = nL) := ⟨_, rfl⟩
    rw [hnL.out] at hL hp1 hP ⊢
    have hln := t_Len W4 hT (by rw [hnL.out]; omega)
    rw [hnL.out] at hln
    replace hT : Hid (TP W4 g L) := hT
    replace hP : Hid (Prs W4 (.slice pa nL pc) L) := hP
    have hb1 : ((nL : Int) != (nL : Int)) = false := by simp
    have ha := t_All W4 hT.out (by rw [hnL.out]; omega)
    go_wp2_with (first | (go_at_call 24; refine hln.mono ?_; rintro e W10 ⟨rfl, rfl⟩) | (go_at_call 23; refine ha.mono ?_; rintro e W5 ⟨v5, rfl, h5, n5⟩; refine stop_here ?_))
    unfold Hid
    have n15 := nw_trans n14 n5
    have hs5 := c_same W5 h5 (hP.out.nw n5) (by rw [hnL.out]; omega) (by rw [hnL.out]; omega)
    rw [decide_eq_true (rfl : L = L)] at hs5
    obtain ⟨xa, xc, rfl, hx1, hx2⟩ := h5.form
    rw [hnL.out] at hx1 hs5 ⊢
    clear h5 ha hln hb1
    go_wp2_with (go_at_call 21; refine hs5.mono ?_; rintro e W6 ⟨rfl, n6⟩; refine stop_here ?_)
    unfold Hid
    have n46 := nw_trans n5 n6
    have n16 := nw_trans n15 n6
    replace hT : Hid (TP W6 g L) := hT.out.nw n46
    replace hP : Hid (Prs W6 (.slice pa nL pc) L) := hP.out.nw n46
    clear hs5 n46
    have hput := t_Put (k := key) (e := (7, 7)) W6 hT.out k0 k1
    unfold ext at hput
    go_upto_region 12 with fail
    go_wp2_with (go_at_call 26; refine hput.mono ?_; rintro e W7 ⟨g7, rfl, hT7, n7⟩; refine stop_here ?_)
    unfold Hid
    have n17 := nw_trans n16 n7
    replace hT : Hid (TP W7 g L) := hT.out.nw n7
    have hdel := t_Del (k := key) W7 hT.out k0 k1
    clear hput
    go_wp2_with (go_at_call 27; refine hdel.mono ?_; rintro e W8 ⟨g8, rfl, hT8, n8⟩; refine stop_here ?_)
    unfold Hid
    have n18 := nw_trans n17 n8
    replace hT7 : Hid (TP W8 g7 (putL key (7, 7) L)) := hT7.nw n8
    replace hT8 : Hid (TP W8 g8 (delL key L)) := hT8
    have hpl := putL_len key (7, 7) L
    have hdl := delL_len key L
    rw [hnL.out] at hpl hdl
    obtain ⟨A, hA⟩ : ∃ A, Hid (putL key (7, 7) L = A) := ⟨_, rfl⟩
    obtain ⟨B, hBd⟩ : ∃ B, Hid (delL key L = B) := ⟨_, rfl⟩
    rw [hA.out] at hT7 hpl
    rw [hBd.out] at hT8 hdl
    obtain ⟨m7, t7, a1, a2, a3⟩ := hT7.out.ex
    obtain ⟨m8, t8, c1, c2, c3⟩ := hT8.out.ex
    have l7 : (nodesT m7 t7 0).length ≤ 2200 := by have := nodes_top 0 a2; rw [a3] at this; omega
    have l8 : (nodesT m8 t8 0).length ≤ 2200 := by have := nodes_top 0 c2; rw [c3] at this; omega
    have r7 : Hid (readL (nodesT m7 t7 0) = some A) := by unfold Hid; rw [readL_tree a2, a3]
    have r8 : Hid (readL (nodesT m8 t8 0) = some B) := by unfold Hid; rw [readL_tree c2, c3]
    have o7 := c_Nodes W8 a1 a2 (by rw [a3]; omega)
    have o8 : Hid (∀ w', Nw W8 w' → Calls Try.prog 20 #[.pointer (some ⟨g8, 0, none⟩)] w' fun e w'' => ∃ v, e = .returned v ∧ Nds w'' v (nodesT m8 t8 0) ∧ Nw w' w'') := fun w' hw => c_Nodes w' (c1.nw hw) c2 (by rw [c3]; omega)
    clear hdel a1 a2 a3 c1 c2 c3
    generalize nodesT m7 t7 0 = nd7 at *
    generalize nodesT m8 t8 0 = nd8 at *
    go_wp2_with (go_at_call 20; refine o7.mono ?_; rintro e W9 ⟨v9, rfl, h9, n9⟩; refine stop_here ?_)
    unfold Hid
    have n19 := nw_trans n18 n9
    have hrd := c_Read W9 h9 (by omega)
    rw [r7.out] at hrd
    unfold rlV at hrd
    obtain ⟨sa, sc, rfl, _, _⟩ := h9.form
    clear h9 o7
    go_wp2_with (go_at_call 19; refine hrd.mono ?_; rintro e WA ⟨uA, nA, rfl, hA4⟩; refine stop_here ?_)
    unfold Hid
    have hPA := hA4 A rfl
    have n1A := nw_trans n19 nA
    have n8A := nw_trans n9 nA
    obtain ⟨ta, tc, rfl, _, _⟩ := hPA.form
    replace hPA : Hid (Prs WA (.slice ta A.length tc) A) := hPA
    clear hrd hA4
    go_wp2_with (go_at_call 20; refine (o8.out _ n8A).mono ?_; rintro e WB ⟨vB, rfl, hB9, nB⟩; refine stop_here ?_)
    unfold Hid
    have n1B := nw_trans n1A nB
    have hrd := c_Read WB hB9 (by omega)
    rw [r8.out] at hrd
    unfold rlV at hrd
    obtain ⟨wa, wc, rfl, _, _⟩ := hB9.form
    clear hB9 o8
    go_wp2_with (go_at_call 19; refine hrd.mono ?_; rintro e WC ⟨uC, nC, rfl, hC4⟩; refine stop_here ?_)
    unfold Hid
    have hPC := hC4 B rfl
    have n1C := nw_trans n1B nC
    have nAC := nw_trans nB nC
    have n8C := nw_trans n8A nAC
    have n6C := nw_trans n7 (nw_trans n8 n8C)
    obtain ⟨ya, yc, rfl, _, _⟩ := hPC.form
    replace hPC : Hid (Prs WC (.slice ya B.length yc) B) := hPC
    replace hPA : Hid (Prs WC (.slice ta A.length tc) A) := hPA.out.nw nAC
    replace hP : Hid (Prs WC (.slice pa nL pc) L) := hP.out.nw n6C
    clear hrd hC4
    have hrp := c_rput (k := key) (e := (7, 7)) WC hP.out (by rw [hnL.out]; omega) hrise.out
    rw [hA.out] at hrp
    unfold ext at hrp
    go_wp2_with (go_at_call 28; refine hrp.mono ?_; rintro e WD ⟨uD, rfl, hD, nD⟩; refine stop_here ?_)
    unfold Hid
    have hs := c_same WD (hPA.out.nw nD) hD (by omega) (by omega)
    rw [decide_eq_true (rfl : A = A)] at hs
    obtain ⟨za, zc, rfl, _, _⟩ := hD.form
    have n1D := nw_trans n1C nD
    clear hrp hD
    go_wp2_with (go_at_call 21; refine hs.mono ?_; rintro e WE ⟨rfl, nE⟩; refine stop_here ?_)
    unfold Hid
    have nCE := nw_trans nD nE
    have n1E := nw_trans n1D nE
    have hrl := c_rdel (k := key) WE (hP.out.nw nCE) (by rw [hnL.out]; omega)
    have hBd2 : L.filter (fun p => !decide (p.1 = key)) = B := hBd.out
    rw [hBd2] at hrl
    clear hs hBd2
    go_wp2_with (go_at_call 29; refine hrl.mono ?_; rintro e WF ⟨uF, rfl, hF, nF⟩; refine stop_here ?_)
    unfold Hid
    have hs := c_same WF (hPC.out.nw (nw_trans nCE nF)) hF (by omega) (by omega)
    rw [decide_eq_true (rfl : B = B)] at hs
    obtain ⟨fa, fc, rfl, _, _⟩ := hF.form
    have n1F := nw_trans n1E nF
    clear hrl hF
    go_wp2_with (go_at_call 21; refine hs.mono ?_; rintro e WG ⟨rfl, nG⟩; refine stop_here ?_)
    unfold Hid
    have hfin := nw_trans n1F nG
    clear hs
    go_wp2
    go_ret
    exact ⟨by first | rfl | simp, hfin⟩
end Go.Proofs.Ytnljfhjindenpab
