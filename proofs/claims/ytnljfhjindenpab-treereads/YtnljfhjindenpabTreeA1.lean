/-
  The laws' own: the chapter's example.
-/
import Derived.Test.YtnljfhjindenpabTreeW16
namespace Go.Proofs.Ytnljfhjindenpab
set_option linter.unusedVariables false
set_option linter.unusedSimpArgs false
set_option maxRecDepth 20000
open Go.RowKit

theorem below_of_nw {w w' : World} (h : Nw w w') : Below w.heap.size w w' := Fr.below h (Nat.le_refl _) (fun _ h => h.elim)

theorem top_nil : Top 0 [] := ⟨⟨by simp, by simp⟩, List.Pairwise.nil, by simp⟩

theorem two_flat : flat _ (putTop _ (putTop 0 [] 5 (1, 1)).2 3 (2, 1)).2 = [(3, (2, 1)), (5, (1, 1))] := rfl
theorem two_nodes : (nodesT _ (putTop _ (putTop 0 [] 5 (1, 1)).2 3 (2, 1)).2 0).length = 1 := rfl

theorem Prs.get {w : World} {ao : Option Addr} {n cap : Nat} {ps : List Pr} (h : Prs w (.slice ao n cap) ps) {i : Nat} (hi : i < ps.length) :
    ∃ b off, ao = some ⟨b, off, none⟩ ∧ w.cell? ⟨b, off + i * 3, none⟩ = some (.int .u64 ps[i].1) ∧ w.cell? ⟨b, off + i * 3 + 1, none⟩ = some (.int .i64 ps[i].2.1) ∧ w.cell? ⟨b, off + i * 3 + 2, none⟩ = some (.int .i64 ps[i].2.2) := by
  have hl : (prcells (ps.take i)).length = i * 3 := by rw [prcells_length, List.length_take, Nat.min_eq_left (by omega)]
  have e : ps = ps.take i ++ ps[i] :: ps.drop (i + 1) := by simp
  have e2 : prcells ps = prcells (ps.take i) ++ (prcell ps[i] ++ prcells (ps.drop (i + 1))) := by
    conv => lhs; rw [e]
    rw [prcells_append, show ps[i] :: ps.drop (i + 1) = [ps[i]] ++ ps.drop (i + 1) from rfl, prcells_append, prcells_one]
  have g0 : (prcells ps)[i * 3]? = some (.int .u64 ps[i].1) := by rw [e2, List.getElem?_append_right (by omega), hl]; simp [prcell]
  have g1 : (prcells ps)[i * 3 + 1]? = some (.int .i64 ps[i].2.1) := by rw [e2, List.getElem?_append_right (by omega), hl]; simp [prcell]
  have g2 : (prcells ps)[i * 3 + 2]? = some (.int .i64 ps[i].2.2) := by rw [e2, List.getElem?_append_right (by omega), hl]; simp [prcell]
  obtain ⟨b, off, e1, c1⟩ := Hs.get h g0
  obtain ⟨b', off', e1', c2⟩ := Hs.get h g1
  obtain ⟨b'', off'', e1'', c3⟩ := Hs.get h g2
  rw [e1] at e1' e1''
  simp only [Option.some.injEq, Addr.mk.injEq, and_true] at e1' e1''
  obtain ⟨rfl, rfl⟩ := e1'
  obtain ⟨rfl, rfl⟩ := e1''
  exact ⟨b, off, e1, c1, by rw [Nat.add_assoc]; exact c2, by rw [Nat.add_assoc]; exact c3⟩

theorem Prs.nw {w w' : World} {v : Value} {ps : List Pr} (h : Prs w v ps) (hw : Nw w w') : Prs w' v ps := Hs.nw h hw
theorem Prs.form {w : World} {v : Value} {ps : List Pr} (h : Prs w v ps) : ∃ ao cap, v = .slice ao ps.length cap ∧ ps.length ≤ cap ∧ cap ≤ 9223372036854775807 := Hs.form h

set_option maxHeartbeats 3200000 in
theorem c_alive (w : World) : Calls Try.prog 17 #[] w fun e w' => e = .returned (.bool true) ∧ Nw w w' := by
  obtain ⟨p1, q1⟩ := putTop_ok (k := 5) (e := (1, 1)) top_nil (by decide) (by decide)
  obtain ⟨p2, q2⟩ := putTop_ok (k := 3) (e := (2, 1)) p1 (by decide) (by decide)
  have hfl := two_flat
  have hnn := two_nodes
  go_enter Try.func17, Try.ntmps17
  go_wp2_with (go_at_call 42; refine (c_new _).mono ?_; rintro e w1 ⟨b1, rfl, h1, n1⟩; refine stop_here ?_)
  unfold Hid
  have a1 := c_Len w1 h1 top_nil (by decide)
  go_wp2_with (go_at_call 24; refine a1.mono ?_; rintro e w' ⟨rfl, rfl⟩; refine stop_here ?_)
  unfold Hid
  have a2 := c_Put (k := 5) (e := (1, 1)) w1 h1 top_nil (by decide) (by decide)
  go_wp2_with (go_at_call 26; refine a2.mono ?_; rintro e w2 ⟨b2, rfl, h2, n2⟩; refine stop_here ?_)
  unfold Hid
  have a3 := c_Put (k := 3) (e := (2, 1)) w2 h2 p1 (by decide) (by decide)
  clear a2 a1
  go_wp2_with (go_at_call 26; refine a3.mono ?_; rintro e w3 ⟨b3, rfl, h3, n3⟩; refine stop_here ?_)
  unfold Hid
  have a4 := c_Range (k := 0) (to := 9) w3 h3 p2 (by decide) (by rw [hfl]; decide)
  rw [hfl] at a4
  clear a3
  go_wp2_with (go_at_call 23; refine a4.mono ?_; rintro e w4 ⟨v4, rfl, h4, n4⟩; refine stop_here ?_)
  unfold Hid
  replace h4 : Prs w4 v4 [(3, (2, 1)), (5, (1, 1))] := h4
  obtain ⟨ao, cap, rfl, hc1, hc2⟩ := h4.form
  obtain ⟨vb, vo, rfl, k0, _, _⟩ := h4.get (i := 0) (by decide)
  obtain ⟨vb', vo', hvv, k1, _, _⟩ := h4.get (i := 1) (by decide)
  simp only [Option.some.injEq, Addr.mk.injEq, and_true] at hvv
  obtain ⟨rfl, rfl⟩ := hvv
  simp only [List.getElem_cons_zero, List.getElem_cons_succ, List.length_cons, List.length_nil, Nat.zero_mul, Nat.add_zero, Nat.zero_add, Nat.one_mul] at k0 k1 hc1
  have a5 := c_Nodes w4 (h3.nw n4) p2 (by rw [hfl]; decide)
  clear a4 h4
  go_wp2_with (go_at_call 20; refine a5.mono ?_; rintro e w5 ⟨v5, rfl, h5, n5⟩; refine stop_here ?_)
  unfold Hid
  obtain ⟨ao5, cap5, rfl, _, _⟩ := h5.form
  rw [hnn]
  have a6 := c_Len w5 ((h3.nw n4).nw n5) p2 (by rw [hfl]; decide)
  rw [hfl] at a6
  clear a5 h5
  go_wp2_with (go_at_call 24; refine a6.mono ?_; rintro e w' ⟨rfl, rfl⟩; refine stop_here ?_)
  unfold Hid
  have hn15 := nw_trans n2 (nw_trans n3 (nw_trans n4 n5))
  have a7 := c_Len w5 (h1.nw hn15) top_nil (by decide)
  clear a6
  go_wp2_with (go_at_call 24; refine a7.mono ?_; rintro e w' ⟨rfl, rfl⟩; refine stop_here ?_)
  unfold Hid
  go_wp2
  go_ret
  exact ⟨rfl, nw_trans n1 hn15⟩
end Go.Proofs.Ytnljfhjindenpab
