/-
  The laws' own: a tree behind some acts.
-/
import Derived.Test.YtnljfhjindenpabTreeOpen
namespace Go.Proofs.Ytnljfhjindenpab
set_option linter.unusedVariables false
set_option linter.unusedSimpArgs false
set_option maxRecDepth 20000
open Go.RowKit

/-- The pairs behind some acts. -/
def actL (l : List Pr) (a : TAct) : List Pr := if a.kind = 0 then putL a.key (a.s, a.l) l else delL a.key l
def actsL (xs : List TAct) : List Pr := xs.foldl actL []

theorem actsL_take {xs : List TAct} {j : Nat} (hj : j < xs.length) : actsL (xs.take (j + 1)) = actL (actsL (xs.take j)) xs[j] := by
  unfold actsL
  rw [List.take_succ_eq_append_getElem hj, List.foldl_append]
  rfl

theorem filt_two (k : Int) : ∀ l : List Pr, (l.filter (fun p => decide (p.1 < k))).length + (l.filter (fun p => decide (k < p.1))).length ≤ l.length
  | [] => by simp
  | p :: l => by
    have := filt_two k l
    by_cases h1 : p.1 < k
    · have h2 : ¬ k < p.1 := by omega
      simp [h1, h2]; omega
    · by_cases h2 : k < p.1
      · simp [h1, h2]; omega
      · simp [h1, h2]; omega

theorem putL_len (k : Int) (e : Ext) (l : List Pr) : (putL k e l).length ≤ l.length + 1 := by
  have h1 := filt_two k l
  have h2 : (putL k e l).length = (l.filter (fun p => decide (p.1 < k))).length + ((l.filter (fun p => decide (k < p.1))).length + 1) := by unfold putL; rw [List.length_append, List.length_cons]
  rw [h2]
  exact Nat.succ_le_succ h1
theorem delL_len (k : Int) (l : List Pr) : (delL k l).length ≤ l.length := List.length_filter_le _ _

theorem nw_below {w w' : World} (h : Nw w w') {K : Nat} (hK : K ≤ w.heap.size) : Below K w w' := Fr.below h hK (fun _ h => h.elim)

/-- A right tree in memory, with its pairs. -/
structure TP (w : World) (b : Nat) (l : List Pr) : Prop where
  ex : ∃ n, ∃ t : Tr n, TAt w b n t ∧ Top n t ∧ flat n t = l
  
theorem TP.nw {w w' : World} {b : Nat} {l : List Pr} (h : TP w b l) (hw : Nw w w') : TP w' b l := by
  obtain ⟨n, t, h1, h2, h3⟩ := h.ex
  exact ⟨n, t, h1.nw hw, h2, h3⟩

theorem TP.rise {w : World} {b : Nat} {l : List Pr} (h : TP w b l) : Rise (l.map (·.1)) := by
  obtain ⟨n, t, h1, h2, rfl⟩ := h.ex
  exact (R.flat h2).2

theorem t_new (w : World) : Calls Try.prog 42 #[] w fun e w' => ∃ b', e = .returned (.pointer (some ⟨b', 0, none⟩)) ∧ TP w' b' [] ∧ Nw w w' := by
  refine (c_new w).mono ?_
  rintro e w' ⟨b, rfl, h, hn⟩
  exact ⟨b, rfl, ⟨0, [], h, top_nil, rfl⟩, hn⟩

theorem t_Put {b : Nat} {l : List Pr} {k : Int} {e : Ext} (w : World) (h : TP w b l) (h0 : 0 ≤ k) (h1 : k < 18446744073709551616) :
    Calls Try.prog 26 #[.pointer (some ⟨b, 0, none⟩), .int .u64 k, ext e] w fun e' w' => ∃ b', e' = .returned (.pointer (some ⟨b', 0, none⟩)) ∧ TP w' b' (putL k e l) ∧ Nw w w' := by
  obtain ⟨n, t, g1, g2, rfl⟩ := h.ex
  refine (c_Put w g1 g2 h0 h1).mono ?_
  rintro e' w' ⟨b', rfl, h, hn⟩
  obtain ⟨p1, p2⟩ := putTop_ok (k := k) (e := e) g2 h0 h1
  exact ⟨b', rfl, ⟨_, _, h, p1, p2⟩, hn⟩

theorem t_Del {b : Nat} {l : List Pr} {k : Int} (w : World) (h : TP w b l) (h0 : 0 ≤ k) (h1 : k < 18446744073709551616) :
    Calls Try.prog 27 #[.pointer (some ⟨b, 0, none⟩), .int .u64 k] w fun e' w' => ∃ b', e' = .returned (.pointer (some ⟨b', 0, none⟩)) ∧ TP w' b' (delL k l) ∧ Nw w w' := by
  obtain ⟨n, t, g1, g2, rfl⟩ := h.ex
  refine (c_Del w g1 g2 h0 h1).mono ?_
  rintro e' w' ⟨b', rfl, h, hn⟩
  obtain ⟨p1, p2⟩ := delTop_ok (k := k) g2 h0 h1
  exact ⟨b', rfl, ⟨_, _, h, p1, p2⟩, hn⟩

theorem t_Len {b : Nat} {l : List Pr} (w : World) (h : TP w b l) (hl : l.length ≤ 900000) :
    Calls Try.prog 24 #[.pointer (some ⟨b, 0, none⟩)] w fun e w' => e = .returned (.int .i64 (l.length : Nat)) ∧ w = w' := by
  obtain ⟨n, t, g1, g2, rfl⟩ := h.ex
  exact c_Len w g1 g2 (by omega)

theorem t_Range {b : Nat} {l : List Pr} {k to : Int} (w : World) (h : TP w b l) (h1 : k < 18446744073709551616) (hl : l.length ≤ 900000) :
    Calls Try.prog 23 #[.pointer (some ⟨b, 0, none⟩), .int .u64 k, .int .u64 to] w fun e' w' => ∃ v, e' = .returned v ∧ Prs w' v (rangeL k to l) ∧ Nw w w' := by
  obtain ⟨n, t, g1, g2, rfl⟩ := h.ex
  exact c_Range w g1 g2 h1 hl

/-- All pairs: every key lies between. -/
theorem rangeL_all {l : List Pr} (h : ∀ p ∈ l, 0 ≤ p.1 ∧ p.1 < 18446744073709551616) : rangeL 0 18446744073709551615 l = l := filt_all (fun p hp => by have := h p hp; simp; omega)

theorem TP.keys {w : World} {b : Nat} {l : List Pr} (h : TP w b l) : ∀ p ∈ l, 0 ≤ p.1 ∧ p.1 < 18446744073709551616 := by
  obtain ⟨n, t, g1, g2, rfl⟩ := h.ex
  exact (R.flat g2).1

theorem t_All {b : Nat} {l : List Pr} (w : World) (h : TP w b l) (hl : l.length ≤ 900000) :
    Calls Try.prog 23 #[.pointer (some ⟨b, 0, none⟩), .int .u64 0, .int .u64 18446744073709551615] w fun e' w' => ∃ v, e' = .returned v ∧ Prs w' v l ∧ Nw w w' := by
  have := t_Range (k := 0) (to := 18446744073709551615) w h (by decide) hl
  rwa [rangeL_all h.keys] at this

set_option maxHeartbeats 3200000 in
theorem c_grown {K : Nat} {v : Value} {xs : List TAct} (w : World) (h : TActsAt K w v xs) (hK : K ≤ w.heap.size) (hl : xs.length ≤ 300) :
    Calls Try.prog 18 #[v] w fun e w' => ∃ b u, e = .returned (.tuple #[.pointer (some ⟨b, 0, none⟩), u]) ∧ TP w' b (actsL xs) ∧ Prs w' u (actsL xs) ∧ (actsL xs).length ≤ xs.length ∧ Nw w w' := by
  obtain ⟨ao, cap, rfl, hc1, hc2, hcs⟩ := h
  have h : TActsAt K w (.slice ao xs.length cap) xs := ⟨ao, cap, rfl, hc1, hc2, hcs⟩
  clear hcs
  unfold maxLen at hc2
  replace h : Hid _ := h
  go_enter Try.func18, Try.ntmps18
  go_wp2_with (go_at_call 42; refine (t_new _).mono ?_; rintro e w1 ⟨b1, rfl, h1, n1⟩; refine stop_here ?_)
  unfold Hid
  have h0 : Hid (Prs (w1.alloc (.cells #[] 73)) (.slice (some ⟨w1.heap.size, 0, none⟩) 0 0) []) := (prow0 w1).prs
  have n2 : Nw w (w1.alloc (.cells #[] 73)) := nw_alloc n1 _
  have h2 : Hid (TP (w1.alloc (.cells #[] 73)) b1 []) := h1.nw (nw_alloc (nw_refl w1) _)
  clear h1 n1
  go_wp2_with (refine wpList_buildSlice0 rfl 41 73 rfl Try.underlying41 (by kernel_rfl) ?_)
  generalize w1.alloc (.cells #[] 73) = w2 at *
  generalize w1.heap.size = g1 at *
  go_loopw [4, 5, 12] (fun tt u i wr => ∃ (j b : Nat), j ≤ xs.length ∧ i = .int .i64 j ∧ tt = .pointer (some ⟨b, 0, none⟩) ∧ TP wr b (actsL (xs.take j)) ∧ Prs wr u (actsL (xs.take j)) ∧ (actsL (xs.take j)).length ≤ j ∧ Nw w wr) (fun _ _ i _ => xs.length - (intOf i).toNat)
  case atStart => exact ⟨0, b1, Nat.zero_le _, rfl, rfl, h2.out, h0.out, Nat.le_refl _, n2⟩
  case round =>
    clear h0 h2 n2
    obtain ⟨j, b, hj, rfl, rfl, hT, hP, hLn, hw⟩ := hrel
    obtain ⟨ua, uc, rfl, hu1, hu2⟩ := hP.form
    by_cases hlt : j < xs.length
    · obtain ⟨q, off, rfl, hq, hcell, hok⟩ := TActsAt.get h.out j hlt
      obtain ⟨d0, d1, d2, d3⟩ := hcell wr (nw_below hw hK)
      have hst := actsL_take hlt
      have hblk : (wr.alloc (.cells #[.int .i64 xs[j].kind, .int .u64 xs[j].key, .int .i64 xs[j].s, .int .i64 xs[j].l] 75)).heap[wr.heap.size]? = some (.cells #[.int .i64 xs[j].kind, .int .u64 xs[j].key, .int .i64 xs[j].s, .int .i64 xs[j].l] 75 (0, 0)) := heap_alloc_new wr _
      have hW : Nw wr (wr.alloc (.cells #[.int .i64 xs[j].kind, .int .u64 xs[j].key, .int .i64 xs[j].s, .int .i64 xs[j].l] 75)) := nw_alloc (nw_refl wr) _
      have hk := hok.n
      have hrise := hT.rise
      generalize xs[j] = a at *
      clear hcell hok
      go_upto_region 6 with fail
      have hT1 := hT.nw hW
      have hP1 := hP.nw hW
      have hw1 := nw_trans hw hW
      generalize wr.alloc (.cells #[.int .i64 a.kind, .int .u64 a.key, .int .i64 a.s, .int .i64 a.l] 75) = w3 at *
      generalize wr.heap.size = gb at *
      clear d0 d1 d2 d3 hT hP hW hw
      have f0 : w3.cell? ⟨gb, 0, none⟩ = some (.int .i64 a.kind) := cell_blk hblk rfl
      have f1 : w3.cell? ⟨gb, 1, none⟩ = some (.int .u64 a.key) := cell_blk hblk rfl
      have f2 : w3.cell? ⟨gb, 2, none⟩ = some (.int .i64 a.s) := cell_blk hblk rfl
      have f3 : w3.cell? ⟨gb, 3, none⟩ = some (.int .i64 a.l) := cell_blk hblk rfl
      have hlen300 : (actsL (xs.take j)).length ≤ 300 := by omega
      by_cases hkind : a.kind = 0
      · have hnew : Hid (actsL (xs.take (j + 1)) = putL a.key (a.s, a.l) (actsL (xs.take j))) := by unfold Hid; rw [hst]; unfold actL; rw [if_pos hkind]
        have hpl := putL_len a.key (a.s, a.l) (actsL (xs.take j))
        have hput := t_Put (k := a.key) (e := (a.s, a.l)) w3 hT1 hk.1 hk.2
        have hrput : Hid (∀ w', Nw w3 w' → Calls Try.prog 28 #[.slice ua (actsL (xs.take j)).length uc, .int .u64 a.key, ext (a.s, a.l)] w' fun e' w2 => ∃ u, e' = .returned u ∧ Prs w2 u (putL a.key (a.s, a.l) (actsL (xs.take j))) ∧ Nw w' w2) := fun w' hw' => c_rput w' (hP1.nw hw') (by omega) hrise
        have hb : (a.kind == 0) = true := by simp [hkind]
        clear hst hkind hT1 hP1 hrise
        unfold ext at hput hrput
        generalize hLe : (actsL (xs.take j)).length = len at *
        replace hLe : Hid _ := hLe
        go_wp2_with (go_at_call 26; refine hput.mono ?_; rintro e w4 ⟨b4, rfl, h4, n4⟩; refine stop_here ?_)
        unfold Hid
        have g1 := n4.cell f1
        have g2 := n4.cell f2
        have g3 := n4.cell f3
        clear f0 f1 f2 f3 hput
        go_wp2_with (go_at_call 28; refine (hrput.out w4 n4).mono ?_; rintro e w5 ⟨u5, rfl, h5, n5⟩; refine stop_here ?_)
        unfold Hid
        obtain ⟨a5, c5, rfl, _, _⟩ := h5.form
        have h4' : Hid (TP w5 b4 (actsL (xs.take (j + 1)))) := by unfold Hid; rw [hnew.out]; exact h4.nw n5
        have h5' : Hid (Prs w5 (.slice a5 (putL a.key (a.s, a.l) (actsL (xs.take j))).length c5) (actsL (xs.take (j + 1)))) := by unfold Hid; rw [hnew.out]; exact h5
        have hlen' : Hid ((actsL (xs.take (j + 1))).length ≤ j + 1) := by unfold Hid; rw [hnew.out]; omega
        have hn5 := nw_trans hw1 (nw_trans n4 n5)
        clear g1 g2 g3 hrput h4 h5 hnew hpl
        generalize (putL a.key (a.s, a.l) (actsL (xs.take j))).length = m5 at *
        go_wp2
        go_roundw
        case rel => exact ⟨j + 1, b4, by omega, by go_num, rfl, h4'.out, h5'.out, hlen'.out, hn5⟩
        case measure => simp [intOf]; omega
      · have hnew : Hid (actsL (xs.take (j + 1)) = delL a.key (actsL (xs.take j))) := by unfold Hid; rw [hst]; unfold actL; rw [if_neg hkind]
        have hpl := delL_len a.key (actsL (xs.take j))
        have hdel := t_Del (k := a.key) w3 hT1 hk.1 hk.2
        have hrdel : Hid (∀ w', Nw w3 w' → Calls Try.prog 29 #[.slice ua (actsL (xs.take j)).length uc, .int .u64 a.key] w' fun e' w2 => ∃ u, e' = .returned u ∧ Prs w2 u (delL a.key (actsL (xs.take j))) ∧ Nw w' w2) := fun w' hw' => c_rdel w' (hP1.nw hw') (by omega)
        have hb : (a.kind == 0) = false := by simp [hkind]
        clear hst hkind hT1 hP1 hrise
        generalize hLe : (actsL (xs.take j)).length = len at *
        replace hLe : Hid _ := hLe
        go_wp2_with (go_at_call 27; refine hdel.mono ?_; rintro e w4 ⟨b4, rfl, h4, n4⟩; refine stop_here ?_)
        unfold Hid
        have g1 := n4.cell f1
        clear f0 f1 f2 f3 hdel
        go_wp2_with (go_at_call 29; refine (hrdel.out w4 n4).mono ?_; rintro e w5 ⟨u5, rfl, h5, n5⟩; refine stop_here ?_)
        unfold Hid
        obtain ⟨a5, c5, rfl, _, _⟩ := h5.form
        have h4' : Hid (TP w5 b4 (actsL (xs.take (j + 1)))) := by unfold Hid; rw [hnew.out]; exact h4.nw n5
        have h5' : Hid (Prs w5 (.slice a5 (delL a.key (actsL (xs.take j))).length c5) (actsL (xs.take (j + 1)))) := by unfold Hid; rw [hnew.out]; exact h5
        have hlen' : Hid ((actsL (xs.take (j + 1))).length ≤ j + 1) := by unfold Hid; rw [hnew.out]; omega
        have hn5 := nw_trans hw1 (nw_trans n4 n5)
        clear g1 hrdel h4 h5 hnew hpl
        generalize (delL a.key (actsL (xs.take j))).length = m5 at *
        go_wp2
        go_roundw
        case rel => exact ⟨j + 1, b4, by omega, by go_num, rfl, h4'.out, h5'.out, hlen'.out, hn5⟩
        case measure => simp [intOf]; omega
    · have hjl : j = xs.length := by omega
      subst hjl
      have hte : Hid (actsL (xs.take xs.length) = actsL xs) := by unfold Hid; rw [List.take_length]
      replace hT : Hid (TP wr b (actsL (xs.take xs.length))) := hT
      replace hP : Hid (Prs wr (.slice ua (actsL (xs.take xs.length)).length uc) (actsL (xs.take xs.length))) := hP
      replace hLn : Hid ((actsL (xs.take xs.length)).length ≤ xs.length) := hLn
      clear hu1
      generalize hLe : (actsL (xs.take xs.length)).length = len at *
      replace hLe : Hid _ := hLe
      go_wp2
      go_ret2
      rw [← hte.out]
      refine ⟨b, _, rfl, hT.out, hP.out, ?_, hw⟩
      rw [hLe.out]
      exact hLn.out
end Go.Proofs.Ytnljfhjindenpab
