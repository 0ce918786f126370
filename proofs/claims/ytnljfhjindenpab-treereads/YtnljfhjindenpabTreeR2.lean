/-
  The document's Put.
-/
import Derived.Test.YtnljfhjindenpabTreeR1
namespace Go.Proofs.Ytnljfhjindenpab
set_option linter.unusedVariables false
set_option linter.unusedSimpArgs false
set_option maxRecDepth 20000
open Go.RowKit

theorem PRow.app {base : Nat} {w w9 : World} {v v9 : Value} {ps : List Pr} (p : Pr) {o : Obj} (h : PRow base w v ps) (hg : (w.alloc o).grownBy w9 v.ownBlock) (hr : w9.ownsRow base 73 3 v9 (ps.length + 1) (prcells ps ++ [.int .u64 p.1, .int .i64 p.2.1, .int .i64 p.2.2])) :
    PRow base w9 v9 (ps ++ [p]) ∧ Fr (fun q => v.ownBlock = some q) w w9 := by
  refine ⟨?_, Fr.grown (Fr.alloc (Fr.refl _ w) _) hg (fun q hq => .inl hq)⟩
  unfold PRow
  rw [List.length_append, prcells_append, prcells_one]
  exact hr

/-- What Put does with one pair more. -/
def stepP (k : Int) (e : Ext) (s : List Pr × Bool) (p : Pr) : List Pr × Bool :=
  if s.2 = false ∧ k ≤ p.1 then (if p.1 = k then s.1 ++ [(k, e)] else s.1 ++ [(k, e)] ++ [p], true) else (if p.1 = k then s.1 else s.1 ++ [p], s.2)

def runP (k : Int) (e : Ext) (l : List Pr) : List Pr × Bool := l.foldl (stepP k e) ([], false)

theorem runP_take (k : Int) (e : Ext) {l : List Pr} {j : Nat} (hj : j < l.length) : runP k e (l.take (j + 1)) = stepP k e (runP k e (l.take j)) l[j] := by
  unfold runP
  rw [List.take_succ_eq_append_getElem hj, List.foldl_append]
  rfl

theorem stepP_len (k : Int) (e : Ext) (s : List Pr × Bool) (p : Pr) : (stepP k e s p).1.length ≤ s.1.length + 2 := by
  unfold stepP
  split <;> split <;> simp

theorem foldP_len (k : Int) (e : Ext) : ∀ (l : List Pr) (s : List Pr × Bool), (l.foldl (stepP k e) s).1.length ≤ s.1.length + 2 * l.length
  | [], s => by simp
  | p :: l, s => by
    have h1 := foldP_len k e l (stepP k e s p)
    have h2 := stepP_len k e s p
    simp only [List.foldl_cons, List.length_cons]
    omega

theorem runP_len (k : Int) (e : Ext) (l : List Pr) : (runP k e l).1.length ≤ 2 * l.length := by
  have := foldP_len k e l ([], false)
  simpa [runP] using this

theorem foldP_true (k : Int) (e : Ext) : ∀ (l out : List Pr), l.foldl (stepP k e) (out, true) = (out ++ l.filter (fun p => !decide (p.1 = k)), true)
  | [], out => by simp
  | p :: l, out => by
    rw [List.foldl_cons]
    have h1 : stepP k e (out, true) p = (if p.1 = k then out else out ++ [p], true) := by unfold stepP; simp
    rw [h1]
    by_cases hp : p.1 = k
    · rw [if_pos hp, foldP_true k e l out]; simp [hp]
    · rw [if_neg hp, foldP_true k e l (out ++ [p])]; simp [hp]

/-- On pairs that rise it puts one more key among them. -/
theorem foldP_put (k : Int) (e : Ext) : ∀ (l out : List Pr), Rise (l.map (·.1)) → (l.foldl (stepP k e) (out, false)).1 ++ (if (l.foldl (stepP k e) (out, false)).2 = true then [] else [(k, e)]) = out ++ putL k e l
  | [], out, _ => by simp [putL]
  | p :: l, out, h => by
    have h1 : (∀ x ∈ l.map (·.1), p.1 < x) ∧ Rise (l.map (·.1)) := List.pairwise_cons.1 h
    have h2 : ∀ q ∈ l, p.1 < q.1 := fun q hq => h1.1 q.1 (List.mem_map.2 ⟨q, hq, rfl⟩)
    rw [List.foldl_cons]
    by_cases hle : k ≤ p.1
    · have hs : stepP k e (out, false) p = (if p.1 = k then out ++ [(k, e)] else out ++ [(k, e)] ++ [p], true) := by unfold stepP; simp [hle]
      have hl1 : l.filter (fun p => decide (p.1 < k)) = [] := filt_none (fun q hq => by have := h2 q hq; simp; omega)
      have hl2 : l.filter (fun p => decide (k < p.1)) = l := filt_all (fun q hq => by have := h2 q hq; simp; omega)
      have hl3 : l.filter (fun p => !decide (p.1 = k)) = l := filt_all (fun q hq => by have := h2 q hq; simp; omega)
      have hnl : ¬ p.1 < k := by omega
      rw [hs, foldP_true, hl3]
      unfold putL
      by_cases hpk : p.1 = k
      · have : ¬ k < p.1 := by omega
        rw [if_pos hpk]
        simp [hl1, hl2, hnl, this]
      · have : k < p.1 := by omega
        rw [if_neg hpk]
        simp [hl1, hl2, hnl, this]
    · have hpk : ¬ p.1 = k := by omega
      have hs : stepP k e (out, false) p = (out ++ [p], false) := by unfold stepP; simp [hle, hpk]
      have hlt : p.1 < k := by omega
      have hng : ¬ k < p.1 := by omega
      rw [hs, foldP_put k e l (out ++ [p]) h1.2]
      unfold putL
      simp [hlt, hng]

set_option maxHeartbeats 6400000 in
theorem c_rput {v : Value} {l : List Pr} {k : Int} {e : Ext} (w : World) (h : Prs w v l) (hl : l.length ≤ 400000) (hr : Rise (l.map (·.1))) :
    Calls Try.prog 28 #[v, .int .u64 k, ext e] w fun e' w' => ∃ u, e' = .returned u ∧ Prs w' u (putL k e l) ∧ Nw w w' := by
  obtain ⟨i0, hj, hj0, hj1, hj2⟩ := info_parts3 Try.infoR
  obtain ⟨ao, cap, rfl, hc1, hc2⟩ := h.form
  have hend : Hid ((runP k e l).1 ++ (if (runP k e l).2 = true then [] else [(k, e)]) = putL k e l) := by
    have := foldP_put k e l [] hr
    rwa [List.nil_append] at this
  obtain ⟨R, hR⟩ : ∃ R, Hid (R = putL k e l) := ⟨_, rfl⟩
  rw [← hR.out]
  replace h : Hid (Prs w (.slice ao l.length cap) l) := h
  have hW1 : Nw w (w.alloc (.cells #[.int .i64 e.1, .int .i64 e.2] 58)) := nw_alloc (nw_refl w) _
  have hB1 : Hid ((w.alloc (.cells #[.int .i64 e.1, .int .i64 e.2] 58)).heap[w.heap.size]? = some (.cells #[.int .i64 e.1, .int .i64 e.2] 58 (0, 0))) := heap_alloc_new w _
  have hgen : w.heap.size ≤ (w.alloc (.cells #[.int .i64 e.1, .int .i64 e.2] 58)).heap.size := by simp
  clear hr
  unfold ext
  go_enter Try.func28, Try.ntmps28
  go_upto_region 1 with fail
  generalize w.alloc (.cells #[.int .i64 e.1, .int .i64 e.2] 58) = w1 at *
  have h0 : PRow w1.heap.size (w1.alloc (.cells #[] 73)) (.slice (some ⟨w1.heap.size, 0, none⟩) 0 0) [] := ⟨rfl, .inr ⟨w1.heap.size, 0, #[], rfl, Nat.le_refl _, heap_alloc_new w1 _, Nat.le_refl _, Nat.zero_le _, rfl, rfl⟩⟩
  have hn0 : Nw w1 (w1.alloc (.cells #[] 73)) := nw_alloc (nw_refl w1) _
  go_wp2_with (refine wpList_buildSlice0 rfl 41 73 rfl Try.underlying41 (by kernel_rfl) ?_)
  generalize w1.alloc (.cells #[] 73) = w2 at *
  go_loopw [7, 8, 14] (fun o d i wr => ∃ j : Nat, j ≤ l.length ∧ i = .int .i64 j ∧ d = .bool (runP k e (l.take j)).2 ∧ PRow w1.heap.size wr o (runP k e (l.take j)).1 ∧ Nw w1 wr) (fun _ _ i _ => l.length - (intOf i).toNat)
  case atStart => exact ⟨0, Nat.zero_le _, rfl, rfl, h0, hn0⟩
  case round =>
    clear h0 hn0 hgen
    obtain ⟨j, hj9, rfl, rfl, hrow, hw⟩ := hrel
    have hB2 := hw.blk hB1.out
    have hNw : Nw w wr := nw_trans hW1 hw
    have hbl := runP_len k e (l.take j)
    have hbl2 : (l.take j).length ≤ l.length := by simp; omega
    by_cases hlt : j < l.length
    · obtain ⟨q, off, rfl, d0, d1, d2⟩ := (h.out.nw hNw).get hlt
      have hst : Hid _ := runP_take k e hlt
      obtain ⟨ao1, cap1, rfl⟩ := hrow.form
      have hrow1 := hrow.alloc (.cells #[.int .u64 l[j].1, .int .i64 l[j].2.1, .int .i64 l[j].2.2] 73)
      have hw1 : Nw w1 (wr.alloc (.cells #[.int .u64 l[j].1, .int .i64 l[j].2.1, .int .i64 l[j].2.2] 73)) := nw_alloc hw _
      have hblk : (wr.alloc (.cells #[.int .u64 l[j].1, .int .i64 l[j].2.1, .int .i64 l[j].2.2] 73)).heap[wr.heap.size]? = some (.cells #[.int .u64 l[j].1, .int .i64 l[j].2.1, .int .i64 l[j].2.2] 73 (0, 0)) := heap_alloc_new wr _
      have hlj : (j : Int) + 1 ≤ 2000000 := by omega
      have hfl : (runP k e (l.take j)).1.length ≤ 800000 := by omega
      have hown : ∀ q, (Value.slice ao1 (runP k e (l.take j)).1.length cap1).ownBlock = some q → q ≠ wr.heap.size ∧ w1.heap.size ≤ q := fun q hq => by
        have := World.ownsRow.lt hrow q hq
        exact ⟨by omega, this.1⟩
      clear hrow hbl hbl2 hB2
      generalize l[j] = p at *
      generalize hrp : runP k e (l.take j) = s at *
      replace hrp : Hid _ := hrp
      obtain ⟨ps, dn⟩ := s
      simp only at hfl hrow1 hown
      go_upto_region 6 with fail
      generalize wr.alloc (.cells #[.int .u64 p.1, .int .i64 p.2.1, .int .i64 p.2.2] 73) = w3 at *
      generalize wr.heap.size = gb at *
      have f0 : w3.cell? ⟨gb, 0, none⟩ = some (.int .u64 p.1) := cell_blk hblk rfl
      have f1 : w3.cell? ⟨gb, 1, none⟩ = some (.int .i64 p.2.1) := cell_blk hblk rfl
      have f2 : w3.cell? ⟨gb, 2, none⟩ = some (.int .i64 p.2.2) := cell_blk hblk rfl
      have hB3 := hw1.blk hB1.out
      have e0 : w3.cell? ⟨w.heap.size, 0, none⟩ = some (.int .i64 e.1) := cell_blk hB3 rfl
      have e1 : w3.cell? ⟨w.heap.size, 1, none⟩ = some (.int .i64 e.2) := cell_blk hB3 rfl
      replace hblk : Hid _ := hblk
      clear d0 d1 d2 hw hNw
      have hgb : ∀ q, (Value.slice ao1 ps.length cap1).ownBlock = some q → q ≠ gb ∧ w1.heap.size ≤ q := fun q hq => hown q hq
      cases dn with
      | true =>
        by_cases hpk : p.1 = k
        · have hb : (p.1 != k) = false := by simp [hpk]
          have hnew : Hid (runP k e (l.take (j + 1)) = (ps, true)) := by unfold Hid; rw [hst.out]; simp [stepP, *]
          clear hst
          clear hpk
          replace hrow1 : Hid (PRow w1.heap.size w3 (.slice ao1 ps.length cap1) ps) := hrow1
          generalize ps.length = nps at *
          go_wp2
          go_roundw
          case rel => exact ⟨j + 1, by omega, by go_num, by rw [hnew.out], by rw [hnew.out]; exact hrow1.out, hw1⟩
          case measure => simp [intOf]; omega
        · have hb : (p.1 != k) = true := by simp [hpk]
          have hnew : Hid (runP k e (l.take (j + 1)) = (ps ++ [p], true)) := by unfold Hid; rw [hst.out]; simp [stepP, *]
          clear hst
          clear hpk
          have hrA101 := World.ownsRow.alloc hrow1 (.cells #[.int .u64 p.1, .int .i64 p.2.1, .int .i64 p.2.2] 73)
          have hsz101 : w1.heap.size ≤ w3.heap.size := hw1.size
          have hfin101 : Hid (∀ v9 w9, w9.ownsRow w1.heap.size 73 3 v9 ((ps).length + 1) (prcells (ps) ++ [.int .u64 p.1, .int .i64 p.2.1, .int .i64 p.2.2]) → (w3.alloc (.cells #[.int .u64 p.1, .int .i64 p.2.1, .int .i64 p.2.2] 73)).grownBy w9 (Value.ownBlock (.slice ao1 (ps).length cap1)) → PRow w1.heap.size w9 v9 ((ps) ++ [p]) ∧ Fr (fun q => (Value.slice ao1 (ps).length cap1).ownBlock = some q) w3 w9) := fun v9 w9 h1 h2 => PRow.app p hrow1 h2 h1
          clear hrow1
          generalize prcells (ps) = cs101 at *
          generalize hlen101 : (ps).length = len101 at *
          replace hlen101 : Hid ((ps).length = len101) := hlen101
          go_wp2_with (at_builtin; refine wpList_append_sl _ rfl _ _ 41 rfl w1.heap.size 73 i0 _ 3 24 Try.underlying41 hj hj0 hj1 hj2 rfl (by decide) _ _ _ rfl hrA101 _ _ 1 _ rfl (sl_lit w3 _ 73 1 (by omega)) rfl ?k1101 ?k2101 ?k3101 ?k4101 ?_)
          case k1101 => first | (intro u hu; simp at hu; rcases hu with rfl | rfl | rfl <;> rfl) | simp [Value.oneCell']
          case k2101 => unfold maxLen; omega
          case k3101 => omega
          case k4101 => first | omega | (simp; omega)
          intro ov ow hown101 hgrow101 hat101
          obtain ⟨or, of⟩ := hfin101.out ov ow hown101 hgrow101
          have oo : ∀ q, ov.ownBlock = some q → (Value.slice ao1 len101 cap1).ownBlock = some q ∨ w3.heap.size ≤ q := fun q hq => by
            rcases hat101 with h1 | h1
            · exact .inl (h1 ▸ hq)
            · rw [h1] at hq
              simp at hq
              exact .inr (by omega)
          obtain ⟨oao, ocap, rfl⟩ := owns_form hown101
          replace or : Hid (PRow w1.heap.size ow (.slice oao (len101 + 1) ocap) ((ps) ++ [p])) := or
          clear hfin101 hown101 hgrow101 hat101 hrA101
          have hon : Nw w1 ow := Fr.trans hw1 of (fun q hq => .inr (hgb q hq).2)
          go_wp2
          go_roundw
          case rel => exact ⟨j + 1, by omega, by go_num, by rw [hnew.out], by rw [hnew.out]; exact or.out, hon⟩
          case measure => simp [intOf]; omega
      | false =>
        by_cases hle : k ≤ p.1
        · have hg : decide (k ≤ p.1) = true := by simp [hle]
          by_cases hpk : p.1 = k
          · have hb : (p.1 != k) = false := by simp [hpk]
            have hnew : Hid (runP k e (l.take (j + 1)) = (ps ++ [(k, e)], true)) := by unfold Hid; rw [hst.out]; simp [stepP, *]
            clear hst
            clear hpk hle
            have hrA102 := World.ownsRow.alloc hrow1 (.cells #[.int .u64 k, .int .i64 e.1, .int .i64 e.2] 73)
            have hsz102 : w1.heap.size ≤ w3.heap.size := hw1.size
            have hfin102 : Hid (∀ v9 w9, w9.ownsRow w1.heap.size 73 3 v9 ((ps).length + 1) (prcells (ps) ++ [.int .u64 k, .int .i64 e.1, .int .i64 e.2]) → (w3.alloc (.cells #[.int .u64 k, .int .i64 e.1, .int .i64 e.2] 73)).grownBy w9 (Value.ownBlock (.slice ao1 (ps).length cap1)) → PRow w1.heap.size w9 v9 ((ps) ++ [(k, e)]) ∧ Fr (fun q => (Value.slice ao1 (ps).length cap1).ownBlock = some q) w3 w9) := fun v9 w9 h1 h2 => PRow.app (k, e) hrow1 h2 h1
            clear hrow1
            generalize prcells (ps) = cs102 at *
            generalize hlen102 : (ps).length = len102 at *
            replace hlen102 : Hid ((ps).length = len102) := hlen102
            go_wp2_with (at_builtin; refine wpList_append_sl _ rfl _ _ 41 rfl w1.heap.size 73 i0 _ 3 24 Try.underlying41 hj hj0 hj1 hj2 rfl (by decide) _ _ _ rfl hrA102 _ _ 1 _ rfl (sl_lit w3 _ 73 1 (by omega)) rfl ?k1102 ?k2102 ?k3102 ?k4102 ?_)
            case k1102 => first | (intro u hu; simp at hu; rcases hu with rfl | rfl | rfl <;> rfl) | simp [Value.oneCell']
            case k2102 => unfold maxLen; omega
            case k3102 => omega
            case k4102 => first | omega | (simp; omega)
            intro ov ow hown102 hgrow102 hat102
            obtain ⟨or, of⟩ := hfin102.out ov ow hown102 hgrow102
            have oo : ∀ q, ov.ownBlock = some q → (Value.slice ao1 len102 cap1).ownBlock = some q ∨ w3.heap.size ≤ q := fun q hq => by
              rcases hat102 with h1 | h1
              · exact .inl (h1 ▸ hq)
              · rw [h1] at hq
                simp at hq
                exact .inr (by omega)
            obtain ⟨oao, ocap, rfl⟩ := owns_form hown102
            replace or : Hid (PRow w1.heap.size ow (.slice oao (len102 + 1) ocap) ((ps) ++ [(k, e)])) := or
            clear hfin102 hown102 hgrow102 hat102 hrA102
            have hon : Nw w1 ow := Fr.trans hw1 of (fun q hq => .inr (hgb q hq).2)
            have hgbl := heap_lt hblk.out
            have hblk2 := (of.block gb hgbl (fun hq => (hgb gb hq).1 rfl)).trans hblk.out
            have g0 : ow.cell? ⟨gb, 0, none⟩ = some (.int .u64 p.1) := cell_blk hblk2 rfl
            have g1 : ow.cell? ⟨gb, 1, none⟩ = some (.int .i64 p.2.1) := cell_blk hblk2 rfl
            have g2 : ow.cell? ⟨gb, 2, none⟩ = some (.int .i64 p.2.2) := cell_blk hblk2 rfl
            clear f0 f1 f2 e0 e1
            go_wp2
            go_roundw
            case rel => exact ⟨j + 1, by omega, by go_num, by rw [hnew.out], by rw [hnew.out]; exact or.out, hon⟩
            case measure => simp [intOf]; omega
          · have hb : (p.1 != k) = true := by simp [hpk]
            have hnew : Hid (runP k e (l.take (j + 1)) = (ps ++ [(k, e)] ++ [p], true)) := by unfold Hid; rw [hst.out]; simp [stepP, *]
            clear hst
            clear hpk hle
            have hrA103 := World.ownsRow.alloc hrow1 (.cells #[.int .u64 k, .int .i64 e.1, .int .i64 e.2] 73)
            have hsz103 : w1.heap.size ≤ w3.heap.size := hw1.size
            have hfin103 : Hid (∀ v9 w9, w9.ownsRow w1.heap.size 73 3 v9 ((ps).length + 1) (prcells (ps) ++ [.int .u64 k, .int .i64 e.1, .int .i64 e.2]) → (w3.alloc (.cells #[.int .u64 k, .int .i64 e.1, .int .i64 e.2] 73)).grownBy w9 (Value.ownBlock (.slice ao1 (ps).length cap1)) → PRow w1.heap.size w9 v9 ((ps) ++ [(k, e)]) ∧ Fr (fun q => (Value.slice ao1 (ps).length cap1).ownBlock = some q) w3 w9) := fun v9 w9 h1 h2 => PRow.app (k, e) hrow1 h2 h1
            clear hrow1
            generalize prcells (ps) = cs103 at *
            generalize hlen103 : (ps).length = len103 at *
            replace hlen103 : Hid ((ps).length = len103) := hlen103
            go_wp2_with (at_builtin; refine wpList_append_sl _ rfl _ _ 41 rfl w1.heap.size 73 i0 _ 3 24 Try.underlying41 hj hj0 hj1 hj2 rfl (by decide) _ _ _ rfl hrA103 _ _ 1 _ rfl (sl_lit w3 _ 73 1 (by omega)) rfl ?k1103 ?k2103 ?k3103 ?k4103 ?_)
            case k1103 => first | (intro u hu; simp at hu; rcases hu with rfl | rfl | rfl <;> rfl) | simp [Value.oneCell']
            case k2103 => unfold maxLen; omega
            case k3103 => omega
            case k4103 => first | omega | (simp; omega)
            intro ov ow hown103 hgrow103 hat103
            obtain ⟨or, of⟩ := hfin103.out ov ow hown103 hgrow103
            have oo : ∀ q, ov.ownBlock = some q → (Value.slice ao1 len103 cap1).ownBlock = some q ∨ w3.heap.size ≤ q := fun q hq => by
              rcases hat103 with h1 | h1
              · exact .inl (h1 ▸ hq)
              · rw [h1] at hq
                simp at hq
                exact .inr (by omega)
            obtain ⟨oao, ocap, rfl⟩ := owns_form hown103
            replace or : Hid (PRow w1.heap.size ow (.slice oao (len103 + 1) ocap) ((ps) ++ [(k, e)])) := or
            clear hfin103 hown103 hgrow103 hat103 hrA103
            have hon : Nw w1 ow := Fr.trans hw1 of (fun q hq => .inr (hgb q hq).2)
            have hgbl := heap_lt hblk.out
            have hblk2 := (of.block gb hgbl (fun hq => (hgb gb hq).1 rfl)).trans hblk.out
            have g0 : ow.cell? ⟨gb, 0, none⟩ = some (.int .u64 p.1) := cell_blk hblk2 rfl
            have g1 : ow.cell? ⟨gb, 1, none⟩ = some (.int .i64 p.2.1) := cell_blk hblk2 rfl
            have g2 : ow.cell? ⟨gb, 2, none⟩ = some (.int .i64 p.2.2) := cell_blk hblk2 rfl
            clear f0 f1 f2 e0 e1
            have orow : PRow w1.heap.size ow (.slice oao (ps ++ [(k, e)]).length ocap) (ps ++ [(k, e)]) := by
              have h1 := or.out
              have h2 : (ps ++ [(k, e)]).length = len103 + 1 := by rw [List.length_append, hlen103.out]; rfl
              rw [h2]
              exact h1
            have hpl : (ps ++ [(k, e)]).length ≤ 900000 := by
              have h2 : (ps ++ [(k, e)]).length = len103 + 1 := by rw [List.length_append, hlen103.out]; rfl
              omega
            have hll : Hid ((ps ++ [(k, e)]).length = len103 + 1) := by unfold Hid; rw [List.length_append, hlen103.out]; rfl
            rw [← hll.out]
            rw [← hll.out] at oo
            clear or
            have hrA104 := World.ownsRow.alloc orow (.cells #[.int .u64 p.1, .int .i64 p.2.1, .int .i64 p.2.2] 73)
            have hsz104 : w1.heap.size ≤ ow.heap.size := hon.size
            have hfin104 : Hid (∀ v9 w9, w9.ownsRow w1.heap.size 73 3 v9 ((ps ++ [(k, e)]).length + 1) (prcells (ps ++ [(k, e)]) ++ [.int .u64 p.1, .int .i64 p.2.1, .int .i64 p.2.2]) → (ow.alloc (.cells #[.int .u64 p.1, .int .i64 p.2.1, .int .i64 p.2.2] 73)).grownBy w9 (Value.ownBlock (.slice oao (ps ++ [(k, e)]).length ocap)) → PRow w1.heap.size w9 v9 ((ps ++ [(k, e)]) ++ [p]) ∧ Fr (fun q => (Value.slice oao (ps ++ [(k, e)]).length ocap).ownBlock = some q) ow w9) := fun v9 w9 h1 h2 => PRow.app p orow h2 h1
            clear orow
            generalize prcells (ps ++ [(k, e)]) = cs104 at *
            generalize hlen104 : (ps ++ [(k, e)]).length = len104 at *
            replace hlen104 : Hid ((ps ++ [(k, e)]).length = len104) := hlen104
            go_wp2_with (at_builtin; refine wpList_append_sl _ rfl _ _ 41 rfl w1.heap.size 73 i0 _ 3 24 Try.underlying41 hj hj0 hj1 hj2 rfl (by decide) _ _ _ rfl hrA104 _ _ 1 _ rfl (sl_lit ow _ 73 1 (by omega)) rfl ?k1104 ?k2104 ?k3104 ?k4104 ?_)
            case k1104 => first | (intro u hu; simp at hu; rcases hu with rfl | rfl | rfl <;> rfl) | simp [Value.oneCell']
            case k2104 => unfold maxLen; omega
            case k3104 => omega
            case k4104 => first | omega | (simp; omega)
            intro zv zw hown104 hgrow104 hat104
            obtain ⟨zr, zf⟩ := hfin104.out zv zw hown104 hgrow104
            have zo : ∀ q, zv.ownBlock = some q → (Value.slice oao len104 ocap).ownBlock = some q ∨ ow.heap.size ≤ q := fun q hq => by
              rcases hat104 with h1 | h1
              · exact .inl (h1 ▸ hq)
              · rw [h1] at hq
                simp at hq
                exact .inr (by omega)
            obtain ⟨zao, zcap, rfl⟩ := owns_form hown104
            replace zr : Hid (PRow w1.heap.size zw (.slice zao (len104 + 1) zcap) ((ps ++ [(k, e)]) ++ [p])) := zr
            clear hfin104 hown104 hgrow104 hat104 hrA104
            have hzn : Nw w1 zw := Fr.trans hon zf (fun q hq => by
              rcases oo q hq with h1 | h1
              · exact .inr (hgb q h1).2
              · exact .inr (Nat.le_trans hw1.size h1))
            go_wp2
            go_roundw
            case rel => exact ⟨j + 1, by omega, by go_num, by rw [hnew.out], by rw [hnew.out]; exact zr.out, hzn⟩
            case measure => simp [intOf]; omega
        · have hg : decide (k ≤ p.1) = false := by simp; omega
          have hpk : ¬ p.1 = k := by omega
          have hb : (p.1 != k) = true := by simp [hpk]
          have hnew : Hid (runP k e (l.take (j + 1)) = (ps ++ [p], false)) := by unfold Hid; rw [hst.out]; simp [stepP, *]
          clear hst
          clear hpk hle
          have hrA105 := World.ownsRow.alloc hrow1 (.cells #[.int .u64 p.1, .int .i64 p.2.1, .int .i64 p.2.2] 73)
          have hsz105 : w1.heap.size ≤ w3.heap.size := hw1.size
          have hfin105 : Hid (∀ v9 w9, w9.ownsRow w1.heap.size 73 3 v9 ((ps).length + 1) (prcells (ps) ++ [.int .u64 p.1, .int .i64 p.2.1, .int .i64 p.2.2]) → (w3.alloc (.cells #[.int .u64 p.1, .int .i64 p.2.1, .int .i64 p.2.2] 73)).grownBy w9 (Value.ownBlock (.slice ao1 (ps).length cap1)) → PRow w1.heap.size w9 v9 ((ps) ++ [p]) ∧ Fr (fun q => (Value.slice ao1 (ps).length cap1).ownBlock = some q) w3 w9) := fun v9 w9 h1 h2 => PRow.app p hrow1 h2 h1
          clear hrow1
          generalize prcells (ps) = cs105 at *
          generalize hlen105 : (ps).length = len105 at *
          replace hlen105 : Hid ((ps).length = len105) := hlen105
          go_wp2_with (at_builtin; refine wpList_append_sl _ rfl _ _ 41 rfl w1.heap.size 73 i0 _ 3 24 Try.underlying41 hj hj0 hj1 hj2 rfl (by decide) _ _ _ rfl hrA105 _ _ 1 _ rfl (sl_lit w3 _ 73 1 (by omega)) rfl ?k1105 ?k2105 ?k3105 ?k4105 ?_)
          case k1105 => first | (intro u hu; simp at hu; rcases hu with rfl | rfl | rfl <;> rfl) | simp [Value.oneCell']
          case k2105 => unfold maxLen; omega
          case k3105 => omega
          case k4105 => first | omega | (simp; omega)
          intro ov ow hown105 hgrow105 hat105
          obtain ⟨or, of⟩ := hfin105.out ov ow hown105 hgrow105
          have oo : ∀ q, ov.ownBlock = some q → (Value.slice ao1 len105 cap1).ownBlock = some q ∨ w3.heap.size ≤ q := fun q hq => by
            rcases hat105 with h1 | h1
            · exact .inl (h1 ▸ hq)
            · rw [h1] at hq
              simp at hq
              exact .inr (by omega)
          obtain ⟨oao, ocap, rfl⟩ := owns_form hown105
          replace or : Hid (PRow w1.heap.size ow (.slice oao (len105 + 1) ocap) ((ps) ++ [p])) := or
          clear hfin105 hown105 hgrow105 hat105 hrA105
          have hon : Nw w1 ow := Fr.trans hw1 of (fun q hq => .inr (hgb q hq).2)
          go_wp2
          go_roundw
          case rel => exact ⟨j + 1, by omega, by go_num, by rw [hnew.out], by rw [hnew.out]; exact or.out, hon⟩
          case measure => simp [intOf]; omega
    · have hk' : j = l.length := by omega
      subst hk'
      rw [List.take_length] at hrow hbl
      have e0 : wr.cell? ⟨w.heap.size, 0, none⟩ = some (.int .i64 e.1) := cell_blk hB2 rfl
      have e1 : wr.cell? ⟨w.heap.size, 1, none⟩ = some (.int .i64 e.2) := cell_blk hB2 rfl
      have hte : Hid (l.take l.length = l) := by unfold Hid; rw [List.take_length]
      have hd9 : Hid ((runP k e (l.take l.length)).2 = (runP k e l).2) := by unfold Hid; rw [List.take_length]
      rw [hd9.out]
      clear hd9 hte hbl2 hB2
      generalize runP k e l = s at *
      obtain ⟨ps, dn⟩ := s
      simp only at hrow hbl
      have hfl : ps.length ≤ 800000 := by omega
      have hend2 := hend.out
      simp only at hend2
      cases dn with
      | true =>
        have hR2 : Hid (R = ps) := by unfold Hid; rw [hR.out, ← hend2]; simp
        obtain ⟨ao1, cap1, rfl⟩ := hrow.form
        replace hrow : Hid (Prs wr (.slice ao1 ps.length cap1) ps) := hrow.prs
        clear hend hend2 hR
        generalize ps.length = nf at *
        go_wp2
        go_ret
        rw [hR2.out]
        exact ⟨_, rfl, hrow.out, hNw⟩
      | false =>
        have hR2 : Hid (R = ps ++ [(k, e)]) := by unfold Hid; rw [hR.out, ← hend2]; simp
        obtain ⟨ao1, cap1, rfl⟩ := hrow.form
        clear hend hend2 hR
        have hown9 : ∀ q, (Value.slice ao1 ps.length cap1).ownBlock = some q → w1.heap.size ≤ q := fun q hq => (World.ownsRow.lt hrow q hq).1
        have hrA106 := World.ownsRow.alloc hrow (.cells #[.int .u64 k, .int .i64 e.1, .int .i64 e.2] 73)
        have hsz106 : w1.heap.size ≤ wr.heap.size := hw.size
        have hfin106 : Hid (∀ v9 w9, w9.ownsRow w1.heap.size 73 3 v9 ((ps).length + 1) (prcells (ps) ++ [.int .u64 k, .int .i64 e.1, .int .i64 e.2]) → (wr.alloc (.cells #[.int .u64 k, .int .i64 e.1, .int .i64 e.2] 73)).grownBy w9 (Value.ownBlock (.slice ao1 (ps).length cap1)) → PRow w1.heap.size w9 v9 ((ps) ++ [(k, e)]) ∧ Fr (fun q => (Value.slice ao1 (ps).length cap1).ownBlock = some q) wr w9) := fun v9 w9 h1 h2 => PRow.app (k, e) hrow h2 h1
        clear hrow
        generalize prcells (ps) = cs106 at *
        generalize hlen106 : (ps).length = len106 at *
        replace hlen106 : Hid ((ps).length = len106) := hlen106
        go_wp2_with (at_builtin; refine wpList_append_sl _ rfl _ _ 41 rfl w1.heap.size 73 i0 _ 3 24 Try.underlying41 hj hj0 hj1 hj2 rfl (by decide) _ _ _ rfl hrA106 _ _ 1 _ rfl (sl_lit wr _ 73 1 (by omega)) rfl ?k1106 ?k2106 ?k3106 ?k4106 ?_)
        case k1106 => first | (intro u hu; simp at hu; rcases hu with rfl | rfl | rfl <;> rfl) | simp [Value.oneCell']
        case k2106 => unfold maxLen; omega
        case k3106 => omega
        case k4106 => first | omega | (simp; omega)
        intro ov ow hown106 hgrow106 hat106
        obtain ⟨or, of⟩ := hfin106.out ov ow hown106 hgrow106
        have oo : ∀ q, ov.ownBlock = some q → (Value.slice ao1 len106 cap1).ownBlock = some q ∨ wr.heap.size ≤ q := fun q hq => by
          rcases hat106 with h1 | h1
          · exact .inl (h1 ▸ hq)
          · rw [h1] at hq
            simp at hq
            exact .inr (by omega)
        obtain ⟨oao, ocap, rfl⟩ := owns_form hown106
        replace or : Hid (PRow w1.heap.size ow (.slice oao (len106 + 1) ocap) ((ps) ++ [(k, e)])) := or
        clear hfin106 hown106 hgrow106 hat106 hrA106
        have hon : Nw w ow := Fr.trans hNw of (fun q hq => .inr (Nat.le_trans hW1.size (hown9 q hq)))
        go_wp2
        go_ret
        rw [hR2.out]
        exact ⟨_, rfl, or.out.prs, hon⟩
end Go.Proofs.Ytnljfhjindenpab
