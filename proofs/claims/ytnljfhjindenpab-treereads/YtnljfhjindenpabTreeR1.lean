/-
  The document's Same, Get, Range, Del, Put.
-/
import Derived.Test.YtnljfhjindenpabTreeA1
import Derived.Laws.StructEq
namespace Go.Proofs.Ytnljfhjindenpab
set_option linter.unusedVariables false
set_option linter.unusedSimpArgs false
set_option maxRecDepth 20000
open Go.RowKit

def PRow (base : Nat) (w : World) (v : Value) (ps : List Pr) : Prop := w.ownsRow base 73 3 v ps.length (prcells ps)

theorem PRow.form {base : Nat} {w : World} {v : Value} {ps : List Pr} (h : PRow base w v ps) : ∃ ao cap, v = .slice ao ps.length cap := owns_form h
theorem PRow.prs {base : Nat} {w : World} {v : Value} {ps : List Pr} (h : PRow base w v ps) : Prs w v ps := hs_of_owns h
theorem PRow.alloc {base : Nat} {w : World} {v : Value} {ps : List Pr} (h : PRow base w v ps) (o : Obj) : PRow base (w.alloc o) v ps := World.ownsRow.alloc h o
theorem prow0 (w : World) : PRow w.heap.size (w.alloc (.cells #[] 73)) (.slice (some ⟨w.heap.size, 0, none⟩) 0 0) [] := ⟨rfl, .inr ⟨w.heap.size, 0, #[], rfl, Nat.le_refl _, heap_alloc_new w _, Nat.le_refl _, Nat.zero_le _, rfl, rfl⟩⟩

def prB (a b : Pr) : Bool := (a.1 == b.1) && ((a.2.1 == b.2.1) && (a.2.2 == b.2.2))

theorem neqR (a b : Pr) (w : World) : (binOp .neq 73 (.agg #[.int .u64 a.1, .int .i64 a.2.1, .int .i64 a.2.2]) (.agg #[.int .u64 b.1, .int .i64 b.2.1, .int .i64 b.2.2])).run Try.prog w = .ok (.bool (!(prB a b))) w := by
  unfold prB
  simp [go_sem]
  by_cases h1 : a.1 = b.1 <;> by_cases h2 : a.2.1 = b.2.1 <;> by_cases h3 : a.2.2 = b.2.2 <;> simp [h1, h2, h3]

theorem pr_eq_iff (a b : Pr) : prB a b = decide (a = b) := by
  unfold prB
  rw [Bool.eq_iff_iff]
  simp only [Bool.and_eq_true, beq_iff_eq, decide_eq_true_eq]
  constructor
  · rintro ⟨h1, h2, h3⟩
    exact Prod.ext h1 (Prod.ext h2 h3)
  · rintro rfl
    exact ⟨rfl, rfl, rfl⟩

set_option maxHeartbeats 1600000 in
theorem c_same {va vb : Value} {es fs : List Pr} (w : World) (ha : Prs w va es) (hb : Prs w vb fs) (hla : es.length ≤ 1000000) (hlb : fs.length ≤ 1000000) :
    Calls Try.prog 21 #[va, vb] w fun e w' => e = .returned (.bool (decide (es = fs))) ∧ Nw w w' := by
  obtain ⟨ao, cap, rfl, hc1, hc2⟩ := ha.form
  obtain ⟨bo, bcap, rfl, hd1, hd2⟩ := hb.form
  by_cases hlen : es.length = fs.length
  case neg =>
    have e1 : decide (es = fs) = false := decide_eq_false (fun e => hlen (by rw [e]))
    have hne : (((es.length : Int) != (fs.length : Int)) : Bool) = true := by simp; omega
    rw [e1]
    clear ha hb e1 hlen
    generalize es.length = n at *
    generalize fs.length = m at *
    go_enter Try.func21, Try.ntmps21
    go_wp2
    go_ret
    exact ⟨rfl, nw_refl _⟩
  have hlenH : Hid (es.length = fs.length) := hlen
  replace hb : Prs w (.slice bo es.length bcap) fs := by rw [hlen]; exact hb
  rw [← hlen] at hd1 ⊢
  clear hlen
  replace ha : Hid (Prs w (.slice ao es.length cap) es) := ha
  replace hb : Hid (Prs w (.slice bo es.length bcap) fs) := hb
  obtain ⟨R, hR⟩ : ∃ R, Hid (R = decide (es = fs)) := ⟨_, rfl⟩
  rw [← hR.out]
  go_enter Try.func21, Try.ntmps21
  go_wp2
  go_loopw [13] (fun i wr => ∃ k : Nat, k ≤ es.length ∧ i = .int .i64 k ∧ es.take k = fs.take k ∧ Nw w wr) (fun i _ => es.length - (intOf i).toNat)
  case atStart => exact ⟨0, Nat.zero_le _, rfl, rfl, nw_refl _⟩
  case round =>
    obtain ⟨k, hk, rfl, hall, hnw⟩ := hrel
    have hallH : Hid (es.take k = fs.take k) := hall
    clear hall
    by_cases hlt : k < es.length
    · have hltb : k < fs.length := by rw [← hlenH.out]; exact hlt
      obtain ⟨q, off, rfl, d0, d1, d2⟩ := (ha.out.nw hnw).get hlt
      obtain ⟨q2, off2, rfl, f0, f1, f2⟩ := (hb.out.nw hnw).get hltb
      have hq := fun w => neqR es[k] fs[k] w
      simp only [pr_eq_iff] at hq
      by_cases he : es[k] = fs[k]
      · have hs : Hid (es.take (k + 1) = fs.take (k + 1)) := by
          unfold Hid
          rw [List.take_succ_eq_append_getElem hlt, List.take_succ_eq_append_getElem hltb, hallH.out, he]
        simp only [he, decide_true, Bool.not_true] at hq d0 d1 d2
        clear he hallH hR hlenH ha hb
        generalize fs[k] = bk at *
        go_wp2
        go_quiet (fail)
        have hn2 := nw_trans hnw (nw_drewN nq wr)
        go_wp2
        go_roundw
        case rel => exact ⟨k + 1, by omega, by go_num, hs.out, hn2⟩
        case measure => simp [intOf]; omega
      · have hs : Hid (R = false) := by
          unfold Hid
          rw [hR.out]
          refine decide_eq_false (fun e => he ?_)
          subst e
          rfl
        simp only [he, decide_false, Bool.not_false] at hq
        clear he hallH hR hlenH ha hb
        generalize es[k] = ak at *
        generalize fs[k] = bk at *
        go_wp2
        go_quiet (fail)
        have hn2 := nw_trans hnw (nw_drewN nq wr)
        go_wp2
        go_ret
        rw [hs.out]
        exact ⟨rfl, hn2⟩
    · have hs : Hid (R = true) := by
        unfold Hid
        have h2 := hlenH.out
        have h3 := hallH.out
        rw [List.take_of_length_le (by omega), List.take_of_length_le (by omega)] at h3
        rw [hR.out]
        exact decide_eq_true h3
      clear hallH hR hlenH ha hb
      go_wp2
      go_ret
      rw [hs.out]
      exact ⟨rfl, hnw⟩

theorem getL_take {k : Int} {l : List Pr} {j : Nat} (hj : j < l.length) (h : ∀ p ∈ l.take j, p.1 ≠ k) : getL k l = if l[j].1 = k then some l[j].2 else getL k (l.drop (j + 1)) := by
  have e : l = l.take j ++ l[j] :: l.drop (j + 1) := by simp
  have h1 : (l.take j).find? (fun p => decide (p.1 = k)) = none := List.find?_eq_none.2 (fun p hp => by simpa using h p hp)
  unfold getL
  have hfd : l.find? (fun p => decide (p.1 = k)) = (l[j] :: l.drop (j + 1)).find? (fun p => decide (p.1 = k)) := by
    conv => lhs; rw [e]
    rw [List.find?_append, h1]
    rfl
  rw [hfd]
  by_cases hk : l[j].1 = k
  · rw [List.find?_cons_of_pos (by simpa using hk), if_pos hk]; rfl
  · rw [List.find?_cons_of_neg (by simpa using hk), if_neg hk]

theorem filt_take {l : List Pr} {q : Pr → Bool} {j : Nat} (hj : j < l.length) : (l.take (j + 1)).filter q = (l.take j).filter q ++ if q l[j] then [l[j]] else [] := by
  rw [List.take_succ_eq_append_getElem hj, List.filter_append]
  congr 1
  by_cases h : q l[j] = true <;> simp [h]

set_option maxHeartbeats 1600000 in
theorem c_rdel {v : Value} {l : List Pr} {k : Int} (w : World) (h : Prs w v l) (hl : l.length ≤ 1000000) :
    Calls Try.prog 29 #[v, .int .u64 k] w fun e w' => ∃ u, e = .returned u ∧ Prs w' u (l.filter (fun p => !decide (p.1 = k))) ∧ Nw w w' := by
  obtain ⟨i0, hj, hj0, hj1, hj2⟩ := info_parts3 Try.infoR
  obtain ⟨ao, cap, rfl, hc1, hc2⟩ := h.form
  obtain ⟨R, hR⟩ : ∃ R, Hid (R = l.filter (fun p => !decide (p.1 = k))) := ⟨_, rfl⟩
  rw [← hR.out]
  replace h : Hid (Prs w (.slice ao l.length cap) l) := h
  have h0 := prow0 w
  have hn0 : Nw w (w.alloc (.cells #[] 73)) := nw_alloc (nw_refl w) _
  go_enter Try.func29, Try.ntmps29
  go_upto_region 1 with fail
  go_wp2_with (refine wpList_buildSlice0 rfl 41 73 rfl Try.underlying41 (by kernel_rfl) ?_)
  generalize w.alloc (.cells #[] 73) = w1 at *
  go_loopw [5, 11] (fun o i wr => ∃ j : Nat, j ≤ l.length ∧ i = .int .i64 j ∧ PRow w.heap.size wr o ((l.take j).filter (fun p => !decide (p.1 = k))) ∧ Nw w wr) (fun _ i _ => l.length - (intOf i).toNat)
  case atStart => exact ⟨0, Nat.zero_le _, rfl, h0, hn0⟩
  case round =>
    clear h0 hn0
    obtain ⟨j, hj9, rfl, hrow, hw⟩ := hrel
    by_cases hlt : j < l.length
    · obtain ⟨q, off, rfl, d0, d1, d2⟩ := (h.out.nw hw).get hlt
      have hft : Hid _ := filt_take (q := (fun p => !decide (p.1 = k))) hlt
      have hfl : ((l.take j).filter (fun p => !decide (p.1 = k))).length ≤ 1000000 := by
        have h1 := List.length_filter_le (fun p => !decide (p.1 = k)) (l.take j)
        have h2 : (l.take j).length ≤ l.length := by simp; omega
        omega
      obtain ⟨ao1, cap1, rfl⟩ := hrow.form
      have hrow1 := hrow.alloc (.cells #[.int .u64 l[j].1, .int .i64 l[j].2.1, .int .i64 l[j].2.2] 73)
      have hw1 : Nw w (wr.alloc (.cells #[.int .u64 l[j].1, .int .i64 l[j].2.1, .int .i64 l[j].2.2] 73)) := nw_alloc hw _
      have hblk : (wr.alloc (.cells #[.int .u64 l[j].1, .int .i64 l[j].2.1, .int .i64 l[j].2.2] 73)).heap[wr.heap.size]? = some (.cells #[.int .u64 l[j].1, .int .i64 l[j].2.1, .int .i64 l[j].2.2] 73 (0, 0)) := heap_alloc_new wr _
      have hlz : Hid (l[j]? = some l[j]) := List.getElem?_eq_getElem hlt
      have hlj : (j : Int) + 1 ≤ 2000000 := by omega
      clear hrow
      generalize l[j] = p at *
      generalize (l.take j).filter (fun p => !decide (p.1 = k)) = ps at *
      go_upto_region 5 with fail
      generalize wr.alloc (.cells #[.int .u64 p.1, .int .i64 p.2.1, .int .i64 p.2.2] 73) = w2 at *
      generalize wr.heap.size = gb at *
      have f0 : w2.cell? ⟨gb, 0, none⟩ = some (.int .u64 p.1) := cell_blk hblk rfl
      have f1 : w2.cell? ⟨gb, 1, none⟩ = some (.int .i64 p.2.1) := cell_blk hblk rfl
      have f2 : w2.cell? ⟨gb, 2, none⟩ = some (.int .i64 p.2.2) := cell_blk hblk rfl
      clear hblk d0 d1 d2 hw
      by_cases hpk : p.1 = k
      · have hnew : Hid ((l.take (j + 1)).filter (fun p => !decide (p.1 = k)) = ps) := by unfold Hid; rw [hft.out]; simp [hpk]
        have hb : (p.1 != k) = false := by simp [hpk]
        clear hpk
        clear hft
        replace hrow1 : Hid (PRow w.heap.size w2 (.slice ao1 ps.length cap1) ps) := hrow1
        generalize ps.length = nps at *
        go_wp2
        go_roundw
        case rel => exact ⟨j + 1, by omega, by go_num, by rw [hnew.out]; exact hrow1.out, hw1⟩
        case measure => simp [intOf]; omega
      · have hnew : Hid ((l.take (j + 1)).filter (fun p => !decide (p.1 = k)) = ps ++ [p]) := by unfold Hid; rw [hft.out]; simp [hpk]
        have hb : (p.1 != k) = true := by simp [hpk]
        clear hpk
        clear hft
        have hrA1 := World.ownsRow.alloc hrow1 (.cells #[.int .u64 p.1, .int .i64 p.2.1, .int .i64 p.2.2] 73)
        have hsz1 : w.heap.size ≤ w2.heap.size := hw1.size
        have hfin1 : Hid (∀ v9 w9, w9.ownsRow w.heap.size 73 3 v9 ((ps).length + 1) (prcells (ps) ++ [.int .u64 p.1, .int .i64 p.2.1, .int .i64 p.2.2]) → (w2.alloc (.cells #[.int .u64 p.1, .int .i64 p.2.1, .int .i64 p.2.2] 73)).grownBy w9 (Value.ownBlock (.slice ao1 (ps).length cap1)) → PRow w.heap.size w9 v9 ((ps) ++ [p]) ∧ Nw w w9) := by
          intro v9 w9 h1 h2
          refine ⟨?_, Fr.grown (Fr.alloc hw1 _) h2 (fun q hq => .inr (World.ownsRow.lt hrow1 q hq).1)⟩
          unfold PRow
          rw [List.length_append, prcells_append, prcells_one]
          exact h1
        clear hrow1
        generalize prcells (ps) = cs1 at *
        generalize hlen1 : (ps).length = len1 at *
        replace hlen1 : Hid ((ps).length = len1) := hlen1
        go_wp2_with (at_builtin; refine wpList_append_sl _ rfl _ _ 41 rfl w.heap.size 73 i0 _ 3 24 Try.underlying41 hj hj0 hj1 hj2 rfl (by decide) _ _ _ rfl hrA1 _ _ 1 _ rfl (sl_lit w2 _ 73 1 (by omega)) rfl ?k11 ?k21 ?k31 ?k41 ?_)
        case k11 => first | (intro u hu; simp at hu; rcases hu with rfl | rfl | rfl <;> rfl) | simp [Value.oneCell']
        case k21 => unfold maxLen; omega
        case k31 => omega
        case k41 => first | omega | (simp; omega)
        intro ov ow hown1 hgrow1 hat1
        obtain ⟨or, on⟩ := hfin1.out ov ow hown1 hgrow1
        obtain ⟨oao, ocap, rfl⟩ := owns_form hown1
        rw [← hlen1.out] at *
        clear hfin1 hown1 hgrow1 hat1 hrA1
        go_wp2
        go_roundw
        case rel => exact ⟨j + 1, by omega, by go_num, by rw [hnew.out]; exact or, on⟩
        case measure => simp [intOf]; omega
    · have hk' : j = l.length := by omega
      subst hk'
      rw [List.take_length] at hrow
      have hR2 := hR.out
      obtain ⟨ao1, cap1, rfl⟩ := hrow.form
      replace hrow : Hid (Prs wr (.slice ao1 (l.filter (fun p => !decide (p.1 = k))).length cap1) (l.filter (fun p => !decide (p.1 = k)))) := hrow.prs
      clear hR2
      generalize (l.filter (fun p => !decide (p.1 = k))).length = nf at *
      go_wp2
      go_ret
      rw [hR.out]
      exact ⟨_, rfl, hrow.out, hw⟩

end Go.Proofs.Ytnljfhjindenpab
