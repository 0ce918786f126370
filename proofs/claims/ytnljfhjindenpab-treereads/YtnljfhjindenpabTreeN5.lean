/-
  The document's read at an inner node.
-/
import Derived.Test.YtnljfhjindenpabTreeN4
namespace Go.Proofs.Ytnljfhjindenpab
set_option linter.unusedVariables false
set_option linter.unusedSimpArgs false
set_option maxRecDepth 20000
open Go.RowKit

theorem rdK_len {l : List Nv} {rec : Nat → Option Rd} {ks : List Int} {p : Nat} (hr : ∀ q x, rec q = some x → x.2.2.length ≤ 7 * x.1) : ∀ {kids : List Int} {i size : Nat} {deep : Int} {pairs : List Pr} {x : Rd}, rdK l rec ks p kids i size deep pairs = some x → pairs.length ≤ 7 * size → x.2.2.length ≤ 7 * x.1
  | [], i, size, deep, pairs, x, h, h1 => by
    simp only [rdK, Option.some.injEq] at h
    subst h
    exact h1
  | kid :: kids, i, size, deep, pairs, x, h, h1 => by
    rw [rdK] at h
    split at h
    · split at h
      · cases h
      · next n d below e =>
        split at h
        · have b1 := hr _ _ e
          simp only at b1
          exact rdK_len hr h (by rw [List.length_append]; omega)
        · cases h
    · cases h

theorem rd_len (l : List Nv) : ∀ (f p : Nat) (x : Rd), rd l f p = some x → x.2.2.length ≤ 7 * x.1
  | 0, p, x, h => by simp [rd] at h
  | f + 1, p, x, h => by
    rw [rd] at h
    split at h
    · cases h
    · next nd e =>
      split at h
      · next hf =>
        split at h
        · simp only [Option.some.injEq] at h
          subst h
          have := hf.1
          simp only [List.length_zip]
          omega
        · exact rdK_len (fun q x hx => rd_len l f q x hx) h (by simp)
      · cases h

/-- One step of the kids. -/
theorem rdK_ne {l : List Nv} {rec : Nat → Option Rd} {ks : List Int} {p : Nat} {kid : Int} {kids : List Int} {i size : Nat} {deep : Int} {pairs : List Pr} (h : kid ≠ ((p + size : Nat) : Int)) : rdK l rec ks p (kid :: kids) i size deep pairs = none := by
  rw [rdK, if_neg h]
theorem rdK_none {l : List Nv} {rec : Nat → Option Rd} {ks : List Int} {p : Nat} {kid : Int} {kids : List Int} {i size : Nat} {deep : Int} {pairs : List Pr} (h : rec (p + size) = none) : rdK l rec ks p (kid :: kids) i size deep pairs = none := by
  rw [rdK, h]
  split <;> rfl
theorem rdK_bad {l : List Nv} {rec : Nat → Option Rd} {ks : List Int} {p : Nat} {kid : Int} {kids : List Int} {i size n : Nat} {deep d : Int} {pairs below : List Pr} (h : rec (p + size) = some (n, d, below)) (hb : ¬ (¬ (0 ≤ deep ∧ d ≠ deep) ∧ InsAll l ks i (p + size) n)) : rdK l rec ks p (kid :: kids) i size deep pairs = none := by
  rw [rdK, h]
  simp only [if_neg hb]
  split <;> rfl
theorem rdK_next {l : List Nv} {rec : Nat → Option Rd} {ks : List Int} {p : Nat} {kid : Int} {kids : List Int} {i size n : Nat} {deep d : Int} {pairs below : List Pr} (hk : kid = ((p + size : Nat) : Int)) (h : rec (p + size) = some (n, d, below)) (hb : ¬ (0 ≤ deep ∧ d ≠ deep) ∧ InsAll l ks i (p + size) n) : rdK l rec ks p (kid :: kids) i size deep pairs = rdK l rec ks p kids (i + 1) (size + n) d (pairs ++ below) := by
  conv => lhs; rw [rdK, h]
  simp only [if_pos hb, if_pos hk]

theorem insAll_next {l : List Nv} {ks : List Int} {i k m : Nat} (h : InsAll l ks i k m) (hl : k + m < l.length) (hx : Ins l[k + m].1 ks i) : InsAll l ks i k (m + 1) := by
  intro nd hnd
  obtain ⟨j, hj, rfl⟩ := List.mem_take_iff_getElem.1 hnd
  simp only [List.length_drop] at hj
  rw [List.getElem_drop]
  by_cases hjm : j = m
  · subst hjm; exact hx
  · exact h _ (List.mem_take_iff_getElem.2 ⟨j, by simp; omega, by rw [List.getElem_drop]⟩)

theorem insAll_at {l : List Nv} {ks : List Int} {i k n m : Nat} (h : InsAll l ks i k n) (hm : m < n) (hl : k + m < l.length) : Ins l[k + m].1 ks i :=
  h _ (List.mem_take_iff_getElem.2 ⟨m, by simp; omega, by rw [List.getElem_drop]⟩)

theorem prcells_oneCell (ps : List Pr) : ∀ u ∈ prcells ps, u.oneCell' = true := by
  intro u hu
  obtain ⟨e, _, hu⟩ := List.mem_flatMap.1 hu
  simp [prcell] at hu
  rcases hu with rfl | rfl | rfl <;> rfl

theorem PRow.apps {base : Nat} {w w9 : World} {v v9 : Value} {ps qs : List Pr} (h : PRow base w v ps) (hg : w.grownBy w9 v.ownBlock) (hr : w9.ownsRow base 73 3 v9 (ps.length + qs.length) (prcells ps ++ prcells qs)) :
    PRow base w9 v9 (ps ++ qs) ∧ Fr (fun q => v.ownBlock = some q) w w9 := by
  refine ⟨?_, Fr.grown (Fr.refl _ w) hg (fun q hq => .inl hq)⟩
  unfold PRow
  rw [List.length_append, prcells_append]
  exact hr

set_option maxHeartbeats 6400000 in
theorem c_readIn {v : Value} {nds : List Nv} {p f : Nat} {ks : List Int} {es : List Ext} {is : List Int} (w : World) (h : Nds w v nds) (hb : nds.length ≤ 1000000) (hnd : nds[p]? = some (ks, es, is)) (hf : Form (ks, es, is) (decide (p = 0))) (hin : is.length ≠ 0) (hfu : nds.length < p + 1 + f)
    (ih : ∀ q w', Nw w w' → nds.length < q + f → Calls Try.prog 43 #[v, .int .i64 (q : Nat)] w' fun e w2 => ∃ u, Nw w' w2 ∧ e = .returned (rdV u (rd nds f q)) ∧ ∀ x, rd nds f q = some x → Prs w2 u x.2.2) :
    Calls Try.prog 43 #[v, .int .i64 p] w fun e w' => ∃ u, Nw w w' ∧ e = .returned (rdV u (rdK nds (rd nds f) ks p is 0 1 (-1) [])) ∧ ∀ x, rdK nds (rd nds f) ks p is 0 1 (-1) [] = some x → Prs w' u x.2.2 := by
  obtain ⟨i0, hj, hj0, hj1, hj2⟩ := info_parts3 Try.infoR
  obtain ⟨RES, hRES⟩ : ∃ RES, Hid (RES = rdK nds (rd nds f) ks p is 0 1 (-1) []) := ⟨_, rfl⟩
  rw [← hRES.out]
  obtain ⟨ao, cap, rfl, hc1, hc2⟩ := h.form
  obtain ⟨hlt, hnd'⟩ := List.getElem?_eq_some_iff.1 hnd
  obtain ⟨b, off, ⟨x0, x1, x2⟩, rfl, c0, c1, c2, hct⟩ := h.get hlt
  rw [hnd'] at hct
  simp only at c0 c1 c2
  have hcf := c_form (root := decide (p = 0)) w hct
  rw [show decide (Form (ks, es, is) (decide (p = 0))) = true from decide_eq_true hf] at hcf
  have hz : ((p : Int) == 0) = decide (p = 0) := by rw [Bool.eq_iff_iff]; simp
  rw [← hz] at hcf
  unfold nodeV at hcf
  have hK : Ks w x0 ks := hct.1.hs
  have hI : Hs w x2 is.length (is.map icell) := hct.2.2.hs
  obtain ⟨ae, ce, e1, he1, he2⟩ := hct.2.1.hs.form
  have h7 := hf.1
  have hil : is.length = ks.length + 1 := by
    rcases hf.2.2.2 with h1 | h1
    · exact absurd h1.1 hin
    · exact h1.2.2.1
  simp only at h7 e1
  subst e1
  obtain ⟨ak, ck, rfl, hk1, hk2⟩ := Hs.form hK
  obtain ⟨ai, ci, rfl, hi1, hi2⟩ := Hs.form hI
  have hil8 : is.length ≤ 8 := by omega
  replace hil : Hid (is.length = ks.length + 1) := hil
  replace hK : Hid (Ks w (.slice ak ks.length ck) ks) := hK
  replace hI : Hid (Hs w (.slice ai is.length ci) is.length (is.map icell)) := hI
  replace h : Hid (Nds w (.slice (some ⟨b, off, none⟩) nds.length cap) nds) := h
  replace ih : Hid (∀ q w', Nw w w' → nds.length < q + f → Calls Try.prog 43 #[.slice (some ⟨b, off, none⟩) nds.length cap, .int .i64 (q : Nat)] w' fun e w2 => ∃ u, Nw w' w2 ∧ e = .returned (rdV u (rd nds f q)) ∧ ∀ x, rd nds f q = some x → Prs w2 u x.2.2) := ih
  clear hct hf hnd hnd' hz
  generalize es.length = el at *
  go_enter Try.func43, Try.ntmps43
  go_wp2_with (go_at_call 69; refine hcf.mono ?_; rintro e w1 ⟨rfl, hn1⟩; refine stop_here ?_)
  unfold Hid
  replace c0 := hn1.cell c0
  replace c1 := hn1.cell c1
  replace c2 := hn1.cell c2
  clear hcf
  go_upto_region 4 with fail
  have hn2 : Nw w (w1.alloc (.cells #[.slice ak ks.length ck, .slice ae el ce, .slice ai is.length ci] 92)) := nw_trans hn1 (nw_alloc (nw_refl w1) _)
  have hB1 : Hid ((w1.alloc (.cells #[.slice ak ks.length ck, .slice ae el ce, .slice ai is.length ci] 92)).heap[w1.heap.size]? = some (.cells #[.slice ak ks.length ck, .slice ae el ce, .slice ai is.length ci] 92 (0, 0))) := heap_alloc_new w1 _
  clear c0 c1 c2
  have hgen : w1.heap.size ≤ (w1.alloc (.cells #[.slice ak ks.length ck, .slice ae el ce, .slice ai is.length ci] 92)).heap.size := by simp
  generalize w1.alloc (.cells #[.slice ak ks.length ck, .slice ae el ce, .slice ai is.length ci] 92) = w2 at *
  have h0 : PRow w2.heap.size (w2.alloc (.cells #[] 73)) (.slice (some ⟨w2.heap.size, 0, none⟩) 0 0) [] := prow0 w2
  have hn0 : Nw w2 (w2.alloc (.cells #[] 73)) := nw_alloc (nw_refl w2) _
  have hS0 : Hid (∀ wr, Nw w2 wr → wr.cell? ⟨w1.heap.size, 0, none⟩ = some (.slice ak ks.length ck) ∧ wr.cell? ⟨w1.heap.size, 2, none⟩ = some (.slice ai is.length ci)) := fun wr hw => ⟨cell_blk (hw.blk hB1.out) rfl, cell_blk (hw.blk hB1.out) rfl⟩
  clear hB1
  obtain ⟨f0, f2⟩ := hS0.out _ hn0
  have hin' : ((is.length : Int) == 0) = false := by
    rw [Bool.eq_false_iff]
    intro h9
    have := eq_of_beq h9
    omega
  go_wp2_with (refine wpList_buildSlice0 rfl 41 73 rfl Try.underlying41 (by kernel_rfl) ?_)
  clear f0 f2 hin'
  generalize w2.alloc (.cells #[] 73) = w3 at *
  go_loopw [9, 11, 12, 68] (fun o sz dp i wr => ∃ (j size : Nat) (deep : Int) (pairs : List Pr), j ≤ is.length ∧ i = .int .i64 j ∧ sz = .int .i64 size ∧ dp = .int .i64 deep ∧ Hid (RES = rdK nds (rd nds f) ks p (is.drop j) j size deep pairs) ∧ 1 ≤ size ∧ p + size ≤ nds.length ∧ -1 ≤ deep ∧ deep ≤ 1000000 ∧ pairs.length ≤ 7 * size ∧ PRow w2.heap.size wr o pairs ∧ Nw w2 wr) (fun _ _ _ i _ => is.length - (intOf i).toNat)
  case atStart => exact ⟨0, 1, -1, [], Nat.zero_le _, rfl, rfl, rfl, hRES, by omega, by omega, by omega, by omega, by simp, h0, hn0⟩
  case round =>
    clear h0 hn0 hRES
    obtain ⟨j, size, deep, pairs, hjl, rfl, rfl, rfl, hRES, hs1, hs2, hd1, hd2, hpl, hrow, hnw⟩ := hrel
    have hNw : Nw w wr := nw_trans hn2 hnw
    obtain ⟨oa, oc, rfl⟩ := hrow.form
    by_cases hjt : j < is.length
    · obtain ⟨q, o1, rfl, g0⟩ := Hs.get (hI.out.nw hNw) (i := j) (c := icell is[j]) (by simp [hjt])
      unfold icell at g0
      rw [List.drop_eq_getElem_cons hjt] at hRES
      generalize is[j] = kid at *
      by_cases hk : kid = ((p + size : Nat) : Int)
      case neg =>
        have hr : Hid (RES = none) := by unfold Hid; rw [hRES.out]; exact rdK_ne hk
        have hne : (kid != (p : Int) + (size : Int)) = true := by simp; omega
        clear hRES hk hS0 hK hI h ih hrow hil
        generalize pairs.length = pl at *
        go_wp2
        refine bodyPost_ret (results_tmp4 rfl _ _ _) rfl ?_
        rw [hr.out]
        exact ⟨.slice none 0 0, hNw, rfl, fun x hx => by cases hx⟩
      obtain ⟨N, hN⟩ : ∃ N, N = p + size := ⟨_, rfl⟩
      rw [← hN] at hk
      subst hk
      have hne : (((N : Int)) != (p : Int) + (size : Int)) = false := by simp; omega
      have hNl : N ≤ nds.length := by omega
      have hcall := ih.out N wr hNw (by omega)
      replace hN : Hid (N = p + size) := hN
      cases hrd : rd nds f N with
      | none =>
        have hr : Hid (RES = none) := by unfold Hid; rw [hRES.out]; exact rdK_none (by rw [← hN.out]; exact hrd)
        rw [hrd] at hcall
        unfold rdV at hcall
        clear hRES hS0 hK hI h ih hrow hil hrd
        generalize pairs.length = pl at *
        go_wp2_with (go_at_call 43; refine hcall.mono ?_; rintro e w5 ⟨u, hn5, rfl, _⟩; refine stop_here ?_)
        unfold Hid
        clear hcall g0
        go_wp2
        refine bodyPost_ret (results_tmp4 rfl _ _ _) rfl ?_
        rw [hr.out]
        exact ⟨.slice none 0 0, nw_trans hNw hn5, rfl, fun x hx => by cases hx⟩
      | some x =>
        obtain ⟨n, d, below⟩ := x
        obtain ⟨bb1, bb2, bb3, bb4⟩ := rd_bound nds f N _ hrd
        have bb5 := rd_len nds f N _ hrd
        simp only at bb1 bb2 bb3 bb4 bb5
        rw [hrd] at hcall
        unfold rdV at hcall
        simp only [Option.some.injEq] at hcall
        replace hrd : Hid (rd nds f N = some (n, d, below)) := hrd
        replace hcall : Hid (Calls Try.prog 43 #[.slice (some ⟨b, off, none⟩) nds.length cap, .int .i64 (N : Nat)] wr fun e w5 => ∃ u, Nw wr w5 ∧ e = .returned (.tuple #[.int .i64 (n : Nat), .int .i64 d, u, .bool true]) ∧ Prs w5 u below) := hcall.mono (fun e w5 ⟨u, h1, h2, h3⟩ => ⟨u, h1, h2, h3 _ rfl⟩)
        have hrowH : Hid (PRow w2.heap.size wr (.slice oa pairs.length oc) pairs) := hrow
        clear hrow
        have hpb : pairs.length ≤ 7000000 := by omega
        have hbb : below.length ≤ 7000000 := by omega
        replace hpl : Hid (pairs.length ≤ 7 * size) := hpl
        replace bb5 : Hid (below.length ≤ 7 * n) := bb5
        by_cases hdp : 0 ≤ deep ∧ d ≠ deep
        · have hr : Hid (RES = none) := by unfold Hid; rw [hRES.out]; exact rdK_bad (by rw [← hN.out]; exact hrd.out) (fun h => h.1 hdp)
          obtain ⟨t1, t2⟩ := hdp
          have t3 : (d != deep) = true := by simp [t2]
          clear hRES hS0 hK hI h ih hrowH hil hrd t2
          generalize pairs.length = pl at *
          go_wp2_with (go_at_call 43; refine hcall.out.mono ?_; rintro e w5 ⟨u, hn5, rfl, hpu⟩; obtain ⟨ub, uc, rfl, _, _⟩ := hpu.form; refine stop_here ?_)
          unfold Hid
          clear hcall g0
          go_wp2
          refine bodyPost_ret (results_tmp4 rfl _ _ _) rfl ?_
          rw [hr.out]
          exact ⟨.slice none 0 0, nw_trans hNw hn5, rfl, fun x hx => by cases hx⟩
        · have hdp' : deep < 0 ∨ (0 ≤ deep ∧ (d != deep) = false) := by
            by_cases h1 : deep < 0
            · exact .inl h1
            · right
              refine ⟨by omega, ?_⟩
              by_cases h2 : d = deep
              · simp [h2]
              · exact absurd ⟨by omega, h2⟩ hdp
          replace hdp : Hid (¬ (0 ≤ deep ∧ d ≠ deep)) := hdp
          rcases hdp' with t1 | ⟨t1, t2⟩
          all_goals
            generalize hpln : pairs.length = pl at *
            replace hpln : Hid (pairs.length = pl) := hpln
            go_wp2_with (go_at_call 43; refine hcall.out.mono ?_; rintro e w5 ⟨u, hn5, rfl, hpu⟩; obtain ⟨ub, uc, rfl, hu1, hu2⟩ := hpu.form; refine stop_here ?_)
            unfold Hid
            clear hcall g0
            replace hpu : Hid (Prs w5 (.slice ub below.length uc) below) := hpu
            go_wp2
            go_loopw [19] (fun k wk => ∃ m : Nat, m ≤ n ∧ k = .int .i64 ((N + m : Nat) : Int) ∧ Hid (InsAll nds ks j N m) ∧ Nw w5 wk) (fun k _ => N + n - (intOf k).toNat)
            case atStart => exact ⟨0, Nat.zero_le _, rfl, fun nd hnd => by simp at hnd, nw_refl _⟩
            case round =>
              obtain ⟨m, hmn, rfl, hall, hnk⟩ := hrel
              have hNk : Nw w wr := nw_trans (nw_trans hNw hn5) hnk
              have hN2 : Nw w2 wr := nw_trans (nw_trans hnw hn5) hnk
              by_cases hmt : m < n
              · generalize hM : N + m = M at *
                have hMl : M < nds.length := by omega
                have hMb : M < N + n := by omega
                have hMi : Hid (nds[M] = nds[N + m]) := by subst hM; rfl
                have hci := c_inside (p := M) (i := j) wr (h.out.nw hNk) (Hs.nw hK.out hNk) hMl (by have := hil.out; omega) hb (by omega)
                have f0 := (hS0.out wr hN2).1
                by_cases hins : Ins nds[M].1 ks j
                · rw [decide_eq_true hins] at hci
                  have hall2 : Hid (InsAll nds ks j N (m + 1)) := insAll_next hall.out (by omega) (by rw [← hMi.out]; exact hins)
                  replace hM : Hid (N + m = M) := hM
                  clear hall hins hMi
                  go_wp2_with (go_at_call 70; refine hci.mono ?_; rintro e w6 ⟨rfl, hn6⟩; refine stop_here ?_)
                  unfold Hid
                  clear hci f0
                  go_wp2
                  go_roundw
                  case rel => exact ⟨m + 1, by omega, by have := hM.out; congr 1; omega, hall2.out, nw_trans hnk hn6⟩
                  case measure => simp [intOf]; omega
                · rw [decide_eq_false hins] at hci
                  have hr : Hid (RES = none) := by
                    unfold Hid
                    rw [hRES.out]
                    refine rdK_bad (by rw [← hN.out]; exact hrd.out) (fun h9 => hins ?_)
                    rw [hMi.out]
                    rw [← hN.out] at h9
                    exact insAll_at h9.2 hmt (by omega)
                  replace hM : Hid (N + m = M) := hM
                  clear hall hins hMi hRES
                  go_wp2_with (go_at_call 70; refine hci.mono ?_; rintro e w6 ⟨rfl, hn6⟩; refine stop_here ?_)
                  unfold Hid
                  clear hci f0
                  go_wp2
                  refine bodyPost_ret (results_tmp4 rfl _ _ _) rfl ?_
                  rw [hr.out]
                  exact ⟨.slice none 0 0, nw_trans hNk hn6, rfl, fun x hx => by cases hx⟩
              · have hmn' : m = n := by omega
                subst hmn'
                have hnext : Hid (RES = rdK nds (rd nds f) ks p (is.drop (j + 1)) (j + 1) (size + m) d (pairs ++ below)) := by
                  unfold Hid
                  rw [hRES.out]
                  refine rdK_next (by rw [hN.out]) (by rw [← hN.out]; exact hrd.out) ⟨hdp.out, ?_⟩
                  rw [← hN.out]
                  exact hall.out
                have hrow2 : PRow w2.heap.size wr (.slice oa pl oc) pairs := owns_of_block hrowH.out (fun k hk => (nw_trans hn5 hnk).block k (World.ownsRow.lt hrowH.out k hk).2 id)
                have hgb : ∀ q, (Value.slice oa pl oc).ownBlock = some q → w2.heap.size ≤ q := fun q hq => (World.ownsRow.lt hrow2 q hq).1
                have hslB : Sl wr.heap.size wr (.slice ub below.length uc) below.length (prcells below) := Hs.nw hpu.out hnk
                have hkl := prcells_length below
                have hone := prcells_oneCell below
                have hfin : Hid (∀ v9 w9, w9.ownsRow w2.heap.size 73 3 v9 (pl + below.length) (prcells pairs ++ prcells below) → wr.grownBy w9 (Value.ownBlock (.slice oa pl oc)) → PRow w2.heap.size w9 v9 (pairs ++ below) ∧ Nw w2 w9) := fun v9 w9 h1 h2 => by
                  have h3 := PRow.apps (qs := below) hrow2 h2 (by rw [hpln.out]; exact h1)
                  exact ⟨h3.1, Fr.trans hN2 h3.2 (fun q hq => .inr (hgb q hq))⟩
                have hlenN : Hid ((pairs ++ below).length ≤ 7 * (size + m)) := by
                  unfold Hid
                  rw [List.length_append, hpln.out]
                  have := hpl.out
                  have := bb5.out
                  omega
                have hrA : wr.ownsRow w2.heap.size 73 3 (.slice oa pl oc) pl (prcells pairs) := by
                  have h9 := hrow2
                  unfold PRow at h9
                  rwa [hpln.out] at h9
                have hwz := hN2.size
                clear hall hRES hrow2 hpu hrowH hgb hrd hdp
                generalize prcells pairs = cs at *
                generalize prcells below = ds at *
                generalize hbn : below.length = bl at *
                replace hbn : Hid (below.length = bl) := hbn
                have hNe := hN.out
                go_wp2_with (at_builtin; refine wpList_append_sl _ rfl _ _ 41 rfl w2.heap.size 73 i0 _ 3 24 Try.underlying41 hj hj0 hj1 hj2 rfl (by decide) _ _ _ rfl hrA _ _ _ _ rfl hslB hkl hone ?k2 ?k3 ?k4 ?_)
                case k2 => unfold maxLen; omega
                case k3 => omega
                case k4 => omega
                intro v9 w9 hown9 hgrow9 hat9
                obtain ⟨hr9, hn9⟩ := hfin.out v9 w9 hown9 hgrow9
                obtain ⟨oa9, oc9, rfl⟩ := owns_form hown9
                replace hr9 : Hid (PRow w2.heap.size w9 (.slice oa9 (pl + bl) oc9) (pairs ++ below)) := hr9
                clear hfin hown9 hgrow9 hat9 hrA hslB hkl hone
                go_wp2
                go_roundw
                case rel => exact ⟨j + 1, size + m, d, pairs ++ below, by omega, by go_num, by go_num, rfl, hnext, by omega, by omega, by omega, by omega, hlenN.out, hr9.out, hn9⟩
                case measure => simp [intOf]; omega
    · have hje : j = is.length := by omega
      have hr : Hid (RES = some (size, deep + 1, pairs)) := by
        unfold Hid
        rw [hRES.out, List.drop_eq_nil_of_le (by omega), rdK]
      have hfin : Hid (Prs wr (.slice oa pairs.length oc) pairs) := hrow.prs
      clear hRES hS0 hK hI h ih hrow hil
      generalize pairs.length = pl at *
      go_wp2
      refine bodyPost_ret (results_tmp4 rfl _ _ _) rfl ?_
      rw [hr.out]
      refine ⟨_, hNw, rfl, fun x hx => ?_⟩
      simp only [Option.some.injEq] at hx
      subst hx
      exact hfin.out
end Go.Proofs.Ytnljfhjindenpab
