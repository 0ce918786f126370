/-
  The document's read at a leaf, and where the form isn't right.
-/
import Derived.Test.YtnljfhjindenpabTreeN3
namespace Go.Proofs.Ytnljfhjindenpab
set_option linter.unusedVariables false
set_option linter.unusedSimpArgs false
set_option maxRecDepth 20000
open Go.RowKit

theorem results_tmp4 {fn : Func} {t u v x : Tmp} (h : fn.results = #[.tmp t, .tmp u, .tmp v, .tmp x]) (tmps : Array Value) (P : Program) (w : World) :
    (results fn tmps).run P w = .ok (.tuple #[tmps.getD t undef, tmps.getD u undef, tmps.getD v undef, tmps.getD x undef]) w := by
  simp [results, h]

def rdV (u : Value) : Option Rd → Value
  | none => .tuple #[.int .i64 0, .int .i64 0, .slice none 0 0, .bool false]
  | some x => .tuple #[.int .i64 (x.1 : Nat), .int .i64 x.2.1, u, .bool true]

set_option maxHeartbeats 1600000 in
theorem c_readNo {v : Value} {nds : List Nv} {p : Nat} (w : World) (h : Nds w v nds) (hb : nds.length ≤ 1000000) (hno : ∀ nd, nds[p]? = some nd → ¬ Form nd (decide (p = 0))) :
    Calls Try.prog 43 #[v, .int .i64 p] w fun e w' => Nw w w' ∧ e = .returned (rdV (.slice none 0 0) none) := by
  obtain ⟨ao, cap, rfl, hc1, hc2⟩ := h.form
  unfold rdV
  by_cases hlt : p < nds.length
  · obtain ⟨b, off, ⟨x0, x1, x2⟩, rfl, c0, c1, c2, hct⟩ := h.get hlt
    simp only at c0 c1 c2
    have hcf := c_form (root := decide (p = 0)) w hct
    have hdf : decide (Form nds[p] (decide (p = 0))) = false := decide_eq_false (hno _ (List.getElem?_eq_getElem hlt))
    rw [hdf] at hcf
    have hz : ((p : Int) == 0) = decide (p = 0) := by rw [Bool.eq_iff_iff]; simp
    rw [← hz] at hcf
    unfold nodeV at hcf
    obtain ⟨_, _, e0, _⟩ := hct.1.hs.form
    obtain ⟨_, _, e1, _⟩ := hct.2.1.hs.form
    obtain ⟨_, _, e2, _⟩ := hct.2.2.hs.form
    simp only at e0 e1 e2
    subst e0 e1 e2
    clear hct hdf hno h hz
    generalize nds[p].1.length = n1 at *
    generalize nds[p].2.1.length = n2 at *
    generalize nds[p].2.2.length = n3 at *
    go_enter Try.func43, Try.ntmps43
    go_wp2_with (go_at_call 69; refine hcf.mono ?_; rintro e w1 ⟨rfl, hn1⟩; refine stop_here ?_)
    unfold Hid
    clear hcf c0 c1 c2
    go_wp2
    refine bodyPost_ret (results_tmp4 rfl _ _ _) rfl ?_
    exact ⟨hn1, rfl⟩
  · clear hno h
    go_enter Try.func43, Try.ntmps43
    go_wp2
    refine bodyPost_ret (results_tmp4 rfl _ _ _) rfl ?_
    exact ⟨nw_refl _, rfl⟩

set_option maxHeartbeats 3200000 in
theorem c_readLeaf {v : Value} {nds : List Nv} {p : Nat} {ks : List Int} {es : List Ext} (w : World) (h : Nds w v nds) (hb : nds.length ≤ 1000000) (hnd : nds[p]? = some (ks, es, [])) (hf : Form (ks, es, []) (decide (p = 0))) :
    Calls Try.prog 43 #[v, .int .i64 p] w fun e w' => ∃ u, Nw w w' ∧ e = .returned (rdV u (some (1, 0, ks.zip es))) ∧ Prs w' u (ks.zip es) := by
  obtain ⟨i0, hj, hj0, hj1, hj2⟩ := info_parts3 Try.infoR
  obtain ⟨ao, cap, rfl, hc1, hc2⟩ := h.form
  unfold rdV
  obtain ⟨hlt, hnd'⟩ := List.getElem?_eq_some_iff.1 hnd
  obtain ⟨b, off, ⟨x0, x1, x2⟩, rfl, c0, c1, c2, hct⟩ := h.get hlt
  rw [hnd'] at hct
  simp only at c0 c1 c2
  have hcf := c_form (root := decide (p = 0)) w hct
  rw [show decide (Form (ks, es, []) (decide (p = 0))) = true from decide_eq_true hf] at hcf
  have hz : ((p : Int) == 0) = decide (p = 0) := by rw [Bool.eq_iff_iff]; simp
  rw [← hz] at hcf
  unfold nodeV at hcf
  have hK : Ks w x0 ks := hct.1.hs
  have hV : Vs w x1 es := hct.2.1.hs
  obtain ⟨ai, ci, e2, hi1, hi2⟩ := hct.2.2.hs.form
  have h7 := hf.1
  have hel : es.length = ks.length := by
    rcases hf.2.2.2 with h1 | h1
    · exact h1.2
    · exact absurd rfl h1.1
  simp only at h7 e2
  subst e2
  obtain ⟨ak, ck, rfl, hk1, hk2⟩ := Hs.form hK
  obtain ⟨ae, ce, rfl, he1, he2⟩ := Hs.form hV
  rw [hel] at hV hcf c1 he1
  simp only [List.length_nil] at hcf c2
  replace hK : Hid (Ks w (.slice ak ks.length ck) ks) := hK
  replace hV : Hid (Vs w (.slice ae ks.length ce) es) := hV
  replace hel : Hid (es.length = ks.length) := hel
  obtain ⟨PS, hPS⟩ : ∃ PS, Hid (PS = ks.zip es) := ⟨_, rfl⟩
  have hPl : Hid (PS.length = ks.length) := by unfold Hid; rw [hPS.out, List.length_zip, hel.out]; simp
  rw [← hPS.out]
  clear hct hf hnd hnd' h hz
  go_enter Try.func43, Try.ntmps43
  go_wp2_with (go_at_call 69; refine hcf.mono ?_; rintro e w1 ⟨rfl, hn1⟩; refine stop_here ?_)
  unfold Hid
  replace c0 := hn1.cell c0
  replace c1 := hn1.cell c1
  replace c2 := hn1.cell c2
  clear hcf
  go_upto_region 4 with fail
  have hn2 : Nw w (w1.alloc (.cells #[.slice ak ks.length ck, .slice ae ks.length ce, .slice ai 0 ci] 92)) := nw_trans hn1 (nw_alloc (nw_refl w1) _)
  have hB1 : Hid ((w1.alloc (.cells #[.slice ak ks.length ck, .slice ae ks.length ce, .slice ai 0 ci] 92)).heap[w1.heap.size]? = some (.cells #[.slice ak ks.length ck, .slice ae ks.length ce, .slice ai 0 ci] 92 (0, 0))) := heap_alloc_new w1 _
  clear c0 c1 c2
  have hgen : w1.heap.size ≤ (w1.alloc (.cells #[.slice ak ks.length ck, .slice ae ks.length ce, .slice ai 0 ci] 92)).heap.size := by simp
  generalize w1.alloc (.cells #[.slice ak ks.length ck, .slice ae ks.length ce, .slice ai 0 ci] 92) = w2 at *
  have h0 : PRow w2.heap.size (w2.alloc (.cells #[] 73)) (.slice (some ⟨w2.heap.size, 0, none⟩) 0 0) [] := prow0 w2
  have hn0 : Nw w2 (w2.alloc (.cells #[] 73)) := nw_alloc (nw_refl w2) _
  have hS0 : Hid (∀ wr, Nw w2 wr → wr.cell? ⟨w1.heap.size, 0, none⟩ = some (.slice ak ks.length ck) ∧ wr.cell? ⟨w1.heap.size, 1, none⟩ = some (.slice ae ks.length ce) ∧ wr.cell? ⟨w1.heap.size, 2, none⟩ = some (.slice ai 0 ci)) := fun wr hw => ⟨cell_blk (hw.blk hB1.out) rfl, cell_blk (hw.blk hB1.out) rfl, cell_blk (hw.blk hB1.out) rfl⟩
  obtain ⟨f0, f1, f2⟩ := hS0.out _ hn0
  go_wp2_with (refine wpList_buildSlice0 rfl 41 73 rfl Try.underlying41 (by kernel_rfl) ?_)
  clear f0 f1 f2
  generalize w2.alloc (.cells #[] 73) = w3 at *
  go_loopw [9, 46] (fun o i wr => ∃ j : Nat, j ≤ ks.length ∧ i = .int .i64 j ∧ PRow w2.heap.size wr o (PS.take j) ∧ Nw w2 wr) (fun _ i _ => ks.length - (intOf i).toNat)
  case atStart => exact ⟨0, Nat.zero_le _, rfl, h0, hn0⟩
  case round =>
    clear h0 hn0
    obtain ⟨j, hjl, rfl, hrow, hnw⟩ := hrel
    have hNw : Nw w wr := nw_trans hn2 hnw
    by_cases hlt : j < ks.length
    · have hje : j < es.length := by rw [hel.out]; exact hlt
      obtain ⟨q, o1, rfl, g0⟩ := Ks.get (Hs.nw hK.out hn2) hlt
      obtain ⟨q2, o2, rfl, g1, g2⟩ := Vs.get (Hs.nw hV.out hn2) hje
      have hnew : Hid (PS.take (j + 1) = PS.take j ++ [(ks[j], es[j])]) := by
        unfold Hid
        rw [List.take_succ_eq_append_getElem (by rw [hPl.out]; exact hlt)]
        congr 2
        simp [hPS.out]
      have hlen : (PS.take j).length = j := by rw [List.length_take, hPl.out]; omega
      generalize PS.take j = ps at *
      generalize ks[j] = k at *
      generalize es[j] = e at *
      subst hlen
      obtain ⟨oa, oc, rfl⟩ := hrow.form
      have hSof : Hid (∀ w' : World, Nw w2 w' → (fun w' : World => Nw w2 w' ∧ w'.cell? ⟨w1.heap.size, 0, none⟩ = some (.slice (some ⟨q, o1, none⟩) ks.length ck) ∧ w'.cell? ⟨w1.heap.size, 1, none⟩ = some (.slice (some ⟨q2, o2, none⟩) ks.length ce) ∧ w'.cell? ⟨q, o1 + ps.length, none⟩ = some (.int .u64 k) ∧ w'.cell? ⟨q2, o2 + ps.length * 2, none⟩ = some (.int .i64 e.1) ∧ w'.cell? ⟨q2, o2 + ps.length * 2 + 1, none⟩ = some (.int .i64 e.2)) w') := fun w' hw => ⟨hw, (hS0.out w' hw).1, (hS0.out w' hw).2.1, hw.cell g0, hw.cell g1, hw.cell g2⟩
      have hS := hSof.out _ (nw_drew hnw)
      have hgb : ∀ q, (Value.slice oa ps.length oc).ownBlock = some q → w2.heap.size ≤ q := fun q hq => (World.ownsRow.lt hrow q hq).1
      have hrowd : PRow w2.heap.size wr.drew (.slice oa ps.length oc) ps := hrow
      have hrA := World.ownsRow.alloc hrowd (.cells #[.int .u64 k, .int .i64 e.1, .int .i64 e.2] 73)
      have hsz : w2.heap.size ≤ wr.heap.size := hnw.size
      have hnd : Nw w2 wr.drew := nw_drew hnw
      have hfin : Hid (∀ v9 w9, w9.ownsRow w2.heap.size 73 3 v9 (ps.length + 1) (prcells ps ++ [.int .u64 k, .int .i64 e.1, .int .i64 e.2]) → (wr.drew.alloc (.cells #[.int .u64 k, .int .i64 e.1, .int .i64 e.2] 73)).grownBy w9 (Value.ownBlock (.slice oa ps.length oc)) → PRow w2.heap.size w9 v9 (ps ++ [(k, e)]) ∧ Nw w2 w9) := fun v9 w9 h1 h2 => ⟨(PRow.app (k, e) hrowd h2 h1).1, Fr.trans hnd (PRow.app (k, e) hrowd h2 h1).2 (fun q hq => .inr (hgb q hq))⟩
      clear hrow hrowd g0 g1 g2 hPS hPl hK hV hel hS0 hNw hgb
      generalize prcells ps = cs at *
      generalize hln : ps.length = ln at *
      replace hln : Hid (ps.length = ln) := hln
      go_wp2
      refine wp_region_ord [] 14 [(0, true), (1, true), (2, true), (3, true), (4, true), (5, true), (6, true), (7, true), (8, true), (9, true), (10, true), (11, true), (12, false), (13, false)] (fun w' : World => Nw w2 w' ∧ w'.cell? ⟨w1.heap.size, 0, none⟩ = some (.slice (some ⟨q, o1, none⟩) ks.length ck) ∧ w'.cell? ⟨w1.heap.size, 1, none⟩ = some (.slice (some ⟨q2, o2, none⟩) ks.length ce) ∧ w'.cell? ⟨q, o1 + ln, none⟩ = some (.int .u64 k) ∧ w'.cell? ⟨q2, o2 + ln * 2, none⟩ = some (.int .i64 e.1) ∧ w'.cell? ⟨q2, o2 + ln * 2 + 1, none⟩ = some (.int .i64 e.2)) (by kernel_rfl) (by kernel_rfl) ?_
      refine ord_quietL _ ?_ rfl hS rfl ?_ ?_
      rotate_left
      · rintro w' ⟨hS1, hS2, hS3, hS4, hS5, hS6⟩; go_simp; first | rfl | (rw [if_pos (by omega)]; done) | (rw [if_pos (by omega)]; rfl) | (rw [if_pos (by omega)]; go_simp; rfl)
      simp only [Act.put, List.setIfInBounds_toArray, List.set_cons_zero, List.set_cons_succ]
      refine ord_quietL _ ?_ rfl hS rfl ?_ ?_
      rotate_left
      · rintro w' ⟨hS1, hS2, hS3, hS4, hS5, hS6⟩; go_simp; first | rfl | (rw [if_pos (by omega)]; done) | (rw [if_pos (by omega)]; rfl) | (rw [if_pos (by omega)]; go_simp; rfl)
      simp only [Act.put, List.setIfInBounds_toArray, List.set_cons_zero, List.set_cons_succ]
      refine ord_quietL _ ?_ rfl hS rfl ?_ ?_
      rotate_left
      · rintro w' ⟨hS1, hS2, hS3, hS4, hS5, hS6⟩; go_simp; first | rfl | (rw [if_pos (by omega)]; done) | (rw [if_pos (by omega)]; rfl) | (rw [if_pos (by omega)]; go_simp; rfl)
      simp only [Act.put, List.setIfInBounds_toArray, List.set_cons_zero, List.set_cons_succ]
      refine ord_quietL _ ?_ rfl hS rfl ?_ ?_
      rotate_left
      · rintro w' ⟨hS1, hS2, hS3, hS4, hS5, hS6⟩; go_simp; first | rfl | (rw [if_pos (by omega)]; done) | (rw [if_pos (by omega)]; rfl) | (rw [if_pos (by omega)]; go_simp; rfl)
      simp only [Act.put, List.setIfInBounds_toArray, List.set_cons_zero, List.set_cons_succ]
      refine ord_quietL _ ?_ rfl hS rfl ?_ ?_
      rotate_left
      · rintro w' ⟨hS1, hS2, hS3, hS4, hS5, hS6⟩; go_simp; first | rfl | (rw [if_pos (by omega)]; done) | (rw [if_pos (by omega)]; rfl) | (rw [if_pos (by omega)]; go_simp; rfl)
      simp only [Act.put, List.setIfInBounds_toArray, List.set_cons_zero, List.set_cons_succ]
      refine ord_quietL _ ?_ rfl hS rfl ?_ ?_
      rotate_left
      · rintro w' ⟨hS1, hS2, hS3, hS4, hS5, hS6⟩; go_simp; first | rfl | (rw [if_pos (by omega)]; done) | (rw [if_pos (by omega)]; rfl) | (rw [if_pos (by omega)]; go_simp; rfl)
      simp only [Act.put, List.setIfInBounds_toArray, List.set_cons_zero, List.set_cons_succ]
      refine ord_quietL _ ?_ rfl hS rfl ?_ ?_
      rotate_left
      · rintro w' ⟨hS1, hS2, hS3, hS4, hS5, hS6⟩; go_simp; first | rfl | (rw [if_pos (by omega)]; done) | (rw [if_pos (by omega)]; rfl) | (rw [if_pos (by omega)]; go_simp; rfl)
      simp only [Act.put, List.setIfInBounds_toArray, List.set_cons_zero, List.set_cons_succ]
      refine ord_quietL _ ?_ rfl hS rfl ?_ ?_
      rotate_left
      · rintro w' ⟨hS1, hS2, hS3, hS4, hS5, hS6⟩; go_simp; first | rfl | (rw [if_pos (by omega)]; done) | (rw [if_pos (by omega)]; rfl) | (rw [if_pos (by omega)]; go_simp; rfl)
      simp only [Act.put, List.setIfInBounds_toArray, List.set_cons_zero, List.set_cons_succ]
      refine ord_quietL _ ?_ rfl hS rfl ?_ ?_
      rotate_left
      · rintro w' ⟨hS1, hS2, hS3, hS4, hS5, hS6⟩; go_simp; first | rfl | (rw [if_pos (by omega)]; done) | (rw [if_pos (by omega)]; rfl) | (rw [if_pos (by omega)]; go_simp; rfl)
      simp only [Act.put, List.setIfInBounds_toArray, List.set_cons_zero, List.set_cons_succ]
      refine ord_quietL _ ?_ rfl hS rfl ?_ ?_
      rotate_left
      · rintro w' ⟨hS1, hS2, hS3, hS4, hS5, hS6⟩; go_simp; first | rfl | (rw [if_pos (by omega)]; done) | (rw [if_pos (by omega)]; rfl) | (rw [if_pos (by omega)]; go_simp; rfl)
      simp only [Act.put, List.setIfInBounds_toArray, List.set_cons_zero, List.set_cons_succ]
      refine ord_quietL _ ?_ rfl hS rfl ?_ ?_
      rotate_left
      · rintro w' ⟨hS1, hS2, hS3, hS4, hS5, hS6⟩; go_simp; first | rfl | (rw [if_pos (by omega)]; done) | (rw [if_pos (by omega)]; rfl) | (rw [if_pos (by omega)]; go_simp; rfl)
      simp only [Act.put, List.setIfInBounds_toArray, List.set_cons_zero, List.set_cons_succ]
      refine ord_quietL _ ?_ rfl hS rfl ?_ ?_
      rotate_left
      · rintro w' ⟨hS1, hS2, hS3, hS4, hS5, hS6⟩; go_simp; first | rfl | (rw [if_pos (by omega)]; done) | (rw [if_pos (by omega)]; rfl) | (rw [if_pos (by omega)]; go_simp; rfl)
      simp only [Act.put, List.setIfInBounds_toArray, List.set_cons_zero, List.set_cons_succ]
      refine ord_actL _ rfl (fun K1 hK1 => ?_)
      go_wp2
      refine hK1 _ _ (hSof.out _ (nw_alloc hnd _)) ?_
      clear hK1 K1 hS
      refine ord_actL _ rfl (fun K1 hK1 => ?_)
      go_wp2_with (at_builtin; refine wpList_append_sl _ rfl _ _ 41 rfl w2.heap.size 73 i0 _ 3 24 Try.underlying41 hj hj0 hj1 hj2 rfl (by decide) _ _ _ rfl hrA _ _ 1 _ rfl (sl_lit wr.drew _ 73 1 (by omega)) rfl ?k1 ?k2 ?k3 ?k4 ?_)
      case k1 => first | (intro u hu; simp at hu; rcases hu with rfl | rfl | rfl <;> rfl) | simp [Value.oneCell']
      case k2 => unfold maxLen; omega
      case k3 => omega
      case k4 => first | omega | (simp; omega)
      intro v9 w9 hown9 hgrow9 hat9
      obtain ⟨hr9, hn9⟩ := hfin.out v9 w9 hown9 hgrow9
      obtain ⟨oa9, oc9, rfl⟩ := owns_form hown9
      replace hr9 : Hid (PRow w2.heap.size w9 (.slice oa9 (ln + 1) oc9) (ps ++ [(k, e)])) := hr9
      clear hfin hown9 hgrow9 hat9 hrA
      go_wp2
      refine hK1 _ _ (hSof.out _ hn9) ?_
      clear hK1 K1 hSof
      refine ord_tail ?_
      simp only [List.drop_succ_cons, List.drop_zero]
      go_wp2
      go_roundw
      case rel => exact ⟨ln + 1, by omega, by go_num, by rw [hnew.out]; exact hr9.out, hn9⟩
      case measure => simp [intOf]; omega
    · have hjk : j = ks.length := by omega
      obtain ⟨oa, oc, rfl⟩ := hrow.form
      have hfin : Hid (Prs wr (.slice oa (PS.take j).length oc) PS) := by
        unfold Hid
        have := hrow.prs
        rw [List.take_of_length_le (by rw [hPl.out]; omega)] at this ⊢
        exact this
      have hlen : Hid ((PS.take j).length = j) := by unfold Hid; rw [List.length_take, hPl.out]; omega
      clear hrow hPS
      generalize (PS.take j).length = z at *
      go_wp2
      refine bodyPost_ret (results_tmp4 rfl _ _ _) rfl ?_
      exact ⟨_, hNw, rfl, hfin.out⟩
end Go.Proofs.Ytnljfhjindenpab
