/-
  Package tree: Get, count, Len.
-/
import Derived.Test.YtkfcinlflkihjaaTreeW9
import Derived.Deep.LoopGhost
namespace Go.Proofs.Ytkfcinlflkihjaa
set_option linter.unusedVariables false
set_option linter.unusedSimpArgs false
set_option maxRecDepth 20000
open Go.RowKit

/-- A key's extent. -/
def getL (k : Int) (l : List Pr) : Option Ext := (l.find? (fun p => decide (p.1 = k))).map (·.2)

theorem getL_mid {k : Int} {a b c : List Pr} (ha : ∀ p ∈ a, p.1 < k) (hc : ∀ p ∈ c, k < p.1) : getL k (a ++ b ++ c) = getL k b := by
  unfold getL
  have h1 : a.find? (fun p => decide (p.1 = k)) = none := List.find?_eq_none.2 (fun p hp => by have := ha p hp; simp; omega)
  have h2 : c.find? (fun p => decide (p.1 = k)) = none := List.find?_eq_none.2 (fun p hp => by have := hc p hp; simp; omega)
  rw [List.find?_append, List.find?_append, h1, h2]
  simp

theorem get_find {n m : Nat} {t : Tr (n + 1)} {a b k : Int} (h : R (n + 1) m 7 t a b) (hak : a ≤ k) (hkb : k < b) :
    ∃ c mm nn, t.2[hi t.1 k]? = some c ∧ R n 3 7 c mm nn ∧ mm ≤ k ∧ k < nn ∧ getL k (flat (n + 1) t) = getL k (flat n c) ∧ t.2.length = t.1.length + 1 ∧ t.1.length ≤ 7 := by
  obtain ⟨ks, cs⟩ := t
  obtain ⟨⟨h1, h2⟩, h3⟩ := h
  have hl := bds_length h3
  obtain ⟨ks1, ks2, cs1, c, cs2, mm, nn, rfl, rfl, e3, e4, h4, h5, h6, h7, h8⟩ := bds_find R.kidlt k h3 hak hkb
  have hg := (take_mid (xs := cs1) (ys := cs2) (x := c) e4).2.2
  refine ⟨c, mm, nn, hg, h5, h7, h8, ?_, hl, h2⟩
  have hfl : flat (n + 1) (ks1 ++ ks2, cs1 ++ c :: cs2) = cs1.flatMap (flat n) ++ flat n c ++ cs2.flatMap (flat n) := by simp [flat]
  rw [hfl]
  refine getL_mid (fun p hp => ?_) (fun p hp => ?_)
  · have := (pre_flat R.kidlt R.kidflat h4).2 p hp; omega
  · have := (post_flat R.kidlt R.kidflat h6).2 p hp; omega

/-- At a leaf. -/
theorem get_leaf {t : List Pr} (h : Rise (t.map (·.1))) (k : Int) :
    (lo (t.map (·.1)) k = hi (t.map (·.1)) k → getL k t = none) ∧ (lo (t.map (·.1)) k ≠ hi (t.map (·.1)) k → ∃ hlt : lo (t.map (·.1)) k < t.length, getL k t = some (t[lo (t.map (·.1)) k]).2) := by
  have hf := hi_found h k
  constructor
  · intro he
    have hn : ¬ (t.map (·.1))[lo (t.map (·.1)) k]? = some k := fun h1 => by rw [if_pos h1] at hf; omega
    unfold getL
    rw [List.find?_eq_none.2 ?_]
    · rfl
    · intro p hp
      have hm : p.1 ∈ t.map (·.1) := List.mem_map.2 ⟨p, hp, rfl⟩
      obtain ⟨i, hi, hip⟩ := List.mem_iff_getElem.1 hm
      simp only [decide_eq_true_eq]
      intro hpk
      apply hn
      have hik : (t.map (·.1))[i] = k := hip.trans hpk
      have h1 : ¬ i < lo (t.map (·.1)) k := fun h2 => by have := (lo_iff h k hi).2 h2; omega
      have h2 : lo (t.map (·.1)) k < (t.map (·.1)).length := by omega
      rcases Nat.lt_or_ge (lo (t.map (·.1)) k) i with h5 | h5
      · have h6 := List.pairwise_iff_getElem.1 h _ _ h2 hi h5
        have h7 := (lo_iff h k h2).1 (by omega)
        omega
      · have : lo (t.map (·.1)) k = i := by omega
        rw [this, List.getElem?_eq_getElem hi, hik]
  · intro he
    have hn : (t.map (·.1))[lo (t.map (·.1)) k]? = some k := by
      by_cases h1 : (t.map (·.1))[lo (t.map (·.1)) k]? = some k
      · exact h1
      · rw [if_neg h1] at hf; omega
    obtain ⟨h2, h3⟩ := List.getElem?_eq_some_iff.1 hn
    have h2' : lo (t.map (·.1)) k < t.length := by simpa using h2
    refine ⟨h2', ?_⟩
    have e : t = t.take (lo (t.map (·.1)) k) ++ t[lo (t.map (·.1)) k] :: t.drop (lo (t.map (·.1)) k + 1) := by simp
    have h1 : ∀ p ∈ t.take (lo (t.map (·.1)) k), p.1 < k := fun p hp => by
      have := (rise_mid h h2).1 p.1 (by rw [← List.map_take]; exact List.mem_map.2 ⟨p, hp, rfl⟩)
      rwa [h3] at this
    have h4 : (t.take (lo (t.map (·.1)) k)).find? (fun p => decide (p.1 = k)) = none := List.find?_eq_none.2 (fun p hp => by have := h1 p hp; simp; omega)
    have h5 : (t[lo (t.map (·.1)) k]).1 = k := by simpa using h3
    unfold getL
    generalize lo (t.map (·.1)) k = L at *
    have hfd : t.find? (fun p => decide (p.1 = k)) = some t[L] := by
      conv => lhs; rw [e]
      rw [List.find?_append, h4, List.find?_cons_of_pos (by simp [h5])]
      rfl
    rw [hfd]
    rfl

theorem Try.rowE : (Try.prog.underlying 42).map TypeDesc.isRow = some true := by kernel_rfl
theorem Try.sizeE : (Try.prog.info? 42).map (·.size) = some 2 := by kernel_rfl
theorem sizeE (x y : Int) : (Try.prog.info? 42).map (·.size) = some ([.int .i64 x, .int .i64 y] : List Value).length := Try.sizeE

/-- The result's cells, written. -/
theorem ret_cell {w wr : World} {a0 a1 : Value} (h : Nw w wr) {g : Nat} (hg : w.heap.size ≤ g) (hb : wr.heap[g]? = some (.cells #[a0, a1] 42 (0, 0))) (x y : Int) :
    ((wr.setCell ⟨g, 0, none⟩ (.int .i64 x)).setCell ⟨g, 1, none⟩ (.int .i64 y)).heap[g]? = some (.cells #[.int .i64 x, .int .i64 y] 42 (0, 0)) ∧
    Nw w ((wr.setCell ⟨g, 0, none⟩ (.int .i64 x)).setCell ⟨g, 1, none⟩ (.int .i64 y)) := by
  refine ⟨?_, Fr.setCell (Fr.setCell h (p := ⟨g, 0, none⟩) (.inr hg) _) (p := ⟨g, 1, none⟩) (.inr hg) _⟩
  rw [blk_setCell (blk_setCell hb)]
  rfl

def getV (o : Option Ext) : Value := match o with
  | some e => .tuple #[ext e, .bool true]
  | none => .tuple #[ext (0, 0), .bool false]

set_option maxHeartbeats 3200000 in
theorem c_Get {n : Nat} {t : Tr n} {b : Nat} {k : Int} (w : World) (h : TAt w b n t) (hR : Top n t) (h0 : 0 ≤ k) (h1 : k < 18446744073709551616) :
    Calls Try.prog 17 #[.pointer (some ⟨b, 0, none⟩), .int .u64 k] w fun e' w' => e' = .returned (getV (getL k (flat n t))) ∧ Nw w w' := by
  obtain ⟨r, hb, hr⟩ := h
  obtain ⟨G, hG⟩ : ∃ G, Hid (G = getL k (flat n t)) := ⟨_, rfl⟩
  rw [← hG.out]
  have hW1 : Nw w (w.alloc (.cells #[.int .i64 0, .int .i64 0] 42)) := nw_alloc (nw_refl w) _
  have hB1 : Hid ((w.alloc (.cells #[.int .i64 0, .int .i64 0] 42)).heap[w.heap.size]? = some (.cells #[.int .i64 0, .int .i64 0] 42 (0, 0))) := heap_alloc_new w _
  have hr : Hid (NAt w n t r) := hr
  have hR : Hid (Top n t) := hR
  have hb : Hid (w.heap[b]? = some (.cells #[.pointer (some ⟨r, 0, none⟩)] 70 (0, 0))) := hb
  go_enter Try.func17, Try.ntmps17
  go_upto_region 1 with fail
  generalize w.alloc (.cells #[.int .i64 0, .int .i64 0] 42) = w1 at *
  have d0 : w1.cell? ⟨b, 0, none⟩ = some (.pointer (some ⟨r, 0, none⟩)) := hW1.cell (cell_blk hb.out rfl)
  go_wp2
  clear d0
  go_loopg [6] n (fun d p wr => Nw w1 wr ∧ ∃ (T : Tr d) (q m : Nat) (a b : Int), p = .pointer (some ⟨q, 0, none⟩) ∧ NAt w1 d T q ∧ R d m 7 T a b ∧ a ≤ k ∧ k < b ∧ G = getL k (flat d T))
  case atStart => exact ⟨nw_refl w1, t, r, min n 1, 0, 18446744073709551616, rfl, hr.out.nw hW1, hR.out, h0, h1, hG.out⟩
  case round =>
    obtain ⟨hw, T, q, m, a, b', rfl, hq, hRT, hak, hkb, hGT⟩ := hrel
    clear hr hR hG hb
    have hGT : Hid (G = getL k (flat gk T)) := hGT
    cases gk with
    | succ d =>
      obtain ⟨c, mm, nn, g1, g2, g3, g4, g5, g6, g7⟩ := get_find hRT hak hkb
      have hleaf := c_isLeaf1 wr (hq.nw hw) (by omega)
      have hway : Hid (∀ w', Nw wr w' → Calls Try.prog 31 #[.pointer (some ⟨q, 0, none⟩), .int .u64 k] w' fun e w2 => e = .returned (.int .i64 (hi (keysOf (d + 1) T) k : Nat)) ∧ w' = w2) := fun w' hw' => c_way w' ((hq.nw hw).nw hw') (R.keys hRT).1 (by simp [keysOf]; omega)
      rw [show keysOf (d + 1) T = T.1 from rfl] at hway
      obtain ⟨kv, vv, sv, bs, e1, e2, e3, e4, e5⟩ := hq
      have hbl := kids_length e5
      obtain ⟨bc, hbc, nc⟩ := kids_get _ e5 g1
      obtain ⟨av, cv, rfl, hv1, hv2⟩ := Hs.form e4
      obtain ⟨sb, so, rfl, k00⟩ := Ps.get e4 hbc
      have hHl : hi T.1 k < bs.length := by have := hi_le T.1 k; omega
      have hHl2 : bs.length ≤ 21 := by omega
      have c2 : Hid (w1.cell? ⟨q, 2, none⟩ = some (.slice (some ⟨sb, so, none⟩) bs.length cv)) := e1.c2
      have k0 : Hid (w1.cell? ⟨sb, so + hi T.1 k, none⟩ = some (.pointer (some ⟨bc, 0, none⟩))) := k00
      have g5 : Hid (G = getL k (flat d c)) := hGT.out.trans g5
      have g2 : Hid (R d 3 7 c mm nn) := g2
      have nc : Hid (NAt w1 d c bc) := nc
      clear hGT e1 e2 e3 e4 e5 hbl hbc k00 g1 g6 g7 hRT
      generalize hi T.1 k = H at *
      generalize bs.length = nb at *
      go_wp2_with (go_at_call 30; refine hleaf.mono ?_; rintro e' w' ⟨rfl, rfl⟩)
      clear hleaf
      have hSof : ∀ w', Nw wr w' → (fun w' : World => Nw wr w' ∧ w'.cell? ⟨q, 2, none⟩ = some (.slice (some ⟨sb, so, none⟩) nb cv) ∧ w'.cell? ⟨sb, so + H, none⟩ = some (.pointer (some ⟨bc, 0, none⟩))) w' := fun w' hw' => ⟨hw', (nw_trans hw hw').cell c2.out, (nw_trans hw hw').cell k0.out⟩
      have hS := hSof _ (nw_drew (nw_refl wr))
      refine wp_region_ord [] 9 [(0, true), (1, true), (2, true), (3, true), (4, true), (5, true), (6, false), (7, true), (8, true)] (fun w' : World => Nw wr w' ∧ w'.cell? ⟨q, 2, none⟩ = some (.slice (some ⟨sb, so, none⟩) nb cv) ∧ w'.cell? ⟨sb, so + H, none⟩ = some (.pointer (some ⟨bc, 0, none⟩))) (by kernel_rfl) (by kernel_rfl) ?_
      refine ord_quietL _ ?_ rfl hS rfl ?_ ?_
      rotate_left
      · rintro w' ⟨hS1, hS2, hS3⟩; go_simp; rfl
      simp only [Act.put, List.setIfInBounds_toArray, List.set_cons_zero, List.set_cons_succ]
      refine ord_quietL _ ?_ rfl hS rfl ?_ ?_
      rotate_left
      · rintro w' ⟨hS1, hS2, hS3⟩; go_simp; rfl
      simp only [Act.put, List.setIfInBounds_toArray, List.set_cons_zero, List.set_cons_succ]
      refine ord_quietL _ ?_ rfl hS rfl ?_ ?_
      rotate_left
      · rintro w' ⟨hS1, hS2, hS3⟩; go_simp; rfl
      simp only [Act.put, List.setIfInBounds_toArray, List.set_cons_zero, List.set_cons_succ]
      refine ord_quietL _ ?_ rfl hS rfl ?_ ?_
      rotate_left
      · rintro w' ⟨hS1, hS2, hS3⟩; go_simp; rfl
      simp only [Act.put, List.setIfInBounds_toArray, List.set_cons_zero, List.set_cons_succ]
      refine ord_quietL _ ?_ rfl hS rfl ?_ ?_
      rotate_left
      · rintro w' ⟨hS1, hS2, hS3⟩; go_simp; rfl
      simp only [Act.put, List.setIfInBounds_toArray, List.set_cons_zero, List.set_cons_succ]
      refine ord_quietL _ ?_ rfl hS rfl ?_ ?_
      rotate_left
      · rintro w' ⟨hS1, hS2, hS3⟩; go_simp; rfl
      simp only [Act.put, List.setIfInBounds_toArray, List.set_cons_zero, List.set_cons_succ]
      refine ord_actL _ rfl (fun K1 hK1 => ?_)
      go_wp2_with (go_at_call 31; refine (hway.out _ hS.1).mono ?_; rintro e' w5 ⟨rfl, rfl⟩)
      refine hK1 _ _ hS ?_
      clear hK1 K1
      refine ord_quietL _ ?_ rfl hS rfl ?_ ?_
      rotate_left
      · rintro w' ⟨hS1, hS2, hS3⟩; go_simp; rfl
      simp only [Act.put, List.setIfInBounds_toArray, List.set_cons_zero, List.set_cons_succ]
      refine ord_quietL _ ?_ rfl hS rfl ?_ ?_
      rotate_left
      · rintro w' ⟨hS1, hS2, hS3⟩; go_simp; rfl
      simp only [Act.put, List.setIfInBounds_toArray, List.set_cons_zero, List.set_cons_succ]
      refine ord_tail ?_
      simp only [List.drop_succ_cons, List.drop_zero]
      go_wp2
      go_roundg d
      case measure => omega
      case rel => exact ⟨nw_drew hw, c, bc, 3, mm, nn, rfl, nc.out, g2.out, g3, g4, g5.out⟩
    | zero =>
      have hleaf := c_isLeaf0 wr (hq.nw hw)
      have hrise := hRT.2.1
      have hlen := hRT.1
      have hspan := c_span (k := k) wr (hq.nw hw) hrise (by simp [keysOf]; omega)
      rw [show keysOf 0 T = T.map (·.1) from rfl] at hspan
      obtain ⟨gl1, gl2⟩ := get_leaf hrise k
      have hB2 : Hid (wr.heap[w.heap.size]? = some (.cells #[.int .i64 0, .int .i64 0] 42 (0, 0))) := hw.blk hB1.out
      have hNw : Nw w wr := nw_trans hW1 hw
      have a0 : wr.cell? ⟨w.heap.size, 0, none⟩ = some (.int .i64 0) := cell_blk hB2.out rfl
      have a1 : wr.cell? ⟨w.heap.size, 1, none⟩ = some (.int .i64 0) := cell_blk hB2.out rfl
      have af : ∀ i, wr.frozen? ⟨w.heap.size, i, none⟩ = false := fun i => free_blk hB2.out
      have hlt0 : w.heap.size < wr.heap.size := heap_lt hB2.out
      by_cases heq : lo (T.map (·.1)) k = hi (T.map (·.1)) k
      · have hG2 : Hid (G = none) := hGT.out.trans (gl1 heq)
        rw [← heq] at hspan
        clear gl1 gl2 hGT hRT heq hq hlen hrise
        generalize lo (T.map (·.1)) k = L at *
        go_wp2_with (first | (go_at_call 30; refine hleaf.mono ?_; rintro e' w' ⟨rfl, rfl⟩) | (go_at_call 32; refine hspan.mono ?_; rintro e' w' ⟨rfl, rfl⟩))
        have hrt := ret_cell hNw (Nat.le_refl _) hB2.out 0 0
        refine bodyPost_ret (results_cell2 rfl _ w.heap.size _ _ rfl rfl (range_all hrt.1) Try.rowE (sizeE _ _)) rfl ?_
        rw [hG2.out]
        exact ⟨rfl, hrt.2⟩
      · obtain ⟨hlt, hge⟩ := gl2 heq
        have hG2 : Hid (G = some (T[lo (T.map (·.1)) k]).2) := hGT.out.trans hge
        obtain ⟨kv, vv, sv, e1, e2, e3, e4⟩ := hq.nw hw
        obtain ⟨av, cv, rfl, hv1, hv2⟩ := Hs.form e3
        obtain ⟨vb, vo, rfl, k0, k1⟩ := Vs.get e3 (i := lo (T.map (·.1)) k) (by simpa using hlt)
        simp only [List.getElem_map] at k0 k1
        have c1 := e1.c1
        have hne : ((lo (T.map (·.1)) k : Nat) : Int) ≠ (hi (T.map (·.1)) k : Nat) := by omega
        have hbq : (((lo (T.map (·.1)) k : Nat) : Int) == (hi (T.map (·.1)) k : Nat)) = false := by simpa using hne
        have hlv : lo (T.map (·.1)) k < (T.map (·.2)).length := by simpa using hlt
        generalize (T[lo (T.map (·.1)) k]).2 = ev at *
        have hhu := hi_le (T.map (·.1)) k
        have hl7 : (T.map (·.1)).length ≤ 7 := by simp; omega
        clear gl1 gl2 hGT hRT heq hq hrise hge e1 e2 e3 e4 hlt
        generalize lo (T.map (·.1)) k = L at *
        generalize hi (T.map (·.1)) k = H at *
        generalize (T.map (·.2)).length = nv at *
        generalize (T.map (·.1)).length = nk at *
        clear hlen
        go_wp2_with (first | (go_at_call 30; refine hleaf.mono ?_; rintro e' w' ⟨rfl, rfl⟩) | (go_at_call 32; refine hspan.mono ?_; rintro e' w' ⟨rfl, rfl⟩))
        have hrt := ret_cell hNw (Nat.le_refl _) hB2.out ev.1 ev.2
        refine bodyPost_ret (results_cell2 rfl _ w.heap.size _ _ rfl rfl (range_all hrt.1) Try.rowE (sizeE _ _)) rfl ?_
        rw [hG2.out]
        exact ⟨rfl, hrt.2⟩
end Go.Proofs.Ytkfcinlflkihjaa
