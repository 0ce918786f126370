/-
  The document's disk: Flush.
-/
import Derived.Test.YtmhojkbnfiknpaaR5
namespace Go.Proofs.Ytmhojkbnfiknpaa
set_option linter.unusedVariables false
set_option linter.unusedSimpArgs false
open Go.RowKit

theorem take_splice {α : Type} (L cs : List α) (off m : Nat) (h : off + cs.length ≤ m) : (splice L off cs).take m = splice (L.take m) off cs := by
  unfold splice
  rw [List.take_append, List.take_append, List.length_take, List.take_take, List.drop_take]
  rcases Nat.le_total off L.length with hl | hl
  · rw [Nat.min_eq_left hl, List.take_of_length_le (l := cs) (by omega), List.take_take, Nat.min_eq_right (by omega : off ≤ m), Nat.min_eq_left (by omega : off ≤ m)]
    congr 2
    rw [show m - off - cs.length = m - (off + cs.length) by omega]
  · rw [Nat.min_eq_right hl, List.drop_eq_nil_of_le (by omega), List.take_nil, List.take_nil, List.take_of_length_le (l := cs) (by omega), List.take_take]
    congr 1
    · rw [Nat.min_eq_right (by omega : off ≤ m), Nat.min_eq_left (by omega : off ≤ m)]

theorem owns_store {w : World} {base e size n cap g : Nat} {xs : List Value} (h : w.ownsRow base e size (.slice (some ⟨g, 0, none⟩) n cap) n xs) :
    ∃ cur : List Value, w.heap[g]? = some (.cells cur.toArray e (0, 0)) ∧ n * size ≤ cur.length ∧ (∀ (j : Nat) (v : Value), xs[j]? = some v → cur[j]? = some v) ∧ ∀ (off : Nat) (cs : List Value), off + cs.length ≤ n * size → (w.setRow g (splice cur off cs).toArray).ownsRow base e size (.slice (some ⟨g, 0, none⟩) n cap) n (splice xs off cs) := by
  obtain ⟨h1, h2⟩ := h
  rcases h2 with ⟨h0, _⟩ | ⟨g', cap', cur, hv, hb, hg, hn, hm, hs, ht⟩
  · simp at h0
  · simp only [Value.slice.injEq, Option.some.injEq, Addr.mk.injEq, and_true, true_and] at hv
    obtain ⟨rfl, rfl⟩ := hv
    have hle : n * size ≤ cap * size := Nat.mul_le_mul_right _ hn
    refine ⟨cur.toList, hg, by rw [Array.length_toList, hs]; exact hle, fun j v hj => ?_, fun off cs hoff => ⟨?_, .inr ⟨g, cap, (splice cur.toList off cs).toArray, rfl, hb, setRow_heap _ _ _ _ e _ hg, hn, hm, ?_, ?_⟩⟩⟩
    · rw [← ht, List.getElem?_take] at hj
      split at hj
      · exact hj
      · cases hj
    · rw [length_splice _ _ _ (by omega)]; exact h1
    · have e : cur.toList.length = cur.size := Array.length_toList
      rw [List.size_toArray, length_splice _ _ _ (by omega), e]; exact hs
    · rw [List.toList_toArray, take_splice _ _ _ _ hoff, ht]

/-- What the loop over the pending writes keeps. -/
structure RowAt (w wr : World) (vs vp v : Value) (D : Dk) (st : List (List UInt8)) : Prop where
  var : wr.heap[w.heap.size]? = some (.cells (rcells vs vp D).toArray 30 (0, 0))
  res : wr.heap[w.heap.size + 1]? = some (.cells #[.slice none 0 0, .slice none 0 0, .int .i64 0, .bool false] 30 (0, 0))
  own : wr.ownsRow w.heap.size 33 128 v st.length (flat st)
  nv : ∀ q, v.ownBlock = some q → w.heap.size + 2 ≤ q
  fr : Nw w wr

theorem RowAt.nw {w wr wr' : World} {vs vp v : Value} {D : Dk} {st : List (List UInt8)} (h : RowAt w wr vs vp v D st) (hf : Nw wr wr') : RowAt w wr' vs vp v D st :=
  ⟨(hf.block _ (heap_lt h.var) id).trans h.var, (hf.block _ (heap_lt h.res) id).trans h.res, owns_of_block h.own (fun q hq => hf.block q (h.own.lt q hq).2 id), h.nv, h.fr.trans hf (fun _ => False.elim)⟩

theorem RowAt.store {w wr : World} {vs vp : Value} {D : Dk} {st : List (List UInt8)} {g n cap : Nat} (h : RowAt w wr vs vp (.slice (some ⟨g, 0, none⟩) n cap) D st) (hn : n = st.length) (hs : ∀ s ∈ st, s.length = 128) (i : Nat) (hi : i < st.length) (t : List UInt8) (ht : t.length = 128) :
    ∃ cur : List Value, wr.heap[g]? = some (.cells cur.toArray 33 (0, 0)) ∧ i * 128 + (t.map bv).length ≤ cur.length ∧ RowAt w (wr.setRow g (splice cur (i * 128) (t.map bv)).toArray) vs vp (.slice (some ⟨g, 0, none⟩) n cap) D (st.set i t) := by
  subst hn
  obtain ⟨cur, h1, h2, -, h3⟩ := owns_store h.own
  have hg := h.nv g rfl
  have hoff : i * 128 + (t.map bv).length ≤ st.length * 128 := by rw [List.length_map, ht]; omega
  refine ⟨cur, h1, by omega, ⟨?_, ?_, ?_, h.nv, h.fr.setRow (.inr (by omega)) _⟩⟩
  · rw [setRow_other _ _ _ _ (by omega)]; exact h.var
  · rw [setRow_other _ _ _ _ (by omega)]; exact h.res
  · have := h3 (i * 128) (t.map bv) hoff
    rw [flat_set hs i hi t ht] at this
    rw [List.length_set]
    exact this

theorem RowAt.range {w wr : World} {vs vp : Value} {D : Dk} {st : List (List UInt8)} {g n cap : Nat} (h : RowAt w wr vs vp (.slice (some ⟨g, 0, none⟩) n cap) D st) (hn : n = st.length) (hs : ∀ s ∈ st, s.length = 128) (i : Nat) (hi : i < st.length) : wr.rangeAt g (i * 128) (st[i].map bv) := by
  subst hn
  obtain ⟨cur, h1, -, h2, -⟩ := owns_store h.own
  refine range_blk h1 _ _ (fun j v hv => h2 _ _ ?_)
  have hj : j < 128 := by
    have := (List.getElem?_eq_some_iff.1 hv).1
    rwa [List.length_map, hs _ (List.getElem_mem hi)] at this
  rw [flat_get hs i hi j hj]; exact hv

theorem RowAt.form {w wr : World} {vs vp v : Value} {D : Dk} {st : List (List UInt8)} (h : RowAt w wr vs vp v D st) (h0 : 0 < st.length) : ∃ g cap, v = .slice (some ⟨g, 0, none⟩) st.length cap ∧ st.length ≤ cap ∧ cap ≤ 9223372036854775807 := by
  rcases h.own.2 with ⟨_, h1⟩ | ⟨g, cap, cur, rfl, _, _, hn, hm, _⟩
  · omega
  · exact ⟨g, cap, rfl, hn, hm⟩

theorem flat_one {st : List (List UInt8)} : ∀ u ∈ flat st, u.oneCell' = true := by
  intro u hu
  unfold flat at hu
  obtain ⟨l, hl, hu⟩ := List.mem_flatten.1 hu
  obtain ⟨s, _, rfl⟩ := List.mem_map.1 hl
  exact bv_oneCell s u hu

/-- The row behind the append. -/
theorem row_start {w W w6 : World} {vs vp v6 : Value} {D : Dk} {st : List (List UInt8)} (hvar : W.heap[w.heap.size]? = some (.cells (rcells vs vp D).toArray 30 (0, 0))) (hres : W.heap[w.heap.size + 1]? = some (.cells #[.slice none 0 0, .slice none 0 0, .int .i64 0, .bool false] 30 (0, 0))) (hfr : Nw w W)
    (hown : w6.ownsRow w.heap.size 33 128 v6 st.length (flat st)) (hg : (W.alloc (.cells #[] 33)).grownBy w6 (some W.heap.size)) (hat : v6.ownBlock = some W.heap.size ∨ v6.ownBlock = some (W.alloc (.cells #[] 33)).heap.size) : RowAt w w6 vs vp v6 D st := by
  have hz := heap_lt hres
  have hb : ∀ q, q < W.heap.size → w6.heap[q]? = W.heap[q]? := fun q hq => (hg.block q (by simp; omega) (by simp; omega)).trans (Below.heap_alloc W _ q hq)
  refine ⟨(hb _ (by omega)).trans hvar, (hb _ (by omega)).trans hres, hown, fun q hq => ?_, ?_⟩
  · rcases hat with e | e
    · rw [e] at hq; simp at hq; omega
    · rw [e] at hq; simp at hq; omega
  · exact (hfr.alloc _).grown hg (fun q e => .inr (by simp at e; omega))

set_option maxHeartbeats 3200000 in
theorem c_rflush {X : Nat → Prop} {vs vp : Value} {D : Dk} (w : World) (h : RefG X w vs vp D) :
    Calls Try.prog 15 #[rval vs vp D] w fun e w' => ∃ vs' vp', e = .returned (.tuple #[rval vs' vp' D.flush, .int .i64 D.ferr]) ∧ RefG (fun b => X b ∨ w.heap.size ≤ b) w' vs' vp' D.flush ∧ Nw w w' := by
  obtain ⟨so, sc, po, pc, rfl, rfl, h1, h2, h3, h4⟩ := h.form
  have hT := two w (.slice so D.st.length sc) (.slice po D.pd.length pc) D
  generalize hW : (w.alloc (.cells (rcells (.slice so D.st.length sc) (.slice po D.pd.length pc) D).toArray 30)).alloc (.cells #[.slice none 0 0, .slice none 0 0, .int .i64 0, .bool false] 30) = W at *
  have hW : Hid ((w.alloc (.cells (rcells (.slice so D.st.length sc) (.slice po D.pd.length pc) D).toArray 30)).alloc (.cells #[.slice none 0 0, .slice none 0 0, .int .i64 0, .bool false] 30) = W) := hW
  have hg := h.nw hT.fr
  obtain ⟨-, -, -, -, -, hr0⟩ := r_cells hT.var
  have hone2 := r_oneCell (so := so) (po := po) (n := D.st.length) (m := D.pd.length) (sc := sc) (pc := pc) (D := D.spend)
  have hsz := hT.size
  go_enter Try.func15, Try.ntmps15
  go_wp2_with (first
    | (refine wpList_box_agg rfl 30 _ rfl (rval (.slice so D.st.length sc) (.slice po D.pd.length pc) D) _ rfl rfl ?_)
    | (refine wpList_alloc_agg rfl 30 rfl _ Try.zero30 ?_; rw [hW.out])
    | (refine wpList_load_as rfl 30 _ rfl w.heap.size 0 rfl (rval (.slice so D.st.length sc) (.slice po D.pd.length pc) D) _ rfl hr0 Try.row30 Try.size30 ?_)
    | (go_at_call 29; refine stop_here ?_))
  unfold Hid
  refine (c_power _ hg).mono ?_
  rintro e w3 ⟨rfl, hf3⟩
  have hvar3 := (hf3.block _ (by omega) id).trans hT.var
  have hvar4 : (w3.setRow w.heap.size (rcells (.slice so D.st.length sc) (.slice po D.pd.length pc) D.spend).toArray).heap[w.heap.size]? = some (.cells (rcells (.slice so D.st.length sc) (.slice po D.pd.length pc) D.spend).toArray 30 (0, 0)) := setRow_heap _ _ _ _ 30 _ hvar3
  have hres4 : (w3.setRow w.heap.size (rcells (.slice so D.st.length sc) (.slice po D.pd.length pc) D.spend).toArray).heap[w.heap.size + 1]? = some (.cells #[.slice none 0 0, .slice none 0 0, .int .i64 0, .bool false] 30 (0, 0)) := by rw [setRow_other _ _ _ _ (by omega)]; exact (hf3.block _ (by omega) id).trans hT.res
  have hfr4 : Nw w (w3.setRow w.heap.size (rcells (.slice so D.st.length sc) (.slice po D.pd.length pc) D.spend).toArray) := (hT.fr.trans hf3 (fun _ => False.elim)).setRow (.inr (Nat.le_refl _)) _
  clear hg hT hf3 hr0 hW hsz
  generalize hW4 : w3.setRow w.heap.size (rcells (.slice so D.st.length sc) (.slice po D.pd.length pc) D.spend).toArray = W4 at *
  have hW4 : Hid (w3.setRow w.heap.size (rcells (.slice so D.st.length sc) (.slice po D.pd.length pc) D.spend).toArray = W4) := hW4
  obtain ⟨d0, d1, -, -, df, hr4⟩ := r_cells hvar4
  by_cases ho : D.out = true
  · have e1 : Hid (D.ferr = 42) := by unfold Hid Dk.ferr; simp [ho]
    have e2 : Hid (D.flush = D.spend) := by unfold Hid Dk.flush; simp [ho]
    have hfin : Nw w (W4.setRow (w.heap.size + 1) (rcells (.slice so D.st.length sc) (.slice po D.pd.length pc) D.spend).toArray) := hfr4.setRow (.inr (by omega)) _
    have hG := h.spend.widen (Y := fun b => X b ∨ w.heap.size ≤ b) hfin (fun b hb => .inl hb)
    have hrow := range_all (setRow_heap W4 (w.heap.size + 1) _ (rcells (.slice so D.st.length sc) (.slice po D.pd.length pc) D.spend).toArray 30 _ hres4)
    rw [ho]
    clear h hvar4 hfr4
    go_wp2_with (first
      | (refine wpList_store_all rfl 30 (.tmp 1) _ rfl w.heap.size rfl (rval (.slice so D.st.length sc) (.slice po D.pd.length pc) D.spend) rfl _ rfl _ 30 hvar3 rfl hone2 Try.size30 ?_; rw [hW4.out])
      | (refine wpList_load_as rfl 30 _ rfl w.heap.size 0 rfl (rval (.slice so D.st.length sc) (.slice po D.pd.length pc) D.spend) _ rfl hr4 Try.row30 Try.size30 ?_)
      | (refine wpList_store_all rfl 30 (.tmp 2) _ rfl (w.heap.size + 1) rfl (rval (.slice so D.st.length sc) (.slice po D.pd.length pc) D.spend) rfl _ rfl _ 30 hres4 res_fit hone2 Try.size30 ?_))
    refine bodyPost_ret (results_cell2 rfl _ (w.heap.size + 1) _ (rval (.slice so D.st.length sc) (.slice po D.pd.length pc) D.spend) rfl rfl hrow Try.row30 Try.size30) rfl ?_
    exact ⟨_, _, by rw [e1.out, e2.out]; rfl, by rw [e2.out]; exact hG, hfin⟩
  · have ho : D.out = false := by simpa using ho
    have e1 : Hid (D.ferr = 0) := by unfold Hid Dk.ferr; simp [ho]
    have e2 : Hid (D.flush = { D.spend with st := applied D.st D.pd, pd := [] }) := by unfold Hid Dk.flush; simp [ho]
    obtain ⟨j0, hj, hj0, hj1, hj2⟩ := info33
    have hg4 := h.nw hfr4
    have hn := h.ok.n
    have hz4 := heap_lt hres4
    have hown5 : (W4.alloc (.cells #[] 33)).ownsRow w.heap.size 33 128 (.slice (some ⟨W4.heap.size, 0, none⟩) 0 0) 0 [] := World.ownsRow_lit W4 #[] 0 (by omega) (by decide) rfl
    have hsl5 : Sl W4.heap.size (W4.alloc (.cells #[] 33)) (.slice so D.st.length sc) D.st.length (flat D.st) := (hg4.st.toSl).keep ((Below.refl _ _).alloc (Nat.le_refl _) _)
    have hc5 : (W4.alloc (.cells #[] 33)).cell? ⟨w.heap.size, 0, none⟩ = some (.slice so D.st.length sc) := by rw [World.cell?_alloc_lt _ _ _ (by show w.heap.size < _; omega)]; exact d0
    have hz5 : (W4.alloc (.cells #[] 33)).heap.size = W4.heap.size + 1 := by simp
    generalize hW5 : W4.alloc (.cells #[] 33) = W5 at *
    have hW5 : Hid (W4.alloc (.cells #[] 33) = W5) := hW5
    rw [ho]
    go_wp2_with (first
      | (refine wpList_store_all rfl 30 (.tmp 1) _ rfl w.heap.size rfl (rval (.slice so D.st.length sc) (.slice po D.pd.length pc) D.spend) rfl _ rfl _ 30 hvar3 rfl hone2 Try.size30 ?_; rw [hW4.out])
      | (refine wpList_buildSlice0 rfl 27 33 rfl Try.underlying27 (by kernel_rfl) ?_; rw [hW5.out])
      | (at_builtin; refine wpList_append_sl _ rfl _ _ 27 rfl w.heap.size 33 j0 _ 128 128 Try.underlying27 hj hj0 hj1 hj2 (by rw [show (sec z128).cells.size = (z128.map bv).length from rfl, List.length_map, z128_length]) (by decide) (.slice (some ⟨W4.heap.size, 0, none⟩) 0 0) 0 [] rfl hown5 W4.heap.size _ D.st.length _ rfl hsl5 (flat_length h.ok.sec) flat_one (by unfold maxLen; omega) (by omega) (by omega) (fun v6 w6 hown6 hg6 hat6 => stop_here ?_)))
    unfold Hid
    simp only [Nat.zero_add, List.nil_append] at hown6
    have hR : RowAt w w6 (.slice so D.st.length sc) (.slice po D.pd.length pc) v6 D.spend D.st := row_start hvar4 hres4 hfr4 hown6 (by rw [hW5.out]; exact hg6) (by rw [hW5.out]; exact hat6)
    obtain ⟨-, f1, -, -, -, -⟩ := r_cells hR.var
    obtain ⟨o6, q6, hv6⟩ := owns_form hown6
    subst hv6
    clear hown5 hsl5 hc5 hg6 hat6 hW5 hown6 hg4 d0 d1 df hvar4 hres4 hfr4 hvar3 hr4
    go_wp2
    go_loopw [23] (fun j wr => ∃ k : Nat, k ≤ D.pd.length ∧ j = .int .i64 k ∧ RowAt w wr (.slice so D.st.length sc) (.slice po D.pd.length pc) (.slice o6 D.st.length q6) D.spend (applied D.st (D.pd.take k))) (fun j _ => D.pd.length - (intOf j).toNat)
    case atStart => exact ⟨0, Nat.zero_le _, rfl, hR⟩
    case round =>
      obtain ⟨k, hk, rfl, hRk⟩ := hrel
      clear hR
      have hal : (applied D.st (D.pd.take k)).length = D.st.length := applied_length _ _
      have has : ∀ s ∈ applied D.st (D.pd.take k), s.length = 128 := applied_sec h.ok.sec (fun p hp => (h.ok.wr p (List.mem_of_mem_take hp)).2)
      by_cases hlt : k < D.pd.length
      · obtain ⟨pb, poff, hpo, hpr, hp4, hp5⟩ := (h.nw hRk.fr).prange rfl k hlt
        subst hpo
        have H1 : Hid (applied D.st (D.pd.take (k + 1)) = (applied D.st (D.pd.take k)).set D.pd[k].1 D.pd[k].2) := applied_take_succ _ _ _ hlt
        generalize hAA : applied D.st (D.pd.take k) = AA at *
        generalize D.pd[k] = p at *
        obtain ⟨g, cap, hgf, hgc, hgm⟩ := hRk.form (by omega)
        simp only [Value.slice.injEq] at hgf
        obtain ⟨e6, -, e7⟩ := hgf
        subst e6
        subst e7
        have hv := varW wr (wcell (0, z128)).toArray p 50
        generalize hWv : (wr.alloc (.cells (wcell (0, z128)).toArray 50)).setRow wr.heap.size (wcell p).toArray = Wv at *
        have hWv : Hid ((wr.alloc (.cells (wcell (0, z128)).toArray 50)).setRow wr.heap.size (wcell p).toArray = Wv) := hWv
        obtain ⟨c0, c1⟩ := hv.at
        have hRv := hRk.nw hv.fr
        obtain ⟨cur, hcur, hcl, hRn⟩ := hRv.store hal.symm has p.1 (by omega) p.2 hp4
        have hpI : (p.1 : Int) < (D.st.length : Int) := by omega
        clear hRv hv hRk
        go_wp2_with (first
          | (refine wpList_load_as rfl 50 _ rfl pb (poff + k * 129) rfl (wrv p) _ rfl hpr Try.row50 (size50 hp4) ?_)
          | (refine wpList_alloc_agg rfl 50 rfl _ Try.zero50 ?_)
          | (refine wpList_store_all rfl 50 _ _ rfl wr.heap.size rfl (wrv p) rfl _ rfl _ 50 (heap_alloc_new wr _) (wr_fit hp4) (wcell_oneCell _) (size50 hp4) ?_; rw [hWv.out])
          | (refine wpList_load_as rfl 33 _ rfl wr.heap.size 1 rfl (sec p.2) _ rfl c1 Try.row33 (size33 hp4) ?_)
          | (refine wpList_store_as rfl 33 _ _ rfl g (p.1 * 128) rfl (sec p.2) rfl _ rfl _ 33 hcur hcl (bv_oneCell _) (size33 hp4) ?_))
        go_roundw
        case rel => exact ⟨k + 1, by omega, by go_num, by rw [H1.out]; exact hRn⟩
        case measure => simp [intOf]; omega
      · have hkn : D.pd.take k = D.pd := List.take_of_length_le (by omega)
        rw [hkn] at hRk hal has
        obtain ⟨c0, c1, -, -, cf, -⟩ := r_cells hRk.var
        have cf0 := cf 0
        have cf1 := cf 1
        have hnv := hRk.nv
        have hv1 : ((wr.setCell ⟨w.heap.size, 0, none⟩ (.slice o6 D.st.length q6)).setCell ⟨w.heap.size, 1, none⟩ (.slice none 0 0)).heap[w.heap.size]? = some (.cells (rcells (.slice o6 D.st.length q6) (.slice none 0 0) { D.spend with st := applied D.st D.pd, pd := [] }).toArray 30 (0, 0)) := by
          rw [blk_setCell (blk_setCell hRk.var)]; simp [rcells]
        have hr1 : ((wr.setCell ⟨w.heap.size, 0, none⟩ (.slice o6 D.st.length q6)).setCell ⟨w.heap.size, 1, none⟩ (.slice none 0 0)).heap[w.heap.size + 1]? = some (.cells #[.slice none 0 0, .slice none 0 0, .int .i64 0, .bool false] 30 (0, 0)) := by
          rw [Below.heap_setCell _ _ _ _ (by simp), Below.heap_setCell _ _ _ _ (by simp)]; exact hRk.res
        have hf1 : Nw w ((wr.setCell ⟨w.heap.size, 0, none⟩ (.slice o6 D.st.length q6)).setCell ⟨w.heap.size, 1, none⟩ (.slice none 0 0)) := (hRk.fr.setCell (p := ⟨w.heap.size, 0, none⟩) (.inr (Nat.le_refl _)) _).setCell (p := ⟨w.heap.size, 1, none⟩) (.inr (Nat.le_refl _)) _
        have hrr := range_all hv1
        have hone3 := r_oneCell (so := o6) (po := none) (n := D.st.length) (m := 0) (sc := q6) (pc := 0) (D := { D.spend with st := applied D.st D.pd, pd := [] })
        have hfin : Nw w (((wr.setCell ⟨w.heap.size, 0, none⟩ (.slice o6 D.st.length q6)).setCell ⟨w.heap.size, 1, none⟩ (.slice none 0 0)).setRow (w.heap.size + 1) (rcells (.slice o6 D.st.length q6) (.slice none 0 0) { D.spend with st := applied D.st D.pd, pd := [] }).toArray) := hf1.setRow (.inr (by omega)) _
        have hrow := range_all (setRow_heap ((wr.setCell ⟨w.heap.size, 0, none⟩ (.slice o6 D.st.length q6)).setCell ⟨w.heap.size, 1, none⟩ (.slice none 0 0)) (w.heap.size + 1) _ (rcells (.slice o6 D.st.length q6) (.slice none 0 0) { D.spend with st := applied D.st D.pd, pd := [] }).toArray 30 _ hr1)
        have hG : RefG (fun b => X b ∨ w.heap.size ≤ b) (((wr.setCell ⟨w.heap.size, 0, none⟩ (.slice o6 D.st.length q6)).setCell ⟨w.heap.size, 1, none⟩ (.slice none 0 0)).setRow (w.heap.size + 1) (rcells (.slice o6 D.st.length q6) (.slice none 0 0) { D.spend with st := applied D.st D.pd, pd := [] }).toArray) (.slice o6 D.st.length q6) (.slice none 0 0) { D.spend with st := applied D.st D.pd, pd := [] } := by
          refine ⟨?_, ⟨none, 0, rfl, ⟨Nat.le_refl _, Nat.zero_le _⟩, fun _ => rfl, fun i c hi => by simp [pcells] at hi⟩, ⟨has, fun p hp => by simp at hp, by show (applied D.st D.pd).length ≤ _; omega, h.spend.ok.lo, h.spend.ok.hi⟩⟩
          show Slp _ _ _ (applied D.st D.pd).length (flat (applied D.st D.pd))
          have hs9 := slp_of_owns hRk.own
          refine hs9.keep (fun q hq hl => ?_)
          have := hnv q hq
          exact ⟨.inr (by omega), by rw [setRow_other _ _ _ _ (by omega), Below.heap_setCell _ _ _ _ (by show q ≠ w.heap.size; omega), Below.heap_setCell _ _ _ _ (by show q ≠ w.heap.size; omega)]⟩
        clear hRk h hv1 hf1 hnv cf hal has
        generalize hEE : ({ D.spend with st := applied D.st D.pd, pd := [] } : Dk) = EE at *
        go_wp2_with (first
          | (refine wpList_load_as rfl 30 _ rfl w.heap.size 0 rfl (rval (.slice o6 D.st.length q6) (.slice none 0 0) EE) _ rfl hrr Try.row30 Try.size30 ?_)
          | (refine wpList_store_all rfl 30 (.tmp 2) _ rfl (w.heap.size + 1) rfl (rval (.slice o6 D.st.length q6) (.slice none 0 0) EE) rfl _ rfl _ 30 hr1 res_fit hone3 Try.size30 ?_))
        refine bodyPost_ret (results_cell2 rfl _ (w.heap.size + 1) _ (rval (.slice o6 D.st.length q6) (.slice none 0 0) EE) rfl rfl hrow Try.row30 Try.size30) rfl ?_
        exact ⟨_, _, by first | rfl | (rw [e1.out, e2.out]; rfl) | (rw [e1.out, e2.out, hEE]; rfl), by first | (rw [e2.out]; exact hG) | (rw [e2.out, hEE]; exact hG), hfin⟩
end Go.Proofs.Ytmhojkbnfiknpaa
