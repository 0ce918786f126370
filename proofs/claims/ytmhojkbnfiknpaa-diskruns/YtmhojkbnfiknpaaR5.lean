/-
  The document's disk: Put.
-/
import Derived.Test.YtmhojkbnfiknpaaR4
namespace Go.Proofs.Ytmhojkbnfiknpaa
set_option linter.unusedVariables false
set_option linter.unusedSimpArgs false
open Go.RowKit

theorem Slp.toSl {X : Nat → Prop} {w : World} {v : Value} {n : Nat} {cs : List Value} (h : Slp X w v n cs) : Sl w.heap.size w v n cs := by
  obtain ⟨ao, cap, hv, hc, hn, hcs⟩ := h
  refine ⟨ao, cap, hv, hc, hn, fun i c hi => ?_⟩
  obtain ⟨b, off, h1, _, h3⟩ := hcs i c hi
  exact ⟨b, off, h1, World.block_lt_of_cell? w ⟨b, off + i, none⟩ h3, h3⟩

/-- The three variables of Put. -/
structure Three (w W : World) (vs vp : Value) (D : Dk) (s : List UInt8) : Prop where
  var : W.heap[w.heap.size]? = some (.cells (rcells vs vp D).toArray 30 (0, 0))
  sct : W.heap[w.heap.size + 1]? = some (.cells (s.map bv).toArray 33 (0, 0))
  res : W.heap[w.heap.size + 2]? = some (.cells #[.slice none 0 0, .slice none 0 0, .int .i64 0, .bool false] 30 (0, 0))
  fr : Nw w W
  size : w.heap.size + 3 ≤ W.heap.size

theorem three (w : World) (vs vp : Value) (D : Dk) (s : List UInt8) : Three w (((w.alloc (.cells (rcells vs vp D).toArray 30)).alloc (.cells (s.map bv).toArray 33)).alloc (.cells #[.slice none 0 0, .slice none 0 0, .int .i64 0, .bool false] 30)) vs vp D s := by
  have h2 : ((w.alloc (.cells (rcells vs vp D).toArray 30)).alloc (.cells (s.map bv).toArray 33)).heap.size = w.heap.size + 2 := by simp
  refine ⟨?_, ?_, ?_, (((Fr.refl _ w).alloc _).alloc _).alloc _, by simp⟩
  · rw [Below.heap_alloc _ _ _ (by omega)]; exact heap_alloc2_old w _ _
  · rw [Below.heap_alloc _ _ _ (by omega)]; exact heap_alloc2_new w _ _
  · have := heap_alloc_new ((w.alloc (.cells (rcells vs vp D).toArray 30)).alloc (.cells (s.map bv).toArray 33)) (.cells #[.slice none 0 0, .slice none 0 0, .int .i64 0, .bool false] 30)
    rwa [h2] at this

theorem Three.nw {w W W' : World} {vs vp : Value} {D : Dk} {s : List UInt8} (h : Three w W vs vp D s) (hf : Nw W W') : Three w W' vs vp D s :=
  have hz := h.size
  ⟨(hf.block _ (by omega) id).trans h.var, (hf.block _ (by omega) id).trans h.sct, (hf.block _ (by omega) id).trans h.res, h.fr.trans hf (fun _ => False.elim), by have := hf.size; omega⟩

theorem Three.set {w W : World} {vs vp : Value} {D : Dk} {s : List UInt8} (h : Three w W vs vp D s) (vs' vp' : Value) (D' : Dk) : Three w (W.setRow w.heap.size (rcells vs' vp' D').toArray) vs' vp' D' s :=
  ⟨setRow_heap _ _ _ _ 30 _ h.var, by rw [setRow_other _ _ _ _ (by omega)]; exact h.sct, by rw [setRow_other _ _ _ _ (by omega)]; exact h.res, h.fr.setRow (.inr (Nat.le_refl _)) _, by have := h.size; simp [World.setRow]; omega⟩

theorem Three.blk {w W W' : World} {vs vp : Value} {D : Dk} {s : List UInt8} (h : Three w W vs vp D s) (hb : ∀ k, k < W.heap.size → W'.heap[k]? = W.heap[k]?) (h1 : W'.os = W.os) (h2 : W'.tape = W.tape) (h3 : W'.output = W.output) (h4 : W.heap.size ≤ W'.heap.size) : Three w W' vs vp D s :=
  h.nw ⟨h1, h2, h3, h4, fun k hk _ => hb k hk⟩

theorem Three.push {w W : World} {vs vp v8 : Value} {D D' : Dk} {s : List UInt8} (h : Three w W vs vp D s) (hl : D'.left = D.left) (hd : D'.dead = D.dead) : Three w (W.setCell ⟨w.heap.size, 1, none⟩ v8) vs v8 D' s := by
  refine ⟨?_, ?_, ?_, h.fr.setCell (p := ⟨w.heap.size, 1, none⟩) (.inr (Nat.le_refl _)) _, by have := h.size; simp [World.setCell]; omega⟩
  · rw [blk_setCell h.var]; simp [rcells, hl, hd]
  · rw [Below.heap_setCell _ _ _ _ (by simp)]; exact h.sct
  · rw [Below.heap_setCell _ _ _ _ (by simp)]; exact h.res

theorem RefG.widen {X Y : Nat → Prop} {w w' : World} {vs vp : Value} {D : Dk} (h : RefG X w vs vp D) (hf : Nw w w') (hY : ∀ b, X b → Y b) : RefG Y w' vs vp D := h.keep (fun b hx hb => ⟨hY b hx, hf.block b hb id⟩)

set_option maxHeartbeats 3200000 in
theorem c_rput {X : Nat → Prop} {vs vp : Value} {D : Dk} (i : Int) (s : List UInt8) (w : World) (h : RefG X w vs vp D) (hs : s.length = 128) (hpl : D.pd.length ≤ 1000000) :
    Calls Try.prog 14 #[rval vs vp D, .int .i64 i, sec s] w fun e w' => ∃ vs' vp', e = .returned (.tuple #[rval vs' vp' (D.write i s), .int .i64 (D.werr i)]) ∧ RefG (fun b => X b ∨ w.heap.size ≤ b) w' vs' vp' (D.write i s) ∧ Nw w w' := by
  obtain ⟨so, sc, po, pc, rfl, rfl, h1, h2, h3, h4⟩ := h.form
  have hT := three w (.slice so D.st.length sc) (.slice po D.pd.length pc) D s
  have hz1 : (w.alloc (.cells (rcells (.slice so D.st.length sc) (.slice po D.pd.length pc) D).toArray 30)).heap.size = w.heap.size + 1 := by simp
  have hz2 : ((w.alloc (.cells (rcells (.slice so D.st.length sc) (.slice po D.pd.length pc) D).toArray 30)).alloc (.cells (s.map bv).toArray 33)).heap.size = w.heap.size + 2 := by simp
  generalize hW : ((w.alloc (.cells (rcells (.slice so D.st.length sc) (.slice po D.pd.length pc) D).toArray 30)).alloc (.cells (s.map bv).toArray 33)).alloc (.cells #[.slice none 0 0, .slice none 0 0, .int .i64 0, .bool false] 30) = W at *
  have hW : Hid (((w.alloc (.cells (rcells (.slice so D.st.length sc) (.slice po D.pd.length pc) D).toArray 30)).alloc (.cells (s.map bv).toArray 33)).alloc (.cells #[.slice none 0 0, .slice none 0 0, .int .i64 0, .bool false] 30) = W) := hW
  have hg := h.nw hT.fr
  obtain ⟨-, -, -, -, -, hr0⟩ := r_cells hT.var
  have hone := r_oneCell (so := so) (po := po) (n := D.st.length) (m := D.pd.length) (sc := sc) (pc := pc) (D := D)
  have hone2 := r_oneCell (so := so) (po := po) (n := D.st.length) (m := D.pd.length) (sc := sc) (pc := pc) (D := D.spend)
  go_enter Try.func14, Try.ntmps14
  go_wp2_with (first
    | (refine wpList_box_agg rfl 30 _ rfl (rval (.slice so D.st.length sc) (.slice po D.pd.length pc) D) _ rfl rfl ?_)
    | (refine wpList_box_agg rfl 33 _ rfl (sec s) _ rfl rfl ?_; rw [hz1])
    | (refine wpList_alloc_agg rfl 30 rfl _ Try.zero30 ?_; rw [hz2, hW.out])
    | (refine wpList_load_as rfl 30 _ rfl w.heap.size 0 rfl (rval (.slice so D.st.length sc) (.slice po D.pd.length pc) D) _ rfl hr0 Try.row30 Try.size30 ?_)
    | (go_at_call 28; refine stop_here ?_))
  unfold Hid
  refine (c_there i _ hg).mono ?_
  by_cases hh : D.has i = true
  · rw [hh]
    rintro e w2 ⟨rfl, hf2⟩
    obtain ⟨l0, l1⟩ := Dk.has_lt hh
    have hg2 := hg.nw hf2
    have hT2 := hT.nw hf2
    obtain ⟨-, -, -, -, -, hr2⟩ := r_cells hT2.var
    clear hg hT hf2 hr0 hW hz1 hz2
    go_wp2_with (first
      | (refine wpList_load_as rfl 30 _ rfl w.heap.size 0 rfl (rval (.slice so D.st.length sc) (.slice po D.pd.length pc) D) _ rfl hr2 Try.row30 Try.size30 ?_)
      | (go_at_call 29; refine stop_here ?_))
    unfold Hid
    refine (c_power _ hg2).mono ?_
    rintro e w3 ⟨rfl, hf3⟩
    have hT3 := hT2.nw hf3
    have hvar3 := hT3.var
    have hT4 := hT3.set (.slice so D.st.length sc) (.slice po D.pd.length pc) D.spend
    have hres4 := hT4.res
    obtain ⟨-, d1, -, -, df, hr4⟩ := r_cells hT4.var
    have df1 := df 1
    by_cases ho : D.out = true
    · have e1 : D.werr i = 42 := by unfold Dk.werr; simp [hh, ho]
      have e2 : D.write i s = D.spend := by unfold Dk.write; simp [hh, ho]
      have hG : RefG (fun b => X b ∨ w.heap.size ≤ b) ((w3.setRow w.heap.size (rcells (.slice so D.st.length sc) (.slice po D.pd.length pc) D.spend).toArray).setRow (w.heap.size + 2) (rcells (.slice so D.st.length sc) (.slice po D.pd.length pc) D.spend).toArray) (.slice so D.st.length sc) (.slice po D.pd.length pc) D.spend :=
        h.spend.widen (hT4.fr.setRow (.inr (by omega)) _) (fun b hb => .inl hb)
      have hfin : Nw w ((w3.setRow w.heap.size (rcells (.slice so D.st.length sc) (.slice po D.pd.length pc) D.spend).toArray).setRow (w.heap.size + 2) (rcells (.slice so D.st.length sc) (.slice po D.pd.length pc) D.spend).toArray) := hT4.fr.setRow (.inr (by omega)) _
      have hrow := range_all (setRow_heap (w3.setRow w.heap.size (rcells (.slice so D.st.length sc) (.slice po D.pd.length pc) D.spend).toArray) (w.heap.size + 2) _ (rcells (.slice so D.st.length sc) (.slice po D.pd.length pc) D.spend).toArray 30 _ hres4)
      rw [ho]
      have e1 : Hid (D.werr i = 42) := e1
      have e2 : Hid (D.write i s = D.spend) := e2
      clear hT4 hT3 hT2 hg2 h hr2
      generalize hW4 : w3.setRow w.heap.size (rcells (.slice so D.st.length sc) (.slice po D.pd.length pc) D.spend).toArray = W4 at *
      have hW4 : Hid (w3.setRow w.heap.size (rcells (.slice so D.st.length sc) (.slice po D.pd.length pc) D.spend).toArray = W4) := hW4
      go_wp2_with (first
        | (refine wpList_store_all rfl 30 (.tmp 3) _ rfl w.heap.size rfl (rval (.slice so D.st.length sc) (.slice po D.pd.length pc) D.spend) rfl _ rfl _ 30 hvar3 rfl hone2 Try.size30 ?_; rw [hW4.out])
        | (refine wpList_load_as rfl 30 _ rfl w.heap.size 0 rfl (rval (.slice so D.st.length sc) (.slice po D.pd.length pc) D.spend) _ rfl hr4 Try.row30 Try.size30 ?_)
        | (refine wpList_store_all rfl 30 (.tmp 6) _ rfl (w.heap.size + 2) rfl (rval (.slice so D.st.length sc) (.slice po D.pd.length pc) D.spend) rfl _ rfl _ 30 hres4 res_fit hone2 Try.size30 ?_))
      refine bodyPost_ret (results_cell2 rfl _ (w.heap.size + 2) _ (rval (.slice so D.st.length sc) (.slice po D.pd.length pc) D.spend) rfl rfl hrow Try.row30 Try.size30) rfl ?_
      exact ⟨_, _, by rw [e1.out, e2.out]; rfl, by rw [e2.out]; exact hG, hfin⟩
    · have ho : D.out = false := by simpa using ho
      have e1 : D.werr i = 0 := by unfold Dk.werr; simp [hh, ho]
      have e2 : D.write i s = { D.spend with pd := D.pd ++ [(i.toNat, s)] } := by unfold Dk.write; simp [hh, ho]
      rw [ho]
      obtain ⟨k, rfl⟩ : ∃ k : Nat, i = (k : Int) := ⟨i.toNat, by omega⟩
      rw [Int.toNat_natCast] at e2
      have e1 : Hid (D.werr (k : Int) = 0) := e1
      have e2 : Hid (D.write (k : Int) s = { D.spend with pd := D.pd ++ [(k, s)] }) := e2
      have hkl : k < D.st.length := by omega
      have hg4 : RefG X (w3.setRow w.heap.size (rcells (.slice so D.st.length sc) (.slice po D.pd.length pc) D.spend).toArray) (.slice so D.st.length sc) (.slice po D.pd.length pc) D := h.nw hT4.fr
      obtain ⟨j0, hj, hj0, hj1, hj2⟩ := info50
      clear hT3 hT2 hg2 hr2
      generalize hW4 : w3.setRow w.heap.size (rcells (.slice so D.st.length sc) (.slice po D.pd.length pc) D.spend).toArray = W4 at *
      have hW4 : Hid (w3.setRow w.heap.size (rcells (.slice so D.st.length sc) (.slice po D.pd.length pc) D.spend).toArray = W4) := hW4
      have hz4 := hT4.size
      have hT5 := hT4.nw (W' := W4.alloc (.cells #[] 50)) ((Fr.refl _ W4).alloc _)
      have hown5 : (W4.alloc (.cells #[] 50)).ownsRow w.heap.size 50 129 (.slice (some ⟨W4.heap.size, 0, none⟩) 0 0) 0 [] := World.ownsRow_lit W4 #[] 0 (by omega) (by decide) rfl
      have hsl5 : Sl W4.heap.size (W4.alloc (.cells #[] 50)) (.slice po D.pd.length pc) D.pd.length (pcells D.pd) := (hg4.pd.toSl).keep ((Below.refl _ _).alloc (Nat.le_refl _) _)
      have hc5 : (W4.alloc (.cells #[] 50)).cell? ⟨w.heap.size, 1, none⟩ = some (.slice po D.pd.length pc) := (r_cells hT5.var).2.1
      have hz5 : (W4.alloc (.cells #[] 50)).heap.size = W4.heap.size + 1 := by simp
      have hpc : (pcells D.pd).length = D.pd.length * 129 := pcells_length (fun p hp => (h.ok.wr p hp).2)
      have hp1 : ∀ u ∈ pcells D.pd, u.oneCell' = true := fun u hu => by
        unfold pcells at hu
        obtain ⟨l, hl, hu⟩ := List.mem_flatten.1 hu
        obtain ⟨p, _, rfl⟩ := List.mem_map.1 hl
        exact wcell_oneCell p u hu
      generalize hW5 : W4.alloc (.cells #[] 50) = W5 at *
      have hW5 : Hid (W4.alloc (.cells #[] 50) = W5) := hW5
      go_wp2_with (first
        | (refine wpList_store_all rfl 30 (.tmp 3) _ rfl w.heap.size rfl (rval (.slice so D.st.length sc) (.slice po D.pd.length pc) D.spend) rfl _ rfl _ 30 hvar3 rfl hone2 Try.size30 ?_; rw [hW4.out])
        | (refine wpList_buildSlice0 rfl 28 50 rfl Try.underlying28 (by kernel_rfl) ?_; rw [hW5.out])
        | (at_builtin; refine wpList_append_sl _ rfl _ _ 28 rfl w.heap.size 50 j0 _ 129 136 Try.underlying28 hj hj0 hj1 hj2 (by simp [wrv, Value.cells, wcell, z128_length]) (by decide) (.slice (some ⟨W4.heap.size, 0, none⟩) 0 0) 0 [] rfl hown5 W4.heap.size _ D.pd.length _ rfl hsl5 hpc hp1 (by unfold maxLen; omega) (by omega) (by omega) (fun v6 w6 hown6 hg6 hat6 => stop_here ?_)))
      unfold Hid
      simp only [Nat.zero_add, List.nil_append] at hown6
      have hT6 : Three w w6 (.slice so D.st.length sc) (.slice po D.pd.length pc) D.spend s := by
        refine hT4.blk (fun q hq => ?_) (hg6.os.trans ?_) (hg6.tape.trans ?_) (hg6.output.trans ?_) (by have := hg6.size; omega)
        · rw [hg6.block q (by omega) (by simp [Value.ownBlock]; omega), ← hW5.out]
          exact Below.heap_alloc W4 _ q hq
        all_goals (rw [← hW5.out]; rfl)
      have hv6 : ∀ q, v6.ownBlock = some q → W4.heap.size ≤ q := fun q hq => by
        rcases hat6 with e | e
        · rw [e] at hq; simp [Value.ownBlock] at hq; omega
        · rw [e] at hq; simp at hq; omega
      have hz6 := hT6.size
      have hz46 : W4.heap.size ≤ w6.heap.size := by have := hg6.size; omega
      have hr6 := range_all hT6.sct
      have hown7 := hown6.alloc (.cells (wcell (k, s)).toArray 50)
      have hlies := sl_lit w6 (wcell (k, s)).toArray 50 1 (by omega)
      have hz7 : (w6.alloc (.cells (wcell (k, s)).toArray 50)).heap.size = w6.heap.size + 1 := by simp
      obtain ⟨o6, q6, rfl⟩ := owns_form hown6
      generalize hW7 : w6.alloc (.cells (wcell (k, s)).toArray 50) = W7 at *
      have hW7 : Hid (w6.alloc (.cells (wcell (k, s)).toArray 50) = W7) := hW7
      clear hT5 hown5 hsl5 hc5 hg6 hat6 hW5 d1 df df1
      try simp only [Nat.zero_add]
      go_wp2_with (first
        | (refine wpList_load_as rfl 33 _ rfl (w.heap.size + 1) 0 rfl (sec s) _ rfl hr6 Try.row33 (size33 hs) ?_)
        | (refine wpList_build_as rfl 50 #[(0, .tmp 28), (1, .tmp 29)] rfl (wrv (k, s)) (wcell (k, s)).toArray rfl (by simp only [List.map_cons, List.map_nil, Act.eval]; exact built50 k s hs) ?_)
        | (refine wpList_buildSlice1 rfl 28 50 _ rfl (wrv (k, s)) rfl (wcell (k, s)) rfl Try.underlying28 (size50 hs) (by kernel_rfl) (by rw [wcell_length hs]; omega) (by rw [wcell_length hs]; omega) ?_; rw [hW7.out])
        | (at_builtin; refine wpList_append_sl _ rfl _ _ 28 rfl w.heap.size 50 j0 _ 129 136 Try.underlying28 hj hj0 hj1 hj2 (by simp [wrv, Value.cells, wcell, z128_length]) (by decide) (.slice o6 D.pd.length q6) D.pd.length _ rfl hown7 _ _ 1 _ rfl hlies (by rw [wcell_length hs]) (wcell_oneCell _) (by unfold maxLen; omega) (by omega) (by omega) (fun v8 w8 hown8 hg8 hat8 => stop_here ?_)))
      unfold Hid
      have hT8 : Three w w8 (.slice so D.st.length sc) (.slice po D.pd.length pc) D.spend s := by
        refine ⟨?_, ?_, ?_, ?_, by have := hg8.size; omega⟩
        · rw [hg8.block _ (by omega) (fun e => by have := hv6 _ e.symm; omega), ← hW7.out, Below.heap_alloc w6 _ _ (by omega)]; exact hT6.var
        · rw [hg8.block _ (by omega) (fun e => by have := hv6 _ e.symm; omega), ← hW7.out, Below.heap_alloc w6 _ _ (by omega)]; exact hT6.sct
        · rw [hg8.block _ (by omega) (fun e => by have := hv6 _ e.symm; omega), ← hW7.out, Below.heap_alloc w6 _ _ (by omega)]; exact hT6.res
        · have hf7 : Nw w W7 := by rw [← hW7.out]; exact hT6.fr.alloc _
          exact hf7.grown hg8 (fun q e => .inr (by have := hv6 q e; omega))
      have hT9 := hT8.push (v8 := v8) (D' := { D.spend with pd := D.pd ++ [(k, s)] }) rfl rfl
      have hv8 : ∀ q, v8.ownBlock = some q → W4.heap.size ≤ q := fun q hq => by
        rcases hat8 with e | e
        · exact hv6 q (e ▸ hq)
        · rw [e] at hq; simp at hq; omega
      have hown9 : (w8.setCell ⟨w.heap.size, 1, none⟩ v8).ownsRow w.heap.size 50 129 v8 (D.pd.length + 1) (pcells D.pd ++ wcell (k, s)) := owns_of_block hown8 (fun q hq => Below.heap_setCell _ _ _ _ (by have := hv8 q hq; show q ≠ w.heap.size; omega))
      obtain ⟨-, f1, -, -, ff, -⟩ := r_cells hT8.var
      have ff1 := ff 1
      obtain ⟨-, -, -, -, -, hr9⟩ := r_cells hT9.var
      have hres9 := hT9.res
      obtain ⟨o8, q8, rfl⟩ := owns_form hown8
      have hone9 := r_oneCell (so := so) (po := o8) (n := D.st.length) (m := D.pd.length + 1) (sc := sc) (pc := q8) (D := { D.spend with pd := D.pd ++ [(k, s)] })
      have hfin : Nw w ((w8.setCell ⟨w.heap.size, 1, none⟩ (.slice o8 (D.pd.length + 1) q8)).setRow (w.heap.size + 2) (rcells (.slice so D.st.length sc) (.slice o8 (D.pd.length + 1) q8) { D.spend with pd := D.pd ++ [(k, s)] }).toArray) := hT9.fr.setRow (.inr (by omega)) _
      have hrow := range_all (setRow_heap (w8.setCell ⟨w.heap.size, 1, none⟩ (.slice o8 (D.pd.length + 1) q8)) (w.heap.size + 2) _ (rcells (.slice so D.st.length sc) (.slice o8 (D.pd.length + 1) q8) { D.spend with pd := D.pd ++ [(k, s)] }).toArray 30 _ hres9)
      have hG : RefG (fun b => X b ∨ w.heap.size ≤ b) ((w8.setCell ⟨w.heap.size, 1, none⟩ (.slice o8 (D.pd.length + 1) q8)).setRow (w.heap.size + 2) (rcells (.slice so D.st.length sc) (.slice o8 (D.pd.length + 1) q8) { D.spend with pd := D.pd ++ [(k, s)] }).toArray) (.slice so D.st.length sc) (.slice o8 (D.pd.length + 1) q8) { D.spend with pd := D.pd ++ [(k, s)] } := by
        have hA := h.spend.widen (Y := fun b => X b ∨ w.heap.size ≤ b) hfin (fun b hb => .inl hb)
        refine ⟨hA.st, ?_, ?_⟩
        · have hs9 := slp_of_owns hown9
          show Slp _ _ _ (D.pd ++ [(k, s)]).length (pcells (D.pd ++ [(k, s)]))
          rw [pcells_snoc, List.length_append]
          exact hs9.keep (fun q hq hl => ⟨.inr (by have := hv8 q hq; omega), by rw [setRow_other _ _ _ _ (by have := hv8 q hq; omega)]⟩)
        · refine ⟨hA.ok.sec, fun p hp => ?_, hA.ok.n, hA.ok.lo, hA.ok.hi⟩
          rcases List.mem_append.1 hp with hp | hp
          · have := hA.ok.wr p (by rw [(spend_st D).2]; exact hp)
            exact this
          · simp at hp; subst hp; exact ⟨by show k < D.spend.st.length; rw [(spend_st D).1]; exact hkl, hs⟩
      clear hT9 hT8 hT6 hown8 hown9 hown7 hlies hg8 hat8 hg4 h hv8 hv6
      generalize hEE : ({ D.spend with pd := D.pd ++ [(k, s)] } : Dk) = EE at *
      generalize hW9 : w8.setCell ⟨w.heap.size, 1, none⟩ (.slice o8 (D.pd.length + 1) q8) = W9 at *
      go_wp2_with (first
        | (refine wpList_load_as rfl 30 _ rfl w.heap.size 0 rfl (rval (.slice so D.st.length sc) (.slice o8 (D.pd.length + 1) q8) EE) _ rfl hr9 Try.row30 Try.size30 ?_)
        | (refine wpList_store_all rfl 30 (.tmp 6) _ rfl (w.heap.size + 2) rfl (rval (.slice so D.st.length sc) (.slice o8 (D.pd.length + 1) q8) EE) rfl _ rfl _ 30 hres9 res_fit hone9 Try.size30 ?_))
      refine bodyPost_ret (results_cell2 rfl _ (w.heap.size + 2) _ (rval (.slice so D.st.length sc) (.slice o8 (D.pd.length + 1) q8) EE) rfl rfl hrow Try.row30 Try.size30) rfl ?_
      exact ⟨_, _, by first | rfl | (rw [e1.out, e2.out, hEE]; rfl) | (rw [e2.out, hEE]; rfl) | (rw [hEE]; rfl), by first | exact hG | (rw [e2.out, hEE]; exact hG) | (rw [hEE]; exact hG), hfin⟩
  · have hh : D.has i = false := by simpa using hh
    rw [hh]
    rintro e w2 ⟨rfl, hf2⟩
    have e1 : D.werr i = 41 := by unfold Dk.werr; simp [hh]
    have e2 : D.write i s = D := by unfold Dk.write; simp [hh]
    have hT2 := hT.nw hf2
    obtain ⟨-, -, -, -, -, hr2⟩ := r_cells hT2.var
    have hres2 := hT2.res
    have hfin : Nw w (w2.setRow (w.heap.size + 2) (rcells (.slice so D.st.length sc) (.slice po D.pd.length pc) D).toArray) := hT2.fr.setRow (.inr (by omega)) _
    have hrow := range_all (setRow_heap w2 (w.heap.size + 2) _ (rcells (.slice so D.st.length sc) (.slice po D.pd.length pc) D).toArray 30 _ hres2)
    have hG := h.widen (Y := fun b => X b ∨ w.heap.size ≤ b) hfin (fun b hb => .inl hb)
    have e1 : Hid (D.werr i = 41) := e1
    have e2 : Hid (D.write i s = D) := e2
    clear hT2 hT hg h hf2
    go_wp2_with (first
      | (refine wpList_load_as rfl 30 _ rfl w.heap.size 0 rfl (rval (.slice so D.st.length sc) (.slice po D.pd.length pc) D) _ rfl hr2 Try.row30 Try.size30 ?_)
      | (refine wpList_store_all rfl 30 (.tmp 6) _ rfl (w.heap.size + 2) rfl (rval (.slice so D.st.length sc) (.slice po D.pd.length pc) D) rfl _ rfl _ 30 hres2 res_fit hone Try.size30 ?_))
    refine bodyPost_ret (results_cell2 rfl _ (w.heap.size + 2) _ (rval (.slice so D.st.length sc) (.slice po D.pd.length pc) D) rfl rfl hrow Try.row30 Try.size30) rfl ?_
    exact ⟨_, _, by rw [e1.out, e2.out]; rfl, by rw [e2.out]; exact hG, hfin⟩
end Go.Proofs.Ytmhojkbnfiknpaa
