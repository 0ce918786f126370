/-
  ExtentRuns returns true for every total and every list of acts: whatever is done with a map, all answers, and what is free and will be, are the document's.
  Conditions: none; the statement is the given one, for every input.
-/
import Derived.Test.YtelobmdlnkkbkaaRows
import Derived.Test.YtelobmdlnkkbkaaExtR8
import Derived.Test.YtelobmdlnkkbkaaExtF1
import Derived.Test.YtelobmdlnkkbkaaExtOpen
import Derived.WalkKit
import Derived.ProofKit
import Derived.OpenShut
import Derived.ShutString
import Derived.ChangeOld
import Derived.Below
import Derived.SizedLaws
namespace Go.Proofs.Ytelobmdlnkkbkaa.extentRuns
open Go.ChangeShapes Go.WideShapes Go.ChangeAt Go.RowKit
open Go.ChangeMaps (open_string shut_string)
set_option linter.unusedVariables false
set_option linter.unusedSimpArgs false

theorem own : ownKnob Try.prog.godebug = none := by kernel_rfl
theorem laidOut : laidOutB Try.prog = true := by kernel_rfl

theorem esl_lit (w : World) (N : Nat) (hN : N = w.heap.size) : ESl (fun _ => True) (w.alloc (.cells #[] 34)) (.slice (some ⟨N, 0, none⟩) 0 0) [] := by
  subst hN
  exact ⟨_, 0, rfl, ⟨Nat.le_refl _, Nat.zero_le _⟩, fun h => by simp at h, fun i c h => by simp [ecells] at h⟩

theorem allocM_len (xs : List UInt8) (n : Int) : (allocM xs n).length = xs.length := by
  unfold allocM; split
  · rfl
  · exact allocX_length ..

/-- What both hold, in a world: the map, the document's map, what came before. -/
structure RunAt (w V : World) (b g F : Nat) (xs : List UInt8) : Prop where
  map : MapAt V b g xs
  doc : RAt V F xs
  nw : Nw w V
  lt : b < F ∧ g < F
  ge : w.heap.size ≤ g ∧ w.heap.size ≤ F

theorem RunAt.keep {w V V' : World} {b g F : Nat} {xs : List UInt8} (h : RunAt w V b g F xs) (hf : Nw V V') : RunAt w V' b g F xs := ⟨h.map.nw hf, h.doc.nw hf, nw_trans h.nw hf, h.lt, h.ge⟩

/-- The program has turned its map: the document's is as it was. -/
theorem RunAt.half {w V V' : World} {b g F : Nat} {xs : List UInt8} (h : RunAt w V b g F xs) (hf : Fr (fun k => k = g) V V') : RAt V' F xs ∧ Nw w V' :=
  ⟨(hf.block _ (heap_lt h.doc) (by have := h.lt; omega)).trans h.doc, Fr.new h.nw hf (fun k hk => by have := h.ge; omega)⟩

/-- The document's map is laid, too. -/
theorem run_both {w V : World} {b g F : Nat} {xs ys : List UInt8} (hm : MapAt V b g ys) (hd : RAt V F xs) (hn : Nw w V) (hlt : b < F ∧ g < F) (hge : w.heap.size ≤ g ∧ w.heap.size ≤ F) : RunAt w (V.setRow F (rmc ys).toArray) b g F ys ∧ Fr (fun k => k = F) V (V.setRow F (rmc ys).toArray) := by
  have f : Fr (fun k => k = F) V (V.setRow F (rmc ys).toArray) := Fr.setRow (S := fun k => k = F) (g := F) (Fr.refl _ V) (.inl rfl) _
  exact ⟨⟨hm.keep f (by omega) (by omega), setRow_heap V _ _ _ 31 _ hd, Fr.new hn f (fun k hk => by omega), hlt, hge⟩, f⟩

theorem allV_small (xs : List UInt8) (n : Int) (h : xs.length ≤ 1024) : (allV xs n).length ≤ 1024 := by
  by_cases hc : (xs.count 0 : Int) < n
  · unfold allV; rw [if_pos hc]; simp
  · obtain ⟨t1, t2, t3, t4⟩ := allM_count xs n hc
    have h1 := length_le_total _ (fun e he => (t4 e he).1)
    have h2 : xs.count 0 ≤ xs.length := List.count_le_length
    omega

/-- The variables of a round: the act, the two extents. -/
structure Vr (V : World) (M X Y : Nat) (act : Array Value) (p p' : Ext) : Prop where
  m : V.heap[M]? = some (.cells act 36 (0, 0))
  x : V.heap[X]? = some (.cells #[.int .i64 (p.1 : Int), .int .i64 (p.2 : Int)] 34 (0, 0))
  y : V.heap[Y]? = some (.cells #[.int .i64 (p'.1 : Int), .int .i64 (p'.2 : Int)] 34 (0, 0))
  lt : M < X ∧ X < Y

theorem Vr.keep {V V' : World} {M X Y : Nat} {act : Array Value} {p p' : Ext} (h : Vr V M X Y act p p') {T : Nat → Prop} (hf : Fr T V V') (hT : ∀ k, T k → k < M) : Vr V' M X Y act p p' :=
  ⟨(hf.block _ (heap_lt h.m) (fun t => by have := hT _ t; omega)).trans h.m, (hf.block _ (heap_lt h.x) (fun t => by have := hT _ t; have := h.lt; omega)).trans h.x, (hf.block _ (heap_lt h.y) (fun t => by have := hT _ t; have := h.lt; omega)).trans h.y, h.lt⟩

theorem Vr.nw {V V' : World} {M X Y : Nat} {act : Array Value} {p p' : Ext} (h : Vr V M X Y act p p') (hf : Nw V V') : Vr V' M X Y act p p' := h.keep hf (fun _ => False.elim)

theorem Vr.setX {V : World} {M X Y : Nat} {act : Array Value} {p p' : Ext} (h : Vr V M X Y act p p') (e : Ext) :
    Vr ((V.setCell ⟨X, 0, none⟩ (.int .i64 (e.1 : Int))).setCell ⟨X, 1, none⟩ (.int .i64 (e.2 : Int))) M X Y act e p' ∧ Fr (fun k => k = X) V ((V.setCell ⟨X, 0, none⟩ (.int .i64 (e.1 : Int))).setCell ⟨X, 1, none⟩ (.int .i64 (e.2 : Int))) := by
  have f : Fr (fun k => k = X) V ((V.setCell ⟨X, 0, none⟩ (.int .i64 (e.1 : Int))).setCell ⟨X, 1, none⟩ (.int .i64 (e.2 : Int))) := ((Fr.refl (fun k => k = X) V).setCell (p := ⟨X, 0, none⟩) (.inl rfl) _).setCell (p := ⟨X, 1, none⟩) (.inl rfl) _
  have hl := h.lt
  exact ⟨⟨(f.block _ (heap_lt h.m) (by omega)).trans h.m, by rw [blk_setCell (blk_setCell h.x)]; rfl, (f.block _ (heap_lt h.y) (by omega)).trans h.y, hl⟩, f⟩

theorem Vr.setY {V : World} {M X Y : Nat} {act : Array Value} {p p' : Ext} (h : Vr V M X Y act p p') (e : Ext) :
    Vr ((V.setCell ⟨Y, 0, none⟩ (.int .i64 (e.1 : Int))).setCell ⟨Y, 1, none⟩ (.int .i64 (e.2 : Int))) M X Y act p e ∧ Fr (fun k => k = Y) V ((V.setCell ⟨Y, 0, none⟩ (.int .i64 (e.1 : Int))).setCell ⟨Y, 1, none⟩ (.int .i64 (e.2 : Int))) := by
  have f : Fr (fun k => k = Y) V ((V.setCell ⟨Y, 0, none⟩ (.int .i64 (e.1 : Int))).setCell ⟨Y, 1, none⟩ (.int .i64 (e.2 : Int))) := ((Fr.refl (fun k => k = Y) V).setCell (p := ⟨Y, 0, none⟩) (.inl rfl) _).setCell (p := ⟨Y, 1, none⟩) (.inl rfl) _
  have hl := h.lt
  exact ⟨⟨(f.block _ (heap_lt h.m) (by omega)).trans h.m, (f.block _ (heap_lt h.x) (by omega)).trans h.x, by rw [blk_setCell (blk_setCell h.y)]; rfl, hl⟩, f⟩

/-- A write among the round's variables leaves the maps. -/
theorem RunAt.vars {w V V' : World} {b g F : Nat} {xs : List UInt8} (h : RunAt w V b g F xs) {T : Nat → Prop} (hf : Fr T V V') (hT : ∀ k, T k → F < k) : RunAt w V' b g F xs :=
  ⟨h.map.keep hf (fun t => by have := hT _ t; have := h.lt; omega) (fun t => by have := hT _ t; have := h.lt; omega), (hf.block _ (heap_lt h.doc) (fun t => by have := hT _ t; omega)).trans h.doc, Fr.new h.nw hf (fun k hk => by have := hT k hk; have := h.ge; omega), h.lt, h.ge⟩

theorem esl_empty (X : Nat → Prop) (w : World) (a : Addr) : ESl X w (.slice (some a) 0 0) [] := ⟨_, 0, rfl, ⟨Nat.le_refl _, Nat.zero_le _⟩, fun h => by simp at h, fun i c h => by simp [ecells] at h⟩

theorem five (wr : World) (act : Array Value) (N : Nat) (hN : N = wr.heap.size) : Vr (((((wr.alloc (.cells act 36)).alloc (.cells #[.int .i64 0, .int .i64 0] 34)).alloc (.cells #[.int .i64 0, .int .i64 0] 34)).alloc (.cells #[] 34)).alloc (.cells #[] 34)) N (N + 1) (N + 1 + 1) act (0, 0) (0, 0) ∧
    Nw wr (((((wr.alloc (.cells act 36)).alloc (.cells #[.int .i64 0, .int .i64 0] 34)).alloc (.cells #[.int .i64 0, .int .i64 0] 34)).alloc (.cells #[] 34)).alloc (.cells #[] 34)) := by
  subst hN
  have h3 : ((wr.alloc (.cells act 36)).alloc (.cells #[.int .i64 0, .int .i64 0] 34)).heap[wr.heap.size]? = some (.cells act 36 (0, 0)) := heap_alloc2_old wr _ _
  have h4 : ((wr.alloc (.cells act 36)).alloc (.cells #[.int .i64 0, .int .i64 0] 34)).heap[wr.heap.size + 1]? = some (.cells #[.int .i64 0, .int .i64 0] 34 (0, 0)) := heap_alloc2_new wr _ _
  have h5 := heap_alloc_new ((wr.alloc (.cells act 36)).alloc (.cells #[.int .i64 0, .int .i64 0] 34)) (.cells #[.int .i64 0, .int .i64 0] 34)
  simp only [World.size_alloc] at h5
  have hn : Nw ((wr.alloc (.cells act 36)).alloc (.cells #[.int .i64 0, .int .i64 0] 34)) (((((wr.alloc (.cells act 36)).alloc (.cells #[.int .i64 0, .int .i64 0] 34)).alloc (.cells #[.int .i64 0, .int .i64 0] 34)).alloc (.cells #[] 34)).alloc (.cells #[] 34)) := Fr.alloc (Fr.alloc (Fr.alloc (Fr.refl _ _) _) _) _
  have hn2 : Nw (((wr.alloc (.cells act 36)).alloc (.cells #[.int .i64 0, .int .i64 0] 34)).alloc (.cells #[.int .i64 0, .int .i64 0] 34)) (((((wr.alloc (.cells act 36)).alloc (.cells #[.int .i64 0, .int .i64 0] 34)).alloc (.cells #[.int .i64 0, .int .i64 0] 34)).alloc (.cells #[] 34)).alloc (.cells #[] 34)) := Fr.alloc (Fr.alloc (Fr.refl _ _) _) _
  exact ⟨⟨(hn.block _ (heap_lt h3) id).trans h3, (hn.block _ (heap_lt h4) id).trans h4, (hn2.block _ (heap_lt h5) id).trans h5, by omega⟩, Fr.alloc (Fr.alloc (Fr.alloc (Fr.alloc (Fr.alloc (Fr.refl _ _) _) _) _) _) _⟩

set_option maxRecDepth 100000 in
set_option maxHeartbeats 6400000 in
/-- The law's own walk. -/
theorem walk (w : World) (a0 : Int) (w0 : (Lit.int .i64 a0).wf = true) (v1 : Value) (x1 : List EAct) (w1 : EActsAt w.heap.size w v1 x1) (l1 : x1.length ≤ 140737488351232) :
    Calls Try.prog 4 #[.int .i64 a0, v1] w fun e w' => e = .returned (.bool true) ∧ Below w.heap.size w w' := by
  have hA0 := i64_of_wf w0
  obtain ⟨ao, cap, rfl, hac, hac2, hacs0⟩ := w1
  have hacs : EActsAt w.heap.size w (.slice ao x1.length cap) x1 := ⟨ao, cap, rfl, hac, hac2, hacs0⟩
  clear hacs0
  unfold maxLen at hac2
  go_enter Try.func4, Try.ntmps4
  go_wp2_with (go_at_call 8; refine (c_alive _).mono ?_; rintro e W1 ⟨rfl, hn1⟩; refine stop_here ?_)
  unfold Hid
  go_wp2_with (go_at_call 9; refine (c_new a0 _).mono ?_; rintro e W2 ⟨b, g, rfl, h2, hn2, hb, hg⟩; refine stop_here ?_)
  unfold Hid
  have hsz1 := hn1.size
  have hnw2 := nw_trans hn1 hn2
  clear hn1 hn2
  have hlX := newX_length a0
  go_wp2_with (go_at_call 12; refine (c_rnew a0 _).mono ?_; rintro e W3 ⟨rfl, hn3⟩; refine stop_here ?_)
  unfold Hid
  have hnF : Nw W3 ((W3.alloc (.cells (rmc []).toArray 31)).setRow W3.heap.size (rmc (newX a0)).toArray) := Fr.setRow (Fr.alloc (Fr.refl _ W3) _) (.inr (Nat.le_refl _)) _
  have hbF : RAt ((W3.alloc (.cells (rmc []).toArray 31)).setRow W3.heap.size (rmc (newX a0)).toArray) W3.heap.size (newX a0) := setRow_heap _ _ _ _ 31 _ (heap_alloc_new W3 _)
  have hlt3 := (h2.nw hn3).lt
  have hsz3 := (nw_trans hnw2 hn3).size
  have hX0 : RunAt w ((W3.alloc (.cells (rmc []).toArray 31)).setRow W3.heap.size (rmc (newX a0)).toArray) b g W3.heap.size (newX a0) := ⟨(h2.nw hn3).nw hnF, hbF, nw_trans (nw_trans hnw2 hn3) hnF, hlt3, by omega, hsz3⟩
  generalize hW4 : (W3.alloc (.cells (rmc []).toArray 31)).setRow W3.heap.size (rmc (newX a0)).toArray = W4 at *
  have hW4H : Hid ((W3.alloc (.cells (rmc []).toArray 31)).setRow W3.heap.size (rmc (newX a0)).toArray = W4) := hW4
  clear hW4 h2 hnw2 hn3 hnF hbF hlt3
  obtain ⟨n, hn⟩ : ∃ n, Hid (x1.length = n) := ⟨_, rfl⟩
  rw [hn.out] at hac l1 ⊢
  go_upto_region 5 with (first
    | (refine wpList_alloc_agg rfl 31 rfl _ Try.zeroR ?_)
    | (refine wpList_store_all rfl 31 (.tmp 6) _ rfl W3.heap.size rfl (rmv (newX a0)) rfl _ rfl _ 31 (heap_alloc_new W3 _) (fitR hlX (by simp)) (rmc_one _) (sizeR hlX) ?_; rw [hW4H.out]))
  generalize W3.heap.size = F at *
  clear hW4H
  by_cases h100 : 100 < n
  · have hd : decide (100 < (n : Int)) = true := decide_eq_true (by omega)
    have hfin := below_of_nw hX0.nw
    go_wp2
    go_ret
    exact ⟨rfl, hfin⟩
  have hd : decide (100 < (n : Int)) = false := decide_eq_false (by omega)
  go_wp2
  go_loopw [32] (fun i wr => ∃ (k : Nat) (xs : List UInt8), k ≤ n ∧ i = .int .i64 k ∧ RunAt w wr b g F xs) (fun i _ => n - (intOf i).toNat)
  case atStart => exact ⟨0, _, Nat.zero_le _, rfl, hX0⟩
  case round =>
    clear hX0 hlX
    obtain ⟨k, xs, hk, rfl, hX⟩ := hrel
    by_cases hlt : k < n
    case neg =>
      have hfin := below_of_nw hX.nw
      clear hacs hn hX
      go_wp2
      go_ret
      exact ⟨rfl, hfin⟩
    have hkx : k < x1.length := by rw [hn.out]; exact hlt
    obtain ⟨q, off, rfl, hqK, hcell, hok⟩ := hacs.get k hkx
    obtain ⟨c0, c1, c2, c3⟩ := hcell wr (below_of_nw hX.nw)
    obtain ⟨okk, okn, oks, okl⟩ := hok
    clear hcell hacs
    generalize x1[k] = act at *
    clear hkx hn
    obtain ⟨ak, an, ps, pl⟩ := act
    simp only at c0 c1 c2 c3 okk okn oks okl
    obtain ⟨hV0, hnV⟩ := five wr #[.int .i64 ak, .int .i64 an, .int .i64 ps, .int .i64 pl] wr.heap.size rfl
    have hX1 := hX.keep hnV
    have hFM : F < wr.heap.size := heap_lt hX.doc
    go_upto_block 2 with fail
    generalize hWM : ((((wr.alloc (.cells #[.int .i64 ak, .int .i64 an, .int .i64 ps, .int .i64 pl] 36)).alloc (.cells #[.int .i64 0, .int .i64 0] 34)).alloc (.cells #[.int .i64 0, .int .i64 0] 34)).alloc (.cells #[] 34)).alloc (.cells #[] 34) = WM at *
    generalize hKK : wr.heap.size + 1 + 1 + 1 + 1 = KK at *
    generalize hLL : wr.heap.size + 1 + 1 + 1 = LL at *
    generalize hYY : wr.heap.size + 1 + 1 = Y at *
    generalize hXX : wr.heap.size + 1 = X at *
    generalize wr.heap.size = M at *
    clear hWM hKK hLL hYY hXX c0 c1 c2 c3 hX hnV
    have hl0 := esl_empty (fun _ => True) WM ⟨LL, 0, none⟩
    have hk0 := esl_empty (fun _ => True) WM ⟨KK, 0, none⟩
    have hxl := hX1.map.n
    go_cut [11, 12, 13, 14] (fun l kk e f wc => ∃ (xs' : List UInt8) (es : List Ext) (p : Ext) (z : Int), e = .int .i64 z ∧ f = .int .i64 z ∧ ESl (fun _ => True) wc l es ∧ ESl (fun _ => True) wc kk es ∧ es.length ≤ 1024 ∧ Vr wc M X Y #[.int .i64 ak, .int .i64 an, .int .i64 ps, .int .i64 pl] p p ∧ RunAt w wc b g F xs')
    case first =>
      by_cases hc0 : ak = 0
      · subst hc0
        as_aux_lemma =>
          have m1 : WM.cell? ⟨M, 1, none⟩ = some (.int .i64 an) := cell_blk hV0.m rfl
          have hal := c_alloc _ hX1.map an (by omega)
          have hyl : (allocM xs an).length ≤ 1024 := by rw [allocM_len]; exact hxl
          have hrl := fun (V : World) => c_ralloc V hxl an (by omega)
          generalize allocM xs an = ys at *
          generalize allocV xs an = p at *
          generalize allocE xs an = ec at *
          unfold ext at hal hrl
          go_wp2_with (go_at_call 13; refine hal.mono ?_; rintro e W3 ⟨rfl, hm3, hf3⟩; refine stop_here ?_)
          unfold Hid
          obtain ⟨hd3, hn3⟩ := hX1.half hf3
          have hgF := hX1.lt
          have hV3 := hV0.keep hf3 (fun k hk => by omega)
          have x0 : W3.cell? ⟨X, 0, none⟩ = some (.int .i64 ((0 : Nat) : Int)) := cell_blk hV3.x rfl
          have x1 : W3.cell? ⟨X, 1, none⟩ = some (.int .i64 ((0 : Nat) : Int)) := cell_blk hV3.x rfl
          have xf : ∀ i, W3.frozen? ⟨X, i, none⟩ = false := fun i => free_blk hV3.x
          obtain ⟨hV4, hf4⟩ := hV3.setX p
          have hlt0 := hV0.lt
          have hd4 : RAt ((W3.setCell ⟨X, 0, none⟩ (.int .i64 (p.1 : Int))).setCell ⟨X, 1, none⟩ (.int .i64 (p.2 : Int))) F xs := (hf4.block _ (heap_lt hd3) (by omega)).trans hd3
          have hm4 := hm3.keep hf4 (by omega) (by omega)
          have hn4 := Fr.new hn3 hf4 (fun k hk => by have := hX1.ge; omega)
          clear hal hf3 hm3 hn3 hV3 hd3 hf4 m1
          go_upto_region 16 with fail
          generalize hW4 : (W3.setCell ⟨X, 0, none⟩ (.int .i64 (p.1 : Int))).setCell ⟨X, 1, none⟩ (.int .i64 (p.2 : Int)) = W4 at *
          clear hW4 x0 x1 xf
          have m1 : W4.cell? ⟨M, 1, none⟩ = some (.int .i64 an) := cell_blk hV4.m rfl
          have hrm4 := range_all hd4
          go_wp2_with (first
            | (refine wpList_load_as rfl 31 (.tmp 6) rfl F 0 rfl (rmv xs) _ rfl hrm4 Try.rowR (sizeR hxl) ?_)
            | (go_at_call 14; refine (hrl _).mono ?_; rintro e W5 ⟨rfl, hn5⟩; refine stop_here ?_))
          unfold Hid
          have hd5 := hd4.nw hn5
          obtain ⟨hX6, hf6⟩ := run_both (hm4.nw hn5) hd5 (nw_trans hn4 hn5) hX1.lt hX1.ge
          have hV6 := (hV4.nw hn5).keep hf6 (fun k hk => by omega)
          generalize hWd : W5.setRow F (rmc ys).toArray = W6 at *
          have hWdH : Hid (W5.setRow F (rmc ys).toArray = W6) := hWd
          have y0 : W6.cell? ⟨Y, 0, none⟩ = some (.int .i64 ((0 : Nat) : Int)) := cell_blk hV6.y rfl
          have y1 : W6.cell? ⟨Y, 1, none⟩ = some (.int .i64 ((0 : Nat) : Int)) := cell_blk hV6.y rfl
          have yf : ∀ i, W6.frozen? ⟨Y, i, none⟩ = false := fun i => free_blk hV6.y
          obtain ⟨hV7, hf7⟩ := hV6.setY p
          have hX7 := hX6.vars hf7 (fun k hk => by omega)
          clear hWd hrm4 hn4 hm4 hV4 hn5 hX6 hf6 hf7 m1 hrl
          go_wp2_with (refine wpList_store_all rfl 31 (.tmp 6) _ rfl F rfl (rmv ys) rfl _ rfl _ 31 hd5 (fitR hyl hxl) (rmc_one _) (sizeR hyl) ?_; rw [hWdH.out])
          go_meet
          case rel => exact ⟨ys, [], p, ec, rfl, rfl, esl_empty _ _ _, esl_empty _ _ _, by simp, hV7, hX7⟩
      by_cases hc1 : ak = 1
      · subst hc1
        as_aux_lemma =>
          have m1 : WM.cell? ⟨M, 1, none⟩ = some (.int .i64 an) := cell_blk hV0.m rfl
          have hal := c_all _ hX1.map an (by omega)
          have hyl : (allM xs an).length ≤ 1024 := by rw [allM_length xs an (by omega)]; exact hxl
          have hes := allV_small xs an hxl
          have hrl := fun (V : World) => c_rall V hxl an (by omega)
          have hFW : F < WM.heap.size := by have := heap_lt hV0.m; omega
          generalize allM xs an = ys at *
          generalize allV xs an = es at *
          generalize allE xs an = ec at *
          go_wp2_with (go_at_call 15; refine hal.mono ?_; rintro e W3 ⟨v3, rfl, hr3, hm3, hf3⟩; refine stop_here ?_)
          unfold Hid
          obtain ⟨hd3, hn3⟩ := hX1.half hf3
          have hgF := hX1.lt
          have hV3 := hV0.keep hf3 (fun k hk => by omega)
          have m1 : W3.cell? ⟨M, 1, none⟩ = some (.int .i64 an) := cell_blk hV3.m rfl
          have hrm3 := range_all hd3
          have hE3 := hr3.esl
          have hz3 := hf3.size
          obtain ⟨vo3, vc3, rfl⟩ := owns_form hr3
          clear hal hf3 hr3
          go_wp2_with (first
            | (refine wpList_load_as rfl 31 (.tmp 6) rfl F 0 rfl (rmv xs) _ rfl hrm3 Try.rowR (sizeR hxl) ?_)
            | (go_at_call 16; refine (hrl _).mono ?_; rintro e W5 ⟨v5, rfl, hr5, hn5⟩; refine stop_here ?_))
          unfold Hid
          have hd5 := hd3.nw hn5
          obtain ⟨hX6, hf6⟩ := run_both (hm3.nw hn5) hd5 (nw_trans hn3 hn5) hX1.lt hX1.ge
          have hV6 := (hV3.nw hn5).keep hf6 (fun k hk => by omega)
          have hE6 : ESl (fun _ => True) (W5.setRow F (rmc ys).toArray) (.slice vo3 es.length vc3) es := (hE3.keep (X' := fun q => WM.heap.size ≤ q) hn5 (fun _ _ => id) (fun _ h _ => h)).keep hf6 (fun q hq e => by omega) (fun _ _ _ => trivial)
          have hG6 : ESl (fun _ => True) (W5.setRow F (rmc ys).toArray) v5 es := hr5.esl.keep hf6 (fun q hq e => by omega) (fun _ _ _ => trivial)
          generalize hWd : W5.setRow F (rmc ys).toArray = W6 at *
          have hWdH : Hid (W5.setRow F (rmc ys).toArray = W6) := hWd
          obtain ⟨vo5, vc5, rfl⟩ := owns_form hr5
          clear hWd hrm3 hn3 hm3 hV3 hn5 hf6 m1 hrl hr5 hE3
          go_wp2_with (refine wpList_store_all rfl 31 (.tmp 6) _ rfl F rfl (rmv ys) rfl _ rfl _ 31 hd5 (fitR hyl hxl) (rmc_one _) (sizeR hyl) ?_; rw [hWdH.out])
          go_meet
          case rel => exact ⟨ys, es, (0, 0), ec, rfl, rfl, hE6, hG6, hes, hV6, hX6⟩
      by_cases hc2 : ak = 2
      · subst hc2
        as_aux_lemma =>
          have m2 : WM.cell? ⟨M, 2, none⟩ = some (.int .i64 ps) := cell_blk hV0.m rfl
          have m3 : WM.cell? ⟨M, 3, none⟩ = some (.int .i64 pl) := cell_blk hV0.m rfl
          have hal := c_take _ hX1.map ps pl (by omega)
          have hyl : (turnX xs ps pl 0 1).length ≤ 1024 := by rw [turnX_length]; exact hxl
          have hrl := fun (V : World) => c_rtake V hxl ps pl (by omega) (by omega) (by omega) (by omega)
          generalize turnX xs ps pl 0 1 = ys at *
          generalize turnE xs ps pl 0 = ec at *
          unfold ext at hal hrl
          go_wp2_with (go_at_call 17; refine hal.mono ?_; rintro e W3 ⟨rfl, hm3, hf3⟩; refine stop_here ?_)
          unfold Hid
          obtain ⟨hd3, hn3⟩ := hX1.half hf3
          have hgF := hX1.lt
          have hV3 := hV0.keep hf3 (fun k hk => by omega)
          have m2 : W3.cell? ⟨M, 2, none⟩ = some (.int .i64 ps) := cell_blk hV3.m rfl
          have m3 : W3.cell? ⟨M, 3, none⟩ = some (.int .i64 pl) := cell_blk hV3.m rfl
          have hrm3 := range_all hd3
          clear hal hf3
          go_wp2_with (first
            | (refine wpList_load_as rfl 31 (.tmp 6) rfl F 0 rfl (rmv xs) _ rfl hrm3 Try.rowR (sizeR hxl) ?_)
            | (go_at_call 18; refine (hrl _).mono ?_; rintro e W5 ⟨rfl, hn5⟩; refine stop_here ?_))
          unfold Hid
          have hd5 := hd3.nw hn5
          obtain ⟨hX6, hf6⟩ := run_both (hm3.nw hn5) hd5 (nw_trans hn3 hn5) hX1.lt hX1.ge
          have hV6 := (hV3.nw hn5).keep hf6 (fun k hk => by omega)
          generalize hWd : W5.setRow F (rmc ys).toArray = W6 at *
          have hWdH : Hid (W5.setRow F (rmc ys).toArray = W6) := hWd
          clear hWd hrm3 hn3 hm3 hV3 hn5 hf6 m2 m3 hrl
          go_wp2_with (refine wpList_store_all rfl 31 (.tmp 6) _ rfl F rfl (rmv ys) rfl _ rfl _ 31 hd5 (fitR hyl hxl) (rmc_one _) (sizeR hyl) ?_; rw [hWdH.out])
          go_meet
          case rel => exact ⟨ys, [], (0, 0), ec, rfl, rfl, esl_empty _ _ _, esl_empty _ _ _, by simp, hV6, hX6⟩
      by_cases hc3 : ak = 3
      · subst hc3
        as_aux_lemma =>
          have m2 : WM.cell? ⟨M, 2, none⟩ = some (.int .i64 ps) := cell_blk hV0.m rfl
          have m3 : WM.cell? ⟨M, 3, none⟩ = some (.int .i64 pl) := cell_blk hV0.m rfl
          have hal := c_free _ hX1.map ps pl (by omega)
          have hyl : (turnX xs ps pl 1 0).length ≤ 1024 := by rw [turnX_length]; exact hxl
          have hrl := fun (V : World) => c_rfree V hxl ps pl (by omega) (by omega) (by omega) (by omega)
          generalize turnX xs ps pl 1 0 = ys at *
          generalize turnE xs ps pl 1 = ec at *
          unfold ext at hal hrl
          go_wp2_with (go_at_call 19; refine hal.mono ?_; rintro e W3 ⟨rfl, hm3, hf3⟩; refine stop_here ?_)
          unfold Hid
          obtain ⟨hd3, hn3⟩ := hX1.half hf3
          have hgF := hX1.lt
          have hV3 := hV0.keep hf3 (fun k hk => by omega)
          have m2 : W3.cell? ⟨M, 2, none⟩ = some (.int .i64 ps) := cell_blk hV3.m rfl
          have m3 : W3.cell? ⟨M, 3, none⟩ = some (.int .i64 pl) := cell_blk hV3.m rfl
          have hrm3 := range_all hd3
          clear hal hf3
          go_wp2_with (first
            | (refine wpList_load_as rfl 31 (.tmp 6) rfl F 0 rfl (rmv xs) _ rfl hrm3 Try.rowR (sizeR hxl) ?_)
            | (go_at_call 20; refine (hrl _).mono ?_; rintro e W5 ⟨rfl, hn5⟩; refine stop_here ?_))
          unfold Hid
          have hd5 := hd3.nw hn5
          obtain ⟨hX6, hf6⟩ := run_both (hm3.nw hn5) hd5 (nw_trans hn3 hn5) hX1.lt hX1.ge
          have hV6 := (hV3.nw hn5).keep hf6 (fun k hk => by omega)
          generalize hWd : W5.setRow F (rmc ys).toArray = W6 at *
          have hWdH : Hid (W5.setRow F (rmc ys).toArray = W6) := hWd
          clear hWd hrm3 hn3 hm3 hV3 hn5 hf6 m2 m3 hrl
          go_wp2_with (refine wpList_store_all rfl 31 (.tmp 6) _ rfl F rfl (rmv ys) rfl _ rfl _ 31 hd5 (fitR hyl hxl) (rmc_one _) (sizeR hyl) ?_; rw [hWdH.out])
          go_meet
          case rel => exact ⟨ys, [], (0, 0), ec, rfl, rfl, esl_empty _ _ _, esl_empty _ _ _, by simp, hV6, hX6⟩
      by_cases hc4 : ak = 4
      · subst hc4
        as_aux_lemma =>
          have m2 : WM.cell? ⟨M, 2, none⟩ = some (.int .i64 ps) := cell_blk hV0.m rfl
          have m3 : WM.cell? ⟨M, 3, none⟩ = some (.int .i64 pl) := cell_blk hV0.m rfl
          have hal := c_later _ hX1.map ps pl (by omega)
          have hyl : (turnX xs ps pl 1 2).length ≤ 1024 := by rw [turnX_length]; exact hxl
          have hrl := fun (V : World) => c_rlater V hxl ps pl (by omega) (by omega) (by omega) (by omega)
          generalize turnX xs ps pl 1 2 = ys at *
          generalize turnE xs ps pl 1 = ec at *
          unfold ext at hal hrl
          go_wp2_with (go_at_call 21; refine hal.mono ?_; rintro e W3 ⟨rfl, hm3, hf3⟩; refine stop_here ?_)
          unfold Hid
          obtain ⟨hd3, hn3⟩ := hX1.half hf3
          have hgF := hX1.lt
          have hV3 := hV0.keep hf3 (fun k hk => by omega)
          have m2 : W3.cell? ⟨M, 2, none⟩ = some (.int .i64 ps) := cell_blk hV3.m rfl
          have m3 : W3.cell? ⟨M, 3, none⟩ = some (.int .i64 pl) := cell_blk hV3.m rfl
          have hrm3 := range_all hd3
          clear hal hf3
          go_wp2_with (first
            | (refine wpList_load_as rfl 31 (.tmp 6) rfl F 0 rfl (rmv xs) _ rfl hrm3 Try.rowR (sizeR hxl) ?_)
            | (go_at_call 22; refine (hrl _).mono ?_; rintro e W5 ⟨rfl, hn5⟩; refine stop_here ?_))
          unfold Hid
          have hd5 := hd3.nw hn5
          obtain ⟨hX6, hf6⟩ := run_both (hm3.nw hn5) hd5 (nw_trans hn3 hn5) hX1.lt hX1.ge
          have hV6 := (hV3.nw hn5).keep hf6 (fun k hk => by omega)
          generalize hWd : W5.setRow F (rmc ys).toArray = W6 at *
          have hWdH : Hid (W5.setRow F (rmc ys).toArray = W6) := hWd
          clear hWd hrm3 hn3 hm3 hV3 hn5 hf6 m2 m3 hrl
          go_wp2_with (refine wpList_store_all rfl 31 (.tmp 6) _ rfl F rfl (rmv ys) rfl _ rfl _ 31 hd5 (fitR hyl hxl) (rmc_one _) (sizeR hyl) ?_; rw [hWdH.out])
          go_meet
          case rel => exact ⟨ys, [], (0, 0), ec, rfl, rfl, esl_empty _ _ _, esl_empty _ _ _, by simp, hV6, hX6⟩
      by_cases hc5 : ak = 5
      · subst hc5
        as_aux_lemma =>
          have hal := c_commit _ hX1.map
          have hyl : (commitX xs).length ≤ 1024 := by rw [commitX_length]; exact hxl
          have hrl := fun (V : World) => c_rcommit V hxl
          generalize commitX xs = ys at *
          go_wp2_with (go_at_call 23; refine hal.mono ?_; rintro e W3 ⟨rfl, hm3, hf3⟩; refine stop_here ?_)
          unfold Hid
          obtain ⟨hd3, hn3⟩ := hX1.half hf3
          have hgF := hX1.lt
          have hV3 := hV0.keep hf3 (fun k hk => by omega)
          have hrm3 := range_all hd3
          clear hal hf3
          go_wp2_with (first
            | (refine wpList_load_as rfl 31 (.tmp 6) rfl F 0 rfl (rmv xs) _ rfl hrm3 Try.rowR (sizeR hxl) ?_)
            | (go_at_call 24; refine (hrl _).mono ?_; rintro e W5 ⟨rfl, hn5⟩; refine stop_here ?_))
          unfold Hid
          have hd5 := hd3.nw hn5
          obtain ⟨hX6, hf6⟩ := run_both (hm3.nw hn5) hd5 (nw_trans hn3 hn5) hX1.lt hX1.ge
          have hV6 := (hV3.nw hn5).keep hf6 (fun k hk => by omega)
          generalize hWd : W5.setRow F (rmc ys).toArray = W6 at *
          have hWdH : Hid (W5.setRow F (rmc ys).toArray = W6) := hWd
          clear hWd hrm3 hn3 hm3 hV3 hn5 hf6 hrl
          go_wp2_with (refine wpList_store_all rfl 31 (.tmp 6) _ rfl F rfl (rmv ys) rfl _ rfl _ 31 hd5 (fitR hyl hxl) (rmc_one _) (sizeR hyl) ?_; rw [hWdH.out])
          go_meet
          case rel => exact ⟨ys, [], (0, 0), 0, rfl, rfl, esl_empty _ _ _, esl_empty _ _ _, by simp, hV6, hX6⟩
      have b0 : (ak == 0) = false := by simpa using hc0
      have b1 : (ak == 1) = false := by simpa using hc1
      have b2 : (ak == 2) = false := by simpa using hc2
      have b3 : (ak == 3) = false := by simpa using hc3
      have b4 : (ak == 4) = false := by simpa using hc4
      have b5 : (ak == 5) = false := by simpa using hc5
      clear hc0 hc1 hc2 hc3 hc4 hc5
      go_wp2
      go_meet
      case rel => exact ⟨xs, [], (0, 0), 0, rfl, rfl, hl0, hk0, by simp, hV0, hX1⟩
    case rest =>
      clear hX1 hV0 hl0 hk0 hxl okk okn oks okl
      obtain ⟨xs, es, p, z, rfl, rfl, hE, hG, hes, hV, hX⟩ := hcut
      obtain ⟨lo, lc, rfl, hlc1, hlc2⟩ := hE.form
      obtain ⟨ko, kc, rfl, hkc1, hkc2⟩ := hG.form
      have hxl := hX.map.n
      have hSof : ∀ V : World, Vr V M X Y #[.int .i64 ak, .int .i64 an, .int .i64 ps, .int .i64 pl] p p → RunAt w V b g F xs → (fun w' : World => w'.cell? ⟨X, 0, none⟩ = some (.int .i64 (p.1 : Int)) ∧ w'.cell? ⟨X, 1, none⟩ = some (.int .i64 (p.2 : Int)) ∧ w'.cell? ⟨Y, 0, none⟩ = some (.int .i64 (p.1 : Int)) ∧ w'.cell? ⟨Y, 1, none⟩ = some (.int .i64 (p.2 : Int)) ∧ w'.rangeAt F 0 (rmc xs)) V := fun V h1 h2 => ⟨cell_blk h1.x rfl, cell_blk h1.x rfl, cell_blk h1.y rfl, cell_blk h1.y rfl, range_all h2.doc⟩
      have hX0 : RunAt w wc.drew b g F xs := ⟨⟨hX.map.obj, hX.map.st, hX.map.n⟩, hX.doc, Fr.drew hX.nw, hX.lt, hX.ge⟩
      have hV0 : Vr wc.drew M X Y #[.int .i64 ak, .int .i64 an, .int .i64 ps, .int .i64 pl] p p := ⟨hV.m, hV.x, hV.y, hV.lt⟩
      have hS0 := hSof _ hV0 hX0
      have hE0 : ESl (fun _ => True) wc.drew (.slice lo es.length lc) es := hE
      have hG0 : ESl (fun _ => True) wc.drew (.slice ko es.length kc) es := hG
      have hr0 := runs_length 0 xs
      have hr2 := runs_length 2 xs
      have hzz : (z != z) = false := by simp
      obtain ⟨cq, hcq⟩ : ∃ cq : Nat, Hid (xs.count 0 = cq) := ⟨_, rfl⟩
      have hcz : (((cq : Nat) : Int) != ((cq : Nat) : Int)) = false := by simp
      have hsm := c_same wc.drew hE0 hG0 (by omega) (by omega)
      simp only [decide_true] at hsm
      clear hX hV hE hG
      go_upto_region 32 with fail
      refine wp_region_ord [] 36 [(0, true), (1, true), (2, true), (3, true), (4, true), (5, true), (6, false), (7, true), (8, true), (9, true), (10, true), (11, true), (12, true), (13, true), (14, true), (15, true), (17, true), (16, false), (18, false), (19, true), (20, true), (21, true), (22, true), (24, true), (23, false), (25, false), (26, false), (27, true), (28, true), (29, true), (30, true), (32, true), (31, false), (33, false), (34, false), (35, true)] (fun w' : World => w'.cell? ⟨X, 0, none⟩ = some (.int .i64 (p.1 : Int)) ∧ w'.cell? ⟨X, 1, none⟩ = some (.int .i64 (p.2 : Int)) ∧ w'.cell? ⟨Y, 0, none⟩ = some (.int .i64 (p.1 : Int)) ∧ w'.cell? ⟨Y, 1, none⟩ = some (.int .i64 (p.2 : Int)) ∧ w'.rangeAt F 0 (rmc xs)) (by kernel_rfl) (by kernel_rfl) ?_
      refine ord_quietL _ ?_ rfl hS0 rfl ?_ ?_
      rotate_left
      · rintro w' ⟨s0, s1, s2, s3, s4⟩; go_simp; rfl
      simp only [Act.put, List.setIfInBounds_toArray, List.set_cons_zero, List.set_cons_succ]
      refine ord_quietL _ ?_ rfl hS0 rfl ?_ ?_
      rotate_left
      · rintro w' ⟨s0, s1, s2, s3, s4⟩; go_simp; rfl
      simp only [Act.put, List.setIfInBounds_toArray, List.set_cons_zero, List.set_cons_succ]
      refine ord_quietL _ (.bool false) rfl hS0 rfl ?_ ?_
      · rintro w' ⟨s0, s1, s2, s3, s4⟩; go_simp
      simp only [Act.put, List.setIfInBounds_toArray, List.set_cons_zero, List.set_cons_succ]
      refine ord_quietL _ ?_ rfl hS0 rfl ?_ ?_
      rotate_left
      · rintro w' ⟨s0, s1, s2, s3, s4⟩; go_simp; rfl
      simp only [Act.put, List.setIfInBounds_toArray, List.set_cons_zero, List.set_cons_succ]
      refine ord_quietL _ ?_ rfl hS0 rfl ?_ ?_
      rotate_left
      · rintro w' ⟨s0, s1, s2, s3, s4⟩; go_simp; rfl
      simp only [Act.put, List.setIfInBounds_toArray, List.set_cons_zero, List.set_cons_succ]
      refine ord_quietL _ ?_ rfl hS0 rfl ?_ ?_
      rotate_left
      · rintro w' ⟨s0, s1, s2, s3, s4⟩; go_simp; rfl
      simp only [Act.put, List.setIfInBounds_toArray, List.set_cons_zero, List.set_cons_succ]
      refine ord_actL _ rfl (fun K1 hK1 => ?_)
      go_wp2_with (go_at_call 25; refine (hsm).mono ?_; rintro e V1 ⟨rfl, hn1⟩; refine stop_here ?_)
      unfold Hid
      have hX1 := hX0.keep hn1
      have hV1 := hV0.nw hn1
      have hS1 := hSof _ hV1 hX1
      go_wp2
      refine hK1 _ _ hS1 ?_
      clear hK1 K1
      refine ord_quietL _ ?_ rfl hS1 rfl ?_ ?_
      rotate_left
      · rintro w' ⟨s0, s1, s2, s3, s4⟩; go_simp; rfl
      simp only [Act.put, List.setIfInBounds_toArray, List.set_cons_zero, List.set_cons_succ]
      refine ord_quietL _ ?_ rfl hS1 rfl ?_ ?_
      rotate_left
      · rintro w' ⟨s0, s1, s2, s3, s4⟩; go_simp; rfl
      simp only [Act.put, List.setIfInBounds_toArray, List.set_cons_zero, List.set_cons_succ]
      refine ord_quietL _ ?_ rfl hS1 rfl ?_ ?_
      rotate_left
      · rintro w' ⟨s0, s1, s2, s3, s4⟩; go_simp; rfl
      simp only [Act.put, List.setIfInBounds_toArray, List.set_cons_zero, List.set_cons_succ]
      refine ord_quietL _ ?_ rfl hS1 rfl ?_ ?_
      rotate_left
      · rintro w' ⟨s0, s1, s2, s3, s4⟩; go_simp; rfl
      simp only [Act.put, List.setIfInBounds_toArray, List.set_cons_zero, List.set_cons_succ]
      refine ord_quietL _ ?_ rfl hS1 rfl ?_ ?_
      rotate_left
      · rintro w' ⟨s0, s1, s2, s3, s4⟩; go_simp; rfl
      simp only [Act.put, List.setIfInBounds_toArray, List.set_cons_zero, List.set_cons_succ]
      refine ord_quietL _ ?_ rfl hS1 rfl ?_ ?_
      rotate_left
      · rintro w' ⟨s0, s1, s2, s3, s4⟩; go_simp; rfl
      simp only [Act.put, List.setIfInBounds_toArray, List.set_cons_zero, List.set_cons_succ]
      refine ord_quietL _ ?_ rfl hS1 rfl ?_ ?_
      rotate_left
      · rintro w' ⟨s0, s1, s2, s3, s4⟩; go_simp; rfl
      simp only [Act.put, List.setIfInBounds_toArray, List.set_cons_zero, List.set_cons_succ]
      refine ord_quietL _ ?_ rfl hS1 rfl ?_ ?_
      rotate_left
      · rintro w' ⟨s0, s1, s2, s3, s4⟩; go_simp; rfl
      simp only [Act.put, List.setIfInBounds_toArray, List.set_cons_zero, List.set_cons_succ]
      refine ord_quietL _ ?_ rfl hS1 rfl ?_ ?_
      rotate_left
      · rintro w' ⟨s0, s1, s2, s3, s4⟩; go_simp; rfl
      simp only [Act.put, List.setIfInBounds_toArray, List.set_cons_zero, List.set_cons_succ]
      refine ord_quietL _ (rmv xs) rfl hS1 rfl ?_ ?_
      · rintro w' ⟨s0, s1, s2, s3, s4⟩
        exact run_load_quiet 31 _ w' rfl F 0 rfl _ s4 Try.rowR (sizeR hxl)
      simp only [Act.put, List.setIfInBounds_toArray, List.set_cons_zero, List.set_cons_succ]
      refine ord_actL _ rfl (fun K1 hK1 => ?_)
      go_wp2_with (go_at_call 10; refine (c_count _ hX1.map).mono ?_; rw [hcq.out]; rintro e V2 ⟨rfl, hvv⟩; refine stop_here ?_)
      unfold Hid
      have hn2 : Nw V1 V2 := by rw [← hvv]; exact nw_refl _
      have hX2 := hX1.keep hn2
      have hV2 := hV1.nw hn2
      have hS2 := hSof _ hV2 hX2
      go_wp2
      refine hK1 _ _ hS2 ?_
      clear hK1 K1
      refine ord_actL _ rfl (fun K1 hK1 => ?_)
      go_wp2_with (go_at_call 26; refine (c_rcount _ hxl).mono ?_; rw [hcq.out]; rintro e V3 ⟨rfl, hn3⟩; refine stop_here ?_)
      unfold Hid
      have hX3 := hX2.keep hn3
      have hV3 := hV2.nw hn3
      have hS3 := hSof _ hV3 hX3
      go_wp2
      refine hK1 _ _ hS3 ?_
      clear hK1 K1
      refine ord_quietL _ ?_ rfl hS3 rfl ?_ ?_
      rotate_left
      · rintro w' ⟨s0, s1, s2, s3, s4⟩; go_simp; rfl
      simp only [Act.put, List.setIfInBounds_toArray, List.set_cons_zero, List.set_cons_succ]
      refine ord_quietL _ ?_ rfl hS3 rfl ?_ ?_
      rotate_left
      · rintro w' ⟨s0, s1, s2, s3, s4⟩; go_simp; rfl
      simp only [Act.put, List.setIfInBounds_toArray, List.set_cons_zero, List.set_cons_succ]
      refine ord_quietL _ ?_ rfl hS3 rfl ?_ ?_
      rotate_left
      · rintro w' ⟨s0, s1, s2, s3, s4⟩; go_simp; rfl
      simp only [Act.put, List.setIfInBounds_toArray, List.set_cons_zero, List.set_cons_succ]
      refine ord_quietL _ ?_ rfl hS3 rfl ?_ ?_
      rotate_left
      · rintro w' ⟨s0, s1, s2, s3, s4⟩; go_simp; rfl
      simp only [Act.put, List.setIfInBounds_toArray, List.set_cons_zero, List.set_cons_succ]
      refine ord_quietL _ (rmv xs) rfl hS3 rfl ?_ ?_
      · rintro w' ⟨s0, s1, s2, s3, s4⟩
        exact run_load_quiet 31 _ w' rfl F 0 rfl _ s4 Try.rowR (sizeR hxl)
      simp only [Act.put, List.setIfInBounds_toArray, List.set_cons_zero, List.set_cons_succ]
      refine ord_actL _ rfl (fun K1 hK1 => ?_)
      go_wp2_with (go_at_call 11; refine (c_list _ hX3.map).mono ?_; rintro e V4 ⟨va, rfl, hra, hn4⟩; refine stop_here ?_)
      unfold Hid
      have hEa := hra.esl
      obtain ⟨ao1, ac1, rfl, ha1, ha2⟩ := hEa.form
      clear hra
      generalize hrr : runs 0 xs = rs at *
      have hrrH : Hid (runs 0 xs = rs) := hrr
      clear hrr
      have hX4 := hX3.keep hn4
      have hV4 := hV3.nw hn4
      have hS4 := hSof _ hV4 hX4
      go_wp2
      refine hK1 _ _ hS4 ?_
      clear hK1 K1
      refine ord_actL _ rfl (fun K1 hK1 => ?_)
      go_wp2_with (go_at_call 27; refine (c_rlist 0 _ hxl).mono ?_; rw [hrrH.out]; rintro e V5 ⟨vb, rfl, hrb, hn5⟩; refine stop_here ?_)
      unfold Hid
      have hEb := hrb.esl
      obtain ⟨bo1, bc1, rfl, hb1, hb2⟩ := hEb.form
      clear hrb
      have hEa' := hEa.keep (X' := fun _ => True) hn5 (fun _ _ => id) (fun _ _ _ => trivial)
      have hsm := c_same _ hEa' hEb (by omega) (by omega)
      simp only [decide_true] at hsm
      clear hEa hEa' hEb
      have hX5 := hX4.keep hn5
      have hV5 := hV4.nw hn5
      have hS5 := hSof _ hV5 hX5
      go_wp2
      refine hK1 _ _ hS5 ?_
      clear hK1 K1
      refine ord_actL _ rfl (fun K1 hK1 => ?_)
      go_wp2_with (go_at_call 25; refine (hsm).mono ?_; rintro e V6 ⟨rfl, hn6⟩; refine stop_here ?_)
      unfold Hid
      clear hsm
      clear hrrH ha1 ha2 hb1 hb2
      have hX6 := hX5.keep hn6
      have hV6 := hV5.nw hn6
      have hS6 := hSof _ hV6 hX6
      go_wp2
      refine hK1 _ _ hS6 ?_
      clear hK1 K1
      refine ord_quietL _ ?_ rfl hS6 rfl ?_ ?_
      rotate_left
      · rintro w' ⟨s0, s1, s2, s3, s4⟩; go_simp; rfl
      simp only [Act.put, List.setIfInBounds_toArray, List.set_cons_zero, List.set_cons_succ]
      refine ord_quietL _ ?_ rfl hS6 rfl ?_ ?_
      rotate_left
      · rintro w' ⟨s0, s1, s2, s3, s4⟩; go_simp; rfl
      simp only [Act.put, List.setIfInBounds_toArray, List.set_cons_zero, List.set_cons_succ]
      refine ord_quietL _ ?_ rfl hS6 rfl ?_ ?_
      rotate_left
      · rintro w' ⟨s0, s1, s2, s3, s4⟩; go_simp; rfl
      simp only [Act.put, List.setIfInBounds_toArray, List.set_cons_zero, List.set_cons_succ]
      refine ord_quietL _ ?_ rfl hS6 rfl ?_ ?_
      rotate_left
      · rintro w' ⟨s0, s1, s2, s3, s4⟩; go_simp; rfl
      simp only [Act.put, List.setIfInBounds_toArray, List.set_cons_zero, List.set_cons_succ]
      refine ord_quietL _ (rmv xs) rfl hS6 rfl ?_ ?_
      · rintro w' ⟨s0, s1, s2, s3, s4⟩
        exact run_load_quiet 31 _ w' rfl F 0 rfl _ s4 Try.rowR (sizeR hxl)
      simp only [Act.put, List.setIfInBounds_toArray, List.set_cons_zero, List.set_cons_succ]
      refine ord_actL _ rfl (fun K1 hK1 => ?_)
      go_wp2_with (go_at_call 28; refine (c_waiting _ hX6.map).mono ?_; rintro e V7 ⟨va, rfl, hra, hn7⟩; refine stop_here ?_)
      unfold Hid
      have hEa := hra.esl
      obtain ⟨ao1, ac1, rfl, ha1, ha2⟩ := hEa.form
      clear hra
      generalize hrr : runs 2 xs = rs at *
      have hrrH : Hid (runs 2 xs = rs) := hrr
      clear hrr
      have hX7 := hX6.keep hn7
      have hV7 := hV6.nw hn7
      have hS7 := hSof _ hV7 hX7
      go_wp2
      refine hK1 _ _ hS7 ?_
      clear hK1 K1
      refine ord_actL _ rfl (fun K1 hK1 => ?_)
      go_wp2_with (go_at_call 27; refine (c_rlist 2 _ hxl).mono ?_; rw [hrrH.out]; rintro e V8 ⟨vb, rfl, hrb, hn8⟩; refine stop_here ?_)
      unfold Hid
      have hEb := hrb.esl
      obtain ⟨bo1, bc1, rfl, hb1, hb2⟩ := hEb.form
      clear hrb
      have hEa' := hEa.keep (X' := fun _ => True) hn8 (fun _ _ => id) (fun _ _ _ => trivial)
      have hsm := c_same _ hEa' hEb (by omega) (by omega)
      simp only [decide_true] at hsm
      clear hEa hEa' hEb
      have hX8 := hX7.keep hn8
      have hV8 := hV7.nw hn8
      have hS8 := hSof _ hV8 hX8
      go_wp2
      refine hK1 _ _ hS8 ?_
      clear hK1 K1
      refine ord_actL _ rfl (fun K1 hK1 => ?_)
      go_wp2_with (go_at_call 25; refine (hsm).mono ?_; rintro e V9 ⟨rfl, hn9⟩; refine stop_here ?_)
      unfold Hid
      clear hsm
      clear hrrH ha1 ha2 hb1 hb2
      have hX9 := hX8.keep hn9
      have hV9 := hV8.nw hn9
      have hS9 := hSof _ hV9 hX9
      go_wp2
      refine hK1 _ _ hS9 ?_
      clear hK1 K1
      refine ord_quietL _ ?_ rfl hS9 rfl ?_ ?_
      rotate_left
      · rintro w' ⟨s0, s1, s2, s3, s4⟩; go_simp; rfl
      simp only [Act.put, List.setIfInBounds_toArray, List.set_cons_zero, List.set_cons_succ]
      refine ord_tail ?_
      simp only [List.drop_succ_cons, List.drop_zero]
      go_wp2
      go_roundw
      case rel => exact ⟨k + 1, xs, by omega, by go_num, hX9⟩
      case measure => simp [intOf]; omega

set_option maxRecDepth 100000 in
theorem lifted (os : Os) (started : os.Started) (H : Type) (enc : TypeId × Value → H) :
    ReturnsInHanded {} Try.checked os 4 .any (Rows.extentRunsSpec.pre6 enc Try.prog Try.f4 Rows.extentRunsRow.domain false) (Rows.extentRunsSpec.post enc Try.prog Try.f4 false true false false) := by
  refine returnsInHanded_of_change_sized (C := Try.checked) own started (by kernel_rfl) Try.func4
    (ChangeSpec.witness6 (enc := enc) (C := Try.checked) false ⟨#[], #[.int .i64 0, .slice none 0 0], []⟩ 8 (by kernel_rfl) (by kernel_rfl) (by kernel_rfl) (by kernel_rfl)) ?_
  intro W base args ds gs before hval0 hW hcnd hsz0 _
  have hval : ∀ (j : Nat) t v, Try.f4.params[j]? = some t → args[j]? = some v → Value.okWide Try.prog W .any base t v := hval0
  have hsz : (DataW.weightsEach Try.prog (Try.f4.params.toList ++ Rows.extentRunsSpec.plain.varTypes Try.prog) (ds ++ gs)).all (· ≤ reachBytes) = true := hsz0
  have hW' := hW
  obtain ⟨p, q, hA0, hV, rfl, hfz, hnd⟩ := hW
  have hA : DataW.TrodAll enc Try.prog W 0 (fun _ => true) true Try.f4.params.toList args.toList ds p := hA0
  rw [Try.params4] at hA hval hsz
  obtain ⟨v0, vs0, d0, ds0, p0, q0, hargs, rfl, rfl, h0, r0⟩ := trodAll_cons hA
  obtain ⟨v1, vs1, d1, ds1, p1, q1, rfl, rfl, rfl, h1, r1⟩ := trodAll_cons r0
  obtain ⟨rfl, rfl, rfl⟩ := trodAll_nil r1
  obtain rfl : args = #[v0, v1] := by cases args; simp_all
  obtain ⟨rfl, rfl⟩ := trodVars_none hV
  obtain ⟨a0, rfl, rfl, rfl, w0⟩ := open_int Try.underlying3 (hval 0 3 v0 rfl rfl) h0
  obtain ⟨a1, len1, cap1, rfl⟩ := okWide_slice Try.underlying28 (hval 1 28 v1 rfl rfl)
  have k1 := h1
  have lt1 : ∀ x ∈ p1, x.block < W.heap.size := by obtain ⟨m, hm⟩ := k1; exact DataW.trod_lt m _ _ _ hm
  obtain ⟨x1, w1, l1⟩ : ∃ xs : List EAct, EActsAt W.heap.size W (.slice a1 len1 cap1) xs ∧ xs.length ≤ 140737488351232 := by
    obtain ⟨fuel, hf⟩ := h1
    exact open_eacts (v := .slice a1 len1 cap1) hf (fun n hn => by have := List.all_eq_true.1 hsz n (DataW.weights_mem_each (j := 1) (t := 28) rfl rfl n hn); simpa using this)
  clear hA0 hval0
  refine (walk W a0 w0 _ x1 w1 l1).mono fun e W' ⟨he, bel⟩ => ?_
  subst he
  exact ⟨_, rfl, _, _, _, [], _, [], hW', trodAll_mk1 (shut_bool Try.underlying4 _), (trodAll_cons_mk (shut_int Try.underlying3 w0) (trodAll_cons_mk (Below.trod laidOut (by kernel_rfl) (of_decide_eq_true (by kernel_rfl)) k1 bel lt1) trodAll_mk0)), rfl, bel.frame _, fun h => by cases h⟩

theorem over : Rows.extentRunsRow.holds Try.pinned (OpenSpec.ofChange Rows.extentRunsSpec) :=
  OpenClaim.holds_of_wide 4 Try.f4 rfl rfl rfl rfl rfl rfl rfl ⟨rfl, rfl, rfl, rfl, rfl⟩ rfl rfl rfl rfl rfl (by kernel_rfl) Try.func4 (by kernel_rfl)
    (of_decide_eq_true (by kernel_rfl)) (by unfold Func.isWrapper; first | (rw [if_pos (by decide +kernel)]; kernel_rfl) | (rw [if_neg (by decide +kernel)]; exact ⟨rfl, rfl⟩))
    (fun os started H enc _ => lifted os started H enc)
end Go.Proofs.Ytelobmdlnkkbkaa.extentRuns
namespace Go.Proofs.Ytelobmdlnkkbkaa
/-- The given statement. -/
theorem extentRuns_holds : Rows.ExtentRunsSaid := extentRuns.over
end Go.Proofs.Ytelobmdlnkkbkaa
