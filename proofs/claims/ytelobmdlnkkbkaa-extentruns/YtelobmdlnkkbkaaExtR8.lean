/-
  The document's All.
-/
import Derived.Test.YtelobmdlnkkbkaaExtR7
namespace Go.Proofs.Ytelobmdlnkkbkaa
set_option linter.unusedVariables false
set_option linter.unusedSimpArgs false
set_option maxRecDepth 20000
open Go.RowKit

theorem results_cell1t {P : Program} {W : World} {fn : Func} {p u t : Tmp} {ty : TypeId} (h : fn.results = #[.cell p ty, .tmp u, .tmp t]) (tmps : Array Value) (g : Nat) (cs : List Value) (v : Value) (hv : v = .agg cs.toArray)
    (hp : tmps.getD p undef = .pointer (some ⟨g, 0, none⟩)) (hc : W.rangeAt g 0 cs) (hu : (P.underlying ty).map TypeDesc.isRow = some true) (hi : (P.info? ty).map (·.size) = some cs.length) :
    (results fn tmps).run P W = .ok (.tuple #[v, tmps.getD u undef, tmps.getD t undef]) W := by
  subst hv
  have hp' : tmps[p]?.getD undef = .pointer (some ⟨g, 0, none⟩) := by simpa using hp
  cases h1 : P.underlying ty with
  | none => simp [h1] at hu
  | some d => simp [results, h, hp', asAddr, run_loadVar_mid W g 0 ty cs d hc h1 (by simpa [h1] using hu) hi]

/-- The variables of the document's All: the map, the result's map. -/
structure AV (w V : World) (ys : List UInt8) : Prop where
  m : RAt V w.heap.size ys
  r : RAt V (w.heap.size + 1) []
  nw : Nw w V

theorem AV.keep {w V V' : World} {xs : List UInt8} (h : AV w V xs) {T : Nat → Prop} (hf : Fr T V V') (hT : ∀ k, T k → w.heap.size + 1 < k) : AV w V' xs :=
  ⟨(hf.block _ (heap_lt h.m) (fun ht => by have := hT _ ht; omega)).trans h.m, (hf.block _ (heap_lt h.r) (fun ht => by have := hT _ ht; omega)).trans h.r, Fr.trans h.nw hf (fun k hk => .inr (by have := hT k hk; omega))⟩

theorem AV.nw' {w V V' : World} {xs : List UInt8} (h : AV w V xs) (hf : Nw V V') : AV w V' xs := h.keep hf (fun _ => False.elim)

theorem aV (w : World) (xs : List UInt8) : AV w ((w.alloc (.cells (rmc xs).toArray 31)).alloc (.cells (rmc []).toArray 31)) xs :=
  ⟨heap_alloc2_old w _ _, heap_alloc2_new w _ _, Fr.alloc (Fr.alloc (Fr.refl _ w) _) _⟩

theorem AV.ret {w V : World} {xs : List UInt8} (h : AV w V xs) (ys : List UInt8) : RAt (V.setRow (w.heap.size + 1) (rmc ys).toArray) (w.heap.size + 1) ys ∧ Nw w (V.setRow (w.heap.size + 1) (rmc ys).toArray) ∧ Fr (fun k => k = w.heap.size + 1) V (V.setRow (w.heap.size + 1) (rmc ys).toArray) :=
  ⟨setRow_heap V _ _ _ 31 _ h.r, Fr.setRow h.nw (.inr (by omega)) _, Fr.setRow (S := fun k => k = w.heap.size + 1) (g := w.heap.size + 1) (Fr.refl _ V) (.inl rfl) _⟩

theorem AV.turn {w V : World} {xs : List UInt8} (h : AV w V xs) (ys : List UInt8) : AV w (V.setRow w.heap.size (rmc ys).toArray) ys ∧ Fr (fun k => k = w.heap.size) V (V.setRow w.heap.size (rmc ys).toArray) := by
  have f : Fr (fun k => k = w.heap.size) V (V.setRow w.heap.size (rmc ys).toArray) := Fr.setRow (S := fun k => k = w.heap.size) (g := w.heap.size) (Fr.refl _ V) (.inl rfl) _
  exact ⟨⟨setRow_heap V _ _ _ 31 _ h.m, (f.block _ (heap_lt h.r) (by omega)).trans h.r, Fr.trans h.nw f (fun k hk => .inr (by omega))⟩, f⟩

set_option maxRecDepth 100000 in
set_option maxHeartbeats 3200000 in
theorem c_rall {xs : List UInt8} (w : World) (hx : xs.length ≤ 1024) (n : Int) (hn2 : n ≤ 9223372036854775807) :
    Calls Try.prog 16 #[rmv xs, .int .i64 n] w fun e w' => ∃ v, e = .returned (.tuple #[rmv (allM xs n), v, .int .i64 (allE xs n)]) ∧ Row w.heap.size w' v (allV xs n) ∧ Nw w w' := by
  obtain ⟨i0, hj, hj0, hj1, hj2⟩ := info_parts3 Try.infoE
  have hA := aV w xs
  generalize hV : (w.alloc (.cells (rmc xs).toArray 31)).alloc (.cells (rmc []).toArray 31) = V at *
  have hVH : Hid ((w.alloc (.cells (rmc xs).toArray 31)).alloc (.cells (rmc []).toArray 31) = V) := hV
  clear hV
  have hrm := range_all hA.m
  have hcn := c_rcount V hx
  have hcl : xs.count 0 ≤ xs.length := List.count_le_length
  obtain ⟨q, hq⟩ : ∃ q : Nat, Hid (xs.count 0 = q) := ⟨_, rfl⟩
  have hq' := hq.out
  rw [hq'] at hcn
  by_cases hgt : (xs.count 0 : Int) < n
  · have e1 : allE xs n = 73 := by unfold allE; rw [if_pos hgt]
    have e2 : allV xs n = [] := by unfold allV; rw [if_pos hgt]
    have e3 : allM xs n = xs := by unfold allM; rw [if_pos hgt]
    rw [e1, e2, e3]
    rw [hq'] at hgt
    have hd : decide ((q : Int) < n) = true := decide_eq_true hgt
    clear e1 e2 e3 hq' hcl
    go_enter Try.func16, Try.ntmps16
    go_wp2_with (first
      | (refine wpList_box_agg rfl 31 (.tmp 0) rfl (rmv xs) _ rfl rfl ?_)
      | (refine wpList_alloc_agg rfl 31 rfl _ Try.zeroR ?_; rw [hVH.out]; refine stop_here ?_))
    unfold Hid
    go_upto_region 1 with fail
    go_wp2_with (first
      | (refine wpList_load_as rfl 31 (.tmp 2) rfl w.heap.size 0 rfl (rmv xs) _ rfl hrm Try.rowR (sizeR hx) ?_)
      | (go_at_call 26; refine hcn.mono ?_; rintro e V1 ⟨rfl, hn1⟩; refine stop_here ?_))
    unfold Hid
    have hA1 := hA.nw' hn1
    have hrm1 := range_all hA1.m
    have hr1 := hA1.r
    obtain ⟨r1, r2, r3⟩ := hA1.ret xs
    clear hA hrm hcn hn1 hVH
    go_upto_region 2 with fail
    go_wp2_with (first
      | (refine wpList_load_as rfl 31 (.tmp 2) rfl w.heap.size 0 rfl (rmv xs) _ rfl hrm1 Try.rowR (sizeR hx) ?_)
      | (refine wpList_store_all rfl 31 (.tmp 4) _ rfl (w.heap.size + 1) rfl (rmv xs) rfl _ rfl _ 31 hr1 (fitR hx (by simp)) (rmc_one _) (sizeR hx) ?_))
    refine bodyPost_ret (results_cell1t rfl _ (w.heap.size + 1) _ _ rfl rfl (range_all r1) Try.rowR (sizeR hx)) rfl ?_
    exact ⟨_, rfl, Row.nil _ _, r2⟩
  · have e1 : allE xs n = 0 := by unfold allE; rw [if_neg hgt]
    have e2 : allV xs n = (allX xs n.toNat).1 := by unfold allV; rw [if_neg hgt]
    have e3 : allM xs n = (allX xs n.toNat).2 := by unfold allM; rw [if_neg hgt]
    rw [e1, e2, e3]
    have hst := allAt_start xs n.toNat (by omega)
    have hn0 : n.toNat ≤ xs.length := by omega
    rw [hq'] at hgt
    have hd : decide ((q : Int) < n) = false := decide_eq_false hgt
    have hqx : q ≤ 1024 := by omega
    clear e1 e2 e3 hq'
    generalize hm : n.toNat = m at *
    have hmH : Hid (n.toNat = m) := hm
    clear hm
    go_enter Try.func16, Try.ntmps16
    go_wp2_with (first
      | (refine wpList_box_agg rfl 31 (.tmp 0) rfl (rmv xs) _ rfl rfl ?_)
      | (refine wpList_alloc_agg rfl 31 rfl _ Try.zeroR ?_; rw [hVH.out]; refine stop_here ?_))
    unfold Hid
    go_upto_region 1 with fail
    go_wp2_with (first
      | (refine wpList_load_as rfl 31 (.tmp 2) rfl w.heap.size 0 rfl (rmv xs) _ rfl hrm Try.rowR (sizeR hx) ?_)
      | (go_at_call 26; refine hcn.mono ?_; rintro e V1 ⟨rfl, hn1⟩; refine stop_here ?_))
    unfold Hid
    have hA1 := hA.nw' hn1
    have hB1 : w.heap.size + 1 < V1.heap.size := heap_lt hA1.r
    have hr0 : Row V1.heap.size (V1.alloc (.cells #[] 34)) (.slice (some ⟨V1.heap.size, 0, none⟩) 0 0) [] := World.ownsRow_lit V1 #[] 0 (Nat.le_refl _) (by decide) rfl
    have hA2 := hA1.nw' ((Fr.refl _ V1).alloc (.cells #[] 34))
    have hzB : V1.heap.size ≤ (V1.alloc (.cells #[] 34)).heap.size := by simp
    clear hA hrm hcn hn1 hVH hA1
    go_wp2
    generalize hV2 : V1.alloc (.cells #[] 34) = V2 at *
    clear hV2
    generalize V1.heap.size = B at *
    go_loopw [1, 7] (fun t o wr => ∃ (k : Int) (ys : List UInt8) (got : List Ext), t = .int .i64 k ∧ k ≤ 1024 ∧ Row B wr o got ∧ AV w wr ys ∧ B ≤ wr.heap.size ∧ AllAt xs m ys got k.toNat) (fun t _ _ => (intOf t).toNat)
    case atStart => exact ⟨n, xs, [], rfl, by omega, hr0, hA2, hzB, by rw [hmH.out]; exact hst⟩
    case round =>
      clear hst hr0 hA2 hzB
      obtain ⟨k, ys, got, rfl, hk, hr, hA, hz, hat⟩ := hrel
      have hyl : ys.length ≤ 1024 := by rw [hat.len]; exact hx
      by_cases hk0 : 0 < k
      · obtain ⟨k, rfl⟩ : ∃ k' : Nat, k = (k' : Int) := ⟨k.toNat, by omega⟩
        simp only [Int.toNat_natCast] at hat
        have hk1 : 1 ≤ k := by omega
        have hgl2 := hat.small hn0
        obtain ⟨p1, p2, p3, p4⟩ := pick_some hk1 (by have := hat.cnt; omega : 0 < ys.count 0)
        have hst := hat.step hk1
        have hal := c_ralloc wr hyl k (by omega)
        have e2 : allocV ys k = pick ys k := by unfold allocV; rw [if_neg (by omega)]; simp
        have e3 : allocM ys k = allocX ys k := by unfold allocM; rw [if_neg (by omega)]; simp
        rw [e2, e3] at hal
        have hzl : (allocX ys k).length ≤ 1024 := by rw [allocX_length]; exact hyl
        generalize allocE ys k = ec at *
        have hrmk := range_all hA.m
        clear e2 e3 p4 hat
        generalize pick ys k = p at *
        generalize allocX ys k = zs at *
        unfold ext at hal
        go_upto_region 5 with fail
        go_wp2_with (first
          | (refine wpList_load_as rfl 31 (.tmp 2) rfl w.heap.size 0 rfl (rmv ys) _ rfl hrmk Try.rowR (sizeR hyl) ?_)
          | (go_at_call 14; refine hal.mono ?_; rintro e W3 ⟨rfl, hn3⟩; refine stop_here ?_))
        unfold Hid
        have hA3 := hA.nw' hn3
        have hr3 : Row B W3 _ got := hr.keep hn3 (fun _ _ _ => id)
        have hz3 : B ≤ W3.heap.size := by have := hn3.size; omega
        obtain ⟨ao, cap, rfl⟩ := owns_form hr
        have hrow3 : ∀ q, Value.ownBlock (.slice ao got.length cap) = some q → q < W3.heap.size := fun q hq => (hr3.lt q hq).2
        clear hA hrmk hal hn3 hr hz
        go_wp2_with (refine wpList_alloc_agg rfl 31 rfl _ Try.zeroR ?_; refine stop_here ?_)
        unfold Hid
        have hb8 : RAt ((W3.alloc (.cells (rmc []).toArray 31)).alloc (.cells #[.int .i64 0, .int .i64 0] 34)) W3.heap.size [] := heap_alloc2_old W3 _ _
        have hb9 : ((W3.alloc (.cells (rmc []).toArray 31)).alloc (.cells #[.int .i64 0, .int .i64 0] 34)).heap[W3.heap.size + 1]? = some (.cells #[.int .i64 0, .int .i64 0] 34 (0, 0)) := heap_alloc2_new W3 _ _
        have hn4 : Nw W3 ((W3.alloc (.cells (rmc []).toArray 31)).alloc (.cells #[.int .i64 0, .int .i64 0] 34)) := Fr.alloc (Fr.alloc (Fr.refl _ W3) _) _
        have hf4 : Fr (fun q => q = W3.heap.size) ((W3.alloc (.cells (rmc []).toArray 31)).alloc (.cells #[.int .i64 0, .int .i64 0] 34)) (((W3.alloc (.cells (rmc []).toArray 31)).alloc (.cells #[.int .i64 0, .int .i64 0] 34)).setRow W3.heap.size (rmc zs).toArray) := Fr.setRow (S := fun q => q = W3.heap.size) (g := W3.heap.size) (Fr.refl _ _) (.inl rfl) _
        have hn5 : Nw W3 (((W3.alloc (.cells (rmc []).toArray 31)).alloc (.cells #[.int .i64 0, .int .i64 0] 34)).setRow W3.heap.size (rmc zs).toArray) := Fr.new hn4 hf4 (fun q hq => by omega)
        have hc8 : RAt (((W3.alloc (.cells (rmc []).toArray 31)).alloc (.cells #[.int .i64 0, .int .i64 0] 34)).setRow W3.heap.size (rmc zs).toArray) W3.heap.size zs := setRow_heap _ _ _ _ 31 _ hb8
        have hc9 := (hf4.block _ (heap_lt hb9) (by omega)).trans hb9
        generalize hW4 : ((W3.alloc (.cells (rmc []).toArray 31)).alloc (.cells #[.int .i64 0, .int .i64 0] 34)).setRow W3.heap.size (rmc zs).toArray = W4 at *
        have hW4H : Hid (((W3.alloc (.cells (rmc []).toArray 31)).alloc (.cells #[.int .i64 0, .int .i64 0] 34)).setRow W3.heap.size (rmc zs).toArray = W4) := hW4
        have x0 : W4.cell? ⟨W3.heap.size + 1, 0, none⟩ = some (.int .i64 0) := cell_blk hc9 rfl
        have x1 : W4.cell? ⟨W3.heap.size + 1, 1, none⟩ = some (.int .i64 0) := cell_blk hc9 rfl
        have xf : ∀ i, W4.frozen? ⟨W3.heap.size + 1, i, none⟩ = false := fun i => free_blk hc9
        have hf5 : Fr (fun q => q = W3.heap.size + 1) W4 ((W4.setCell ⟨W3.heap.size + 1, 0, none⟩ (.int .i64 (p.1 : Int))).setCell ⟨W3.heap.size + 1, 1, none⟩ (.int .i64 (p.2 : Int))) :=
          ((Fr.refl (fun q => q = W3.heap.size + 1) W4).setCell (p := ⟨W3.heap.size + 1, 0, none⟩) (.inl rfl) _).setCell (p := ⟨W3.heap.size + 1, 1, none⟩) (.inl rfl) _
        have hn6 : Nw W3 ((W4.setCell ⟨W3.heap.size + 1, 0, none⟩ (.int .i64 (p.1 : Int))).setCell ⟨W3.heap.size + 1, 1, none⟩ (.int .i64 (p.2 : Int))) := Fr.new hn5 hf5 (fun q hq => by omega)
        have hd8 := (hf5.block _ (heap_lt hc8) (by omega)).trans hc8
        have hd9 : ((W4.setCell ⟨W3.heap.size + 1, 0, none⟩ (.int .i64 (p.1 : Int))).setCell ⟨W3.heap.size + 1, 1, none⟩ (.int .i64 (p.2 : Int))).heap[W3.heap.size + 1]? = some (.cells #[.int .i64 (p.1 : Int), .int .i64 (p.2 : Int)] 34 (0, 0)) := by
          rw [blk_setCell (blk_setCell hc9)]; rfl
        clear hW4 hn4 hf4 hn5 hc8 hc9 hb9 hf5
        go_upto_region 6 with (refine wpList_store_all rfl 31 (.tmp 8) _ rfl W3.heap.size rfl (rmv zs) rfl _ rfl _ 31 hb8 (fitR hzl (by simp)) (rmc_one _) (sizeR hzl) ?_; rw [hW4H.out])
        generalize hW5 : (W4.setCell ⟨W3.heap.size + 1, 0, none⟩ (.int .i64 (p.1 : Int))).setCell ⟨W3.heap.size + 1, 1, none⟩ (.int .i64 (p.2 : Int)) = W5 at *
        clear hW5 hW4H x0 x1 xf hb8
        have hA5 := hA3.nw' hn6
        have hr5 : Row B W5 (.slice ao got.length cap) got := hr3.keep hn6 (fun _ _ _ => id)
        have hz5 : B ≤ W5.heap.size := by have := hn6.size; omega
        have hrm8 := range_all hd8
        have hm5 := hA5.m
        obtain ⟨hA6, hf6⟩ := hA5.turn zs
        have hr6 : Row B (W5.setRow w.heap.size (rmc zs).toArray) (.slice ao got.length cap) got := hr5.keep hf6 (fun q hq _ e => by omega)
        have hd96 := (hf6.block _ (heap_lt hd9) (by omega)).trans hd9
        have hz6 : B ≤ (W5.setRow w.heap.size (rmc zs).toArray).heap.size := by have := hf6.size; omega
        generalize hW6 : W5.setRow w.heap.size (rmc zs).toArray = W6 at *
        have hW6H : Hid (W5.setRow w.heap.size (rmc zs).toArray = W6) := hW6
        clear hW6 hn6 hr3 hA3 hA5 hr5 hf6
        go_upto_region 7 with (first
          | (refine wpList_load_as rfl 31 (.tmp 8) rfl W3.heap.size 0 rfl (rmv zs) _ rfl hrm8 Try.rowR (sizeR hzl) ?_)
          | (refine wpList_store_all rfl 31 (.tmp 2) _ rfl w.heap.size rfl (rmv zs) rfl _ rfl _ 31 hm5 (fitR hzl hyl) (rmc_one _) (sizeR hzl) ?_; rw [hW6H.out]))
        have y0 : W6.cell? ⟨W3.heap.size + 1, 0, none⟩ = some (.int .i64 (p.1 : Int)) := cell_blk hd96 rfl
        have y1 : W6.cell? ⟨W3.heap.size + 1, 1, none⟩ = some (.int .i64 (p.2 : Int)) := cell_blk hd96 rfl
        have hrA := World.ownsRow.alloc hr6 (.cells #[.int .i64 (p.1 : Int), .int .i64 (p.2 : Int)] 34)
        have hsz6 := heap_lt hd96
        have hfin : ∀ v9 w9, w9.ownsRow B 34 2 v9 (got.length + 1) (ecells got ++ [.int .i64 (p.1 : Int), .int .i64 (p.2 : Int)]) → (W6.alloc (.cells #[.int .i64 (p.1 : Int), .int .i64 (p.2 : Int)] 34)).grownBy w9 (Value.ownBlock (.slice ao got.length cap)) →
            Row B w9 v9 (got ++ [p]) ∧ AV w w9 zs ∧ B ≤ w9.heap.size ∧ w9.cell? ⟨W3.heap.size + 1, 1, none⟩ = some (.int .i64 (p.2 : Int)) := by
          intro v9 w9 h1 h2
          have hlr : ∀ q, Value.ownBlock (.slice ao got.length cap) = some q → B ≤ q ∧ q < W3.heap.size := fun q hq => ⟨(hr6.lt q hq).1, hrow3 q hq⟩
          have hg : Fr (fun q => Value.ownBlock (.slice ao got.length cap) = some q) W6 w9 := Fr.grown ((Fr.refl _ W6).alloc _) h2 (fun q hq => .inl hq)
          refine ⟨?_, hA6.keep hg (fun q hq => by have := (hlr q hq).1; omega), ?_, ?_⟩
          · unfold Row
            rw [ecells_append, ecells_one]
            simpa [ecell] using h1
          · have := h2.size; simp at this; omega
          · exact cell_blk ((hg.block _ hsz6 (fun e => by have := (hlr _ e).2; omega)).trans hd96) rfl
        have hfinH : Hid _ := hfin
        clear hfin hrm8 hm5 hW6H hd8 hd9 hd96 hA6 hr6
        generalize ecells got = cs at *
        generalize got.length = len at *
        go_wp2_with (at_builtin; refine wpList_append_sl _ rfl _ _ 26 rfl B 34 i0 _ 2 16 Try.underlying26 hj hj0 hj1 hj2 rfl (by decide) _ _ _ rfl hrA _ _ 1 _ rfl (sl_lit W6 _ 34 1 (by omega)) rfl ?d1 ?d2 ?d3 ?d4 ?_)
        case d1 => first | (intro u hu; simp at hu; rcases hu with rfl | rfl <;> rfl) | simp [Value.oneCell']
        case d2 => unfold maxLen; omega
        case d3 => omega
        case d4 => simp; omega
        intro v9 w9 hown9 hgrow9 hat9
        obtain ⟨f1, f2, f3, f4⟩ := hfinH.out v9 w9 hown9 hgrow9
        clear hfinH hown9 hgrow9 hat9 hrA
        go_wp2
        go_roundw
        case rel => exact ⟨(k : Int) - (p.2 : Int), _, _, rfl, by omega, f1, f2, f3, by rw [show ((k : Int) - (p.2 : Int)).toNat = k - p.2 by omega]; exact hst⟩
        case measure => simp [intOf]; omega
      · have hzz : k.toNat = 0 := by omega
        rw [hzz] at hat
        clear hzz
        have hrmk := range_all hA.m
        have hrr := hA.r
        obtain ⟨r1, r2, r3⟩ := hA.ret ys
        have hrE : Row B _ _ got := hr.keep r3 (fun q hq _ e => by omega)
        go_upto_region 9 with fail
        go_wp2_with (first
          | (refine wpList_load_as rfl 31 (.tmp 2) rfl w.heap.size 0 rfl (rmv ys) _ rfl hrmk Try.rowR (sizeR hyl) ?_)
          | (refine wpList_store_all rfl 31 (.tmp 4) _ rfl (w.heap.size + 1) rfl (rmv ys) rfl _ rfl _ 31 hrr (fitR hyl (by simp)) (rmc_one _) (sizeR hyl) ?_))
        refine bodyPost_ret (results_cell1t rfl _ (w.heap.size + 1) _ _ rfl rfl (range_all r1) Try.rowR (sizeR hyl)) rfl ?_
        obtain ⟨z1, z2⟩ := hat.done
        rw [z1, z2]
        exact ⟨_, rfl, hrE.mono (by omega), r2⟩
end Go.Proofs.Ytelobmdlnkkbkaa
