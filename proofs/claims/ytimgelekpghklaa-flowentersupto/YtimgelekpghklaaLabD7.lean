/-
  Package label: chosen, Join, Meet.
-/
import Derived.Test.YtimgelekpghklaaLabD6
namespace Go.Proofs.Ytimgelekpghklaa
set_option linter.unusedVariables false
set_option linter.unusedSimpArgs false
set_option maxRecDepth 20000
open Go.RowKit

/-- A made label laid into a result's variable. -/
theorem store_made {w W w2 : World} {d : Int} {f : Int → Int} {N B : Nat} {u : Value} {ys : List Cat} (hnw : Nw w W) (hZ : W.heap[B]? = some (.cells #[.int .i64 0, .slice none 0 0] 24 (0, 0))) (hb : B ≤ B) (hB : w.heap.size ≤ B) (q1 : CSl (fun b => W.heap.size ≤ b) w2 u ys) (q2 : Fm d ys) (q3 : ∀ id, lev d ys id = f id) (q4 : ys.length ≤ N) (q5 : Nw W w2) :
    MadeL w d f N (.returned (labV d u)) ((w2.setCell ⟨B, 0, none⟩ (.int .i64 d)).setCell ⟨B, 1, none⟩ u) ∧ ((w2.setCell ⟨B, 0, none⟩ (.int .i64 d)).setCell ⟨B, 1, none⟩ u).rangeAt B 0 [.int .i64 d, u] ∧ w2.cell? ⟨B, 0, none⟩ = some (.int .i64 0) ∧ w2.cell? ⟨B, 1, none⟩ = some (.slice none 0 0) ∧ ∀ k, w2.frozen? ⟨B, k, none⟩ = false := by
  have hZ2 := (q5.block _ (heap_lt hZ) (fun h => h)).trans hZ
  have hlt := heap_lt hZ
  have hsz := hnw.size
  have hR6 : ((w2.setCell ⟨B, 0, none⟩ (.int .i64 d)).setCell ⟨B, 1, none⟩ u).heap[B]? = some (.cells #[.int .i64 d, u] 24 (0, 0)) := by
    rw [blk_setCell (blk_setCell hZ2)]; rfl
  have hf6 : Fr (fun k => k = B) w2 ((w2.setCell ⟨B, 0, none⟩ (.int .i64 d)).setCell ⟨B, 1, none⟩ u) := ((Fr.refl (fun k => k = B) w2).setCell (p := ⟨B, 0, none⟩) (.inl rfl) _).setCell (p := ⟨B, 1, none⟩) (.inl rfl) _
  have hW6 := Fr.trans (nw_trans hnw q5) hf6 (fun k hk => .inr (by omega))
  refine ⟨⟨u, ys, rfl, q1.keep hf6 (fun b hb _ h => by omega) (fun b hb _ => by omega), q2, q3, q4, hW6⟩, range_all (C := [.int .i64 d, u]) hR6, cell_blk hZ2 rfl, cell_blk hZ2 rfl, fun k => free_blk hZ2⟩

theorem c_fJoin (x y : Int) (w : World) : Calls Try.prog 31 #[.int .i64 x, .int .i64 y] w fun e w' => e = .returned (.int .i64 (max x y)) ∧ w = w' := by
  obtain ⟨z, hz⟩ : ∃ z : Int, Hid (z = (max x y)) := ⟨_, rfl⟩
  have hmx : ∀ (w : World) (ts : Array TypeId) (t : TypeId), (Builtin.max_ ts t #[.int .i64 x, .int .i64 y]).run Try.prog w = .ok (.int .i64 z) w := fun w ts t => by
    rw [run_max_int2 w ts t .i64 .i64 x y, hz.out]; congr 2; split <;> omega
  rw [← hz.out]
  go_enter Try.func31, Try.ntmps31
  go_wp2
  go_ret
  exact ⟨rfl, rfl⟩

/-- What is chosen so far. -/
def ChoJoin (d : Int) (p1 p2 S : Nat) (D : List Vs) (w : World) : Prop :=
  w.heap[p1]? = some (.cells #[.func (.func 31) #[] #[]] 46 (0, 0)) ∧ ∃ u, w.heap[p2]? = some (.cells #[.int .i64 d, u] 24 (0, 0)) ∧ w.ownsRow S 33 2 u (chs (fun x y : Int => (max x y)) d D).length (ccells (chs (fun x y : Int => (max x y)) d D))

set_option maxHeartbeats 1600000 in
theorem c_vJoin (d id x y : Int) (p1 p2 S : Nat) (D : List Vs) (w : World) (h : ChoJoin d p1 p2 S D w) (h1 : p1 < S) (h2 : p2 < S) (h12 : p1 ≠ p2) (hS : S ≤ w.heap.size) (hD : D.length < 8796093022208) :
    Calls Try.prog 51 #[.int .u64 id, .int .i64 x, .int .i64 y, .pointer (some ⟨p1, 0, none⟩), .pointer (some ⟨p2, 0, none⟩)] w fun e w' => e = .returned (.tuple #[]) ∧ ChoJoin d p1 p2 S (D ++ [(id, x, y)]) w' ∧ Fr (fun k => k = p2 ∨ S ≤ k) w w' := by
  obtain ⟨i0, hj, hj0, hj1, hj2⟩ := info_parts3 Try.infoC
  obtain ⟨q1, u, q2, q3⟩ := h
  obtain ⟨ua, uc, rfl⟩ := owns_form q3
  have hlen : (chs (fun x y : Int => (max x y)) d D).length < 8796093022208 := Nat.lt_of_le_of_lt (chs_le _ _ _) hD
  have c1 : w.cell? ⟨p1, 0, none⟩ = some (.func (.func 31) #[] #[]) := cell_blk q1 rfl
  have c2 : w.cell? ⟨p2, 0, none⟩ = some (.int .i64 d) := cell_blk q2 rfl
  have c3 : w.cell? ⟨p2, 1, none⟩ = some (.slice ua (chs (fun x y : Int => (max x y)) d D).length uc) := cell_blk q2 rfl
  have hsn := chs_snoc (fun x y : Int => (max x y)) d D (id, x, y)
  simp only at hsn
  by_cases hz : (max x y) = d
  · rw [if_pos hz] at hsn
    have hb : ((max x y) != d) = false := by simp [hz]
    have hans : Hid (ChoJoin d p1 p2 S (D ++ [(id, x, y)]) w) := ⟨q1, _, q2, by rw [hsn]; exact q3⟩
    clear q1 q2 q3 hsn hz
    generalize chs (fun x y : Int => (max x y)) d D = es at *
    have hcl : Hid _ := c_fJoin x y w
    generalize (max x y) = z at *
    go_enter Try.func51, Try.ntmps51
    go_wp2_with (go_at_call 31; refine Calls.mono hcl.out ?_; rintro e w2 ⟨rfl, rfl⟩)
    go_end0
    exact ⟨rfl, hans.out, Fr.refl _ _⟩
  · rw [if_neg hz] at hsn
    have hb : ((max x y) != d) = true := by simp [hz]
    have hcl : Hid _ := c_fJoin x y w
    have hrA := World.ownsRow.alloc q3 (.cells #[.int .u64 id, .int .i64 (max x y)] 33)
    have hfin : ∀ v9 w9, w9.ownsRow S 33 2 v9 ((chs (fun x y : Int => (max x y)) d D).length + 1) (ccells (chs (fun x y : Int => (max x y)) d D) ++ [.int .u64 id, .int .i64 (max x y)]) → (w.alloc (.cells #[.int .u64 id, .int .i64 (max x y)] 33)).grownBy w9 (Value.ownBlock (.slice ua (chs (fun x y : Int => (max x y)) d D).length uc)) →
        (w9.heap[p2]? = some (.cells #[.int .i64 d, .slice ua (chs (fun x y : Int => (max x y)) d D).length uc] 24 (0, 0))) ∧ ChoJoin d p1 p2 S (D ++ [(id, x, y)]) (w9.setCell ⟨p2, 1, none⟩ v9) ∧ Fr (fun k => k = p2 ∨ S ≤ k) w (w9.setCell ⟨p2, 1, none⟩ v9) := by
      intro v9 w9 r1 r2
      have hf9 : Fr (fun k => S ≤ k) w w9 := (Fr.alloc (Fr.refl _ w) _).grown r2 (fun q hq => .inl (q3.lt q hq).1)
      have e1 : w9.heap[p1]? = _ := (hf9.block p1 (heap_lt q1) (by omega)).trans q1
      have e2 : w9.heap[p2]? = _ := (hf9.block p2 (heap_lt q2) (by omega)).trans q2
      have hfs : Fr (fun k => k = p2) w9 (w9.setCell ⟨p2, 1, none⟩ v9) := (Fr.refl (fun k => k = p2) w9).setCell (p := ⟨p2, 1, none⟩) (.inl rfl) _
      refine ⟨e2, ⟨(hfs.block p1 (heap_lt e1) h12).trans e1, v9, by rw [blk_setCell e2]; rfl, ?_⟩, (hf9.mono (fun k hk => .inr hk)).trans hfs (fun k hk => .inl (.inl hk))⟩
      have r3 := owns_of_block (w' := w9.setCell ⟨p2, 1, none⟩ v9) r1 (fun k hk => hfs.block k (r1.lt k hk).2 (by have := (r1.lt k hk).1; omega))
      rw [hsn, ccells_append, ccells_one, List.length_append]
      simpa [ccell] using r3
    have hfinH : Hid _ := hfin
    have hsz : (w.alloc (.cells #[.int .u64 id, .int .i64 (max x y)] 33)).heap.size = w.heap.size + 1 := by simp
    have hl2 := heap_lt q2
    clear hfin q1 q2 q3 hsn hz
    have hcw : Hid (ccells (chs (fun x y : Int => (max x y)) d D) = ccells (chs (fun x y : Int => (max x y)) d D)) := rfl
    generalize ccells (chs (fun x y : Int => (max x y)) d D) = cs at *
    generalize (chs (fun x y : Int => (max x y)) d D).length = n at *
    generalize (max x y) = z at *
    go_enter Try.func51, Try.ntmps51
    go_wp2_with (first | (go_at_call 31; refine Calls.mono hcl.out ?_; rintro e w2 ⟨rfl, rfl⟩) | (at_builtin; refine wpList_append_sl _ rfl _ _ 22 rfl S 33 i0 _ 2 16 Try.underlying22 hj hj0 hj1 hj2 rfl (by decide) _ _ _ rfl hrA _ _ 1 _ rfl (sl_lit w _ 33 1 (by omega)) rfl ?d1 ?d2 ?d3 ?d4 ?_))
    case d1 => first | (intro u hu; simp at hu; rcases hu with rfl | rfl <;> rfl) | simp [Value.oneCell']
    case d2 => unfold maxLen; omega
    case d3 => omega
    case d4 => rw [hsz]; omega
    intro v9 w9 hown9 hgrow9 hat9
    obtain ⟨e2, f1, f2⟩ := hfinH.out v9 w9 hown9 hgrow9
    have d3 : w9.cell? ⟨p2, 1, none⟩ = some (.slice ua n uc) := cell_blk e2 rfl
    have f9 : w9.frozen? ⟨p2, 1, none⟩ = false := free_blk e2
    obtain ⟨va, vc, rfl⟩ := owns_form hown9
    clear hfinH hown9 hgrow9 hat9 hrA e2
    go_wp2
    go_end0
    exact ⟨rfl, f1, f2⟩

set_option maxHeartbeats 1600000 in
theorem c_chosenJoin {X Y : Nat → Prop} {va vb : Value} {xa xb : List Cat} (da db : Int) (w : World) (ha : CSl X w va xa) (hb : CSl Y w vb xb) (hl : xa.length + xb.length ≤ 8796093022208) :
    Calls Try.prog 30 #[labV da va, labV db vb, .func (.func 31) #[] #[]] w (MadeL w (max da db) (fun id => (max (lev da xa id) (lev db xb id))) (xa.length + xb.length)) := by
  have hmf : ∀ (fn : Fn) (first cap : Array Value) (w : World), (Instr.makeFunc fn first cap).run Try.prog w = .ok (.func fn first cap) w := fun _ _ _ _ => rfl
  obtain ⟨aa, ac, rfl, ha1, ha2⟩ := ha.form
  obtain ⟨ba, bc, rfl, hb1, hb2⟩ := hb.form
  have ha' := ha.mono (X' := fun b => b < w.heap.size) (fun b _ h => h)
  have hb' := hb.mono (X' := fun b => b < w.heap.size) (fun b _ h => h)
  clear ha hb
  obtain ⟨W, hW⟩ : ∃ W, Hid (W = ((((w.alloc (.cells #[.int .i64 da, .slice aa xa.length ac] 24)).alloc (.cells #[.int .i64 db, .slice ba xb.length bc] 24)).alloc (.cells #[.func (.func 31) #[] #[]] 46)).alloc (.cells #[.int .i64 0, .slice none 0 0] 24)).alloc (.cells #[.int .i64 (max da db), .slice none 0 0] 24)) := ⟨_, rfl⟩
  have hnw : Nw w W := by rw [hW.out]; exact nw_alloc (nw_alloc (nw_alloc (nw_alloc (nw_alloc (nw_refl w) _) _) _) _) _
  have hA : W.heap[w.heap.size]? = some (.cells #[.int .i64 da, .slice aa xa.length ac] 24 (0, 0)) := by
    rw [hW.out, Below.heap_alloc _ _ _ (by simp; omega), Below.heap_alloc _ _ _ (by simp; omega), Below.heap_alloc _ _ _ (by simp; omega)]; exact heap_alloc2_old w _ _
  have hB : W.heap[w.heap.size + 1]? = some (.cells #[.int .i64 db, .slice ba xb.length bc] 24 (0, 0)) := by
    rw [hW.out, Below.heap_alloc _ _ _ (by simp; try omega), Below.heap_alloc _ _ _ (by simp; try omega), Below.heap_alloc _ _ _ (by simp; try omega)]; exact heap_alloc2_new w _ _
  have hH : W.heap[w.heap.size + 1 + 1]? = some (.cells #[.func (.func 31) #[] #[]] 46 (0, 0)) := by
    rw [hW.out, Below.heap_alloc _ _ _ (by simp; try omega), Below.heap_alloc _ _ _ (by simp; try omega)]
    have := heap_alloc_new ((w.alloc (.cells #[.int .i64 da, .slice aa xa.length ac] 24)).alloc (.cells #[.int .i64 db, .slice ba xb.length bc] 24)) (.cells #[.func (.func 31) #[] #[]] 46)
    simpa using this
  have hZ : W.heap[w.heap.size + 1 + 1 + 1]? = some (.cells #[.int .i64 0, .slice none 0 0] 24 (0, 0)) := by
    rw [hW.out, Below.heap_alloc _ _ _ (by simp; try omega)]
    have := heap_alloc_new (((w.alloc (.cells #[.int .i64 da, .slice aa xa.length ac] 24)).alloc (.cells #[.int .i64 db, .slice ba xb.length bc] 24)).alloc (.cells #[.func (.func 31) #[] #[]] 46)) (.cells #[.int .i64 0, .slice none 0 0] 24)
    simpa using this
  have hL : W.heap[w.heap.size + 1 + 1 + 1 + 1]? = some (.cells #[.int .i64 (max da db), .slice none 0 0] 24 (0, 0)) := by
    rw [hW.out]
    have := heap_alloc_new ((((w.alloc (.cells #[.int .i64 da, .slice aa xa.length ac] 24)).alloc (.cells #[.int .i64 db, .slice ba xb.length bc] 24)).alloc (.cells #[.func (.func 31) #[] #[]] 46)).alloc (.cells #[.int .i64 0, .slice none 0 0] 24)) (.cells #[.int .i64 (max da db), .slice none 0 0] 24)
    simpa using this
  have haW := ha'.nw hnw
  have hbW := hb'.nw hnw
  have hlL := heap_lt hL
  have hcon : Hid _ := c_walkC (X := fun b => b < w.heap.size) (fun S D w1 => W.heap.size ≤ S ∧ ChoJoin (max da db) (w.heap.size + 1 + 1) (w.heap.size + 1 + 1 + 1 + 1) S D w1)
    (w.heap.size + 1 + 1) (w.heap.size + 1 + 1 + 1 + 1) (w.heap.size + 1 + 1 + 1 + 1) da db W haW hbW (fun b hb => by omega) hlL (by omega) (by omega)
    (fun w' h => ⟨h.size, (h.block _ (heap_lt hH) (fun h => h)).trans hH, _, (h.block _ (heap_lt hL) (fun h => h)).trans hL, World.ownsRow_nil _ _ _ _⟩)
    (fun S D w1 w2 h1 h2 => ⟨h1.1, (h2.block _ (heap_lt h1.2.1) (fun h => h)).trans h1.2.1, by
      obtain ⟨u, r1, r2⟩ := h1.2.2
      exact ⟨u, (h2.block _ (heap_lt r1) (fun h => h)).trans r1, owns_of_block r2 (fun k hk => h2.block k (r2.lt k hk).2 (fun h => h))⟩⟩)
    (fun S D id x y w1 h1 hS1 hS2 hDl => by
      refine Calls.mono (c_vJoin (max da db) id x y _ _ S D w1 h1.2 (by omega) (by omega) (by omega) hS2 (by omega)) ?_
      rintro e w2 ⟨rfl, q1, q2⟩
      exact ⟨rfl, ⟨h1.1, q1⟩, q2⟩)
  have a0 : W.cell? ⟨w.heap.size, 0, none⟩ = some (.int .i64 da) := cell_blk hA rfl
  have a1 : W.cell? ⟨w.heap.size, 1, none⟩ = some (.slice aa xa.length ac) := cell_blk hA rfl
  have b0 : W.cell? ⟨w.heap.size + 1, 0, none⟩ = some (.int .i64 db) := cell_blk hB rfl
  have b1 : W.cell? ⟨w.heap.size + 1, 1, none⟩ = some (.slice ba xb.length bc) := cell_blk hB rfl
  have hcl : Hid (∀ w, Calls Try.prog 31 #[.int .i64 da, .int .i64 db] w fun e w' => e = .returned (.int .i64 (max da db)) ∧ w = w') := fun w => c_fJoin da db w
  have hch : Hid (∀ D, Vis da db (lev da xa) (lev db xb) D → Fm (max da db) (chs (fun x y : Int => (max x y)) (max da db) D) ∧ ∀ id, lev (max da db) (chs (fun x y : Int => (max x y)) (max da db) D) id = (max (lev da xa id) (lev db xb id))) := fun D h => h.chosen (fun x y : Int => (max x y))
  unfold labV at *
  clear haW hbW ha' hb' hA hB hH hL
  generalize (max da db) = d at *
  go_enter Try.func30, Try.ntmps30
  go_upto_region 2 with (go_at_call 31; refine Calls.mono (hcl.out _) ?_; rintro e w2 ⟨rfl, rfl⟩)
  rw [← hW.out]
  go_wp2_with (go_at_call 50; refine Calls.mono hcon.out ?_; rintro e w2 ⟨rfl, S, D, h1, h2, h3, h4, h5, h6⟩; refine stop_here ?_)
  unfold Hid
  obtain ⟨_, _, u, r1, r2⟩ := h3
  obtain ⟨ua, uc, rfl⟩ := owns_form r2
  have hsz := hnw.size
  have hZ2 := (h6.block _ (heap_lt hZ) (by omega)).trans hZ
  have hnw2 : Nw w w2 := Fr.trans hnw h6 (fun k hk => hk.elim (fun h => .inr (by omega)) (fun h => .inr (by omega)))
  clear hcon a0 a1 b0 b1 hW hcl hZ
  have l0 : w2.cell? ⟨w.heap.size + 1 + 1 + 1 + 1, 0, none⟩ = some (.int .i64 d) := cell_blk r1 rfl
  have l1 : w2.cell? ⟨w.heap.size + 1 + 1 + 1 + 1, 1, none⟩ = some (.slice ua (chs (fun x y : Int => (max x y)) d D).length uc) := cell_blk r1 rfl
  have z0 : w2.cell? ⟨w.heap.size + 1 + 1 + 1, 0, none⟩ = some (.int .i64 0) := cell_blk hZ2 rfl
  have z1 : w2.cell? ⟨w.heap.size + 1 + 1 + 1, 1, none⟩ = some (.slice none 0 0) := cell_blk hZ2 rfl
  have zf : ∀ k, w2.frozen? ⟨w.heap.size + 1 + 1 + 1, k, none⟩ = false := fun k => free_blk hZ2
  have hR6 : ((w2.setCell ⟨w.heap.size + 1 + 1 + 1, 0, none⟩ (.int .i64 d)).setCell ⟨w.heap.size + 1 + 1 + 1, 1, none⟩ (.slice ua (chs (fun x y : Int => (max x y)) d D).length uc)).heap[w.heap.size + 1 + 1 + 1]? = some (.cells #[.int .i64 d, .slice ua (chs (fun x y : Int => (max x y)) d D).length uc] 24 (0, 0)) := by
    rw [blk_setCell (blk_setCell hZ2)]; rfl
  have hf6 : Fr (fun k => k = w.heap.size + 1 + 1 + 1) w2 ((w2.setCell ⟨w.heap.size + 1 + 1 + 1, 0, none⟩ (.int .i64 d)).setCell ⟨w.heap.size + 1 + 1 + 1, 1, none⟩ (.slice ua (chs (fun x y : Int => (max x y)) d D).length uc)) := ((Fr.refl (fun k => k = w.heap.size + 1 + 1 + 1) w2).setCell (p := ⟨w.heap.size + 1 + 1 + 1, 0, none⟩) (.inl rfl) _).setCell (p := ⟨w.heap.size + 1 + 1 + 1, 1, none⟩) (.inl rfl) _
  have hcs : CSl (fun b => w.heap.size ≤ b) ((w2.setCell ⟨w.heap.size + 1 + 1 + 1, 0, none⟩ (.int .i64 d)).setCell ⟨w.heap.size + 1 + 1 + 1, 1, none⟩ (.slice ua (chs (fun x y : Int => (max x y)) d D).length uc)) (.slice ua (chs (fun x y : Int => (max x y)) d D).length uc) (chs (fun x y : Int => (max x y)) d D) := by
    have k1 := (mk_of_owns r2).csl
    exact k1.keep hf6 (fun b hb _ h => by omega) (fun b hb _ => by omega)
  have hW6 : Nw w ((w2.setCell ⟨w.heap.size + 1 + 1 + 1, 0, none⟩ (.int .i64 d)).setCell ⟨w.heap.size + 1 + 1 + 1, 1, none⟩ (.slice ua (chs (fun x y : Int => (max x y)) d D).length uc)) := Fr.trans hnw2 hf6 (fun k hk => .inr (by omega))
  have hrr := range_all (C := [.int .i64 d, .slice ua (chs (fun x y : Int => (max x y)) d D).length uc]) hR6
  have hans : Hid (MadeL w d (fun id => (max (lev da xa id) (lev db xb id))) (xa.length + xb.length) (.returned (labV d (.slice ua (chs (fun x y : Int => (max x y)) d D).length uc))) ((w2.setCell ⟨w.heap.size + 1 + 1 + 1, 0, none⟩ (.int .i64 d)).setCell ⟨w.heap.size + 1 + 1 + 1, 1, none⟩ (.slice ua (chs (fun x y : Int => (max x y)) d D).length uc))) := ⟨_, _, rfl, hcs, (hch.out D h4).1, (hch.out D h4).2, Nat.le_trans (chs_le _ _ _) h5, hW6⟩
  clear hcs hW6 hf6 hR6 r1 r2 h4 h5 h6 hch hnw2 hZ2
  generalize (chs (fun x y : Int => (max x y)) d D).length = n at *
  go_wp2
  refine bodyPost_ret (results_cell1 rfl _ (w.heap.size + 1 + 1 + 1) _ _ rfl rfl hrr Try.rowL Try.sizeL) rfl ?_
  exact hans.out

set_option maxHeartbeats 1600000 in
theorem c_join {X Y : Nat → Prop} {va vb : Value} {xa xb : List Cat} (da db : Int) (w : World) (ha : CSl X w va xa) (hb : CSl Y w vb xb) (hl : xa.length + xb.length ≤ 8796093022208) :
    Calls Try.prog 16 #[labV da va, labV db vb] w (MadeL w (max da db) (fun id => (max (lev da xa id) (lev db xb id))) (xa.length + xb.length)) := by
  obtain ⟨aa, ac, rfl, ha1, ha2⟩ := ha.form
  obtain ⟨ba, bc, rfl, hb1, hb2⟩ := hb.form
  obtain ⟨W, hW⟩ : ∃ W, Hid (W = ((w.alloc (.cells #[.int .i64 da, .slice aa xa.length ac] 24)).alloc (.cells #[.int .i64 db, .slice ba xb.length bc] 24)).alloc (.cells #[.int .i64 0, .slice none 0 0] 24)) := ⟨_, rfl⟩
  have hnw : Nw w W := by rw [hW.out]; exact nw_alloc (nw_alloc (nw_alloc (nw_refl w) _) _) _
  have hA : W.heap[w.heap.size]? = some (.cells #[.int .i64 da, .slice aa xa.length ac] 24 (0, 0)) := by
    rw [hW.out, Below.heap_alloc _ _ _ (by simp; try omega)]; exact heap_alloc2_old w _ _
  have hB : W.heap[w.heap.size + 1]? = some (.cells #[.int .i64 db, .slice ba xb.length bc] 24 (0, 0)) := by
    rw [hW.out, Below.heap_alloc _ _ _ (by simp; try omega)]; exact heap_alloc2_new w _ _
  have hZ : W.heap[w.heap.size + 1 + 1]? = some (.cells #[.int .i64 0, .slice none 0 0] 24 (0, 0)) := by
    rw [hW.out]
    have := heap_alloc_new ((w.alloc (.cells #[.int .i64 da, .slice aa xa.length ac] 24)).alloc (.cells #[.int .i64 db, .slice ba xb.length bc] 24)) (.cells #[.int .i64 0, .slice none 0 0] 24)
    simpa using this
  have hcon : Hid _ := c_chosenJoin da db W (ha.nw hnw) (hb.nw hnw) hl
  have a0 : W.cell? ⟨w.heap.size, 0, none⟩ = some (.int .i64 da) := cell_blk hA rfl
  have a1 : W.cell? ⟨w.heap.size, 1, none⟩ = some (.slice aa xa.length ac) := cell_blk hA rfl
  have b0 : W.cell? ⟨w.heap.size + 1, 0, none⟩ = some (.int .i64 db) := cell_blk hB rfl
  have b1 : W.cell? ⟨w.heap.size + 1, 1, none⟩ = some (.slice ba xb.length bc) := cell_blk hB rfl
  clear ha hb hA hB
  unfold labV at *
  generalize (max da db) = d at *
  go_enter Try.func16, Try.ntmps16
  go_upto_region 1 with fail
  rw [← hW.out]
  go_wp2_with (go_at_call 30; refine Calls.mono hcon.out ?_; rintro e w2 ⟨u, ys, rfl, q1, q2, q3, q4, q5⟩; refine stop_here ?_)
  unfold Hid labV
  clear hcon a0 a1 b0 b1 hW
  obtain ⟨hans, hrr, z0, z1, zf⟩ := store_made (B := w.heap.size + 1 + 1) hnw hZ (Nat.le_refl _) (by omega) q1 q2 q3 q4 q5
  obtain ⟨ua, uc, rfl, _, _⟩ := q1.form
  replace hans : Hid _ := hans
  clear q1 q2 q3 q4 q5 hZ hnw
  go_wp2
  refine bodyPost_ret (results_cell1 rfl _ (w.heap.size + 1 + 1) _ _ rfl rfl hrr Try.rowL Try.sizeL) rfl ?_
  exact hans.out

end Go.Proofs.Ytimgelekpghklaa
