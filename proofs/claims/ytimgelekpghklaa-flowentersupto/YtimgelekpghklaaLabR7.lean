/-
  The document's pick and Merge.
-/
import Derived.Test.YtimgelekpghklaaLabR5
import Derived.Test.YtimgelekpghklaaLabD7
namespace Go.Proofs.Ytimgelekpghklaa
set_option linter.unusedVariables false
set_option linter.unusedSimpArgs false
set_option maxRecDepth 20000
open Go.RowKit

def pk (g : Bool) (x y : Int) : Int := if decide (y < x) = g then x else y
theorem pk_max (x y : Int) : pk true x y = max x y := by unfold pk; by_cases h : y < x <;> simp [h] <;> omega
theorem pk_min (x y : Int) : pk false x y = min x y := by unfold pk; by_cases h : y < x <;> simp [h] <;> omega

theorem c_pick (g : Bool) (x y : Int) (w : World) : Calls Try.prog 40 #[.int .i64 x, .int .i64 y, .bool g] w fun e w' => e = .returned (.int .i64 (pk g x y)) ∧ w = w' := by
  by_cases hg : decide (y < x) = g
  · have hp : Hid (pk g x y = x) := by unfold Hid pk; rw [if_pos hg]
    have hb : (decide (y < x) == g) = true := by simp [hg]
    clear hg
    go_enter Try.func40, Try.ntmps40
    go_wp2
    go_ret
    exact ⟨congrArg (fun z => Ending.returned (Value.int .i64 z)) hp.out.symm, rfl⟩
  · have hp : Hid (pk g x y = y) := by unfold Hid pk; rw [if_neg hg]
    have hb : (decide (y < x) == g) = false := by simpa using hg
    clear hg
    go_enter Try.func40, Try.ntmps40
    go_wp2
    go_ret
    exact ⟨congrArg (fun z => Ending.returned (Value.int .i64 z)) hp.out.symm, rfl⟩

/-- Categories with levels told one by one. -/
def mgL (f : Int → Int) (ids : List Int) : List Cat := ids.map (fun i => (i, f i))

theorem mgL_lev (D : Int) (f : Int → Int) (id : Int) : ∀ ids : List Int, lev D (mgL f ids) id = if id ∈ ids then f id else D
  | [] => by simp [mgL, lev]
  | i :: r => by
    have ih := mgL_lev D f id r
    unfold mgL at ih ⊢
    rw [List.map_cons, lev, ih]
    by_cases h : i = id
    · subst h; simp
    · have h' : ¬ id = i := fun e => h e.symm
      simp [h, h']

theorem mgL_length (f : Int → Int) (ids : List Int) : (mgL f ids).length = ids.length := by simp [mgL]

theorem mgL_take (f : Int → Int) (ids : List Int) (k : Nat) (h : k < ids.length) : mgL f (ids.take (k + 1)) = mgL f (ids.take k) ++ [(ids[k], f ids[k])] := by
  unfold mgL
  rw [List.take_succ_eq_append_getElem h, List.map_append]
  rfl

theorem merge_lev (g : Bool) (da db : Int) (xa xb : List Cat) (id : Int) : lev (pk g da db) (mgL (fun i => pk g (lev da xa i) (lev db xb i)) (idsL xa xb)) id = pk g (lev da xa id) (lev db xb id) := by
  rw [mgL_lev]
  split
  · rfl
  · rename_i hid
    rw [(idsL_rs xa xb).2.1 id] at hid
    rw [lev_none (fun c hc he => hid (.inl ⟨c, hc, he⟩)), lev_none (fun c hc he => hid (.inr ⟨c, hc, he⟩))]

set_option maxHeartbeats 6400000 in
theorem c_rmerge {X Y : Nat → Prop} {va vb : Value} {xa xb : List Cat} (g : Bool) (da db : Int) (w : World) (ha : CSl X w va xa) (hb : CSl Y w vb xb) (hl : xa.length + xb.length ≤ 8796093022208) :
    Calls Try.prog 25 #[labV da va, labV db vb, .bool g] w (MadeL w (pk g da db) (fun id => pk g (lev da xa id) (lev db xb id)) (xa.length + xb.length)) := by
  obtain ⟨i0, hj, hj0, hj1, hj2⟩ := info_parts3 Try.infoC
  obtain ⟨aa, ac, rfl, ha1, ha2⟩ := ha.form
  obtain ⟨ba, bc, rfl, hb1, hb2⟩ := hb.form
  obtain ⟨D, hD⟩ : ∃ D, Hid (D = pk g da db) := ⟨_, rfl⟩
  obtain ⟨f, hf⟩ : ∃ f, Hid (f = fun id => pk g (lev da xa id) (lev db xb id)) := ⟨_, rfl⟩
  have hpk0 : Hid (∀ w : World, Calls Try.prog 40 #[.int .i64 da, .int .i64 db, .bool g] w fun e w' => e = .returned (.int .i64 D) ∧ w = w') := fun w => by rw [hD.out]; exact c_pick g da db w
  have hml : Hid (∀ id, lev D (mgL f (idsL xa xb)) id = f id) := fun id => by rw [hD.out, hf.out]; exact merge_lev g da db xa xb id
  rw [← hD.out, ← hf.out]
  obtain ⟨W, hW⟩ : ∃ W, Hid (W = (((w.alloc (.cells #[.int .i64 da, .slice aa xa.length ac] 24)).alloc (.cells #[.int .i64 db, .slice ba xb.length bc] 24)).alloc (.cells #[.int .i64 0, .slice none 0 0] 24)).alloc (.cells #[.int .i64 D, .slice none 0 0] 24)) := ⟨_, rfl⟩
  have nW : Nw w W := by rw [hW.out]; exact nw_alloc (nw_alloc (nw_alloc (nw_alloc (nw_refl w) _) _) _) _
  have hA : W.heap[w.heap.size]? = some (.cells #[.int .i64 da, .slice aa xa.length ac] 24 (0, 0)) := by
    rw [hW.out, Below.heap_alloc _ _ _ (by simp; try omega), Below.heap_alloc _ _ _ (by simp; try omega)]; exact heap_alloc2_old w _ _
  have hB : W.heap[w.heap.size + 1]? = some (.cells #[.int .i64 db, .slice ba xb.length bc] 24 (0, 0)) := by
    rw [hW.out, Below.heap_alloc _ _ _ (by simp; try omega), Below.heap_alloc _ _ _ (by simp; try omega)]; exact heap_alloc2_new w _ _
  have hZ : W.heap[w.heap.size + 1 + 1]? = some (.cells #[.int .i64 0, .slice none 0 0] 24 (0, 0)) := by
    rw [hW.out, Below.heap_alloc _ _ _ (by simp; try omega)]
    have := heap_alloc_new ((w.alloc (.cells #[.int .i64 da, .slice aa xa.length ac] 24)).alloc (.cells #[.int .i64 db, .slice ba xb.length bc] 24)) (.cells #[.int .i64 0, .slice none 0 0] 24)
    simpa using this
  have hO : W.heap[w.heap.size + 1 + 1 + 1]? = some (.cells #[.int .i64 D, .slice none 0 0] 24 (0, 0)) := by
    rw [hW.out]
    have := heap_alloc_new (((w.alloc (.cells #[.int .i64 da, .slice aa xa.length ac] 24)).alloc (.cells #[.int .i64 db, .slice ba xb.length bc] 24)).alloc (.cells #[.int .i64 0, .slice none 0 0] 24)) (.cells #[.int .i64 D, .slice none 0 0] 24)
    simpa using this
  have hsz : W.heap.size = w.heap.size + 1 + 1 + 1 + 1 := by rw [hW.out]; simp
  replace ha := (ha.mono (X' := fun b => b < w.heap.size) (fun b _ h => h)).nw nW
  replace hb := (hb.mono (X' := fun b => b < w.heap.size) (fun b _ h => h)).nw nW
  have hcon : Hid _ := c_ids da db W ha hb (by omega)
  unfold labV
  go_enter Try.func25, Try.ntmps25
  go_upto_region 2 with (go_at_call 40; refine Calls.mono (hpk0.out _) ?_; rintro e w2 ⟨rfl, rfl⟩)
  rw [← hW.out]
  clear hW
  generalize hNN : w.heap.size = N at *
  replace hNN : Hid _ := hNN
  have a0 : W.cell? ⟨N, 0, none⟩ = some (.int .i64 da) := cell_blk hA rfl
  have a1 : W.cell? ⟨N, 1, none⟩ = some (.slice aa xa.length ac) := cell_blk hA rfl
  have b0 : W.cell? ⟨N + 1, 0, none⟩ = some (.int .i64 db) := cell_blk hB rfl
  have b1 : W.cell? ⟨N + 1, 1, none⟩ = some (.slice ba xb.length bc) := cell_blk hB rfl
  have hidl := (idsL_rs xa xb).2.2
  go_wp2_with (go_at_call 38; refine Calls.mono hcon.out ?_; rintro e W1 ⟨u, rfl, hu, n1⟩; refine stop_here ?_)
  unfold Hid
  clear hcon a0 a1 b0 b1
  replace hA := (n1.block _ (heap_lt hA) (fun h => h)).trans hA
  replace hB := (n1.block _ (heap_lt hB) (fun h => h)).trans hB
  replace hZ := (n1.block _ (heap_lt hZ) (fun h => h)).trans hZ
  replace hO := (n1.block _ (heap_lt hO) (fun h => h)).trans hO
  replace ha := ha.nw n1
  replace hb := hb.nw n1
  have nW1 := nw_trans nW n1
  have hs1 := n1.size
  clear n1 nW
  obtain ⟨ua, uc, rfl, hu1, hu2⟩ := hu.form
  obtain ⟨S, hS⟩ : ∃ S, Hid (S = W1.heap.size) := ⟨_, rfl⟩
  have hS1 : N + 1 + 1 + 1 < S := by rw [hS.out]; omega
  replace hu := hu.mono (X' := fun b => N + 1 + 1 + 1 < b ∧ b < S) (fun b hb hlt => ⟨by omega, by rw [hS.out]; exact hlt⟩)
  have hrow0 : W1.ownsRow S 33 2 (.slice none 0 0) 0 [] := World.ownsRow_nil _ _ _ _
  go_wp2
  go_loopw [22] (fun kv wr => ∃ (k : Nat) (u : Value), k ≤ (idsL xa xb).length ∧ kv = .int .i64 k ∧ wr.heap[N + 1 + 1 + 1]? = some (.cells #[.int .i64 D, u] 24 (0, 0)) ∧ wr.ownsRow S 33 2 u (mgL f ((idsL xa xb).take k)).length (ccells (mgL f ((idsL xa xb).take k))) ∧ Fr (fun q => q = N + 1 + 1 + 1 ∨ S ≤ q) W1 wr ∧ S ≤ wr.heap.size) (fun kv _ => (idsL xa xb).length - (intOf kv).toNat)
  case atStart => exact ⟨0, _, Nat.zero_le _, rfl, hO, hrow0, Fr.refl _ _, by rw [hS.out]; exact Nat.le_refl _⟩
  case round =>
    clear hrow0 hO
    obtain ⟨k, ov, hk, rfl, hO, hrow, hfr, hSr⟩ := hrel
    obtain ⟨oa, oc, rfl⟩ := owns_form hrow
    have hAr := (hfr.block _ (heap_lt hA) (by omega)).trans hA
    have hBr := (hfr.block _ (heap_lt hB) (by omega)).trans hB
    have hZr := (hfr.block _ (heap_lt hZ) (by omega)).trans hZ
    by_cases hlt : k < (idsL xa xb).length
    · obtain ⟨q, off, rfl, _, d1⟩ := (hu.keep (X' := fun _ => True) hfr (fun b hb _ h => by rcases h with h | h <;> omega) (fun _ _ _ => trivial)).get k hlt
      have hxa := ha.keep (X' := fun b => b < N) hfr (fun b hb _ h => by rcases h with h | h <;> omega) (fun b hb _ => hb)
      have hxb := hb.keep (X' := fun b => b < N) hfr (fun b hb _ h => by rcases h with h | h <;> omega) (fun b hb _ => hb)
      have hstep := mgL_take f (idsL xa xb) k hlt
      have hcl : (mgL f ((idsL xa xb).take k)).length ≤ k := by rw [mgL_length]; simp; omega
      have hfx : Hid (f (idsL xa xb)[k] = pk g (lev da xa (idsL xa xb)[k]) (lev db xb (idsL xa xb)[k])) := by unfold Hid; rw [hf.out]
      generalize (idsL xa xb)[k] = id at *
      generalize hes : mgL f ((idsL xa xb).take k) = es at *
      replace hes : Hid _ := hes
      replace hstep : Hid _ := hstep
      have hSof : ∀ w', Fr (fun q => S ≤ q) wr w' → (fun w' : World => Fr (fun q => S ≤ q) wr w' ∧ w'.cell? ⟨N, 0, none⟩ = some (.int .i64 da) ∧ w'.cell? ⟨N, 1, none⟩ = some (.slice aa xa.length ac) ∧ w'.cell? ⟨N + 1, 0, none⟩ = some (.int .i64 db) ∧ w'.cell? ⟨N + 1, 1, none⟩ = some (.slice ba xb.length bc) ∧ w'.cell? ⟨N + 1 + 1 + 1, 0, none⟩ = some (.int .i64 D) ∧ w'.cell? ⟨N + 1 + 1 + 1, 1, none⟩ = some (.slice oa es.length oc)) w' := fun w' hw => ⟨hw, cell_blk ((hw.block _ (heap_lt hAr) (by omega)).trans hAr) rfl, cell_blk ((hw.block _ (heap_lt hAr) (by omega)).trans hAr) rfl, cell_blk ((hw.block _ (heap_lt hBr) (by omega)).trans hBr) rfl, cell_blk ((hw.block _ (heap_lt hBr) (by omega)).trans hBr) rfl, cell_blk ((hw.block _ (heap_lt hO) (by omega)).trans hO) rfl, cell_blk ((hw.block _ (heap_lt hO) (by omega)).trans hO) rfl⟩
      have hlvA : Hid (∀ w', Fr (fun q => S ≤ q) wr w' → Calls Try.prog 39 #[.agg #[.int .i64 da, .slice aa xa.length ac], .int .u64 id] w' fun e w'' => e = .returned (.int .i64 (lev da xa id)) ∧ Nw w' w'') := fun w' hw => c_rlevel da id w' (hxa.keep (X' := fun _ => True) hw (fun b hb _ h => by omega) (fun _ _ _ => trivial))
      have hlvB : Hid (∀ w', Fr (fun q => S ≤ q) wr w' → Calls Try.prog 39 #[.agg #[.int .i64 db, .slice ba xb.length bc], .int .u64 id] w' fun e w'' => e = .returned (.int .i64 (lev db xb id)) ∧ Nw w' w'') := fun w' hw => c_rlevel db id w' (hxb.keep (X' := fun _ => True) hw (fun b hb _ h => by omega) (fun _ _ _ => trivial))
      have hpk : Hid (∀ w : World, Calls Try.prog 40 #[.int .i64 (lev da xa id), .int .i64 (lev db xb id), .bool g] w fun e w' => e = .returned (.int .i64 (f id)) ∧ w = w') := fun w => by rw [hfx.out]; exact c_pick g _ _ w
      clear hfx
      generalize lev da xa id = la at *
      generalize lev db xb id = lb at *
      generalize hx : f id = x at *
      replace hx : Hid _ := hx
      have hW0 : Fr (fun q => S ≤ q) wr wr.drew := Fr.drew (Fr.refl _ wr)
      have hW0n : Nw wr wr.drew := Fr.drew (Fr.refl _ wr)
      go_wp2
      have hSS := hSof _ hW0
      refine wp_region_ord [] 14 [(0, true), (1, true), (2, true), (3, true), (4, true), (6, true), (7, true), (9, true), (5, false), (8, false), (10, false), (11, true), (12, false), (13, false)] (fun w' : World => Fr (fun q => S ≤ q) wr w' ∧ w'.cell? ⟨N, 0, none⟩ = some (.int .i64 da) ∧ w'.cell? ⟨N, 1, none⟩ = some (.slice aa xa.length ac) ∧ w'.cell? ⟨N + 1, 0, none⟩ = some (.int .i64 db) ∧ w'.cell? ⟨N + 1, 1, none⟩ = some (.slice ba xb.length bc) ∧ w'.cell? ⟨N + 1 + 1 + 1, 0, none⟩ = some (.int .i64 D) ∧ w'.cell? ⟨N + 1 + 1 + 1, 1, none⟩ = some (.slice oa es.length oc)) (by kernel_rfl) (by kernel_rfl) ?_
      refine ord_quietL _ ?_ rfl hSS rfl ?_ ?_
      rotate_left
      · rintro w' ⟨hn, h0, h1, h2, h3, h4, h5⟩; go_simp; first | rfl | (rw [if_pos (by omega)]; done) | (rw [if_pos (by omega)]; rfl) | (rw [if_pos (by omega)]; go_simp; rfl)
      simp only [Act.put, List.setIfInBounds_toArray, List.set_cons_zero, List.set_cons_succ]
      refine ord_quietL _ ?_ rfl hSS rfl ?_ ?_
      rotate_left
      · rintro w' ⟨hn, h0, h1, h2, h3, h4, h5⟩; go_simp; first | rfl | (rw [if_pos (by omega)]; done) | (rw [if_pos (by omega)]; rfl) | (rw [if_pos (by omega)]; go_simp; rfl)
      simp only [Act.put, List.setIfInBounds_toArray, List.set_cons_zero, List.set_cons_succ]
      refine ord_quietL _ ?_ rfl hSS rfl ?_ ?_
      rotate_left
      · rintro w' ⟨hn, h0, h1, h2, h3, h4, h5⟩; go_simp; first | rfl | (rw [if_pos (by omega)]; done) | (rw [if_pos (by omega)]; rfl) | (rw [if_pos (by omega)]; go_simp; rfl)
      simp only [Act.put, List.setIfInBounds_toArray, List.set_cons_zero, List.set_cons_succ]
      refine ord_quietL _ ?_ rfl hSS rfl ?_ ?_
      rotate_left
      · rintro w' ⟨hn, h0, h1, h2, h3, h4, h5⟩; go_simp; first | rfl | (rw [if_pos (by omega)]; done) | (rw [if_pos (by omega)]; rfl) | (rw [if_pos (by omega)]; go_simp; rfl)
      simp only [Act.put, List.setIfInBounds_toArray, List.set_cons_zero, List.set_cons_succ]
      refine ord_quietL _ ?_ rfl hSS rfl ?_ ?_
      rotate_left
      · rintro w' ⟨hn, h0, h1, h2, h3, h4, h5⟩; go_simp; first | rfl | (rw [if_pos (by omega)]; done) | (rw [if_pos (by omega)]; rfl) | (rw [if_pos (by omega)]; go_simp; rfl)
      simp only [Act.put, List.setIfInBounds_toArray, List.set_cons_zero, List.set_cons_succ]
      refine ord_quietL _ ?_ rfl hSS rfl ?_ ?_
      rotate_left
      · rintro w' ⟨hn, h0, h1, h2, h3, h4, h5⟩; go_simp; first | rfl | (rw [if_pos (by omega)]; done) | (rw [if_pos (by omega)]; rfl) | (rw [if_pos (by omega)]; go_simp; rfl)
      simp only [Act.put, List.setIfInBounds_toArray, List.set_cons_zero, List.set_cons_succ]
      refine ord_quietL _ ?_ rfl hSS rfl ?_ ?_
      rotate_left
      · rintro w' ⟨hn, h0, h1, h2, h3, h4, h5⟩; go_simp; first | rfl | (rw [if_pos (by omega)]; done) | (rw [if_pos (by omega)]; rfl) | (rw [if_pos (by omega)]; go_simp; rfl)
      simp only [Act.put, List.setIfInBounds_toArray, List.set_cons_zero, List.set_cons_succ]
      refine ord_quietL _ ?_ rfl hSS rfl ?_ ?_
      rotate_left
      · rintro w' ⟨hn, h0, h1, h2, h3, h4, h5⟩; go_simp; first | rfl | (rw [if_pos (by omega)]; done) | (rw [if_pos (by omega)]; rfl) | (rw [if_pos (by omega)]; go_simp; rfl)
      simp only [Act.put, List.setIfInBounds_toArray, List.set_cons_zero, List.set_cons_succ]
      refine ord_actL _ rfl (fun K1 hK1 => ?_)
      have hcon := hlvA.out _ hW0
      go_wp2_with (go_at_call 39; refine Calls.mono hcon ?_; rintro e w3 ⟨rfl, q1⟩)
      have m1 := fr_nw hW0 q1
      have m1n := nw_trans hW0n q1
      refine hK1 _ _ (hSof _ m1) ?_
      clear hK1 K1 hcon q1 hSS
      refine ord_actL _ rfl (fun K1 hK1 => ?_)
      have hcon := hlvB.out _ m1
      go_wp2_with (go_at_call 39; refine Calls.mono hcon ?_; rintro e w4 ⟨rfl, q1⟩)
      have m2 := fr_nw m1 q1
      have m2n := nw_trans m1n q1
      refine hK1 _ _ (hSof _ m2) ?_
      clear hK1 K1 hcon q1
      refine ord_actL _ rfl (fun K1 hK1 => ?_)
      have hcon := hpk.out w4
      go_wp2_with (go_at_call 40; refine Calls.mono hcon ?_; rintro e w5 ⟨rfl, rfl⟩)
      refine hK1 _ _ (hSof _ m2) ?_
      clear hK1 K1 hcon
      have hSS := hSof _ m2
      refine ord_quietL _ ?_ rfl hSS rfl ?_ ?_
      rotate_left
      · rintro w' ⟨hn, h0, h1, h2, h3, h4, h5⟩; go_simp; first | rfl | (rw [if_pos (by omega)]; done) | (rw [if_pos (by omega)]; rfl) | (rw [if_pos (by omega)]; go_simp; rfl)
      simp only [Act.put, List.setIfInBounds_toArray, List.set_cons_zero, List.set_cons_succ]
      refine ord_actL _ rfl (fun K1 hK1 => ?_)
      have m4 : Fr (fun q => S ≤ q) wr (w4.alloc (.cells #[.int .u64 id, .int .i64 x] 33)) := m2.alloc _
      have hrow4 := owns_of_block (w' := w4) hrow (fun q hq => m2n.block q (hrow.lt q hq).2 (fun h => h))
      have hrA := World.ownsRow.alloc hrow4 (.cells #[.int .u64 id, .int .i64 x] 33)
      have hsl := sl_lit w4 #[.int .u64 id, .int .i64 x] 33 1 (by omega)
      have hs4 := m2.size
      go_wp2
      refine hK1 _ _ (hSof _ m4) ?_
      clear hK1 K1 hSS
      refine ord_actL _ rfl (fun K1 hK1 => ?_)
      go_wp2_with (at_builtin; refine wpList_append_sl _ rfl _ _ 22 rfl S 33 i0 _ 2 16 Try.underlying22 hj hj0 hj1 hj2 rfl (by decide) _ _ _ rfl hrA _ _ 1 _ rfl hsl rfl ?d1 ?d2 ?d3 ?d4 ?_)
      case d1 => first | (intro u hu; simp at hu; rcases hu with rfl | rfl <;> rfl) | simp [Value.oneCell']
      case d2 => unfold maxLen; omega
      case d3 => omega
      case d4 => simp; omega
      intro v9 w9 hown9 hgrow9 hat9
      have m9 : Fr (fun q => S ≤ q) wr w9 := m4.grown hgrow9 (fun q hq => .inl (hrow4.lt q hq).1)
      obtain ⟨a9, c9, rfl⟩ := owns_form hown9
      go_wp2
      refine hK1 _ _ (hSof _ m9) ?_
      clear hK1 K1 hgrow9 hat9 hrA hsl
      refine ord_tail ?_
      simp only [List.drop_succ_cons, List.drop_zero]
      have hO9 := (m9.block _ (heap_lt hO) (by omega)).trans hO
      have hf9 : Fr (fun q => q = N + 1 + 1 + 1) w9 (w9.setCell ⟨N + 1 + 1 + 1, 1, none⟩ (.slice a9 (es.length + 1) c9)) := (Fr.refl (fun q => q = N + 1 + 1 + 1) w9).setCell (p := ⟨N + 1 + 1 + 1, 1, none⟩) (.inl rfl) _
      have hO' : (w9.setCell ⟨N + 1 + 1 + 1, 1, none⟩ (.slice a9 (es.length + 1) c9)).heap[N + 1 + 1 + 1]? = some (.cells #[.int .i64 D, .slice a9 (es.length + 1) c9] 24 (0, 0)) := by rw [blk_setCell hO9]; rfl
      have hrow' := owns_of_block (w' := w9.setCell ⟨N + 1 + 1 + 1, 1, none⟩ (.slice a9 (es.length + 1) c9)) hown9 (fun q hq => hf9.block q (hown9.lt q hq).2 (by have := (hown9.lt q hq).1; omega))
      have hrow'' : (w9.setCell ⟨N + 1 + 1 + 1, 1, none⟩ (.slice a9 (es.length + 1) c9)).ownsRow S 33 2 (.slice a9 (es.length + 1) c9) (es ++ [(id, x)]).length (ccells (es ++ [(id, x)])) := by
        rw [ccells_append, ccells_one, List.length_append]
        simpa [ccell] using hrow'
      have hfr' := (hfr.trans m9 (fun q hq => .inl (.inr hq))).trans hf9 (fun q hq => .inl (.inl hq))
      have hS' : S ≤ (w9.setCell ⟨N + 1 + 1 + 1, 1, none⟩ (.slice a9 (es.length + 1) c9)).heap.size := Nat.le_trans hSr (Nat.le_trans m9.size hf9.size)
      have o1 : w9.cell? ⟨N + 1 + 1 + 1, 1, none⟩ = some (.slice oa es.length oc) := cell_blk hO9 rfl
      have o2 : w9.frozen? ⟨N + 1 + 1 + 1, 1, none⟩ = false := free_blk hO9
      have hans : Hid _ := And.intro hO' (And.intro hrow'' (And.intro hfr' hS'))
      clear hO' hrow' hrow'' hfr' hS' hf9 hO9 hown9 hSof hO hrow hfr hlvA hlvB hpk m1 m1n m2 m2n m4 m9 hrow4
      go_wp2
      go_roundw
      case rel => exact ⟨k + 1, _, by omega, by go_num, hans.out.1, by rw [hstep.out]; exact hans.out.2.1, hans.out.2.2.1, hans.out.2.2.2⟩
      case measure => simp [intOf]; omega
    · have hall : (idsL xa xb).take k = idsL xa xb := List.take_of_length_le (by omega)
      rw [hall] at hrow hO
      have hcl : (mgL f (idsL xa xb)).length ≤ xa.length + xb.length := by rw [mgL_length]; exact hidl
      generalize mgL f (idsL xa xb) = es at *
      have k1 := (mk_of_owns hrow).csl
      have o0 : wr.cell? ⟨N + 1 + 1 + 1, 0, none⟩ = some (.int .i64 D) := cell_blk hO rfl
      have o1 : wr.cell? ⟨N + 1 + 1 + 1, 1, none⟩ = some (.slice oa es.length oc) := cell_blk hO rfl
      have nwr : Nw w wr := Fr.trans nW1 hfr (fun q hq => .inr (by rw [hNN.out]; rcases hq with h | h <;> omega))
      have hcon : Hid _ := c_form D wr k1 (by omega)
      unfold labV at hcon
      clear k1 hAr hBr hO hrow hfr hall
      go_wp2_with (go_at_call 37; refine Calls.mono hcon.out ?_; rintro e w2 ⟨u2, y2, rfl, q1, q2, q3, q4, q5⟩; refine stop_here ?_)
      unfold Hid labV
      clear hcon o0 o1
      obtain ⟨hans, hrr, z0, z1, zf⟩ := store_made (B := N + 1 + 1) (f := f) (N := xa.length + xb.length) nwr hZr (Nat.le_refl _) (by rw [hNN.out]; omega) q1 q2 (fun id => (q3 id).trans (hml.out id)) (by omega) q5
      obtain ⟨fa, fc, rfl, _, _⟩ := q1.form
      replace hans : Hid _ := hans
      clear q1 q2 q3 q4 q5 hZr nwr
      go_wp2
      refine bodyPost_ret (results_cell1 rfl _ (N + 1 + 1) _ _ rfl rfl hrr Try.rowL Try.sizeL) rfl ?_
      exact hans.out
end Go.Proofs.Ytimgelekpghklaa
