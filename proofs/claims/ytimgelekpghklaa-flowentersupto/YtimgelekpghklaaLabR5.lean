/-
  The document's Form.
-/
import Derived.Test.YtimgelekpghklaaLabR3
namespace Go.Proofs.Ytimgelekpghklaa
set_option linter.unusedVariables false
set_option linter.unusedSimpArgs false
set_option maxRecDepth 20000
open Go.RowKit

/-- The categories of a label, with their levels. -/
def frD (d : Int) (xs : List Cat) : List Vs := (idsL xs []).map (fun i => (i, lev d xs i, 0))

theorem frD_vis (d : Int) (xs : List Cat) : Vis d 0 (lev d xs) (fun _ => 0) (frD d xs) := by
  obtain ⟨h1, h2, h3⟩ := idsL_rs xs []
  refine ⟨?_, fun v hv => ?_, fun id => ?_, ?_⟩
  · unfold frD
    exact List.pairwise_map.2 h1
  · unfold frD at hv
    obtain ⟨i, _, rfl⟩ := List.mem_map.1 hv
    exact ⟨rfl, rfl⟩
  · by_cases hid : id ∈ idsL xs []
    · exact .inl ⟨_, List.mem_map.2 ⟨id, hid, rfl⟩, rfl⟩
    · rw [h2] at hid
      exact .inr ⟨lev_none (fun c hc he => hid (.inl ⟨c, hc, he⟩)), rfl⟩
  · obtain ⟨m, hm⟩ := far xs
    exact ⟨m, lev_none (fun c hc => by have := hm c hc; omega), rfl⟩

theorem frD_length (d : Int) (xs : List Cat) : (frD d xs).length = (idsL xs []).length := by simp [frD]

theorem chs_take (d : Int) (xs : List Cat) (k : Nat) (hk : k < (idsL xs []).length) : chs (fun x _ : Int => x) d ((frD d xs).take (k + 1)) = if lev d xs (idsL xs [])[k] = d then chs (fun x _ : Int => x) d ((frD d xs).take k) else chs (fun x _ : Int => x) d ((frD d xs).take k) ++ [((idsL xs [])[k], lev d xs (idsL xs [])[k])] := by
  rw [List.take_succ_eq_append_getElem (by rw [frD_length]; exact hk), chs_snoc]
  simp [frD]

theorem chs_len (d : Int) (xs : List Cat) (k : Nat) : (chs (fun x _ : Int => x) d ((frD d xs).take k)).length ≤ k := Nat.le_trans (chs_le _ _ _) (by simp; omega)

set_option maxHeartbeats 6400000 in
theorem c_form {X : Nat → Prop} {v : Value} {xs : List Cat} (d : Int) (w : World) (h : CSl X w v xs) (hl : xs.length ≤ 8796093022208) :
    Calls Try.prog 37 #[labV d v] w (MadeL w d (lev d xs) xs.length) := by
  obtain ⟨i0, hj, hj0, hj1, hj2⟩ := info_parts3 Try.infoC
  obtain ⟨ao, cap, rfl, ha1, ha2⟩ := h.form
  obtain ⟨W, hW⟩ : ∃ W, Hid (W = ((w.alloc (.cells #[.int .i64 d, .slice ao xs.length cap] 24)).alloc (.cells #[.int .i64 0, .slice none 0 0] 24)).alloc (.cells #[.int .i64 d, .slice none 0 0] 24)) := ⟨_, rfl⟩
  have nW : Nw w W := by rw [hW.out]; exact nw_alloc (nw_alloc (nw_alloc (nw_refl w) _) _) _
  have hA : W.heap[w.heap.size]? = some (.cells #[.int .i64 d, .slice ao xs.length cap] 24 (0, 0)) := by
    rw [hW.out, Below.heap_alloc _ _ _ (by simp; try omega)]; exact heap_alloc2_old w _ _
  have hZ : W.heap[w.heap.size + 1]? = some (.cells #[.int .i64 0, .slice none 0 0] 24 (0, 0)) := by
    rw [hW.out, Below.heap_alloc _ _ _ (by simp; try omega)]; exact heap_alloc2_new w _ _
  have hO : W.heap[w.heap.size + 1 + 1]? = some (.cells #[.int .i64 d, .slice none 0 0] 24 (0, 0)) := by
    rw [hW.out]
    have := heap_alloc_new ((w.alloc (.cells #[.int .i64 d, .slice ao xs.length cap] 24)).alloc (.cells #[.int .i64 0, .slice none 0 0] 24)) (.cells #[.int .i64 d, .slice none 0 0] 24)
    simpa using this
  have hsz : W.heap.size = w.heap.size + 1 + 1 + 1 := by rw [hW.out]; simp
  replace h := (h.mono (X' := fun b => b < w.heap.size) (fun b _ h => h)).nw nW
  have hcon : Hid _ := c_ids d 0 W h (csl_nil (fun _ => True) W) (by simp; omega)
  unfold labV
  go_enter Try.func37, Try.ntmps37
  go_upto_region 2 with fail
  rw [← hW.out]
  clear hW
  generalize hNN : w.heap.size = N at *
  replace hNN : Hid _ := hNN
  have a0 : W.cell? ⟨N, 0, none⟩ = some (.int .i64 d) := cell_blk hA rfl
  have a1 : W.cell? ⟨N, 1, none⟩ = some (.slice ao xs.length cap) := cell_blk hA rfl
  have hidl := (idsL_rs xs []).2.2
  simp only [List.length_nil, Nat.add_zero] at hidl
  go_wp2_with (go_at_call 38; refine Calls.mono hcon.out ?_; rintro e W1 ⟨u, rfl, hu, n1⟩; refine stop_here ?_)
  unfold Hid
  clear hcon a0 a1
  replace hA := (n1.block _ (heap_lt hA) (fun h => h)).trans hA
  replace hZ := (n1.block _ (heap_lt hZ) (fun h => h)).trans hZ
  replace hO := (n1.block _ (heap_lt hO) (fun h => h)).trans hO
  replace h := h.nw n1
  have nW1 := nw_trans nW n1
  have hs1 := n1.size
  clear n1 nW
  obtain ⟨ua, uc, rfl, hu1, hu2⟩ := hu.form
  obtain ⟨S, hS⟩ : ∃ S, Hid (S = W1.heap.size) := ⟨_, rfl⟩
  have hS1 : N + 1 + 1 < S := by rw [hS.out]; omega
  replace hu := hu.mono (X' := fun b => N + 1 + 1 < b ∧ b < S) (fun b hb hlt => ⟨by omega, by rw [hS.out]; exact hlt⟩)
  have hrow0 : W1.ownsRow S 33 2 (.slice none 0 0) 0 [] := World.ownsRow_nil _ _ _ _
  go_wp2
  go_loopw [14] (fun kv wr => ∃ (k : Nat) (u : Value), k ≤ (idsL xs []).length ∧ kv = .int .i64 k ∧ wr.heap[N + 1 + 1]? = some (.cells #[.int .i64 d, u] 24 (0, 0)) ∧ wr.ownsRow S 33 2 u (chs (fun x _ : Int => x) d ((frD d xs).take k)).length (ccells (chs (fun x _ : Int => x) d ((frD d xs).take k))) ∧ Fr (fun q => q = N + 1 + 1 ∨ S ≤ q) W1 wr ∧ S ≤ wr.heap.size) (fun kv _ => (idsL xs []).length - (intOf kv).toNat)
  case atStart => exact ⟨0, _, Nat.zero_le _, rfl, hO, hrow0, Fr.refl _ _, by rw [hS.out]; exact Nat.le_refl _⟩
  case round =>
    clear hrow0 hO
    obtain ⟨k, ov, hk, rfl, hO, hrow, hfr, hSr⟩ := hrel
    obtain ⟨oa, oc, rfl⟩ := owns_form hrow
    have hAr := (hfr.block _ (heap_lt hA) (by omega)).trans hA
    have hZr := (hfr.block _ (heap_lt hZ) (by omega)).trans hZ
    by_cases hlt : k < (idsL xs []).length
    · obtain ⟨q, off, rfl, _, d1⟩ := (hu.keep (X' := fun _ => True) hfr (fun b hb _ h => by rcases h with h | h <;> omega) (fun _ _ _ => trivial)).get k hlt
      have hxr := h.keep (X' := fun b => b < N) hfr (fun b hb _ h => by rcases h with h | h <;> omega) (fun b hb _ => hb)
      have hstep := chs_take d xs k hlt
      have hcl := chs_len d xs k
      generalize (idsL xs [])[k] = id at *
      generalize hes : (chs (fun x _ : Int => x) d ((frD d xs).take k)) = es at *
      replace hes : Hid _ := hes
      have hSof : ∀ w', Fr (fun q => S ≤ q) wr w' → (fun w' : World => Fr (fun q => S ≤ q) wr w' ∧ w'.cell? ⟨N, 0, none⟩ = some (.int .i64 d) ∧ w'.cell? ⟨N, 1, none⟩ = some (.slice ao xs.length cap) ∧ w'.cell? ⟨N + 1 + 1, 0, none⟩ = some (.int .i64 d) ∧ w'.cell? ⟨N + 1 + 1, 1, none⟩ = some (.slice oa es.length oc)) w' := fun w' hw => ⟨hw, cell_blk ((hw.block _ (heap_lt hAr) (by omega)).trans hAr) rfl, cell_blk ((hw.block _ (heap_lt hAr) (by omega)).trans hAr) rfl, cell_blk ((hw.block _ (heap_lt hO) (by omega)).trans hO) rfl, cell_blk ((hw.block _ (heap_lt hO) (by omega)).trans hO) rfl⟩
      have hlev : Hid (∀ w', Fr (fun q => S ≤ q) wr w' → Calls Try.prog 39 #[.agg #[.int .i64 d, .slice ao xs.length cap], .int .u64 id] w' fun e w'' => e = .returned (.int .i64 (lev d xs id)) ∧ Nw w' w'') := fun w' hw => c_rlevel d id w' (hxr.keep (X' := fun _ => True) hw (fun b hb _ h => by omega) (fun _ _ _ => trivial))
      have hW0 : Fr (fun q => S ≤ q) wr wr.drew := Fr.drew (Fr.refl _ wr)
      generalize hx : lev d xs id = x at *
      replace hx : Hid _ := hx
      go_wp2
      have hSS := hSof _ hW0
      refine wp_region_ord [] 5 [(0, true), (1, true), (3, true), (4, true), (2, false)] (fun w' : World => Fr (fun q => S ≤ q) wr w' ∧ w'.cell? ⟨N, 0, none⟩ = some (.int .i64 d) ∧ w'.cell? ⟨N, 1, none⟩ = some (.slice ao xs.length cap) ∧ w'.cell? ⟨N + 1 + 1, 0, none⟩ = some (.int .i64 d) ∧ w'.cell? ⟨N + 1 + 1, 1, none⟩ = some (.slice oa es.length oc)) (by kernel_rfl) (by kernel_rfl) ?_
      refine ord_quietL _ ?_ rfl hSS rfl ?_ ?_
      rotate_left
      · rintro w' ⟨hn, h0, h1, h2, h3⟩; go_simp; first | rfl | (rw [if_pos (by omega)]; done) | (rw [if_pos (by omega)]; rfl) | (rw [if_pos (by omega)]; go_simp; rfl)
      simp only [Act.put, List.setIfInBounds_toArray, List.set_cons_zero, List.set_cons_succ]
      refine ord_quietL _ ?_ rfl hSS rfl ?_ ?_
      rotate_left
      · rintro w' ⟨hn, h0, h1, h2, h3⟩; go_simp; first | rfl | (rw [if_pos (by omega)]; done) | (rw [if_pos (by omega)]; rfl) | (rw [if_pos (by omega)]; go_simp; rfl)
      simp only [Act.put, List.setIfInBounds_toArray, List.set_cons_zero, List.set_cons_succ]
      refine ord_quietL _ ?_ rfl hSS rfl ?_ ?_
      rotate_left
      · rintro w' ⟨hn, h0, h1, h2, h3⟩; go_simp; first | rfl | (rw [if_pos (by omega)]; done) | (rw [if_pos (by omega)]; rfl) | (rw [if_pos (by omega)]; go_simp; rfl)
      simp only [Act.put, List.setIfInBounds_toArray, List.set_cons_zero, List.set_cons_succ]
      refine ord_quietL _ ?_ rfl hSS rfl ?_ ?_
      rotate_left
      · rintro w' ⟨hn, h0, h1, h2, h3⟩; go_simp; first | rfl | (rw [if_pos (by omega)]; done) | (rw [if_pos (by omega)]; rfl) | (rw [if_pos (by omega)]; go_simp; rfl)
      simp only [Act.put, List.setIfInBounds_toArray, List.set_cons_zero, List.set_cons_succ]
      refine ord_actL _ rfl (fun K1 hK1 => ?_)
      have hcon := hlev.out _ hW0
      go_wp2_with (go_at_call 39; refine Calls.mono hcon ?_; rintro e w3 ⟨rfl, q1⟩)
      have m1 := fr_nw hW0 q1
      have m1n : Nw wr w3 := nw_trans (Fr.drew (Fr.refl _ wr)) q1
      refine hK1 _ _ (hSof _ m1) ?_
      clear hK1 K1 hcon q1 hSS
      refine ord_tail ?_
      simp only [List.drop_succ_cons, List.drop_zero]
      by_cases hxd : x = d
      · have hb : (x != d) = false := by simp [hxd]
        have hstep' : Hid ((chs (fun x _ : Int => x) d ((frD d xs).take (k + 1))) = es) := by unfold Hid; rw [hstep, if_pos hxd]
        have hO' := (m1.block _ (heap_lt hO) (by omega)).trans hO
        have hrow' := owns_of_block (w' := w3) hrow (fun q hq => m1n.block q (hrow.lt q hq).2 (fun h => h))
        have hfr' := fr_nw hfr m1n
        have hS' := Nat.le_trans hSr m1.size
        clear hSof hstep hxd hO hrow hfr hlev
        go_wp2
        go_roundw
        case rel => exact ⟨k + 1, _, by omega, by go_num, hO', by rw [hstep'.out]; exact hrow', hfr', hS'⟩
        case measure => simp [intOf]; omega
      · have hb : (x != d) = true := by simp [hxd]
        have hstep' : Hid ((chs (fun x _ : Int => x) d ((frD d xs).take (k + 1))) = es ++ [(id, x)]) := by unfold Hid; rw [hstep, if_neg hxd]
        clear hstep hxd
        go_wp2
        have m2 : Fr (fun q => S ≤ q) wr w3.drew := Fr.drew m1
        have m2n : Nw wr w3.drew := Fr.drew m1n
        have hSS := hSof _ m2
        refine wp_region_ord [] 9 [(0, true), (1, true), (2, true), (3, true), (4, true), (5, false), (6, true), (7, false), (8, false)] (fun w' : World => Fr (fun q => S ≤ q) wr w' ∧ w'.cell? ⟨N, 0, none⟩ = some (.int .i64 d) ∧ w'.cell? ⟨N, 1, none⟩ = some (.slice ao xs.length cap) ∧ w'.cell? ⟨N + 1 + 1, 0, none⟩ = some (.int .i64 d) ∧ w'.cell? ⟨N + 1 + 1, 1, none⟩ = some (.slice oa es.length oc)) (by kernel_rfl) (by kernel_rfl) ?_
        refine ord_quietL _ ?_ rfl hSS rfl ?_ ?_
        rotate_left
        · rintro w' ⟨hn, h0, h1, h2, h3⟩; go_simp; first | rfl | (rw [if_pos (by omega)]; done) | (rw [if_pos (by omega)]; rfl) | (rw [if_pos (by omega)]; go_simp; rfl)
        simp only [Act.put, List.setIfInBounds_toArray, List.set_cons_zero, List.set_cons_succ]
        refine ord_quietL _ ?_ rfl hSS rfl ?_ ?_
        rotate_left
        · rintro w' ⟨hn, h0, h1, h2, h3⟩; go_simp; first | rfl | (rw [if_pos (by omega)]; done) | (rw [if_pos (by omega)]; rfl) | (rw [if_pos (by omega)]; go_simp; rfl)
        simp only [Act.put, List.setIfInBounds_toArray, List.set_cons_zero, List.set_cons_succ]
        refine ord_quietL _ ?_ rfl hSS rfl ?_ ?_
        rotate_left
        · rintro w' ⟨hn, h0, h1, h2, h3⟩; go_simp; first | rfl | (rw [if_pos (by omega)]; done) | (rw [if_pos (by omega)]; rfl) | (rw [if_pos (by omega)]; go_simp; rfl)
        simp only [Act.put, List.setIfInBounds_toArray, List.set_cons_zero, List.set_cons_succ]
        refine ord_quietL _ ?_ rfl hSS rfl ?_ ?_
        rotate_left
        · rintro w' ⟨hn, h0, h1, h2, h3⟩; go_simp; first | rfl | (rw [if_pos (by omega)]; done) | (rw [if_pos (by omega)]; rfl) | (rw [if_pos (by omega)]; go_simp; rfl)
        simp only [Act.put, List.setIfInBounds_toArray, List.set_cons_zero, List.set_cons_succ]
        refine ord_quietL _ ?_ rfl hSS rfl ?_ ?_
        rotate_left
        · rintro w' ⟨hn, h0, h1, h2, h3⟩; go_simp; first | rfl | (rw [if_pos (by omega)]; done) | (rw [if_pos (by omega)]; rfl) | (rw [if_pos (by omega)]; go_simp; rfl)
        simp only [Act.put, List.setIfInBounds_toArray, List.set_cons_zero, List.set_cons_succ]
        refine ord_actL _ rfl (fun K1 hK1 => ?_)
        have hcon := hlev.out _ m2
        go_wp2_with (go_at_call 39; refine Calls.mono hcon ?_; rintro e w4 ⟨rfl, q1⟩)
        have m3 := fr_nw m2 q1
        have m3n := nw_trans m2n q1
        refine hK1 _ _ (hSof _ m3) ?_
        clear hK1 K1 hcon q1 hSS
        have hSS := hSof _ m3
        refine ord_quietL _ ?_ rfl hSS rfl ?_ ?_
        rotate_left
        · rintro w' ⟨hn, h0, h1, h2, h3⟩; go_simp; first | rfl | (rw [if_pos (by omega)]; done) | (rw [if_pos (by omega)]; rfl) | (rw [if_pos (by omega)]; go_simp; rfl)
        simp only [Act.put, List.setIfInBounds_toArray, List.set_cons_zero, List.set_cons_succ]
        refine ord_actL _ rfl (fun K1 hK1 => ?_)
        have m4 : Fr (fun q => S ≤ q) wr (w4.alloc (.cells #[.int .u64 id, .int .i64 x] 33)) := m3.alloc _
        have hrow4 := owns_of_block (w' := w4) hrow (fun q hq => m3n.block q (hrow.lt q hq).2 (fun h => h))
        have hrA := World.ownsRow.alloc hrow4 (.cells #[.int .u64 id, .int .i64 x] 33)
        have hsl := sl_lit w4 #[.int .u64 id, .int .i64 x] 33 1 (by omega)
        have hs4 := m3.size
        go_wp2
        refine hK1 _ _ (hSof _ m4) ?_
        clear hK1 K1 hSS
        refine ord_actL _ rfl (fun K1 hK1 => ?_)
        go_wp2_with (at_builtin; refine wpList_append_sl _ rfl _ _ 22 rfl S 33 i0 _ 2 16 Try.underlying22 hj hj0 hj1 hj2 rfl (by decide) _ _ _ rfl hrA _ _ 1 _ rfl hsl rfl ?d1 ?d2 ?d3 ?d4 ?_)
        case d1 => first | (intro u hu; simp at hu; rcases hu with rfl | rfl <;> rfl) | simp [Value.oneCell']
        case d2 => unfold maxLen; omega
        case d3 => omega
        case d4 => simp; omega
        intro v9 w9 hown9 hgrow9 hat9
        have m9 : Fr (fun q => S ≤ q) wr w9 := m4.grown hgrow9 (fun q hq => .inl (hrow4.lt q hq).1)
        obtain ⟨a9, c9, rfl⟩ := owns_form hown9
        go_wp2
        refine hK1 _ _ (hSof _ m9) ?_
        clear hK1 K1 hgrow9 hat9 hrA hsl
        refine ord_tail ?_
        simp only [List.drop_succ_cons, List.drop_zero]
        have hO9 := (m9.block _ (heap_lt hO) (by omega)).trans hO
        have hf9 : Fr (fun q => q = N + 1 + 1) w9 (w9.setCell ⟨N + 1 + 1, 1, none⟩ (.slice a9 (es.length + 1) c9)) := (Fr.refl (fun q => q = N + 1 + 1) w9).setCell (p := ⟨N + 1 + 1, 1, none⟩) (.inl rfl) _
        have hO' : (w9.setCell ⟨N + 1 + 1, 1, none⟩ (.slice a9 (es.length + 1) c9)).heap[N + 1 + 1]? = some (.cells #[.int .i64 d, .slice a9 (es.length + 1) c9] 24 (0, 0)) := by rw [blk_setCell hO9]; rfl
        have hrow' := owns_of_block (w' := w9.setCell ⟨N + 1 + 1, 1, none⟩ (.slice a9 (es.length + 1) c9)) hown9 (fun q hq => hf9.block q (hown9.lt q hq).2 (by have := (hown9.lt q hq).1; omega))
        have hrow'' : (w9.setCell ⟨N + 1 + 1, 1, none⟩ (.slice a9 (es.length + 1) c9)).ownsRow S 33 2 (.slice a9 (es.length + 1) c9) (es ++ [(id, x)]).length (ccells (es ++ [(id, x)])) := by
          rw [ccells_append, ccells_one, List.length_append]
          simpa [ccell] using hrow'
        have hfr' := (hfr.trans m9 (fun q hq => .inl (.inr hq))).trans hf9 (fun q hq => .inl (.inl hq))
        have hS' : S ≤ (w9.setCell ⟨N + 1 + 1, 1, none⟩ (.slice a9 (es.length + 1) c9)).heap.size := Nat.le_trans hSr (Nat.le_trans m9.size hf9.size)
        have o1 : w9.cell? ⟨N + 1 + 1, 1, none⟩ = some (.slice oa es.length oc) := cell_blk hO9 rfl
        have o2 : w9.frozen? ⟨N + 1 + 1, 1, none⟩ = false := free_blk hO9
        have hans : Hid _ := And.intro hO' (And.intro hrow'' (And.intro hfr' hS'))
        clear hO' hrow' hrow'' hfr' hS' hf9 hO9 hown9 hSof hO hrow hfr hlev m1 m1n m2 m2n m3 m3n m4 m9 hrow4
        go_wp2
        go_roundw
        case rel => exact ⟨k + 1, _, by omega, by go_num, hans.out.1, by rw [hstep'.out]; exact hans.out.2.1, hans.out.2.2.1, hans.out.2.2.2⟩
        case measure => simp [intOf]; omega
    · have hkn : k = (frD d xs).length := by rw [frD_length]; omega
      have hall : (frD d xs).take k = frD d xs := by rw [hkn, List.take_length]
      rw [hall] at hrow hO
      have hvis := (frD_vis d xs).chosen (fun x _ : Int => x)
      have hcl : (chs (fun x _ : Int => x) d (frD d xs)).length ≤ xs.length := Nat.le_trans (chs_le _ _ _) (by rw [frD_length]; exact hidl)
      generalize chs (fun x _ : Int => x) d (frD d xs) = es at *
      have k1 := (mk_of_owns hrow).csl
      have o0 : wr.cell? ⟨N + 1 + 1, 0, none⟩ = some (.int .i64 d) := cell_blk hO rfl
      have o1 : wr.cell? ⟨N + 1 + 1, 1, none⟩ = some (.slice oa es.length oc) := cell_blk hO rfl
      have nwr : Nw w wr := Fr.trans nW1 hfr (fun q hq => .inr (by rw [hNN.out]; rcases hq with h | h <;> omega))
      have hZ2 := hZr
      have hR6 : ((wr.setCell ⟨N + 1, 0, none⟩ (.int .i64 d)).setCell ⟨N + 1, 1, none⟩ (.slice oa es.length oc)).heap[N + 1]? = some (.cells #[.int .i64 d, .slice oa es.length oc] 24 (0, 0)) := by
        rw [blk_setCell (blk_setCell hZ2)]; rfl
      have hf6 : Fr (fun q => q = N + 1) wr ((wr.setCell ⟨N + 1, 0, none⟩ (.int .i64 d)).setCell ⟨N + 1, 1, none⟩ (.slice oa es.length oc)) := ((Fr.refl (fun q => q = N + 1) wr).setCell (p := ⟨N + 1, 0, none⟩) (.inl rfl) _).setCell (p := ⟨N + 1, 1, none⟩) (.inl rfl) _
      have hans : Hid (MadeL w d (lev d xs) xs.length (.returned (labV d (.slice oa es.length oc))) ((wr.setCell ⟨N + 1, 0, none⟩ (.int .i64 d)).setCell ⟨N + 1, 1, none⟩ (.slice oa es.length oc))) := ⟨_, es, rfl, k1.keep hf6 (fun b hb _ h => by omega) (fun b hb _ => by rw [hNN.out]; omega), hvis.1, hvis.2, hcl, Fr.trans nwr hf6 (fun q hq => .inr (by rw [hNN.out]; omega))⟩
      have hrr := range_all (C := [.int .i64 d, .slice oa es.length oc]) hR6
      have z0 : wr.cell? ⟨N + 1, 0, none⟩ = some (.int .i64 0) := cell_blk hZ2 rfl
      have z1 : wr.cell? ⟨N + 1, 1, none⟩ = some (.slice none 0 0) := cell_blk hZ2 rfl
      have zf : ∀ k, wr.frozen? ⟨N + 1, k, none⟩ = false := fun k => free_blk hZ2
      clear k1 hvis hcl hR6 hf6 hZ2 hZr hAr hO hrow hfr nwr hall
      go_wp2
      refine bodyPost_ret (results_cell1 rfl _ (N + 1) _ _ rfl rfl hrr Try.rowL Try.sizeL) rfl ?_
      exact hans.out
end Go.Proofs.Ytimgelekpghklaa
