/-
  The document's Copy of nodes.
-/
import Derived.Test.YtnljfhjindenpabTreeQ3
import Derived.Test.YtnljfhjindenpabLibApp
import Derived.Test.YtnljfhjindenpabTreeN3
namespace Go.Proofs.Ytnljfhjindenpab
set_option linter.unusedVariables false
set_option linter.unusedSimpArgs false
set_option maxRecDepth 20000
open Go.RowKit

theorem kcell_one (ks : List Int) : ∀ u ∈ ks.map kcell, u.oneCell' = true := by
  intro u hu
  obtain ⟨k, _, rfl⟩ := List.mem_map.1 hu
  rfl
theorem icell_one (ks : List Int) : ∀ u ∈ ks.map icell, u.oneCell' = true := by
  intro u hu
  obtain ⟨k, _, rfl⟩ := List.mem_map.1 hu
  rfl

set_option maxRecDepth 20000 in
set_option maxHeartbeats 6400000 in
theorem c_copyN {v : Value} {nds : List Nv} (w : World) (h : Nds w v nds) (hb : nds.length ≤ 300) (hB : ∀ nd ∈ nds, nd.1.length ≤ 17592186044416 ∧ nd.2.1.length ≤ 8796093022208 ∧ nd.2.2.length ≤ 17592186044416) :
    Calls Try.prog 25 #[v] w fun e w' => ∃ u, e = .returned u ∧ Nds w' u nds ∧ Nw w w' := by
  obtain ⟨iN, hN, hN0, hN1, hN2⟩ := info_parts3 Try.infoN
  obtain ⟨iK, jK, jK0, jK1, jK2⟩ := info_parts3 Try.infoK
  obtain ⟨iE, jE, jE0, jE1, jE2⟩ := info_parts3 Try.infoE
  obtain ⟨iI, jI, jI0, jI1, jI2⟩ := info_parts3 Try.infoI
  obtain ⟨ao, cap, rfl, hc1, hc2⟩ := h.form
  obtain ⟨n, hn⟩ : ∃ n, Hid (nds.length = n) := ⟨_, rfl⟩
  rw [hn.out] at hb hc1 ⊢
  rw [hn.out] at h
  replace h : Hid (Nds w (.slice ao n cap) nds) := h
  replace hB : Hid _ := hB
  have hL0 : Lst w (fun _ => False) (w.alloc (.cells #[] 92)) (.slice (some ⟨w.heap.size, 0, none⟩) 0 0) (nds.take 0) := ⟨nw_alloc (nw_refl w) _, fun k _ h => h, [], ⟨by simp [tcells], .inr ⟨w.heap.size, 0, #[], rfl, Nat.le_refl _, heap_alloc_new w _, Nat.le_refl _, Nat.zero_le _, by simp, by simp [tcells]⟩⟩, trivial⟩
  replace hL0 : Hid _ := hL0
  go_enter Try.func25, Try.ntmps25
  go_wp2_with (refine wpList_buildSlice0 rfl 46 92 rfl Try.underlying46 (by kernel_rfl) ?_)
  go_loopw [3, 9] (fun ov kv wr => ∃ (j m : Nat) (ab : Option Addr) (cb : Nat), j ≤ n ∧ kv = .int .i64 j ∧ ov = .slice ab m cb ∧ Hid (Lst w (fun _ => False) wr (.slice ab m cb) (nds.take j))) (fun _ kv _ => n - (intOf kv).toNat)
  case atStart => exact ⟨0, 0, _, 0, Nat.zero_le _, rfl, rfl, hL0.out⟩
  case round =>
    obtain ⟨j, m, ab, cb, hj, rfl, rfl, hL⟩ := hrel
    have hww : Nw w wr := hL.out.nw
    by_cases hlt : j < n
    · have hjn : j < nds.length := by rw [hn.out]; exact hlt
      obtain ⟨nd, hnd⟩ : ∃ nd, Hid (nds[j] = nd) := ⟨nds[j], rfl⟩
      obtain ⟨b, off, x, rfl, d0, d1, d2, hct⟩ := (h.out.nw hww).get hjn
      rw [hnd.out] at hct
      have hbd := hB.out nd (by rw [← hnd.out]; exact List.getElem_mem hjn)
      have htk : Hid (nds.take (j + 1) = nds.take j ++ [nd]) := by unfold Hid; rw [List.take_succ_eq_append_getElem hjn, hnd.out]
      obtain ⟨ks, es, is⟩ := nd
      obtain ⟨x0, x1, x2⟩ := x
      simp only at d0 d1 d2 hbd
      obtain ⟨a0, c0, rfl, e0, e1⟩ := hct.1.hs.form
      obtain ⟨a1, c1, rfl, e2, e3⟩ := hct.2.1.hs.form
      obtain ⟨a2, c2, rfl, e4, e5⟩ := hct.2.2.hs.form
      obtain ⟨b1, b2, b3⟩ := hbd
      have hVV := heap_alloc_new wr (.cells #[.slice a0 ks.length c0, .slice a1 es.length c1, .slice a2 is.length c2] 92)
      have nU : Nw wr (wr.alloc (.cells #[.slice a0 ks.length c0, .slice a1 es.length c1, .slice a2 is.length c2] 92)) := nw_alloc (nw_refl wr) _
      go_upto_region 5 with fail
      generalize wr.alloc (.cells #[.slice a0 ks.length c0, .slice a1 es.length c1, .slice a2 is.length c2] 92) = U at *
      generalize hV : wr.heap.size = V at *
      replace hV : Hid _ := hV
      clear d0 d1 d2
      have hctU : Ct (fun _ => True) U (.slice a0 ks.length c0, .slice a1 es.length c1, .slice a2 is.length c2) (ks, es, is) := hct.nw nU
      have hLU : Hid (Lst w (fun _ => False) U (.slice ab m cb) (nds.take j)) := hL.out.nw' nU
      have hwU := nw_trans hww nU
      clear hct hL hww nU
      have hsK : ∀ w', Nw U w' → Hs w' (.slice a0 ks.length c0) ks.length (ks.map kcell) := fun w' hw => Hs.nw hctU.1.hs hw
      have hsE : ∀ w', Nw U w' → Hs w' (.slice a1 es.length c1) es.length (ecells es) := fun w' hw => Hs.nw hctU.2.1.hs hw
      have hsI : ∀ w', Nw U w' → Hs w' (.slice a2 is.length c2) is.length (is.map icell) := fun w' hw => Hs.nw hctU.2.2.hs hw
      replace hsK : Hid _ := hsK
      replace hsE : Hid _ := hsE
      replace hsI : Hid _ := hsI
      clear hctU
      have hS0 : ∀ w', Nw U w' → (fun w' : World => Nw U w' ∧ w'.cell? ⟨V, 0, none⟩ = some (.slice a0 ks.length c0) ∧ w'.cell? ⟨V, 1, none⟩ = some (.slice a1 es.length c1) ∧ w'.cell? ⟨V, 2, none⟩ = some (.slice a2 is.length c2)) w' := fun w' hw => ⟨hw, cell_blk ((hw.block _ (heap_lt hVV) (fun h => h)).trans hVV) rfl, cell_blk ((hw.block _ (heap_lt hVV) (fun h => h)).trans hVV) rfl, cell_blk ((hw.block _ (heap_lt hVV) (fun h => h)).trans hVV) rfl⟩
      have hS := hS0 _ (Fr.drew (Fr.refl _ U))
      replace hS0 : Hid _ := hS0
      refine wp_region_plan [] 15 [(0, []), (2, []), (6, []), (10, []), (3, []), (7, []), (11, []), (0, [(1, []), (4, [1]), (5, []), (8, [5, 4]), (9, []), (12, [9, 8])]), (13, []), (0, [(14, [])])] (fun w' : World => Nw U w' ∧ w'.cell? ⟨V, 0, none⟩ = some (.slice a0 ks.length c0) ∧ w'.cell? ⟨V, 1, none⟩ = some (.slice a1 es.length c1) ∧ w'.cell? ⟨V, 2, none⟩ = some (.slice a2 is.length c2)) (by kernel_rfl) (by kernel_rfl) ?_
      refine plan_quiet _ ?_ rfl hS rfl ?_ ?_
      rotate_left
      · rintro w' ⟨hn, h0, h1, h2⟩; go_simp; first | rfl | (rw [if_pos (by omega)]; done) | (rw [if_pos (by omega)]; rfl) | (rw [if_pos (by omega)]; go_simp; rfl)
      simp only [Act.put, List.setIfInBounds_toArray, List.set_cons_zero, List.set_cons_succ]
      refine plan_quiet _ ?_ rfl hS rfl ?_ ?_
      rotate_left
      · rintro w' ⟨hn, h0, h1, h2⟩; go_simp; first | rfl | (rw [if_pos (by omega)]; done) | (rw [if_pos (by omega)]; rfl) | (rw [if_pos (by omega)]; go_simp; rfl)
      simp only [Act.put, List.setIfInBounds_toArray, List.set_cons_zero, List.set_cons_succ]
      refine plan_quiet _ ?_ rfl hS rfl ?_ ?_
      rotate_left
      · rintro w' ⟨hn, h0, h1, h2⟩; go_simp; first | rfl | (rw [if_pos (by omega)]; done) | (rw [if_pos (by omega)]; rfl) | (rw [if_pos (by omega)]; go_simp; rfl)
      simp only [Act.put, List.setIfInBounds_toArray, List.set_cons_zero, List.set_cons_succ]
      refine plan_quiet _ ?_ rfl hS rfl ?_ ?_
      rotate_left
      · rintro w' ⟨hn, h0, h1, h2⟩; go_simp; first | rfl | (rw [if_pos (by omega)]; done) | (rw [if_pos (by omega)]; rfl) | (rw [if_pos (by omega)]; go_simp; rfl)
      simp only [Act.put, List.setIfInBounds_toArray, List.set_cons_zero, List.set_cons_succ]
      refine plan_quiet _ ?_ rfl hS rfl ?_ ?_
      rotate_left
      · rintro w' ⟨hn, h0, h1, h2⟩; go_simp; first | rfl | (rw [if_pos (by omega)]; done) | (rw [if_pos (by omega)]; rfl) | (rw [if_pos (by omega)]; go_simp; rfl)
      simp only [Act.put, List.setIfInBounds_toArray, List.set_cons_zero, List.set_cons_succ]
      refine plan_quiet _ ?_ rfl hS rfl ?_ ?_
      rotate_left
      · rintro w' ⟨hn, h0, h1, h2⟩; go_simp; first | rfl | (rw [if_pos (by omega)]; done) | (rw [if_pos (by omega)]; rfl) | (rw [if_pos (by omega)]; go_simp; rfl)
      simp only [Act.put, List.setIfInBounds_toArray, List.set_cons_zero, List.set_cons_succ]
      refine plan_quiet _ ?_ rfl hS rfl ?_ ?_
      rotate_left
      · rintro w' ⟨hn, h0, h1, h2⟩; go_simp; first | rfl | (rw [if_pos (by omega)]; done) | (rw [if_pos (by omega)]; rfl) | (rw [if_pos (by omega)]; go_simp; rfl)
      simp only [Act.put, List.setIfInBounds_toArray, List.set_cons_zero, List.set_cons_succ]
      refine plan_group (fun | 1 => 14 | 4 => 17 | 5 => 18 | 8 => 21 | 9 => 22 | 12 => 25 | _ => 0) (fun
        | 1 => fun v w => ∃ g, v = .slice (some ⟨g, 0, none⟩) 0 0 ∧ U.heap.size ≤ g ∧ w.heap[g]? = some (.cells #[] 27 (0, 0))
        | 4 => fun v w => w.ownsRow U.heap.size 27 1 v ks.length (ks.map kcell)
        | 5 => fun v w => ∃ g, v = .slice (some ⟨g, 0, none⟩) 0 0 ∧ U.heap.size ≤ g ∧ w.heap[g]? = some (.cells #[] 58 (0, 0))
        | 8 => fun v w => w.ownsRow U.heap.size 58 2 v es.length (ecells es)
        | 9 => fun v w => ∃ g, v = .slice (some ⟨g, 0, none⟩) 0 0 ∧ U.heap.size ≤ g ∧ w.heap[g]? = some (.cells #[] 3 (0, 0))
        | 12 => fun v w => w.ownsRow U.heap.size 3 1 v is.length (is.map icell)
        | _ => fun _ _ => True) Nw (by decide) (by decide) (by decide) (fun a b ha hb => hS0.out b (nw_trans ha.1 hb)) ?FG hS ?steps ?fin
      case FG =>
        intro p hp v wa wb h1 h2
        simp only [List.mem_cons, List.not_mem_nil, or_false] at hp
        rcases hp with rfl | rfl | rfl | rfl | rfl | rfl
        · obtain ⟨g, q1, q2, q3⟩ := h1
          exact ⟨g, q1, q2, (h2.block _ (heap_lt q3) (fun h => h)).trans q3⟩
        · exact owns_of_block h1 (fun k hk => h2.block k (h1.lt k hk).2 id)
        · obtain ⟨g, q1, q2, q3⟩ := h1
          exact ⟨g, q1, q2, (h2.block _ (heap_lt q3) (fun h => h)).trans q3⟩
        · exact owns_of_block h1 (fun k hk => h2.block k (h1.lt k hk).2 id)
        · obtain ⟨g, q1, q2, q3⟩ := h1
          exact ⟨g, q1, q2, (h2.block _ (heap_lt q3) (fun h => h)).trans q3⟩
        · exact owns_of_block h1 (fun k hk => h2.block k (h1.lt k hk).2 id)
      case steps =>
        intro p hp y w2 hS2 hd
        have hw2 := hS2.1.size
        simp only [List.mem_cons, List.not_mem_nil, or_false] at hp
        rcases hp with rfl | rfl | rfl | rfl | rfl | rfl
        · refine ⟨_, rfl, fun K hK => ?_⟩
          simp only [putAll, Act.put, List.setIfInBounds_toArray, List.set_cons_zero, List.set_cons_succ] at hK ⊢
          clear hd hS
          have hx := nw_alloc (nw_refl w2) (.cells #[] 27)
          have hy := heap_alloc_new w2 (.cells #[] 27)
          go_wp2_with (refine wpList_buildSlice0 rfl 88 27 rfl Try.underlying88 (by kernel_rfl) ?_)
          exact hK _ _ hx ⟨_, rfl, hw2, hy⟩
        · refine ⟨_, rfl, fun K hK => ?_⟩
          obtain ⟨g, hg0, hg1, hg2⟩ := hd 1 (by simp)
          simp only [putAll, Act.put, List.setIfInBounds_toArray, List.set_cons_zero, List.set_cons_succ, hg0] at hK ⊢
          have hsl := hsK.out w2 hS2.1
          clear hd hS hg0
          go_wp2_with (at_builtin; refine wpList_append_new _ rfl _ _ 88 rfl 27 iK _ 1 8 Try.underlying88 jK jK0 jK1 jK2 rfl (by decide) g rfl hg2 _ _ _ _ rfl hsl (by simp) (kcell_one ks) ?d2 ?d3 ?_)
          case d2 => unfold maxLen; omega
          case d3 => omega
          intro v9 w9 hown9 hn9
          obtain ⟨a9, c9, rfl⟩ := owns_form hown9
          go_wp2
          exact hK _ _ hn9 (owns_base hown9 hg1)
        · refine ⟨_, rfl, fun K hK => ?_⟩
          simp only [putAll, Act.put, List.setIfInBounds_toArray, List.set_cons_zero, List.set_cons_succ] at hK ⊢
          clear hd hS
          have hx := nw_alloc (nw_refl w2) (.cells #[] 58)
          have hy := heap_alloc_new w2 (.cells #[] 58)
          go_wp2_with (refine wpList_buildSlice0 rfl 89 58 rfl Try.underlying89 (by kernel_rfl) ?_)
          exact hK _ _ hx ⟨_, rfl, hw2, hy⟩
        · refine ⟨_, rfl, fun K hK => ?_⟩
          obtain ⟨g, hg0, hg1, hg2⟩ := hd 5 (by simp)
          simp only [putAll, Act.put, List.setIfInBounds_toArray, List.set_cons_zero, List.set_cons_succ, hg0] at hK ⊢
          have hsl := hsE.out w2 hS2.1
          clear hd hS hg0
          go_wp2_with (at_builtin; refine wpList_append_new _ rfl _ _ 89 rfl 58 iE _ 2 16 Try.underlying89 jE jE0 jE1 jE2 rfl (by decide) g rfl hg2 _ _ _ _ rfl hsl (ecells_length es) (ecells_oneCell es) ?d2 ?d3 ?_)
          case d2 => unfold maxLen; omega
          case d3 => omega
          intro v9 w9 hown9 hn9
          obtain ⟨a9, c9, rfl⟩ := owns_form hown9
          go_wp2
          exact hK _ _ hn9 (owns_base hown9 hg1)
        · refine ⟨_, rfl, fun K hK => ?_⟩
          simp only [putAll, Act.put, List.setIfInBounds_toArray, List.set_cons_zero, List.set_cons_succ] at hK ⊢
          clear hd hS
          have hx := nw_alloc (nw_refl w2) (.cells #[] 3)
          have hy := heap_alloc_new w2 (.cells #[] 3)
          go_wp2_with (refine wpList_buildSlice0 rfl 90 3 rfl Try.underlying90 (by kernel_rfl) ?_)
          exact hK _ _ hx ⟨_, rfl, hw2, hy⟩
        · refine ⟨_, rfl, fun K hK => ?_⟩
          obtain ⟨g, hg0, hg1, hg2⟩ := hd 9 (by simp)
          simp only [putAll, Act.put, List.setIfInBounds_toArray, List.set_cons_zero, List.set_cons_succ, hg0] at hK ⊢
          have hsl := hsI.out w2 hS2.1
          clear hd hS hg0
          go_wp2_with (at_builtin; refine wpList_append_new _ rfl _ _ 90 rfl 3 iI _ 1 8 Try.underlying90 jI jI0 jI1 jI2 rfl (by decide) g rfl hg2 _ _ _ _ rfl hsl (by simp) (icell_one is) ?d2 ?d3 ?_)
          case d2 => unfold maxLen; omega
          case d3 => omega
          intro v9 w9 hown9 hn9
          obtain ⟨a9, c9, rfl⟩ := owns_form hown9
          go_wp2
          exact hK _ _ hn9 (owns_base hown9 hg1)
      case fin =>
        intro x w2 hS2 hF
        have r1 := hF (4, [1]) (by simp)
        have r2 := hF (8, [5, 4]) (by simp)
        have r3 := hF (12, [9, 8]) (by simp)
        simp only at r1 r2 r3
        obtain ⟨p1, s1, t1⟩ := owns_form r1
        obtain ⟨p2, s2, t2⟩ := owns_form r2
        obtain ⟨p3, s3, t3⟩ := owns_form r3
        simp only [putAll, Act.put, List.setIfInBounds_toArray, List.set_cons_zero, List.set_cons_succ, t1, t2, t3]
        rw [t1] at r1
        rw [t2] at r2
        rw [t3] at r3
        have hW2 := hS2.1
        replace hS := hS2
        clear hF hS2 t1 t2 t3
        refine plan_quiet _ ?_ rfl hS rfl ?_ ?_
        rotate_left
        · rintro w' ⟨hn, h0, h1, h2⟩; go_simp; first | rfl | (rw [if_pos (by omega)]; done) | (rw [if_pos (by omega)]; rfl) | (rw [if_pos (by omega)]; go_simp; rfl)
        simp only [Act.put, List.setIfInBounds_toArray, List.set_cons_zero, List.set_cons_succ]
        obtain ⟨xs, hr, hcs⟩ := hLU.out.ex
        have hm : m = xs.length := by obtain ⟨a, c, hv⟩ := owns_form hr; injection hv
        subst hm
        have hX : ∀ b, U.heap.size ≤ b → (Value.slice ab xs.length cb).ownBlock ≠ some b ∧ ¬ (fun _ : Nat => False) b := fun b hb => ⟨fun h1 => by have := (hr.lt b h1).2; omega, fun h => h⟩
        have hct : Ct (fun b => (Value.slice ab xs.length cb).ownBlock ≠ some b ∧ ¬ (fun _ : Nat => False) b) w2 (.slice p1 ks.length s1, .slice p2 es.length s2, .slice p3 is.length s3) (ks, es, is) := ⟨slp_of_own r1 (fun b _ hb => hX b hb), slp_of_own r2 (fun b _ hb => hX b hb), slp_of_own r3 (fun b _ hb => hX b hb)⟩
        have hr2 : w2.ownsRow w.heap.size 92 3 (.slice ab xs.length cb) xs.length (tcells xs) := owns_of_block hr (fun k hk => hW2.block k (hr.lt k hk).2 id)
        have hc2 := hcs.stay (w' := w2) (X' := fun b => (Value.slice ab xs.length cb).ownBlock ≠ some b ∧ ¬ (fun _ : Nat => False) b) (fun b hb hlt => ⟨hb, hW2.block b hlt id⟩)
        have hnw2 := nw_trans hwU hW2
        have hW3 : Nw w2 (w2.alloc (.cells #[.slice p1 ks.length s1, .slice p2 es.length s2, .slice p3 is.length s3] 92)) := nw_alloc (nw_refl w2) _
        have hxl : xs.length ≤ 300 := by have h1 := hcs.length; rw [h1, List.length_take, hn.out]; omega
        have hadd : Hid (∀ w9 v9, (w2.alloc (.cells #[.slice p1 ks.length s1, .slice p2 es.length s2, .slice p3 is.length s3] 92)).grownBy w9 (Value.ownBlock (.slice ab xs.length cb)) → (v9.ownBlock = Value.ownBlock (.slice ab xs.length cb) ∨ v9.ownBlock = some (w2.heap.size + 1)) → w9.ownsRow w.heap.size 92 3 v9 (xs.length + 1) (tcells xs ++ tcell (.slice p1 ks.length s1, .slice p2 es.length s2, .slice p3 is.length s3)) → Lst w (fun _ => False) w9 v9 (nds.take (j + 1))) := by
          intro w9 v9 hg hv hr'
          obtain ⟨f1, _, _⟩ := Lst.add (A := fun _ => False) (fun k hk => hk.elim) hnw2 (fun k _ h => h) hr2 hc2 hct hW3 hg (by simpa using hv) hr'
          rw [htk.out]
          exact f1
        unfold tcell at hadd
        have hrA := hr2.alloc (.cells #[.slice p1 ks.length s1, .slice p2 es.length s2, .slice p3 is.length s3] 92)
        have hsz3 : w.heap.size ≤ w2.heap.size + 1 := by have := hnw2.size; omega
        have hone : ∀ u ∈ ([.slice p1 ks.length s1, .slice p2 es.length s2, .slice p3 is.length s3] : List Value), u.oneCell' = true := by
          intro u hu
          simp only [List.mem_cons, List.not_mem_nil, or_false] at hu
          rcases hu with rfl | rfl | rfl <;> rfl
        have hsl := sl_lit w2 #[.slice p1 ks.length s1, .slice p2 es.length s2, .slice p3 is.length s3] 92 1 (by omega)
        clear hct hr2 hc2 hr hcs hLU r1 r2 r3 hX hsK hsE hsI htk
        generalize tcells xs = tc at *
        refine plan_act _ rfl (fun K1 hK1 => ?_)
        go_wp2
        refine hK1 _ _ (hS0.out _ (nw_trans hW2 hW3)) ?_
        clear hK1 K1 hS
        refine plan_tail ?_
        simp only [List.drop_succ_cons, List.drop_zero]
        go_wp2_with (at_builtin; refine wpList_append_sl _ rfl _ _ 46 rfl w.heap.size 92 iN _ 3 72 Try.underlying46 hN hN0 hN1 hN2 rfl (by decide) _ _ _ rfl hrA _ _ 1 _ rfl hsl rfl hone ?d2 ?d3 ?d4 ?_)
        case d2 => unfold maxLen; omega
        case d3 => omega
        case d4 => simpa using hsz3
        intro v9 w9 hown9 hgrow9 hat9
        have hL9 := hadd.out w9 v9 hgrow9 (by simpa using hat9) (by simpa using hown9)
        obtain ⟨a9, c9, rfl⟩ := owns_form hown9
        have hn9 := hL9.nw
        replace hL9 : Hid _ := hL9
        clear hadd hown9 hgrow9 hat9 hrA hW3
        go_wp2
        go_roundw
        case rel => exact ⟨j + 1, _, a9, c9, by omega, by go_num, rfl, hL9.out⟩
        case measure => simp [intOf]; omega
    · have hjn : j = n := by omega
      have hfin : Hid (Nds wr (.slice ab m cb) nds) := by
        unfold Hid
        obtain ⟨xs, hr, hcs⟩ := hL.out.ex
        have e1 : nds.take j = nds := List.take_of_length_le (by rw [hn.out]; omega)
        rw [e1] at hcs
        exact ⟨xs, hs_of_owns hr, hcs.stay (fun b _ hlt => ⟨trivial, rfl⟩)⟩
      clear hL
      go_wp2
      go_ret
      exact ⟨_, rfl, hfin.out, hww⟩
end Go.Proofs.Ytnljfhjindenpab
