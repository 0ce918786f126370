/-
  Package tree: visit, Range.
-/
import Derived.Test.YtnljfhjindenpabTreeW12
namespace Go.Proofs.Ytnljfhjindenpab
set_option linter.unusedVariables false
set_option linter.unusedSimpArgs false
set_option maxRecDepth 20000
open Go.RowKit

abbrev seeV (W : World) : Value := .func (.func 48) #[] #[.pointer (some ⟨W.heap.size, 0, none⟩), .pointer (some ⟨W.heap.size + 1, 0, none⟩)]

theorem flat_take_le {α : Type} (f : α → List Pr) (ds : List α) (j : Nat) : ((ds.take j).flatMap f).length ≤ (ds.flatMap f).length := by
  conv => rhs; rw [← List.take_append_drop j ds, List.flatMap_append, List.length_append]
  omega

theorem flat_take_succ {α : Type} (f : α → List Pr) (ds : List α) (j : Nat) (h : j < ds.length) : (ds.take (j + 1)).flatMap f = (ds.take j).flatMap f ++ f ds[j] := by
  rw [List.take_succ_eq_append_getElem h, List.flatMap_append, List.flatMap_cons, List.flatMap_nil, List.append_nil]

set_option maxHeartbeats 3200000 in
theorem c_visit1 {W : World} {to k : Int} {n m : Nat} {t : Tr (n + 1)} {b : Nat} {xs : List Pr} {a bb : Int} (w : World) (h : NAt W (n + 1) t b) (hR : R (n + 1) m 7 t a bb) (hk : k < bb) (hF : Fnd W w to xs) (hxl : xs.length + (fromL k (flat (n + 1) t)).length ≤ 900000)
    (ih : ∀ (c : Tr n) (q : Nat) (x y : Int) (w' : World) (xs' : List Pr), NAt W n c q → R n 3 7 c x y → k < y → Fnd W w' to xs' → xs'.length + (fromL k (flat n c)).length ≤ 900000 →
      Calls Try.prog 47 #[.pointer (some ⟨q, 0, none⟩), .int .u64 k, seeV W] w' fun e w2 => e = .returned (.bool (allTo to (fromL k (flat n c)))) ∧ Fnd W w2 to (xs' ++ upto to (fromL k (flat n c)))) :
    Calls Try.prog 47 #[.pointer (some ⟨b, 0, none⟩), .int .u64 k, seeV W] w fun e w' => e = .returned (.bool (allTo to (fromL k (flat (n + 1) t)))) ∧ Fnd W w' to (xs ++ upto to (fromL k (flat (n + 1) t))) := by
  obtain ⟨hv0, hv, hHl⟩ := vis_find R.kidlt k hR.2 hk
  clear hv0
  have hlen := bds_length hR.2
  have h7 := hR.1.2
  have hleaf := c_isLeaf1 w (h.nw hF.nw) (by omega)
  have hway : Hid (∀ w', Nw W w' → Calls Try.prog 80 #[.pointer (some ⟨b, 0, none⟩), .int .u64 k] w' fun e w2 => e = .returned (.int .i64 (hi (keysOf (n + 1) t) k : Nat)) ∧ w' = w2) := fun w' hw' => c_way w' (h.nw hw') (R.keys hR).1 (by simp [keysOf]; omega)
  rw [show keysOf (n + 1) t = t.1 from rfl] at hway
  have hfl := fromL_inner hR hk
  rw [hfl] at hxl ⊢
  obtain ⟨kv, vv, sv, bs, e1, e2, e3, e4, e5⟩ := h
  have hbl := kids_length e5
  have hds := kids_drop (hi t.1 k) e5
  obtain ⟨ds, hdse⟩ : ∃ ds, Hid (ds = t.2.drop (hi t.1 k)) := ⟨_, rfl⟩
  rw [← hdse.out] at hv hxl hds ⊢
  have hdl : ds.length = bs.length - hi t.1 k := by rw [hdse.out]; simp; omega
  have hb21 : bs.length ≤ 21 := by omega
  obtain ⟨av, cv, rfl, hv1, hv2⟩ := Hs.form e4
  obtain ⟨sb, so, rfl, hz0⟩ := Ps.get e4 (i := 0) (b' := bs[0]'(by omega)) (by simp)
  clear hz0
  have c2 : Hid (W.cell? ⟨b, 2, none⟩ = some (.slice (some ⟨sb, so, none⟩) bs.length cv)) := e1.c2
  have hkid : Hid (∀ j (hj : j < ds.length), ∃ q, W.cell? ⟨sb, so + hi t.1 k + j, none⟩ = some (.pointer (some ⟨q, 0, none⟩)) ∧ ∀ w' xs', Fnd W w' to xs' → xs'.length + (fromL k (flat n ds[j])).length ≤ 900000 → Calls Try.prog 47 #[.pointer (some ⟨q, 0, none⟩), .int .u64 k, seeV W] w' fun e w2 => e = .returned (.bool (allTo to (fromL k (flat n ds[j])))) ∧ Fnd W w2 to (xs' ++ upto to (fromL k (flat n ds[j])))) := by
    intro j hj
    obtain ⟨q, hq1, hq2⟩ := kids_get j hds (List.getElem?_eq_getElem hj)
    rw [List.getElem?_drop] at hq1
    obtain ⟨sb', so', hs, hc⟩ := Ps.get e4 hq1
    simp only [Option.some.injEq, Addr.mk.injEq, and_true] at hs
    obtain ⟨rfl, rfl⟩ := hs
    obtain ⟨x, y, hxy, hky⟩ := hv ds[j] (List.getElem_mem hj)
    exact ⟨q, by rw [Nat.add_assoc]; exact hc, fun w' xs' hf hl => ih ds[j] q x y w' xs' hq2 hxy hky hf hl⟩
  have hHb : hi t.1 k < bs.length := by omega
  have hF0 : Hid (Fnd W w to xs) := hF
  have d2 := hF.nw.cell c2.out
  have hwN := hF.nw
  have hcl : ds.length ≤ 21 := by omega
  obtain ⟨f, hf⟩ : ∃ f : Tr n → List Pr, Hid (f = fun c => fromL k (flat n c)) := ⟨_, rfl⟩
  have hfx : ∀ c, fromL k (flat n c) = f c := fun c => by rw [hf.out]
  simp only [hfx] at hkid
  rw [← hf.out] at hxl ⊢
  clear e1 e2 e3 e4 e5 hbl hds hv hR ih hF hfl hlen h7 hfx hHl
  generalize hi t.1 k = H at *
  generalize bs.length = nb at *
  have hx1 : H ≤ nb := by omega
  have hcne : ¬ cv = H := by omega
  unfold seeV at hkid ⊢
  go_enter Try.func47, Try.ntmps47
  go_wp2_with (go_at_call 78; refine hleaf.mono ?_; rintro e' w' ⟨rfl, rfl⟩)
  clear hleaf
  have hwq : ∀ N, Calls Try.prog 80 #[.pointer (some ⟨b, 0, none⟩), .int .u64 k] (w.drewN N) fun e w2 => e = .returned (.int .i64 (H : Int)) ∧ ∃ m, w2 = w.drewN m := fun N => by
    refine (hway.out _ (nw_trans hwN (nw_drewN N w))).mono ?_
    rintro e' w5 ⟨rfl, rfl⟩
    exact ⟨rfl, N, rfl⟩
  go_quiet (exact hwq _)
  clear hwq
  have hF1 : Hid (Fnd W (w.drewN nq) to xs) := ⟨nw_trans hwN (nw_drewN _ w), hF0.out.c5, hF0.out.fv⟩
  clear hF0 d2 hway hwN c2
  generalize w.drewN nq = w1 at *
  go_wp2
  go_loopw [57] (fun i wr => ∃ j : Nat, j ≤ ds.length ∧ i = .int .i64 j ∧ allTo to ((ds.take j).flatMap f) = true ∧ Fnd W wr to (xs ++ (ds.take j).flatMap f)) (fun i _ => ds.length - (intOf i).toNat)
  case atStart => exact ⟨0, Nat.zero_le _, rfl, by simp, by simpa using hF1.out⟩
  case round =>
    clear hF1
    obtain ⟨j, hj, rfl, hall0, hF⟩ := hrel
    have hF1 : Hid (Fnd W wr to (xs ++ (ds.take j).flatMap f)) := hF
    have hall : Hid (allTo to ((ds.take j).flatMap f) = true) := hall0
    by_cases hlt : j < ds.length
    · obtain ⟨q, hq1, hq2⟩ := hkid.out j hlt
      have hst : Hid ((ds.take (j + 1)).flatMap f = (ds.take j).flatMap f ++ f ds[j]) := flat_take_succ f ds j hlt
      have hle := flat_take_le f ds (j + 1)
      rw [hst.out, List.length_append] at hle
      have hcall : Hid _ := hq2 wr _ hF (by rw [List.length_append]; omega)
      have hq3 := hF.nw.cell hq1
      have hrest : Hid (ds.flatMap f = (ds.take j).flatMap f ++ (f ds[j] ++ (ds.drop (j + 1)).flatMap f)) := by
        unfold Hid
        conv => lhs; rw [← List.take_append_drop (j + 1) ds, List.flatMap_append, hst.out, List.append_assoc]
      have hjn : j < nb - H := by omega
      clear hq1 hq2 hle hF hall0
      generalize f ds[j] = fj at *
      by_cases hA : allTo to fj = true
      · have hcall : Hid (Calls Try.prog 47 #[.pointer (some ⟨q, 0, none⟩), .int .u64 k, .func (.func 48) #[] #[.pointer (some ⟨W.heap.size, 0, none⟩), .pointer (some ⟨W.heap.size + 1, 0, none⟩)]] wr fun e w2 => e = .returned (.bool true) ∧ Fnd W w2 to (xs ++ (ds.take (j + 1)).flatMap f)) := by
          have h1 := hcall.out
          rw [hA, upto_all hA] at h1
          unfold Hid
          rw [hst.out, ← List.append_assoc]
          exact h1
        have hnew : Hid (allTo to ((ds.take (j + 1)).flatMap f) = true) := by
          unfold Hid
          rw [hst.out]
          have h1 := hall.out
          simp only [allTo, List.all_append] at h1 hA ⊢
          rw [h1, hA]
          rfl
        clear hA hst hrest
        go_wp2_with (go_at_call 47; refine hcall.out.mono ?_; rintro e' w5 ⟨rfl, hF5⟩; refine stop_here ?_)
        unfold Hid
        have hF5 : Hid (Fnd W w5 to (xs ++ (ds.take (j + 1)).flatMap f)) := hF5
        clear hq3
        go_wp2
        go_roundw
        case rel => exact ⟨j + 1, by omega, by go_num, hnew.out, hF5.out⟩
        case measure => simp [intOf]; omega
      · have hA' : allTo to fj = false := by simpa using hA
        have hcall : Hid (Calls Try.prog 47 #[.pointer (some ⟨q, 0, none⟩), .int .u64 k, .func (.func 48) #[] #[.pointer (some ⟨W.heap.size, 0, none⟩), .pointer (some ⟨W.heap.size + 1, 0, none⟩)]] wr fun e w2 => e = .returned (.bool false) ∧ Fnd W w2 to (xs ++ upto to (ds.flatMap f))) := by
          have h1 := hcall.out
          rw [hA'] at h1
          have hU : upto to (ds.flatMap f) = (ds.take j).flatMap f ++ upto to fj := by
            rw [hrest.out, upto_append, if_pos hall.out, upto_append, if_neg hA]
          unfold Hid
          rw [hU, ← List.append_assoc]
          exact h1
        have hnew : Hid (allTo to (ds.flatMap f) = false) := by
          unfold Hid
          rw [hrest.out]
          simp only [allTo, List.all_append] at hA' ⊢
          rw [hA']
          simp
        clear hA hA' hst hrest
        go_wp2_with (go_at_call 47; refine hcall.out.mono ?_; rintro e' w5 ⟨rfl, hF5⟩; refine stop_here ?_)
        unfold Hid
        have hF5 : Hid (Fnd W w5 to (xs ++ upto to (ds.flatMap f))) := hF5
        clear hq3
        go_wp2
        go_ret
        rw [hnew.out]
        exact ⟨rfl, hF5.out⟩
    · have hjl : j = ds.length := by omega
      subst hjl
      have hte : Hid ((ds.take ds.length).flatMap f = ds.flatMap f) := by unfold Hid; rw [List.take_length]
      have hb : (ds.length : Int) = ((nb - H : Nat) : Int) := by omega
      clear hall0 hF
      go_wp2
      go_ret
      have h1 := hall.out
      have h2 := hF1.out
      rw [hte.out] at h1 h2
      rw [h1, upto_all h1]
      exact ⟨rfl, h2⟩

theorem c_visit {W : World} {to k : Int} : ∀ {n m : Nat} {t : Tr n} {b : Nat} {xs : List Pr} {a bb : Int} (w : World), NAt W n t b → R n m 7 t a bb → k < bb → Fnd W w to xs → xs.length + (fromL k (flat n t)).length ≤ 900000 →
    Calls Try.prog 47 #[.pointer (some ⟨b, 0, none⟩), .int .u64 k, seeV W] w fun e w' => e = .returned (.bool (allTo to (fromL k (flat n t)))) ∧ Fnd W w' to (xs ++ upto to (fromL k (flat n t)))
  | 0, m, t, b, xs, _, _, w, h, hR, hk, hF, hl => c_visit0 w h hR.2.1 (by have := hR.1; omega) hF (by omega)
  | n + 1, m, t, b, xs, _, _, w, h, hR, hk, hF, hl => c_visit1 w h hR hk hF hl (fun c q x y w' xs' h1 h2 h3 h4 h5 => c_visit w' h1 h2 h3 h4 h5)

/-- The pairs from a key to another one. -/
def rangeL (a b : Int) (l : List Pr) : List Pr := l.filter (fun p => decide (a ≤ p.1) && decide (p.1 ≤ b))

theorem upto_from {l : List Pr} (h : Rise (l.map (·.1))) (a b : Int) : upto b (fromL a l) = rangeL a b l := by
  induction l with
  | nil => rfl
  | cons p l ih =>
    have h1 : (∀ x ∈ l.map (·.1), p.1 < x) ∧ Rise (l.map (·.1)) := List.pairwise_cons.1 h
    have ih := ih h1.2
    unfold fromL rangeL at *
    by_cases ha : a ≤ p.1
    · by_cases hb : p.1 ≤ b
      · simp only [ha, hb, decide_true, List.filter_cons, if_true, Bool.and_self, upto, List.takeWhile_cons] at ih ⊢
        rw [ih]
      · have hr : l.filter (fun p => decide (a ≤ p.1) && decide (p.1 ≤ b)) = [] := filt_none (fun x hx => by
          have := h1.1 x.1 (List.mem_map.2 ⟨x, hx, rfl⟩)
          simp; omega)
        simp [ha, hb, hr, upto]
    · simp only [ha, decide_false, List.filter_cons, Bool.false_and, Bool.false_eq_true, if_false]
      exact ih

/-- The pairs that a slice holds. -/
def Prs (w : World) (v : Value) (ps : List Pr) : Prop := Hs w v ps.length (prcells ps)

set_option maxHeartbeats 1600000 in
theorem c_Range {n : Nat} {t : Tr n} {b : Nat} {k to : Int} (w : World) (h : TAt w b n t) (hR : Top n t) (h1 : k < 18446744073709551616) (hl : (flat n t).length ≤ 900000) :
    Calls Try.prog 23 #[.pointer (some ⟨b, 0, none⟩), .int .u64 k, .int .u64 to] w fun e' w' => ∃ v, e' = .returned v ∧ Prs w' v (rangeL k to (flat n t)) ∧ Nw w w' := by
  obtain ⟨r, hb, hr⟩ := h
  have hs := (R.flat hR).2
  have hlf : (fromL k (flat n t)).length ≤ 900000 := Nat.le_trans (List.length_filter_le _ _) hl
  have hv : Hid (∀ w', Fnd w w' to [] → Calls Try.prog 47 #[.pointer (some ⟨r, 0, none⟩), .int .u64 k, seeV w] w' fun e w2 => e = .returned (.bool (allTo to (fromL k (flat n t)))) ∧ Fnd w w2 to (rangeL k to (flat n t))) := by
    intro w' hF
    have := c_visit w' hr hR h1 hF (by simpa using hlf)
    rw [List.nil_append, upto_from hs] at this
    exact this
  have c0 : w.cell? ⟨b, 0, none⟩ = some (.pointer (some ⟨r, 0, none⟩)) := cell_blk hb rfl
  have hF : Hid (Fnd w ((w.alloc (.cells #[.int .u64 to] 27)).alloc (.cells #[.slice none 0 0] 41)) to []) :=
    ⟨nw_alloc (nw_alloc (nw_refl w) _) _, heap_alloc2_old w _ _, .slice none 0 0, heap_alloc2_new w _ _, World.ownsRow_nil _ _ _ _⟩
  have d0 := hF.out.nw.cell c0
  unfold seeV at hv
  clear hb hr hR hs hlf hl c0
  generalize rangeL k to (flat n t) = L at *
  generalize allTo to (fromL k (flat n t)) = bo at *
  go_enter Try.func23, Try.ntmps23
  go_upto_region 2 with fail
  generalize ((w.alloc (.cells #[.int .u64 to] 27)).alloc (.cells #[.slice none 0 0] 41)) = w1 at *
  go_wp2_with (go_at_call 47; refine (hv.out w1 hF.out).mono ?_; rintro e' w5 ⟨rfl, hF5⟩; refine stop_here ?_)
  unfold Hid
  obtain ⟨v, hv1, hv2⟩ := hF5.fv
  have g0 : w5.cell? ⟨w.heap.size + 1, 0, none⟩ = some v := cell_blk hv1 rfl
  have hn := hF5.nw
  have hv2 : Hid (Prs w5 v L) := hs_of_owns hv2
  clear hF5 hv d0 hv1 hF
  go_wp2
  go_ret
  exact ⟨_, rfl, hv2.out, hn⟩
end Go.Proofs.Ytnljfhjindenpab
