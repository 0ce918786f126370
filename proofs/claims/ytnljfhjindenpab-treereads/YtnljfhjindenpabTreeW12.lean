/-
  Package tree: what Range collects; visit; Range.
-/
import Derived.Test.YtnljfhjindenpabTreeW11
namespace Go.Proofs.Ytnljfhjindenpab
set_option linter.unusedVariables false
set_option linter.unusedSimpArgs false
set_option maxRecDepth 20000
open Go.RowKit

/-! ### Pairs in memory -/
def prcell (p : Pr) : List Value := [.int .u64 p.1, .int .i64 p.2.1, .int .i64 p.2.2]
def prcells (ps : List Pr) : List Value := ps.flatMap prcell
def pairV (p : Pr) : Value := .agg #[.int .u64 p.1, .int .i64 p.2.1, .int .i64 p.2.2]

theorem prcells_append (a b : List Pr) : prcells (a ++ b) = prcells a ++ prcells b := by simp [prcells]
theorem prcells_one (p : Pr) : prcells [p] = prcell p := by simp [prcells]
theorem prcells_length (ps : List Pr) : (prcells ps).length = ps.length * 3 := by
  induction ps with
  | nil => rfl
  | cons e es ih => rw [prcells, List.flatMap_cons, List.length_append, ← prcells, ih]; simp [prcell]; omega

theorem Try.infoR : (Try.prog.info? 73).map (fun i => (i.zero, i.size, i.bytes)) = some (some (.agg #[.int .u64 0, .int .i64 0, .int .i64 0]), 3, 24) := by kernel_rfl

/-- What Range has found: where it stands, and that all that was there in W stays. -/
structure Fnd (W w : World) (to : Int) (xs : List Pr) : Prop where
  nw : Nw W w
  c5 : w.heap[W.heap.size]? = some (.cells #[.int .u64 to] 27 (0, 0))
  fv : ∃ v, w.heap[W.heap.size + 1]? = some (.cells #[v] 41 (0, 0)) ∧ w.ownsRow (W.heap.size + 2) 73 3 v xs.length (prcells xs)

theorem Fnd.alloc {W w : World} {to : Int} {xs : List Pr} (h : Fnd W w to xs) (o : Obj) : Fnd W (w.alloc o) to xs := by
  obtain ⟨v, h1, h2⟩ := h.fv
  exact ⟨nw_alloc h.nw o, (Below.heap_alloc _ _ _ (heap_lt h.c5)).trans h.c5, v, (Below.heap_alloc _ _ _ (heap_lt h1)).trans h1, h2.alloc o⟩

theorem Fnd.drew {W w : World} {to : Int} {xs : List Pr} (h : Fnd W w to xs) : Fnd W w.drew to xs := ⟨nw_drew h.nw, h.c5, h.fv⟩

theorem Fnd.add {W w w' : World} {to : Int} {xs : List Pr} {p : Pr} (h : Fnd W w to xs) {v v' : Value} (hv : w.heap[W.heap.size + 1]? = some (.cells #[v] 41 (0, 0))) (hr : w.ownsRow (W.heap.size + 2) 73 3 v xs.length (prcells xs)) (hg : w.grownBy w' v.ownBlock)
    (hr' : w'.ownsRow (W.heap.size + 2) 73 3 v' (xs.length + 1) (prcells xs ++ prcell p)) : Fnd W (w'.setCell ⟨W.heap.size + 1, 0, none⟩ v') to (xs ++ [p]) ∧ w'.heap[W.heap.size + 1]? = some (.cells #[v] 41 (0, 0)) := by
  have hf : Fr (fun k => W.heap.size + 2 ≤ k) w w' := (Fr.refl _ w).grown hg (fun k hk => .inl (hr.lt k hk).1)
  have h5 := hf.block _ (heap_lt h.c5) (by omega)
  have h7 := hf.block _ (heap_lt hv) (by omega)
  have hn : Nw W w' := Fr.trans h.nw hf (fun i hi => .inr (by omega))
  have hv' := h7.trans hv
  refine ⟨⟨?_, ?_, v', ?_, ?_⟩, hv'⟩
  · exact Fr.setCell hn (p := ⟨W.heap.size + 1, 0, none⟩) (.inr (Nat.le_succ _)) _
  · rw [Below.heap_setCell _ _ _ _ (by simp)]
    exact h5.trans h.c5
  · rw [blk_setCell hv']
    rfl
  · rw [List.length_append, prcells_append, prcells_one]
    refine owns_of_block hr' (fun k hk => ?_)
    have := (hr'.lt k hk).1
    exact Below.heap_setCell _ _ _ _ (by simp; omega)

set_option maxHeartbeats 1600000 in
theorem c_see {W : World} {to : Int} {xs : List Pr} (p : Pr) (w : World) (h : Fnd W w to xs) (hl : xs.length ≤ 1000000) :
    Calls Try.prog 48 #[pairV p, .pointer (some ⟨W.heap.size, 0, none⟩), .pointer (some ⟨W.heap.size + 1, 0, none⟩)] w fun e w' => e = .returned (.bool (decide (p.1 ≤ to))) ∧ Fnd W w' to (xs ++ if p.1 ≤ to then [p] else []) := by
  obtain ⟨i0, hj, hj0, hj1, hj2⟩ := info_parts3 Try.infoR
  have hA := h.alloc (.cells #[.int .u64 p.1, .int .i64 p.2.1, .int .i64 p.2.2] 73)
  have hAb : (w.alloc (.cells #[.int .u64 p.1, .int .i64 p.2.1, .int .i64 p.2.2] 73)).heap[w.heap.size]? = some (.cells #[.int .u64 p.1, .int .i64 p.2.1, .int .i64 p.2.2] 73 (0, 0)) := heap_alloc_new w _
  unfold pairV
  go_enter Try.func48, Try.ntmps48
  go_upto_region 1 with fail
  generalize w.alloc (.cells #[.int .u64 p.1, .int .i64 p.2.1, .int .i64 p.2.2] 73) = w1 at *
  generalize w.heap.size = g at *
  have d0 : w1.cell? ⟨g, 0, none⟩ = some (.int .u64 p.1) := cell_blk hAb rfl
  have d1 : w1.cell? ⟨g, 1, none⟩ = some (.int .i64 p.2.1) := cell_blk hAb rfl
  have d2 : w1.cell? ⟨g, 2, none⟩ = some (.int .i64 p.2.2) := cell_blk hAb rfl
  have e0 : w1.cell? ⟨W.heap.size, 0, none⟩ = some (.int .u64 to) := cell_blk hA.c5 rfl
  obtain ⟨v, hv, hr⟩ := hA.fv
  have f0 : w1.cell? ⟨W.heap.size + 1, 0, none⟩ = some v := cell_blk hv rfl
  clear h hAb
  by_cases hle : p.1 ≤ to
  · have hnl : ¬ to < p.1 := by omega
    obtain ⟨ao, cap, rfl⟩ := owns_form hr
    have hadd : Hid (∀ w' v', (w1.alloc (.cells #[.int .u64 p.1, .int .i64 p.2.1, .int .i64 p.2.2] 73)).grownBy w' (Value.ownBlock (.slice ao xs.length cap)) → w'.ownsRow (W.heap.size + 2) 73 3 v' (xs.length + 1) (prcells xs ++ prcell p) → Fnd W (w'.setCell ⟨W.heap.size + 1, 0, none⟩ v') to (xs ++ [p]) ∧ w'.heap[W.heap.size + 1]? = some (.cells #[.slice ao xs.length cap] 41 (0, 0))) := by
      intro w' v' hg hr'
      exact (hA.alloc _).add ((Below.heap_alloc _ _ _ (heap_lt hv)).trans hv) (hr.alloc _) hg hr'
    have hrA := hr.alloc (.cells #[.int .u64 p.1, .int .i64 p.2.1, .int .i64 p.2.2] 73)
    have hsz : W.heap.size + 2 ≤ w1.heap.size + 1 := by have := heap_lt hv; omega
    clear hr hv hA
    unfold prcell at hadd
    generalize hn : prcells xs = cs at *
    clear hn
    generalize hxl : xs.length = len at *
    have hxl : Hid (xs.length = len) := hxl
    go_wp2_with (at_builtin; refine wpList_append_sl _ rfl _ _ 41 rfl (W.heap.size + 2) 73 i0 _ 3 24 Try.underlying41 hj hj0 hj1 hj2 rfl (by decide) _ _ _ rfl hrA _ _ 1 _ rfl (sl_lit w1 _ 73 1 (by omega)) rfl ?d1 ?d2 ?d3 ?d4 ?_)
    case d1 => first | (intro u hu; simp at hu; rcases hu with rfl | rfl | rfl <;> rfl) | simp [Value.oneCell']
    case d2 => unfold maxLen; omega
    case d3 => omega
    intro v9 w9 hown9 hgrow9 hat9
    obtain ⟨f1, f2⟩ := hadd.out w9 v9 hgrow9 hown9
    obtain ⟨ao9, cap9, rfl⟩ := owns_form hown9
    have g0 : w9.cell? ⟨W.heap.size + 1, 0, none⟩ = some (.slice ao len cap) := cell_blk f2 rfl
    have g1 : w9.frozen? ⟨W.heap.size + 1, 0, none⟩ = false := free_blk f2
    have f1 : Hid _ := f1
    clear hadd hown9 hgrow9 hat9 hrA f2
    go_wp2
    go_ret
    exact ⟨rfl, f1.out⟩
  · have hnl : to < p.1 := by omega
    have hA : Hid (Fnd W w1 to xs) := hA
    clear hr hv
    go_wp2
    go_ret
    exact ⟨rfl, hA.out⟩

theorem c_seeT {W : World} {to : Int} {xs : List Pr} (p : Pr) (w : World) (h : Fnd W w to xs) (hl : xs.length ≤ 1000000) (hp : p.1 ≤ to) :
    Calls Try.prog 48 #[pairV p, .pointer (some ⟨W.heap.size, 0, none⟩), .pointer (some ⟨W.heap.size + 1, 0, none⟩)] w fun e w' => e = .returned (.bool true) ∧ Fnd W w' to (xs ++ [p]) := by
  have := c_see p w h hl
  simpa [hp] using this

theorem c_seeF {W : World} {to : Int} {xs : List Pr} (p : Pr) (w : World) (h : Fnd W w to xs) (hl : xs.length ≤ 1000000) (hp : ¬ p.1 ≤ to) :
    Calls Try.prog 48 #[pairV p, .pointer (some ⟨W.heap.size, 0, none⟩), .pointer (some ⟨W.heap.size + 1, 0, none⟩)] w fun e w' => e = .returned (.bool false) ∧ Fnd W w' to xs := by
  have := c_see p w h hl
  simpa [hp] using this

/-! ### What visit sees -/
theorem vis_find {α : Type} {B : α → Int → Int → Prop} (hB : ∀ c a b, B c a b → a < b) (key : Int) : ∀ {ks : List Int} {cs : List α} {a b : Int}, Bds B a ks cs b → key < b →
    (∀ c ∈ cs.take (hi ks key), ∃ x y, B c x y ∧ y ≤ key) ∧ (∀ c ∈ cs.drop (hi ks key), ∃ x y, B c x y ∧ key < y) ∧ hi ks key < cs.length
  | [], [c], a, b, h, hk => ⟨by simp [hi], by simp only [hi, List.countP_nil, List.drop_zero, List.mem_singleton]; rintro c' rfl; exact ⟨a, b, h, hk⟩, by simp [hi]⟩
  | k :: ks, c :: cs, a, b, h, hk => by
    obtain ⟨i1, i2, i3⟩ := vis_find hB key h.2 hk
    by_cases hle : k ≤ key
    · have hh : hi (k :: ks) key = hi ks key + 1 := by simp [hi, List.countP_cons, hle]
      rw [hh]
      refine ⟨fun c' hc' => ?_, fun c' hc' => i2 c' (by simpa using hc'), by simp; omega⟩
      rw [List.take_succ_cons, List.mem_cons] at hc'
      rcases hc' with rfl | hc'
      · exact ⟨a, k, h.1, hle⟩
      · exact i1 c' hc'
    · have hkeys := (bds_keys hB h.2).2.2
      have h0 : ∀ x ∈ ks, ¬ x ≤ key := fun x hx => by have := hkeys x hx; omega
      have hh0 : hi ks key = 0 := List.countP_eq_zero.2 (fun x hx => by have := h0 x hx; simpa using this)
      have hh : hi (k :: ks) key = 0 := List.countP_eq_zero.2 (fun x hx => by
        rcases List.mem_cons.1 hx with rfl | hx
        · simpa using hle
        · have := h0 x hx; simpa using this)
      rw [hh]
      rw [hh0] at i2
      refine ⟨by simp, fun c' hc' => ?_, by simp⟩
      rw [List.drop_zero, List.mem_cons] at hc'
      rcases hc' with rfl | hc'
      · exact ⟨a, k, h.1, by omega⟩
      · exact i2 c' (by simpa using hc')

/-- The pairs from a key on. -/
def fromL (k : Int) (l : List Pr) : List Pr := l.filter (fun p => decide (k ≤ p.1))

theorem fromL_append (k : Int) (a b : List Pr) : fromL k (a ++ b) = fromL k a ++ fromL k b := List.filter_append a b

theorem fromL_leaf {t : List Pr} (h : Rise (t.map (·.1))) (k : Int) : fromL k t = t.drop (lo (t.map (·.1)) k) := by
  induction t with
  | nil => rfl
  | cons p t ih =>
    have h1 : (∀ x ∈ t.map (·.1), p.1 < x) ∧ Rise (t.map (·.1)) := List.pairwise_cons.1 h
    by_cases hk : p.1 < k
    · have hl : lo ((p :: t).map (·.1)) k = lo (t.map (·.1)) k + 1 := by simp [lo, List.countP_cons, hk]
      have hn : ¬ k ≤ p.1 := by omega
      rw [hl, List.drop_succ_cons, ← ih h1.2]
      simp [fromL, hn]
    · have h0 : lo ((p :: t).map (·.1)) k = 0 := by
        unfold lo
        refine List.countP_eq_zero.2 (fun x hx => ?_)
        rcases List.mem_cons.1 hx with rfl | hx
        · simpa using hk
        · have := h1.1 x hx; simp; omega
      rw [h0, List.drop_zero]
      refine filt_all (fun x hx => ?_)
      rcases List.mem_cons.1 hx with rfl | hx
      · simp; omega
      · have := h1.1 x.1 (List.mem_map.2 ⟨x, hx, rfl⟩); simp; omega

theorem fromL_inner {n m M : Nat} {t : Tr (n + 1)} {a b k : Int} (h : R (n + 1) m M t a b) (hk : k < b) : fromL k (flat (n + 1) t) = (t.2.drop (hi t.1 k)).flatMap (fun c => fromL k (flat n c)) := by
  obtain ⟨h1, _, _⟩ := vis_find R.kidlt k h.2 hk
  have e : flat (n + 1) t = (t.2.take (hi t.1 k)).flatMap (flat n) ++ (t.2.drop (hi t.1 k)).flatMap (flat n) := by
    rw [← List.flatMap_append, List.take_append_drop]; rfl
  rw [e, fromL_append]
  have h0 : fromL k ((t.2.take (hi t.1 k)).flatMap (flat n)) = [] := filt_none (fun p hp => by
    obtain ⟨c, hc, hpc⟩ := List.mem_flatMap.1 hp
    obtain ⟨x, y, hxy, hle⟩ := h1 c hc
    have := (R.flat hxy).1 p hpc
    simp; omega)
  rw [h0, List.nil_append]
  generalize t.2.drop (hi t.1 k) = cs
  clear h h1 e h0
  induction cs with
  | nil => rfl
  | cons c cs ih => rw [List.flatMap_cons, fromL_append, ih, List.flatMap_cons]

abbrev upto (to : Int) (l : List Pr) : List Pr := l.takeWhile (fun p => decide (p.1 ≤ to))
abbrev allTo (to : Int) (l : List Pr) : Bool := l.all (fun p => decide (p.1 ≤ to))

theorem upto_all {to : Int} : ∀ {l : List Pr}, allTo to l = true → upto to l = l
  | [], _ => rfl
  | p :: l, h => by
    simp only [allTo, List.all_cons, Bool.and_eq_true] at h
    simp only [upto, List.takeWhile_cons, h.1, if_true]
    rw [show l.takeWhile (fun p => decide (p.1 ≤ to)) = l from upto_all h.2]

theorem upto_append {to : Int} {a b : List Pr} : upto to (a ++ b) = if allTo to a then a ++ upto to b else upto to a := by
  induction a with
  | nil => simp [allTo]
  | cons p a ih =>
    simp only [upto, allTo, List.cons_append, List.takeWhile_cons, List.all_cons] at *
    by_cases hp : p.1 ≤ to
    · simp only [hp, decide_true, if_true, Bool.true_and, ih]
      split <;> rfl
    · simp [hp]

set_option maxHeartbeats 3200000 in
theorem c_visit0 {W : World} {to k : Int} {t : Tr 0} {b : Nat} {xs : List Pr} (w : World) (h : NAt W 0 t b) (hr : Rise (t.map (·.1))) (hl : t.length ≤ 50) (hF : Fnd W w to xs) (hxl : xs.length ≤ 900000) :
    Calls Try.prog 47 #[.pointer (some ⟨b, 0, none⟩), .int .u64 k, .func (.func 48) #[] #[.pointer (some ⟨W.heap.size, 0, none⟩), .pointer (some ⟨W.heap.size + 1, 0, none⟩)]] w fun e w' => e = .returned (.bool (allTo to (fromL k (flat 0 t)))) ∧ Fnd W w' to (xs ++ upto to (fromL k (flat 0 t))) := by
  have hleaf := c_isLeaf0 w (h.nw hF.nw)
  have hspan := c_span (k := k) w (h.nw hF.nw) hr (by simp [keysOf]; omega)
  rw [show keysOf 0 t = t.map (·.1) from rfl] at hspan
  have hfl : Hid (fromL k (flat 0 t) = t.drop (lo (t.map (·.1)) k)) := fromL_leaf hr k
  rw [hfl.out]
  have hlo := lo_le (t.map (·.1)) k
  have hhi := hi_le (t.map (·.1)) k
  simp only [List.length_map] at hlo hhi
  obtain ⟨kv, vv, sv, e1, e2, e3, e4⟩ := h
  obtain ⟨ak, ck, rfl, hk1, hk2⟩ := Hs.form e2
  obtain ⟨av, cv, rfl, hv1, hv2⟩ := Hs.form e3
  simp only [List.length_map] at *
  have c0 : Hid (W.cell? ⟨b, 0, none⟩ = some (.slice ak t.length ck)) := e1.c0
  have c1 : Hid (W.cell? ⟨b, 1, none⟩ = some (.slice av t.length cv)) := e1.c1
  have f2 : Hid (Ks W (.slice ak t.length ck) (t.map (·.1))) := e2
  have f3 : Hid (Vs W (.slice av t.length cv) (t.map (·.2))) := e3
  have hF0 : Hid (Fnd W w to xs) := hF
  clear e1 e2 e3 e4 hr hF
  generalize lo (t.map (·.1)) k = L at *
  generalize hi (t.map (·.1)) k = H at *
  go_enter Try.func47, Try.ntmps47
  go_wp2_with (first | (go_at_call 78; refine hleaf.mono ?_; rintro e' w' ⟨rfl, rfl⟩) | (go_at_call 79; refine hspan.mono ?_; rintro e' w' ⟨rfl, rfl⟩))
  clear hleaf hspan
  go_loopw [9] (fun i wr => ∃ j : Nat, L ≤ j ∧ j ≤ t.length ∧ i = .int .i64 j ∧ allTo to ((t.drop L).take (j - L)) = true ∧ Fnd W wr to (xs ++ (t.drop L).take (j - L))) (fun i _ => t.length - (intOf i).toNat)
  case atStart => exact ⟨L, Nat.le_refl _, hlo, rfl, by simp, by simpa using hF0.out⟩
  case round =>
    clear hF0
    obtain ⟨j, hj1, hj2, rfl, hall0, hF⟩ := hrel
    have d0 := hF.nw.cell c0.out
    by_cases hlt : j < t.length
    · obtain ⟨kb, ko, rfl, k0⟩ := Ks.get f2.out (i := j) (by simpa using hlt)
      obtain ⟨vb, vo, rfl, v0, v1⟩ := Vs.get f3.out (i := j) (by simpa using hlt)
      simp only [List.getElem_map] at k0 v0 v1
      have hst0 : (t.drop L).take (j + 1 - L) = (t.drop L).take (j - L) ++ [t[j]] := by
        rw [show j + 1 - L = (j - L) + 1 by omega, List.take_succ_eq_append_getElem (by simp; omega)]
        congr 2
        simp only [List.getElem_drop]
        congr 1
        omega
      have hrest0 : t.drop L = (t.drop L).take (j - L) ++ t[j] :: t.drop (j + 1) := by
        conv => lhs; rw [← List.take_append_drop (j - L) (t.drop L), List.drop_drop, show L + (j - L) = j by omega, List.drop_eq_getElem_cons hlt]
      have hll : ((t.drop L).take (j - L)).length ≤ 50 := by simp; omega
      have hst : Hid ((t.drop L).take (j + 1 - L) = (t.drop L).take (j - L) ++ [t[j]]) := hst0
      have hrest : Hid (t.drop L = (t.drop L).take (j - L) ++ t[j] :: t.drop (j + 1)) := hrest0
      have hall : Hid (allTo to ((t.drop L).take (j - L)) = true) := hall0
      clear hst0 hrest0 hall0
      generalize t[j] = pj at *
      have hSof : Hid (∀ w', Nw W w' → (fun w' : World => Nw W w' ∧ w'.cell? ⟨b, 0, none⟩ = some (.slice (some ⟨kb, ko, none⟩) t.length ck) ∧ w'.cell? ⟨b, 1, none⟩ = some (.slice (some ⟨vb, vo, none⟩) t.length cv) ∧ w'.cell? ⟨kb, ko + j, none⟩ = some (.int .u64 pj.1) ∧ w'.cell? ⟨vb, vo + j * 2, none⟩ = some (.int .i64 pj.2.1) ∧ w'.cell? ⟨vb, vo + j * 2 + 1, none⟩ = some (.int .i64 pj.2.2)) w') := fun w' hw => ⟨hw, hw.cell c0.out, hw.cell c1.out, hw.cell k0, hw.cell v0, hw.cell v1⟩
      have hS := hSof.out _ (nw_drew hF.nw)
      have hFd : Hid (Fnd W wr.drew to (xs ++ (t.drop L).take (j - L))) := hF.drew
      clear k0 v0 v1 hF f2 f3
      by_cases hple : pj.1 ≤ to
      · have hsee : Hid (∀ w', Fnd W w' to (xs ++ (t.drop L).take (j - L)) → Calls Try.prog 48 #[pairV pj, .pointer (some ⟨W.heap.size, 0, none⟩), .pointer (some ⟨W.heap.size + 1, 0, none⟩)] w' fun e w2 => e = .returned (.bool true) ∧ Fnd W w2 to (xs ++ (t.drop L).take (j - L) ++ [pj])) := fun w' hw => c_seeT pj w' hw (by simp; omega) hple
        have hnew : Hid (allTo to ((t.drop L).take (j + 1 - L)) = true) := by
          unfold Hid
          rw [hst.out]
          have := hall.out
          simp only [allTo, List.all_append, this, List.all_cons, List.all_nil, hple, decide_true, Bool.and_self]
        clear hple
        go_wp2
        refine wp_region_ord [] 17 [(0, true), (1, true), (2, true), (3, true), (4, true), (5, true), (6, true), (7, true), (8, true), (9, true), (10, true), (11, true), (12, true), (13, true), (14, true), (15, true), (16, false)] (fun w' : World => Nw W w' ∧ w'.cell? ⟨b, 0, none⟩ = some (.slice (some ⟨kb, ko, none⟩) t.length ck) ∧ w'.cell? ⟨b, 1, none⟩ = some (.slice (some ⟨vb, vo, none⟩) t.length cv) ∧ w'.cell? ⟨kb, ko + j, none⟩ = some (.int .u64 pj.1) ∧ w'.cell? ⟨vb, vo + j * 2, none⟩ = some (.int .i64 pj.2.1) ∧ w'.cell? ⟨vb, vo + j * 2 + 1, none⟩ = some (.int .i64 pj.2.2)) (by kernel_rfl) (by kernel_rfl) ?_
        refine ord_quietL _ ?_ rfl hS rfl ?_ ?_
        rotate_left
        · rintro w' ⟨hS0, hS1, hS2, hS3, hS4, hS5⟩; go_simp; first | rfl | (rw [if_pos (by omega)]; done) | (rw [if_pos (by omega)]; rfl) | (rw [if_pos (by omega)]; go_simp; rfl)
        simp only [Act.put, List.setIfInBounds_toArray, List.set_cons_zero, List.set_cons_succ]
        refine ord_quietL _ ?_ rfl hS rfl ?_ ?_
        rotate_left
        · rintro w' ⟨hS0, hS1, hS2, hS3, hS4, hS5⟩; go_simp; first | rfl | (rw [if_pos (by omega)]; done) | (rw [if_pos (by omega)]; rfl) | (rw [if_pos (by omega)]; go_simp; rfl)
        simp only [Act.put, List.setIfInBounds_toArray, List.set_cons_zero, List.set_cons_succ]
        refine ord_quietL _ ?_ rfl hS rfl ?_ ?_
        rotate_left
        · rintro w' ⟨hS0, hS1, hS2, hS3, hS4, hS5⟩; go_simp; first | rfl | (rw [if_pos (by omega)]; done) | (rw [if_pos (by omega)]; rfl) | (rw [if_pos (by omega)]; go_simp; rfl)
        simp only [Act.put, List.setIfInBounds_toArray, List.set_cons_zero, List.set_cons_succ]
        refine ord_quietL _ ?_ rfl hS rfl ?_ ?_
        rotate_left
        · rintro w' ⟨hS0, hS1, hS2, hS3, hS4, hS5⟩; go_simp; first | rfl | (rw [if_pos (by omega)]; done) | (rw [if_pos (by omega)]; rfl) | (rw [if_pos (by omega)]; go_simp; rfl)
        simp only [Act.put, List.setIfInBounds_toArray, List.set_cons_zero, List.set_cons_succ]
        refine ord_quietL _ ?_ rfl hS rfl ?_ ?_
        rotate_left
        · rintro w' ⟨hS0, hS1, hS2, hS3, hS4, hS5⟩; go_simp; first | rfl | (rw [if_pos (by omega)]; done) | (rw [if_pos (by omega)]; rfl) | (rw [if_pos (by omega)]; go_simp; rfl)
        simp only [Act.put, List.setIfInBounds_toArray, List.set_cons_zero, List.set_cons_succ]
        refine ord_quietL _ ?_ rfl hS rfl ?_ ?_
        rotate_left
        · rintro w' ⟨hS0, hS1, hS2, hS3, hS4, hS5⟩; go_simp; first | rfl | (rw [if_pos (by omega)]; done) | (rw [if_pos (by omega)]; rfl) | (rw [if_pos (by omega)]; go_simp; rfl)
        simp only [Act.put, List.setIfInBounds_toArray, List.set_cons_zero, List.set_cons_succ]
        refine ord_quietL _ ?_ rfl hS rfl ?_ ?_
        rotate_left
        · rintro w' ⟨hS0, hS1, hS2, hS3, hS4, hS5⟩; go_simp; first | rfl | (rw [if_pos (by omega)]; done) | (rw [if_pos (by omega)]; rfl) | (rw [if_pos (by omega)]; go_simp; rfl)
        simp only [Act.put, List.setIfInBounds_toArray, List.set_cons_zero, List.set_cons_succ]
        refine ord_quietL _ ?_ rfl hS rfl ?_ ?_
        rotate_left
        · rintro w' ⟨hS0, hS1, hS2, hS3, hS4, hS5⟩; go_simp; first | rfl | (rw [if_pos (by omega)]; done) | (rw [if_pos (by omega)]; rfl) | (rw [if_pos (by omega)]; go_simp; rfl)
        simp only [Act.put, List.setIfInBounds_toArray, List.set_cons_zero, List.set_cons_succ]
        refine ord_quietL _ ?_ rfl hS rfl ?_ ?_
        rotate_left
        · rintro w' ⟨hS0, hS1, hS2, hS3, hS4, hS5⟩; go_simp; first | rfl | (rw [if_pos (by omega)]; done) | (rw [if_pos (by omega)]; rfl) | (rw [if_pos (by omega)]; go_simp; rfl)
        simp only [Act.put, List.setIfInBounds_toArray, List.set_cons_zero, List.set_cons_succ]
        refine ord_quietL _ ?_ rfl hS rfl ?_ ?_
        rotate_left
        · rintro w' ⟨hS0, hS1, hS2, hS3, hS4, hS5⟩; go_simp; first | rfl | (rw [if_pos (by omega)]; done) | (rw [if_pos (by omega)]; rfl) | (rw [if_pos (by omega)]; go_simp; rfl)
        simp only [Act.put, List.setIfInBounds_toArray, List.set_cons_zero, List.set_cons_succ]
        refine ord_quietL _ ?_ rfl hS rfl ?_ ?_
        rotate_left
        · rintro w' ⟨hS0, hS1, hS2, hS3, hS4, hS5⟩; go_simp; first | rfl | (rw [if_pos (by omega)]; done) | (rw [if_pos (by omega)]; rfl) | (rw [if_pos (by omega)]; go_simp; rfl)
        simp only [Act.put, List.setIfInBounds_toArray, List.set_cons_zero, List.set_cons_succ]
        refine ord_quietL _ ?_ rfl hS rfl ?_ ?_
        rotate_left
        · rintro w' ⟨hS0, hS1, hS2, hS3, hS4, hS5⟩; go_simp; first | rfl | (rw [if_pos (by omega)]; done) | (rw [if_pos (by omega)]; rfl) | (rw [if_pos (by omega)]; go_simp; rfl)
        simp only [Act.put, List.setIfInBounds_toArray, List.set_cons_zero, List.set_cons_succ]
        refine ord_quietL _ ?_ rfl hS rfl ?_ ?_
        rotate_left
        · rintro w' ⟨hS0, hS1, hS2, hS3, hS4, hS5⟩; go_simp; first | rfl | (rw [if_pos (by omega)]; done) | (rw [if_pos (by omega)]; rfl) | (rw [if_pos (by omega)]; go_simp; rfl)
        simp only [Act.put, List.setIfInBounds_toArray, List.set_cons_zero, List.set_cons_succ]
        refine ord_quietL _ ?_ rfl hS rfl ?_ ?_
        rotate_left
        · rintro w' ⟨hS0, hS1, hS2, hS3, hS4, hS5⟩; go_simp; first | rfl | (rw [if_pos (by omega)]; done) | (rw [if_pos (by omega)]; rfl) | (rw [if_pos (by omega)]; go_simp; rfl)
        simp only [Act.put, List.setIfInBounds_toArray, List.set_cons_zero, List.set_cons_succ]
        refine ord_quietL _ ?_ rfl hS rfl ?_ ?_
        rotate_left
        · rintro w' ⟨hS0, hS1, hS2, hS3, hS4, hS5⟩; go_simp; first | rfl | (rw [if_pos (by omega)]; done) | (rw [if_pos (by omega)]; rfl) | (rw [if_pos (by omega)]; go_simp; rfl)
        simp only [Act.put, List.setIfInBounds_toArray, List.set_cons_zero, List.set_cons_succ]
        refine ord_quietL _ ?_ rfl hS rfl ?_ ?_
        rotate_left
        · rintro w' ⟨hS0, hS1, hS2, hS3, hS4, hS5⟩; go_simp; first | rfl | (rw [if_pos (by omega)]; done) | (rw [if_pos (by omega)]; rfl) | (rw [if_pos (by omega)]; go_simp; rfl)
        simp only [Act.put, List.setIfInBounds_toArray, List.set_cons_zero, List.set_cons_succ]
        refine ord_actL _ rfl (fun K1 hK1 => ?_)
        go_wp2_with (go_at_call 48; refine (hsee.out _ hFd.out).mono ?_; rintro e' w5 ⟨rfl, hF5⟩; refine stop_here ?_)
        unfold Hid
        have hF5 : Hid (Fnd W w5 to (xs ++ (t.drop L).take (j - L) ++ [pj])) := hF5
        go_wp2
        refine hK1 _ _ (hSof.out _ hF5.out.nw) ?_
        clear hK1 K1 hS hsee hFd
        refine ord_tail ?_
        simp only [List.drop_succ_cons, List.drop_zero]
        go_wp2
        go_roundw
        case rel => exact ⟨j + 1, by omega, by omega, by go_num, hnew.out, by rw [hst.out, ← List.append_assoc]; exact hF5.out⟩
        case measure => simp [intOf]; omega
      · have hsee : Hid (∀ w', Fnd W w' to (xs ++ (t.drop L).take (j - L)) → Calls Try.prog 48 #[pairV pj, .pointer (some ⟨W.heap.size, 0, none⟩), .pointer (some ⟨W.heap.size + 1, 0, none⟩)] w' fun e w2 => e = .returned (.bool false) ∧ Fnd W w2 to (xs ++ (t.drop L).take (j - L))) := fun w' hw => c_seeF pj w' hw (by simp; omega) hple
        have hA : Hid (allTo to (t.drop L) = false) := by
          unfold Hid
          rw [hrest.out]
          simp [allTo, hple]
        have hU : Hid (upto to (t.drop L) = (t.drop L).take (j - L)) := by
          unfold Hid
          conv => lhs; rw [hrest.out]
          rw [upto_append, if_pos hall.out]
          simp [upto, hple]
        clear hple
        go_wp2
        refine wp_region_ord [] 17 [(0, true), (1, true), (2, true), (3, true), (4, true), (5, true), (6, true), (7, true), (8, true), (9, true), (10, true), (11, true), (12, true), (13, true), (14, true), (15, true), (16, false)] (fun w' : World => Nw W w' ∧ w'.cell? ⟨b, 0, none⟩ = some (.slice (some ⟨kb, ko, none⟩) t.length ck) ∧ w'.cell? ⟨b, 1, none⟩ = some (.slice (some ⟨vb, vo, none⟩) t.length cv) ∧ w'.cell? ⟨kb, ko + j, none⟩ = some (.int .u64 pj.1) ∧ w'.cell? ⟨vb, vo + j * 2, none⟩ = some (.int .i64 pj.2.1) ∧ w'.cell? ⟨vb, vo + j * 2 + 1, none⟩ = some (.int .i64 pj.2.2)) (by kernel_rfl) (by kernel_rfl) ?_
        refine ord_quietL _ ?_ rfl hS rfl ?_ ?_
        rotate_left
        · rintro w' ⟨hS0, hS1, hS2, hS3, hS4, hS5⟩; go_simp; first | rfl | (rw [if_pos (by omega)]; done) | (rw [if_pos (by omega)]; rfl) | (rw [if_pos (by omega)]; go_simp; rfl)
        simp only [Act.put, List.setIfInBounds_toArray, List.set_cons_zero, List.set_cons_succ]
        refine ord_quietL _ ?_ rfl hS rfl ?_ ?_
        rotate_left
        · rintro w' ⟨hS0, hS1, hS2, hS3, hS4, hS5⟩; go_simp; first | rfl | (rw [if_pos (by omega)]; done) | (rw [if_pos (by omega)]; rfl) | (rw [if_pos (by omega)]; go_simp; rfl)
        simp only [Act.put, List.setIfInBounds_toArray, List.set_cons_zero, List.set_cons_succ]
        refine ord_quietL _ ?_ rfl hS rfl ?_ ?_
        rotate_left
        · rintro w' ⟨hS0, hS1, hS2, hS3, hS4, hS5⟩; go_simp; first | rfl | (rw [if_pos (by omega)]; done) | (rw [if_pos (by omega)]; rfl) | (rw [if_pos (by omega)]; go_simp; rfl)
        simp only [Act.put, List.setIfInBounds_toArray, List.set_cons_zero, List.set_cons_succ]
        refine ord_quietL _ ?_ rfl hS rfl ?_ ?_
        rotate_left
        · rintro w' ⟨hS0, hS1, hS2, hS3, hS4, hS5⟩; go_simp; first | rfl | (rw [if_pos (by omega)]; done) | (rw [if_pos (by omega)]; rfl) | (rw [if_pos (by omega)]; go_simp; rfl)
        simp only [Act.put, List.setIfInBounds_toArray, List.set_cons_zero, List.set_cons_succ]
        refine ord_quietL _ ?_ rfl hS rfl ?_ ?_
        rotate_left
        · rintro w' ⟨hS0, hS1, hS2, hS3, hS4, hS5⟩; go_simp; first | rfl | (rw [if_pos (by omega)]; done) | (rw [if_pos (by omega)]; rfl) | (rw [if_pos (by omega)]; go_simp; rfl)
        simp only [Act.put, List.setIfInBounds_toArray, List.set_cons_zero, List.set_cons_succ]
        refine ord_quietL _ ?_ rfl hS rfl ?_ ?_
        rotate_left
        · rintro w' ⟨hS0, hS1, hS2, hS3, hS4, hS5⟩; go_simp; first | rfl | (rw [if_pos (by omega)]; done) | (rw [if_pos (by omega)]; rfl) | (rw [if_pos (by omega)]; go_simp; rfl)
        simp only [Act.put, List.setIfInBounds_toArray, List.set_cons_zero, List.set_cons_succ]
        refine ord_quietL _ ?_ rfl hS rfl ?_ ?_
        rotate_left
        · rintro w' ⟨hS0, hS1, hS2, hS3, hS4, hS5⟩; go_simp; first | rfl | (rw [if_pos (by omega)]; done) | (rw [if_pos (by omega)]; rfl) | (rw [if_pos (by omega)]; go_simp; rfl)
        simp only [Act.put, List.setIfInBounds_toArray, List.set_cons_zero, List.set_cons_succ]
        refine ord_quietL _ ?_ rfl hS rfl ?_ ?_
        rotate_left
        · rintro w' ⟨hS0, hS1, hS2, hS3, hS4, hS5⟩; go_simp; first | rfl | (rw [if_pos (by omega)]; done) | (rw [if_pos (by omega)]; rfl) | (rw [if_pos (by omega)]; go_simp; rfl)
        simp only [Act.put, List.setIfInBounds_toArray, List.set_cons_zero, List.set_cons_succ]
        refine ord_quietL _ ?_ rfl hS rfl ?_ ?_
        rotate_left
        · rintro w' ⟨hS0, hS1, hS2, hS3, hS4, hS5⟩; go_simp; first | rfl | (rw [if_pos (by omega)]; done) | (rw [if_pos (by omega)]; rfl) | (rw [if_pos (by omega)]; go_simp; rfl)
        simp only [Act.put, List.setIfInBounds_toArray, List.set_cons_zero, List.set_cons_succ]
        refine ord_quietL _ ?_ rfl hS rfl ?_ ?_
        rotate_left
        · rintro w' ⟨hS0, hS1, hS2, hS3, hS4, hS5⟩; go_simp; first | rfl | (rw [if_pos (by omega)]; done) | (rw [if_pos (by omega)]; rfl) | (rw [if_pos (by omega)]; go_simp; rfl)
        simp only [Act.put, List.setIfInBounds_toArray, List.set_cons_zero, List.set_cons_succ]
        refine ord_quietL _ ?_ rfl hS rfl ?_ ?_
        rotate_left
        · rintro w' ⟨hS0, hS1, hS2, hS3, hS4, hS5⟩; go_simp; first | rfl | (rw [if_pos (by omega)]; done) | (rw [if_pos (by omega)]; rfl) | (rw [if_pos (by omega)]; go_simp; rfl)
        simp only [Act.put, List.setIfInBounds_toArray, List.set_cons_zero, List.set_cons_succ]
        refine ord_quietL _ ?_ rfl hS rfl ?_ ?_
        rotate_left
        · rintro w' ⟨hS0, hS1, hS2, hS3, hS4, hS5⟩; go_simp; first | rfl | (rw [if_pos (by omega)]; done) | (rw [if_pos (by omega)]; rfl) | (rw [if_pos (by omega)]; go_simp; rfl)
        simp only [Act.put, List.setIfInBounds_toArray, List.set_cons_zero, List.set_cons_succ]
        refine ord_quietL _ ?_ rfl hS rfl ?_ ?_
        rotate_left
        · rintro w' ⟨hS0, hS1, hS2, hS3, hS4, hS5⟩; go_simp; first | rfl | (rw [if_pos (by omega)]; done) | (rw [if_pos (by omega)]; rfl) | (rw [if_pos (by omega)]; go_simp; rfl)
        simp only [Act.put, List.setIfInBounds_toArray, List.set_cons_zero, List.set_cons_succ]
        refine ord_quietL _ ?_ rfl hS rfl ?_ ?_
        rotate_left
        · rintro w' ⟨hS0, hS1, hS2, hS3, hS4, hS5⟩; go_simp; first | rfl | (rw [if_pos (by omega)]; done) | (rw [if_pos (by omega)]; rfl) | (rw [if_pos (by omega)]; go_simp; rfl)
        simp only [Act.put, List.setIfInBounds_toArray, List.set_cons_zero, List.set_cons_succ]
        refine ord_quietL _ ?_ rfl hS rfl ?_ ?_
        rotate_left
        · rintro w' ⟨hS0, hS1, hS2, hS3, hS4, hS5⟩; go_simp; first | rfl | (rw [if_pos (by omega)]; done) | (rw [if_pos (by omega)]; rfl) | (rw [if_pos (by omega)]; go_simp; rfl)
        simp only [Act.put, List.setIfInBounds_toArray, List.set_cons_zero, List.set_cons_succ]
        refine ord_quietL _ ?_ rfl hS rfl ?_ ?_
        rotate_left
        · rintro w' ⟨hS0, hS1, hS2, hS3, hS4, hS5⟩; go_simp; first | rfl | (rw [if_pos (by omega)]; done) | (rw [if_pos (by omega)]; rfl) | (rw [if_pos (by omega)]; go_simp; rfl)
        simp only [Act.put, List.setIfInBounds_toArray, List.set_cons_zero, List.set_cons_succ]
        refine ord_actL _ rfl (fun K1 hK1 => ?_)
        go_wp2_with (go_at_call 48; refine (hsee.out _ hFd.out).mono ?_; rintro e' w5 ⟨rfl, hF5⟩; refine stop_here ?_)
        unfold Hid
        have hF5 : Hid (Fnd W w5 to (xs ++ (t.drop L).take (j - L))) := hF5
        go_wp2
        refine hK1 _ _ (hSof.out _ hF5.out.nw) ?_
        clear hK1 K1 hS hsee hFd
        refine ord_tail ?_
        simp only [List.drop_succ_cons, List.drop_zero]
        go_wp2
        go_ret
        rw [hA.out, hU.out]
        exact ⟨rfl, hF5.out⟩
    · have hjl : j = t.length := by omega
      subst hjl
      have hte : Hid ((t.drop L).take (t.length - L) = t.drop L) := List.take_of_length_le (by simp)
      have hF : Hid (Fnd W wr to (xs ++ (t.drop L).take (t.length - L))) := hF
      have hall : Hid (allTo to ((t.drop L).take (t.length - L)) = true) := hall0
      clear hall0
      go_wp2
      go_ret
      rw [← hte.out, upto_all hall.out, hall.out]
      exact ⟨rfl, hF.out⟩
end Go.Proofs.Ytnljfhjindenpab
