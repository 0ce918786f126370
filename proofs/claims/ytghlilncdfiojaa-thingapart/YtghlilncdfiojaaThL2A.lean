/-
  ThingApart's walk.
-/
import Derived.Deep.DeepCutAuto
import Derived.Test.YtghlilncdfiojaaThA1A
import Derived.Test.YtghlilncdfiojaaThC4A
import Derived.Test.YtghlilncdfiojaaThC3A
namespace Go.Proofs.Ytghlilncdfiojaa
set_option linter.unusedVariables false
set_option linter.unusedSimpArgs false
set_option maxRecDepth 20000
open Go.RowKit

/-- What Image answers, told once for both ways. -/
def ImgA (t : Th) (v : Value) (er : Int) (w : World) : Prop := (RightT t ∧ er = 0 ∧ ∃ y, imgO t = some y ∧ BSl (fun b => b < w.heap.size) w v y) ∨ (¬ RightT t ∧ er = 111)
theorem img_any {t : Th} {e : Ending} {w : World} (h : ImgP t e w) : ∃ p n c er, e = .returned (.tuple #[.slice p n c, .int .i64 er]) ∧ ImgA t (.slice p n c) er w := by
  rcases h with ⟨hr, v, y, h1, rfl, h3⟩ | ⟨h1, rfl⟩
  · obtain ⟨a, c, rfl, _⟩ := h3.form
    exact ⟨a, _, c, 0, rfl, .inl ⟨hr, rfl, y, h1, h3⟩⟩
  · exact ⟨none, 0, 0, 111, rfl, .inr ⟨h1, rfl⟩⟩
theorem ImgA.nw {t : Th} {v : Value} {er : Int} {w w' : World} (h : ImgA t v er w) (hn : Nw w w') : ImgA t v er w' := by
  rcases h with ⟨hr, h1, y, h2, h3⟩ | h
  · exact .inl ⟨hr, h1, y, h2, (h3.nw hn).mono (fun b hb hlt => hlt)⟩
  · exact .inr h

/-- A row whose elements can be written over: the cell at off of each of its elements is a number. -/
def RB (T s off : Nat) (k : IntKind) (w : World) (v : Value) (n g : Nat) : Prop := ∃ a c, v = .slice a n c ∧ n ≤ c ∧ c ≤ 9223372036854775807 ∧ (0 < n → a = some ⟨g, 0, none⟩ ∧ ∃ cs, w.heap[g]? = some (.cells cs T (0, 0)) ∧ ∀ i, i < n → ∃ x, cs[i * s + off]? = some (.int k x))
theorem RB.get {T s off : Nat} {k : IntKind} {w : World} {a : Option Addr} {n c g : Nat} (h : RB T s off k w (.slice a n c) n g) {i : Nat} (hi : i < n) : a = some ⟨g, 0, none⟩ ∧ n ≤ c ∧ c ≤ 9223372036854775807 ∧ ∃ x, w.cell? ⟨g, i * s + off, none⟩ = some (.int k x) ∧ ∀ q, w.frozen? ⟨g, q, none⟩ = false := by
  obtain ⟨a', c', e, h1, h2, h3⟩ := h
  cases e
  obtain ⟨rfl, cs, hb, hx⟩ := h3 (by omega)
  obtain ⟨x, hx⟩ := hx i hi
  exact ⟨rfl, h1, h2, x, cell_blk hb hx, fun q => free_blk hb⟩
theorem RB.set {T s off : Nat} {k : IntKind} {w : World} {v : Value} {n g : Nat} (h : RB T s off k w v n g) {i q : Nat} (x : Int) (hs : 0 < s) (hq : q = i * s + off) : RB T s off k (w.setCell ⟨g, q, none⟩ (.int k x)) v n g := by
  subst hq
  obtain ⟨a, c, rfl, h1, h2, h3⟩ := h
  refine ⟨a, c, rfl, h1, h2, fun hn => ?_⟩
  obtain ⟨rfl, cs, hb, hx⟩ := h3 hn
  refine ⟨rfl, _, blk_setCell hb, fun j hj => ?_⟩
  obtain ⟨y, hy⟩ := hx j hj
  by_cases e : j = i
  · subst e
    have hlt := (Array.getElem?_eq_some_iff.1 hy).1
    exact ⟨x, by simp [hlt]⟩
  · refine ⟨y, ?_⟩
    have hne : ¬ i * s + off = j * s + off := fun e9 => e (Nat.eq_of_mul_eq_mul_right hs (by omega))
    rw [Array.getElem?_setIfInBounds_ne hne]
    exact hy
theorem RB.keep {T s off : Nat} {k : IntKind} {w w' : World} {v : Value} {n g : Nat} (h : RB T s off k w v n g) {S : Nat → Prop} (hf : Fr S w w') (hg : 0 < n → ¬ S g) : RB T s off k w' v n g := by
  obtain ⟨a, c, rfl, h1, h2, h3⟩ := h
  refine ⟨a, c, rfl, h1, h2, fun hn => ?_⟩
  obtain ⟨rfl, cs, hb, hx⟩ := h3 hn
  exact ⟨rfl, cs, (hf.block _ (heap_lt hb) (hg hn)).trans hb, hx⟩
theorem RB.ty {T s off : Nat} {k : IntKind} {w : World} {v : Value} {n g : Nat} (h : RB T s off k w v n g) (hn : 0 < n) : ∃ cs, w.heap[g]? = some (.cells cs T (0, 0)) := by
  obtain ⟨a, c, rfl, h1, h2, h3⟩ := h
  obtain ⟨_, cs, hb, _⟩ := h3 hn
  exact ⟨cs, hb⟩

theorem rb_of {T s off : Nat} {k : IntKind} {w : World} {base n : Nat} {v : Value} {xs : List Value} (h : w.ownsRow base T s v n xs) (hlen : xs.length = n * s) (ho : off < s) (hx : ∀ i, i < n → ∃ x, xs[i * s + off]? = some (.int k x)) (hfresh : base ≤ w.heap.size) :
    ∃ g, base ≤ g ∧ RB T s off k w v n g ∧ (0 < n → g < w.heap.size) := by
  rcases h.2 with ⟨rfl, h2⟩ | ⟨g, cap, cur, rfl, hb, hg, hn, hm, hs, ht⟩
  · subst h2
    exact ⟨base, Nat.le_refl _, ⟨none, 0, rfl, Nat.le_refl _, by omega, fun h => by omega⟩, fun h => by omega⟩
  · refine ⟨g, hb, ⟨_, cap, rfl, hn, hm, fun _ => ⟨rfl, cur, hg, fun i hi => ?_⟩⟩, fun _ => heap_lt hg⟩
    obtain ⟨x, hx⟩ := hx i hi
    refine ⟨x, ?_⟩
    rw [← ht, List.getElem?_take] at hx
    split at hx
    · simpa using hx
    · cases hx

set_option maxRecDepth 100000 in
set_option maxHeartbeats 6400000 in
theorem c_lapart {X Y : Nat → Prop} {t s : Th} {uL uC uK uD vL vC vK vD : Value} (w : World) (h : ThAt X w t uL uC uK uD) (hs0 : ThAt Y w s vL vC vK vD) (hwf : WfT t) (hws : WfT s) (l1 : t.cats.length ≤ 8796093021952) (l2 : t.ccats.length ≤ 8796093021952) (l3 : t.links.length ≤ 8796093021952) (l4 : t.data.length ≤ 140737488351232)
    (k1 : s.cats.length ≤ 8796093021952) (k2 : s.ccats.length ≤ 8796093021952) :
    Calls Try.prog 8 #[(thV t uL uC uK uD), (thV s vL vC vK vD)] w fun e w' => e = .returned (.bool true) ∧ Nw w w' := by
  obtain ⟨W, hW⟩ : ∃ W, Hid (W = (w.alloc (.cells (thC t uL uC uK uD).toArray 34)).alloc (.cells (thC s vL vC vK vD).toArray 34)) := ⟨_, rfl⟩
  have nW : Nw w W := by rw [hW.out]; exact nw_alloc (nw_alloc (nw_refl w) _) _
  have hA : W.heap[w.heap.size]? = some (.cells (thC t uL uC uK uD).toArray 34 (0, 0)) := by rw [hW.out]; exact heap_alloc2_old w _ _
  have hB : W.heap[w.heap.size + 1]? = some (.cells (thC s vL vC vK vD).toArray 34 (0, 0)) := by rw [hW.out]; exact heap_alloc2_new w _ _
  have ht := h.nw nW
  have hs := hs0.nw nW
  clear h hs0
  go_enter Try.func8, Try.ntmps8
  go_upto_region 1 with (first | (refine wpList_box_agg rfl 34 _ rfl (thV t uL uC uK uD) _ rfl rfl ?_) | (refine wpList_box_agg rfl 34 _ rfl (thV s vL vC vK vD) _ rfl rfl ?_; rw [World.size_alloc, ← hW.out]))
  clear hW
  go_wp2_with (first | (go_at_call 9; refine Calls.mono (c_alive _) ?_; rintro e W1 ⟨rfl, n1⟩; refine stop_here ?_))
  unfold Hid
  have hci : Hid _ := c_timage W1 (ht.nw n1) hwf (by omega) (by omega)
  have hrA := range_all ((n1.block _ (heap_lt hA) (fun h => h)).trans hA)
  go_upto_region 3 with fail
  go_wp2_with (first | (refine wpList_load_as rfl 34 _ rfl (w.heap.size) 0 rfl (thV t uL uC uK uD) _ rfl hrA Try.rowT Try.sizeT ?_) | (go_at_call 16; refine Calls.mono hci.out ?_; rintro e W2 ⟨hip, n2⟩; obtain ⟨p1, m1, p3, e1, rfl, hy1⟩ := img_any hip; refine stop_here ?_))
  unfold Hid
  replace n2 := nw_trans n1 n2
  have hcj : Hid _ := c_timage W2 (hs.nw n2) hws (by omega) (by omega)
  have hrB := range_all ((n2.block _ (heap_lt hB) (fun h => h)).trans hB)
  clear hci hrA hip n1
  go_upto_region 4 with fail
  go_wp2_with (first | (refine wpList_load_as rfl 34 _ rfl ((w.heap.size + 1)) 0 rfl (thV s vL vC vK vD) _ rfl hrB Try.rowT Try.sizeT ?_) | (go_at_call 16; refine Calls.mono hcj.out ?_; rintro e U ⟨hip, n3⟩; obtain ⟨p4, m2, p6, e2, rfl, hy2⟩ := img_any hip; refine stop_here ?_))
  unfold Hid
  replace hy1 : Hid (ImgA t (.slice p1 m1 p3) e1 U) := hy1.nw n3
  replace hy2 : Hid (ImgA s (.slice p4 m2 p6) e2 U) := hy2
  replace n3 := nw_trans n2 n3
  replace hA := (n3.block _ (heap_lt hA) (fun h => h)).trans hA
  replace hB := (n3.block _ (heap_lt hB) (fun h => h)).trans hB
  replace ht : Hid (ThAt X U t uL uC uK uD) := ht.nw n3
  replace hs : Hid (ThAt Y U s vL vC vK vD) := hs.nw n3
  replace nW : Hid (Nw w U) := nw_trans nW n3
  clear hcj hrB hip n2 n3
  go_upto_region 5 with fail
  go_cut [42] (fun v wc => v = .bool false ∧ Nw U wc)
  case first =>
    as_aux_lemma =>
      rcases hy1.out with ⟨hrt, rfl, y1, hi1, hb1⟩ | ⟨hrt, rfl⟩
      · rcases hy2.out with ⟨hrs, rfl, y2, hi2, hb2⟩ | ⟨hrs, rfl⟩
        · clear hy1 hy2
          have hy1 : Hid (BSl (fun b => b < U.heap.size) U (.slice p1 m1 p3) y1) := hb1
          have hy2 : Hid (BSl (fun b => b < U.heap.size) U (.slice p4 m2 p6) y2) := hb2
          clear hb1 hb2
          by_cases hts : t = s
          · have heq : (y1 == y2) = true := by
              have e9 : y1 = y2 := by rw [hts] at hi1; exact Option.some.inj (hi1.symm.trans hi2)
              simp [e9]
            replace hts : Hid (t = s) := hts
            clear hi1 hi2 hrt hrs
            have hSof : ∀ w', Nw U w' → (fun w' : World => Nw U w' ∧ w'.heap[w.heap.size]? = some (.cells (thC t uL uC uK uD).toArray 34 (0, 0)) ∧ w'.heap[w.heap.size + 1]? = some (.cells (thC s vL vC vK vD).toArray 34 (0, 0))) w' := fun w' hw => ⟨hw, (hw.block _ (heap_lt hA) (fun h => h)).trans hA, (hw.block _ (heap_lt hB) (fun h => h)).trans hB⟩
            have hW0 : Nw U U.drew := Fr.drew (Fr.refl _ U)
            have hS := hSof _ hW0
            replace hSof : Hid _ := hSof
            refine wp_region_ord [] 16 [(0, true), (1, true), (2, true), (3, true), (4, true), (5, true), (6, true), (7, true), (9, true), (12, true), (13, true), (8, true), (10, true), (11, true), (14, false), (15, true)] (fun w' : World => Nw U w' ∧ w'.heap[w.heap.size]? = some (.cells (thC t uL uC uK uD).toArray 34 (0, 0)) ∧ w'.heap[w.heap.size + 1]? = some (.cells (thC s vL vC vK vD).toArray 34 (0, 0))) (by kernel_rfl) (by kernel_rfl) ?_
            refine ord_quietL _ ?_ rfl hS rfl ?_ ?_
            rotate_left
            · rintro w' ⟨hn, rhA, rhB⟩; go_simp; rfl
            simp only [Act.put, List.setIfInBounds_toArray, List.set_cons_zero, List.set_cons_succ]
            refine ord_quietL _ ?_ rfl hS rfl ?_ ?_
            rotate_left
            · rintro w' ⟨hn, rhA, rhB⟩; go_simp; rfl
            simp only [Act.put, List.setIfInBounds_toArray, List.set_cons_zero, List.set_cons_succ]
            refine ord_quietL _ ?_ rfl hS rfl ?_ ?_
            rotate_left
            · rintro w' ⟨hn, rhA, rhB⟩; go_simp; rfl
            simp only [Act.put, List.setIfInBounds_toArray, List.set_cons_zero, List.set_cons_succ]
            refine ord_quietL _ ?_ rfl hS rfl ?_ ?_
            rotate_left
            · rintro w' ⟨hn, rhA, rhB⟩; go_simp; rfl
            simp only [Act.put, List.setIfInBounds_toArray, List.set_cons_zero, List.set_cons_succ]
            refine ord_quietL _ ?_ rfl hS rfl ?_ ?_
            rotate_left
            · rintro w' ⟨hn, rhA, rhB⟩; go_simp; rfl
            simp only [Act.put, List.setIfInBounds_toArray, List.set_cons_zero, List.set_cons_succ]
            refine ord_quietL _ ?_ rfl hS rfl ?_ ?_
            rotate_left
            · rintro w' ⟨hn, rhA, rhB⟩; go_simp; rfl
            simp only [Act.put, List.setIfInBounds_toArray, List.set_cons_zero, List.set_cons_succ]
            refine ord_quietL _ ?_ rfl hS rfl ?_ ?_
            rotate_left
            · rintro w' ⟨hn, rhA, rhB⟩; go_simp; rfl
            simp only [Act.put, List.setIfInBounds_toArray, List.set_cons_zero, List.set_cons_succ]
            refine ord_quietL _ ?_ rfl hS rfl ?_ ?_
            rotate_left
            · rintro w' ⟨hn, rhA, rhB⟩; go_simp; rfl
            simp only [Act.put, List.setIfInBounds_toArray, List.set_cons_zero, List.set_cons_succ]
            refine ord_quietL _ ?_ rfl hS rfl ?_ ?_
            rotate_left
            · rintro w' ⟨hn, rhA, rhB⟩; go_simp; rfl
            simp only [Act.put, List.setIfInBounds_toArray, List.set_cons_zero, List.set_cons_succ]
            refine ord_quietL _ ?_ rfl hS rfl ?_ ?_
            rotate_left
            · rintro w' ⟨hn, rhA, rhB⟩; refine (run_load_th _ w' rfl (w.heap.size) rfl rhA).trans ?_; rfl
            simp only [Act.put, List.setIfInBounds_toArray, List.set_cons_zero, List.set_cons_succ]
            refine ord_quietL _ ?_ rfl hS rfl ?_ ?_
            rotate_left
            · rintro w' ⟨hn, rhA, rhB⟩; refine (run_load_th _ w' rfl (w.heap.size + 1) rfl rhB).trans ?_; rfl
            simp only [Act.put, List.setIfInBounds_toArray, List.set_cons_zero, List.set_cons_succ]
            refine ord_quietL _ ?_ rfl hS rfl ?_ ?_
            rotate_left
            · rintro w' ⟨hn, rhA, rhB⟩; have hc := run_string_sl (P := Try.prog) 28 5 9 Try.underlying28 Try.underlying5 Try.underlying9 (hy1.out.nw hn).sl; go_simp; rfl
            simp only [Act.put, List.setIfInBounds_toArray, List.set_cons_zero, List.set_cons_succ]
            refine ord_quietL _ ?_ rfl hS rfl ?_ ?_
            rotate_left
            · rintro w' ⟨hn, rhA, rhB⟩; have hc := run_string_sl (P := Try.prog) 28 5 9 Try.underlying28 Try.underlying5 Try.underlying9 (hy2.out.nw hn).sl; go_simp; rfl
            simp only [Act.put, List.setIfInBounds_toArray, List.set_cons_zero, List.set_cons_succ]
            refine ord_quietL _ ?_ rfl hS rfl ?_ ?_
            rotate_left
            · rintro w' ⟨hn, rhA, rhB⟩; go_simp; first | exact congrArg Value.bool heq | rfl
            simp only [Act.put, List.setIfInBounds_toArray, List.set_cons_zero, List.set_cons_succ]
            refine ord_actL _ rfl (fun K1 hK1 => ?_)
            have hcon : Hid _ := c_tsame U.drew (ht.out.nw hW0) (hs.out.nw hW0)
            unfold AnsP at hcon
            go_wp2_with (go_at_call 13; refine Calls.mono hcon.out ?_; rintro e wk0 ⟨r2, rfl, q2, qn⟩)
            have m0 := nw_trans hW0 qn
            obtain rfl := q2.2 hts.out
            clear q2
            refine hK1 _ _ (hSof.out _ m0) ?_
            clear hK1 K1 hcon qn hS hW0
            have hS := hSof.out _ m0
            refine ord_quietL _ ?_ rfl hS rfl ?_ ?_
            rotate_left
            · rintro w' ⟨hn, rhA, rhB⟩; go_simp; rfl
            simp only [Act.put, List.setIfInBounds_toArray, List.set_cons_zero, List.set_cons_succ]
            refine ord_tail ?_
            simp only [List.drop_succ_cons, List.drop_zero]
            go_wp2
            go_meet
            case rel => exact ⟨rfl, m0⟩
          · have heq : (y1 == y2) = false := by
              have e9 : ¬ y1 = y2 := fun e => hts (img_inj hrt hrs hwf hws hi1 (e ▸ hi2))
              simp [e9]
            replace hts : Hid (¬ t = s) := hts
            clear hi1 hi2 hrt hrs
            have hSof : ∀ w', Nw U w' → (fun w' : World => Nw U w' ∧ w'.heap[w.heap.size]? = some (.cells (thC t uL uC uK uD).toArray 34 (0, 0)) ∧ w'.heap[w.heap.size + 1]? = some (.cells (thC s vL vC vK vD).toArray 34 (0, 0))) w' := fun w' hw => ⟨hw, (hw.block _ (heap_lt hA) (fun h => h)).trans hA, (hw.block _ (heap_lt hB) (fun h => h)).trans hB⟩
            have hW0 : Nw U U.drew := Fr.drew (Fr.refl _ U)
            have hS := hSof _ hW0
            replace hSof : Hid _ := hSof
            refine wp_region_ord [] 16 [(0, true), (1, true), (2, true), (3, true), (4, true), (5, true), (6, true), (7, true), (9, true), (12, true), (13, true), (8, true), (10, true), (11, true), (14, false), (15, true)] (fun w' : World => Nw U w' ∧ w'.heap[w.heap.size]? = some (.cells (thC t uL uC uK uD).toArray 34 (0, 0)) ∧ w'.heap[w.heap.size + 1]? = some (.cells (thC s vL vC vK vD).toArray 34 (0, 0))) (by kernel_rfl) (by kernel_rfl) ?_
            refine ord_quietL _ ?_ rfl hS rfl ?_ ?_
            rotate_left
            · rintro w' ⟨hn, rhA, rhB⟩; go_simp; rfl
            simp only [Act.put, List.setIfInBounds_toArray, List.set_cons_zero, List.set_cons_succ]
            refine ord_quietL _ ?_ rfl hS rfl ?_ ?_
            rotate_left
            · rintro w' ⟨hn, rhA, rhB⟩; go_simp; rfl
            simp only [Act.put, List.setIfInBounds_toArray, List.set_cons_zero, List.set_cons_succ]
            refine ord_quietL _ ?_ rfl hS rfl ?_ ?_
            rotate_left
            · rintro w' ⟨hn, rhA, rhB⟩; go_simp; rfl
            simp only [Act.put, List.setIfInBounds_toArray, List.set_cons_zero, List.set_cons_succ]
            refine ord_quietL _ ?_ rfl hS rfl ?_ ?_
            rotate_left
            · rintro w' ⟨hn, rhA, rhB⟩; go_simp; rfl
            simp only [Act.put, List.setIfInBounds_toArray, List.set_cons_zero, List.set_cons_succ]
            refine ord_quietL _ ?_ rfl hS rfl ?_ ?_
            rotate_left
            · rintro w' ⟨hn, rhA, rhB⟩; go_simp; rfl
            simp only [Act.put, List.setIfInBounds_toArray, List.set_cons_zero, List.set_cons_succ]
            refine ord_quietL _ ?_ rfl hS rfl ?_ ?_
            rotate_left
            · rintro w' ⟨hn, rhA, rhB⟩; go_simp; rfl
            simp only [Act.put, List.setIfInBounds_toArray, List.set_cons_zero, List.set_cons_succ]
            refine ord_quietL _ ?_ rfl hS rfl ?_ ?_
            rotate_left
            · rintro w' ⟨hn, rhA, rhB⟩; go_simp; rfl
            simp only [Act.put, List.setIfInBounds_toArray, List.set_cons_zero, List.set_cons_succ]
            refine ord_quietL _ ?_ rfl hS rfl ?_ ?_
            rotate_left
            · rintro w' ⟨hn, rhA, rhB⟩; go_simp; rfl
            simp only [Act.put, List.setIfInBounds_toArray, List.set_cons_zero, List.set_cons_succ]
            refine ord_quietL _ ?_ rfl hS rfl ?_ ?_
            rotate_left
            · rintro w' ⟨hn, rhA, rhB⟩; go_simp; rfl
            simp only [Act.put, List.setIfInBounds_toArray, List.set_cons_zero, List.set_cons_succ]
            refine ord_quietL _ ?_ rfl hS rfl ?_ ?_
            rotate_left
            · rintro w' ⟨hn, rhA, rhB⟩; refine (run_load_th _ w' rfl (w.heap.size) rfl rhA).trans ?_; rfl
            simp only [Act.put, List.setIfInBounds_toArray, List.set_cons_zero, List.set_cons_succ]
            refine ord_quietL _ ?_ rfl hS rfl ?_ ?_
            rotate_left
            · rintro w' ⟨hn, rhA, rhB⟩; refine (run_load_th _ w' rfl (w.heap.size + 1) rfl rhB).trans ?_; rfl
            simp only [Act.put, List.setIfInBounds_toArray, List.set_cons_zero, List.set_cons_succ]
            refine ord_quietL _ ?_ rfl hS rfl ?_ ?_
            rotate_left
            · rintro w' ⟨hn, rhA, rhB⟩; have hc := run_string_sl (P := Try.prog) 28 5 9 Try.underlying28 Try.underlying5 Try.underlying9 (hy1.out.nw hn).sl; go_simp; rfl
            simp only [Act.put, List.setIfInBounds_toArray, List.set_cons_zero, List.set_cons_succ]
            refine ord_quietL _ ?_ rfl hS rfl ?_ ?_
            rotate_left
            · rintro w' ⟨hn, rhA, rhB⟩; have hc := run_string_sl (P := Try.prog) 28 5 9 Try.underlying28 Try.underlying5 Try.underlying9 (hy2.out.nw hn).sl; go_simp; rfl
            simp only [Act.put, List.setIfInBounds_toArray, List.set_cons_zero, List.set_cons_succ]
            refine ord_quietL _ ?_ rfl hS rfl ?_ ?_
            rotate_left
            · rintro w' ⟨hn, rhA, rhB⟩; go_simp; first | exact congrArg Value.bool heq | rfl
            simp only [Act.put, List.setIfInBounds_toArray, List.set_cons_zero, List.set_cons_succ]
            refine ord_actL _ rfl (fun K1 hK1 => ?_)
            have hcon : Hid _ := c_tsame U.drew (ht.out.nw hW0) (hs.out.nw hW0)
            unfold AnsP at hcon
            go_wp2_with (go_at_call 13; refine Calls.mono hcon.out ?_; rintro e wk0 ⟨r2, rfl, q2, qn⟩)
            have m0 := nw_trans hW0 qn
            obtain rfl : r2 = false := (by cases r2; rfl; exact absurd (q2.1 rfl) hts.out)
            clear q2
            refine hK1 _ _ (hSof.out _ m0) ?_
            clear hK1 K1 hcon qn hS hW0
            have hS := hSof.out _ m0
            refine ord_quietL _ ?_ rfl hS rfl ?_ ?_
            rotate_left
            · rintro w' ⟨hn, rhA, rhB⟩; go_simp; rfl
            simp only [Act.put, List.setIfInBounds_toArray, List.set_cons_zero, List.set_cons_succ]
            refine ord_tail ?_
            simp only [List.drop_succ_cons, List.drop_zero]
            go_wp2
            go_meet
            case rel => exact ⟨rfl, m0⟩
        · clear hrt hi1 hb1 hrs
          have hSof : ∀ w', Nw U w' → (fun w' : World => Nw U w' ∧ w'.heap[w.heap.size]? = some (.cells (thC t uL uC uK uD).toArray 34 (0, 0)) ∧ w'.heap[w.heap.size + 1]? = some (.cells (thC s vL vC vK vD).toArray 34 (0, 0))) w' := fun w' hw => ⟨hw, (hw.block _ (heap_lt hA) (fun h => h)).trans hA, (hw.block _ (heap_lt hB) (fun h => h)).trans hB⟩
          have hW0 : Nw U U.drew := Fr.drew (Fr.refl _ U)
          have hS := hSof _ hW0
          replace hSof : Hid _ := hSof
          refine wp_region_ord [] 16 [(0, true), (1, true), (2, true), (3, true), (4, true), (5, true), (6, true), (7, true), (9, true), (12, true), (13, true), (8, true), (10, true), (11, true), (14, false), (15, true)] (fun w' : World => Nw U w' ∧ w'.heap[w.heap.size]? = some (.cells (thC t uL uC uK uD).toArray 34 (0, 0)) ∧ w'.heap[w.heap.size + 1]? = some (.cells (thC s vL vC vK vD).toArray 34 (0, 0))) (by kernel_rfl) (by kernel_rfl) ?_
          refine ord_quietL _ ?_ rfl hS rfl ?_ ?_
          rotate_left
          · rintro w' ⟨hn, rhA, rhB⟩; go_simp; rfl
          simp only [Act.put, List.setIfInBounds_toArray, List.set_cons_zero, List.set_cons_succ]
          refine ord_quietL _ ?_ rfl hS rfl ?_ ?_
          rotate_left
          · rintro w' ⟨hn, rhA, rhB⟩; go_simp; rfl
          simp only [Act.put, List.setIfInBounds_toArray, List.set_cons_zero, List.set_cons_succ]
          refine ord_quietL _ ?_ rfl hS rfl ?_ ?_
          rotate_left
          · rintro w' ⟨hn, rhA, rhB⟩; go_simp; rfl
          simp only [Act.put, List.setIfInBounds_toArray, List.set_cons_zero, List.set_cons_succ]
          refine ord_quietL _ ?_ rfl hS rfl ?_ ?_
          rotate_left
          · rintro w' ⟨hn, rhA, rhB⟩; go_simp; rfl
          simp only [Act.put, List.setIfInBounds_toArray, List.set_cons_zero, List.set_cons_succ]
          refine ord_quietL _ ?_ rfl hS rfl ?_ ?_
          rotate_left
          · rintro w' ⟨hn, rhA, rhB⟩; go_simp; rfl
          simp only [Act.put, List.setIfInBounds_toArray, List.set_cons_zero, List.set_cons_succ]
          refine ord_quietL _ ?_ rfl hS rfl ?_ ?_
          rotate_left
          · rintro w' ⟨hn, rhA, rhB⟩; go_simp; rfl
          simp only [Act.put, List.setIfInBounds_toArray, List.set_cons_zero, List.set_cons_succ]
          refine ord_quietL _ ?_ rfl hS rfl ?_ ?_
          rotate_left
          · rintro w' ⟨hn, rhA, rhB⟩; go_simp; rfl
          simp only [Act.put, List.setIfInBounds_toArray, List.set_cons_zero, List.set_cons_succ]
          refine ord_skipL _ rfl hS rfl ?_
          simp only [Act.put, List.setIfInBounds_toArray, List.set_cons_zero, List.set_cons_succ]
          refine ord_skipL _ rfl hS rfl ?_
          simp only [Act.put, List.setIfInBounds_toArray, List.set_cons_zero, List.set_cons_succ]
          refine ord_skipL _ rfl hS rfl ?_
          simp only [Act.put, List.setIfInBounds_toArray, List.set_cons_zero, List.set_cons_succ]
          refine ord_skipL _ rfl hS rfl ?_
          simp only [Act.put, List.setIfInBounds_toArray, List.set_cons_zero, List.set_cons_succ]
          refine ord_skipL _ rfl hS rfl ?_
          simp only [Act.put, List.setIfInBounds_toArray, List.set_cons_zero, List.set_cons_succ]
          refine ord_skipL _ rfl hS rfl ?_
          simp only [Act.put, List.setIfInBounds_toArray, List.set_cons_zero, List.set_cons_succ]
          refine ord_skipL _ rfl hS rfl ?_
          simp only [Act.put, List.setIfInBounds_toArray, List.set_cons_zero, List.set_cons_succ]
          refine ord_actL _ rfl (fun K1 hK1 => ?_)
          go_wp2
          refine hK1 _ _ (hSof.out _ hW0) ?_
          clear hK1 K1
          refine ord_skipL _ rfl hS rfl ?_
          simp only [Act.put, List.setIfInBounds_toArray, List.set_cons_zero, List.set_cons_succ]
          refine ord_tail ?_
          simp only [List.drop_succ_cons, List.drop_zero]
          go_wp2
          go_meet
          case rel => exact ⟨rfl, hW0⟩
      · clear hrt
        have hSof : ∀ w', Nw U w' → (fun w' : World => Nw U w' ∧ w'.heap[w.heap.size]? = some (.cells (thC t uL uC uK uD).toArray 34 (0, 0)) ∧ w'.heap[w.heap.size + 1]? = some (.cells (thC s vL vC vK vD).toArray 34 (0, 0))) w' := fun w' hw => ⟨hw, (hw.block _ (heap_lt hA) (fun h => h)).trans hA, (hw.block _ (heap_lt hB) (fun h => h)).trans hB⟩
        have hW0 : Nw U U.drew := Fr.drew (Fr.refl _ U)
        have hS := hSof _ hW0
        replace hSof : Hid _ := hSof
        refine wp_region_ord [] 16 [(0, true), (1, true), (2, true), (3, true), (4, true), (5, true), (6, true), (7, true), (9, true), (12, true), (13, true), (8, true), (10, true), (11, true), (14, false), (15, true)] (fun w' : World => Nw U w' ∧ w'.heap[w.heap.size]? = some (.cells (thC t uL uC uK uD).toArray 34 (0, 0)) ∧ w'.heap[w.heap.size + 1]? = some (.cells (thC s vL vC vK vD).toArray 34 (0, 0))) (by kernel_rfl) (by kernel_rfl) ?_
        refine ord_quietL _ ?_ rfl hS rfl ?_ ?_
        rotate_left
        · rintro w' ⟨hn, rhA, rhB⟩; go_simp; rfl
        simp only [Act.put, List.setIfInBounds_toArray, List.set_cons_zero, List.set_cons_succ]
        refine ord_quietL _ ?_ rfl hS rfl ?_ ?_
        rotate_left
        · rintro w' ⟨hn, rhA, rhB⟩; go_simp; rfl
        simp only [Act.put, List.setIfInBounds_toArray, List.set_cons_zero, List.set_cons_succ]
        refine ord_quietL _ ?_ rfl hS rfl ?_ ?_
        rotate_left
        · rintro w' ⟨hn, rhA, rhB⟩; go_simp; rfl
        simp only [Act.put, List.setIfInBounds_toArray, List.set_cons_zero, List.set_cons_succ]
        refine ord_skipL _ rfl hS rfl ?_
        simp only [Act.put, List.setIfInBounds_toArray, List.set_cons_zero, List.set_cons_succ]
        refine ord_skipL _ rfl hS rfl ?_
        simp only [Act.put, List.setIfInBounds_toArray, List.set_cons_zero, List.set_cons_succ]
        refine ord_quietL _ ?_ rfl hS rfl ?_ ?_
        rotate_left
        · rintro w' ⟨hn, rhA, rhB⟩; go_simp; rfl
        simp only [Act.put, List.setIfInBounds_toArray, List.set_cons_zero, List.set_cons_succ]
        refine ord_quietL _ ?_ rfl hS rfl ?_ ?_
        rotate_left
        · rintro w' ⟨hn, rhA, rhB⟩; go_simp; rfl
        simp only [Act.put, List.setIfInBounds_toArray, List.set_cons_zero, List.set_cons_succ]
        refine ord_skipL _ rfl hS rfl ?_
        simp only [Act.put, List.setIfInBounds_toArray, List.set_cons_zero, List.set_cons_succ]
        refine ord_skipL _ rfl hS rfl ?_
        simp only [Act.put, List.setIfInBounds_toArray, List.set_cons_zero, List.set_cons_succ]
        refine ord_skipL _ rfl hS rfl ?_
        simp only [Act.put, List.setIfInBounds_toArray, List.set_cons_zero, List.set_cons_succ]
        refine ord_skipL _ rfl hS rfl ?_
        simp only [Act.put, List.setIfInBounds_toArray, List.set_cons_zero, List.set_cons_succ]
        refine ord_skipL _ rfl hS rfl ?_
        simp only [Act.put, List.setIfInBounds_toArray, List.set_cons_zero, List.set_cons_succ]
        refine ord_skipL _ rfl hS rfl ?_
        simp only [Act.put, List.setIfInBounds_toArray, List.set_cons_zero, List.set_cons_succ]
        refine ord_skipL _ rfl hS rfl ?_
        simp only [Act.put, List.setIfInBounds_toArray, List.set_cons_zero, List.set_cons_succ]
        refine ord_actL _ rfl (fun K1 hK1 => ?_)
        go_wp2
        refine hK1 _ _ (hSof.out _ hW0) ?_
        clear hK1 K1
        refine ord_skipL _ rfl hS rfl ?_
        simp only [Act.put, List.setIfInBounds_toArray, List.set_cons_zero, List.set_cons_succ]
        refine ord_tail ?_
        simp only [List.drop_succ_cons, List.drop_zero]
        go_wp2
        go_meet
        case rel => exact ⟨rfl, hW0⟩
  case rest =>
    obtain ⟨rfl, nC⟩ := hcut
    replace hA := (nC.block _ (heap_lt hA) (fun h => h)).trans hA
    have ht := ht.out.nw nC
    replace nW : Hid (Nw w wc) := nw_trans nW.out nC
    clear hy1 hy2 hs hB nC
    have hcc : Hid _ := c_rtcopy wc ht (by omega) (by omega) (by omega) (by omega)
    have hrA := range_all hA
    go_upto_region 7 with fail
    go_wp2_with (first | (refine wpList_load_as rfl 34 _ rfl (w.heap.size) 0 rfl (thV t uL uC uK uD) _ rfl hrA Try.rowT Try.sizeT ?_) | (go_at_call 15; refine Calls.mono hcc.out ?_; rintro e D1 ⟨q1, q2, q3, q4, rfl, hw, n5⟩; refine stop_here ?_))
    unfold Hid
    clear hcc hrA
    obtain ⟨YE1, hYE1⟩ : ∃ Y, Hid (Y = D1.alloc (.cells (thC zeroT (.slice none 0 0) (.slice none 0 0) (.slice none 0 0) (.slice none 0 0)).toArray 34)) := ⟨_, rfl⟩
    have hPE1 : YE1.heap[D1.heap.size]? = some (.cells (thC zeroT (.slice none 0 0) (.slice none 0 0) (.slice none 0 0) (.slice none 0 0)).toArray 34 (0, 0)) := by rw [hYE1.out]; exact heap_alloc_new D1 _
    have nYE1 : Nw D1 YE1 := by rw [hYE1.out]; exact nw_alloc (nw_refl _) _
    obtain ⟨E1, hVE1⟩ : ∃ V, Hid (V = YE1.setRow D1.heap.size (thC t q1 q2 q3 q4).toArray) := ⟨_, rfl⟩
    have hC : E1.heap[D1.heap.size]? = some (.cells (thC t q1 q2 q3 q4).toArray 34 (0, 0)) := by rw [hVE1.out]; exact setRow_heap _ _ _ _ _ _ hPE1
    have nE1 : Nw D1 E1 := by rw [hVE1.out]; exact Fr.setRow nYE1 (.inr (Nat.le_refl _)) _
    go_wp2_with (refine wpList_alloc_agg rfl 34 rfl _ Try.zeroTh ?_; rw [← hYE1.out]; refine stop_here ?_)
    unfold Hid
    refine wpList_store_all rfl 34 _ _ rfl D1.heap.size rfl (thV t q1 q2 q3 q4) rfl (thC t q1 q2 q3 q4) rfl (thC zeroT (.slice none 0 0) (.slice none 0 0) (.slice none 0 0) (.slice none 0 0)) 34 hPE1 rfl hw.one Try.sizeT ?_
    rw [← hVE1.out]
    clear hYE1 hVE1 hPE1 nYE1
    have n6 := nw_trans n5 nE1
    replace hA := (n6.block _ (heap_lt hA) (fun h => h)).trans hA
    replace ht := ht.nw n6
    replace hw := hw.nw nE1
    replace nW : Hid (Nw w E1) := nw_trans nW.out n6
    clear n5 n6 nE1
    have hcc : Hid _ := c_tcopy E1 ht (by omega) (by omega) (by omega) (by omega)
    have hrA := range_all hA
    generalize hca : D1.heap.size = ca at *
    clear hca
    go_upto_region 8 with fail
    go_wp2_with (first | (refine wpList_load_as rfl 34 _ rfl (w.heap.size) 0 rfl (thV t uL uC uK uD) _ rfl hrA Try.rowT Try.sizeT ?_) | (go_at_call 10; refine Calls.mono hcc.out ?_; rintro e D2 ⟨v1, v2, v3, v4, rfl, hcop, n5⟩; refine stop_here ?_))
    unfold Hid
    clear hcc hrA
    obtain ⟨a1, c1, rfl⟩ := owns_form hcop.l
    obtain ⟨a2, c2, rfl⟩ := owns_form hcop.c
    obtain ⟨a3, c3, rfl⟩ := owns_form hcop.k
    obtain ⟨a4, c4, rfl⟩ := owns_form hcop.d
    obtain ⟨YV4, hYV4⟩ : ∃ Y, Hid (Y = D2.alloc (.cells (thC zeroT (.slice none 0 0) (.slice none 0 0) (.slice none 0 0) (.slice none 0 0)).toArray 34)) := ⟨_, rfl⟩
    have hPV4 : YV4.heap[D2.heap.size]? = some (.cells (thC zeroT (.slice none 0 0) (.slice none 0 0) (.slice none 0 0) (.slice none 0 0)).toArray 34 (0, 0)) := by rw [hYV4.out]; exact heap_alloc_new D2 _
    have nYV4 : Nw D2 YV4 := by rw [hYV4.out]; exact nw_alloc (nw_refl _) _
    obtain ⟨V4, hVV4⟩ : ∃ V, Hid (V = YV4.setRow D2.heap.size (thC t (.slice a1 t.cats.length c1) (.slice a2 t.ccats.length c2) (.slice a3 t.links.length c3) (.slice a4 t.data.length c4)).toArray) := ⟨_, rfl⟩
    have hCb : V4.heap[D2.heap.size]? = some (.cells (thC t (.slice a1 t.cats.length c1) (.slice a2 t.ccats.length c2) (.slice a3 t.links.length c3) (.slice a4 t.data.length c4)).toArray 34 (0, 0)) := by rw [hVV4.out]; exact setRow_heap _ _ _ _ _ _ hPV4
    have nV4 : Nw D2 V4 := by rw [hVV4.out]; exact Fr.setRow nYV4 (.inr (Nat.le_refl _)) _
    go_wp2_with (refine wpList_alloc_agg rfl 34 rfl _ Try.zeroTh ?_; rw [← hYV4.out]; refine stop_here ?_)
    unfold Hid
    refine wpList_store_all rfl 34 _ _ rfl D2.heap.size rfl (thV t (.slice a1 t.cats.length c1) (.slice a2 t.ccats.length c2) (.slice a3 t.links.length c3) (.slice a4 t.data.length c4)) rfl (thC t (.slice a1 t.cats.length c1) (.slice a2 t.ccats.length c2) (.slice a3 t.links.length c3) (.slice a4 t.data.length c4)) rfl (thC zeroT (.slice none 0 0) (.slice none 0 0) (.slice none 0 0) (.slice none 0 0)) 34 hPV4 rfl (th_one _ _ _ _ _ rfl rfl rfl rfl) Try.sizeT ?_
    rw [← hVV4.out]
    clear hYV4 hVV4 hPV4 nYV4
    have hED := n5.size
    obtain ⟨g1, hg1, hr1, hs1⟩ := rb_of (off := 1) (k := .i64) hcop.l (ccells_length _) (by decide) (fun i hi => ⟨_, (ccells_get _ i hi).2⟩) n5.size
    obtain ⟨g3, hg3, hr3, hs3⟩ := rb_of (off := 0) (k := .u64) hcop.k (ccells_length _) (by decide) (fun i hi => ⟨_, (ccells_get _ i hi).1⟩) n5.size
    obtain ⟨g4, hg4, hr4, hs4⟩ := rb_of (off := 0) (k := .u8) hcop.d (by simp) (by decide) (fun i hi => ⟨(t.data[i].toNat : Int), by simp [bv, hi]⟩) n5.size
    have hx43 : Hid (0 < t.links.length → ¬ (0 < t.data.length ∧ g3 = g4)) := fun p3 h => by
      obtain ⟨cs, e3⟩ := hr3.ty p3
      obtain ⟨cs', e4⟩ := hr4.ty h.1
      rw [h.2, e4] at e3
      simp at e3
    have hx41 : Hid (0 < t.cats.length → ¬ (0 < t.data.length ∧ g1 = g4)) := fun p3 h => by
      obtain ⟨cs, e3⟩ := hr1.ty p3
      obtain ⟨cs', e4⟩ := hr4.ty h.1
      rw [h.2, e4] at e3
      simp at e3
    have hx31 : Hid (0 < t.cats.length → ¬ (0 < t.links.length ∧ g1 = g3)) := fun p3 h => by
      obtain ⟨cs, e3⟩ := hr1.ty p3
      obtain ⟨cs', e4⟩ := hr3.ty h.1
      rw [h.2, e4] at e3
      simp at e3
    have n6 := nw_trans n5 nV4
    replace hr1 := hr1.keep nV4 (fun _ h => h)
    replace hr3 := hr3.keep nV4 (fun _ h => h)
    replace hr4 := hr4.keep nV4 (fun _ h => h)
    have hnb1 : Hid (¬ (0 < t.cats.length ∧ D2.heap.size = g1)) := fun h => by have := hs1 h.1; omega
    have hnb3 : Hid (¬ (0 < t.links.length ∧ D2.heap.size = g3)) := fun h => by have := hs3 h.1; omega
    have hnb4 : Hid (¬ (0 < t.data.length ∧ D2.heap.size = g4)) := fun h => by have := hs4 h.1; omega
    have hA4 : Hid (V4.heap[w.heap.size]? = some (.cells (thC t uL uC uK uD).toArray 34 (0, 0))) := (n6.block _ (heap_lt hA) (fun h => h)).trans hA
    have hC4 : Hid (V4.heap[ca]? = some (.cells (thC t q1 q2 q3 q4).toArray 34 (0, 0))) := (n6.block _ (heap_lt hC) (fun h => h)).trans hC
    have hlA : Hid (w.heap.size < E1.heap.size) := heap_lt hA
    have hlC : Hid (ca < E1.heap.size) := heap_lt hC
    have ht4 : Hid (ThAt (fun b => b < E1.heap.size) V4 t uL uC uK uD) := (ht.mono (fun b _ hb => hb)).nw n6
    have hw4 : Hid (ThAt (fun b => b < E1.heap.size) V4 t q1 q2 q3 q4) := (hw.mono (fun b _ hb => hb)).nw n6
    have nW4 : Hid (Nw w V4) := nw_trans nW.out n6
    replace hg1 : Hid (E1.heap.size ≤ g1) := hg1
    replace hg3 : Hid (E1.heap.size ≤ g3) := hg3
    replace hg4 : Hid (E1.heap.size ≤ g4) := hg4
    clear hA hC ht hw nW n5 n6 nV4 hs1 hs3 hs4 hcop hED hws hwf k1 k2
    generalize E1.heap.size = base at *
    generalize D2.heap.size = cb at *
    have m1 : t.cats.length ≤ 9000000000000 := by omega
    have m3 : t.links.length ≤ 9000000000000 := by omega
    have m4 : t.data.length ≤ 200000000000000 := by omega
    clear l1 l2 l3 l4
    generalize t.cats.length = n1 at *
    generalize t.ccats.length = n2 at *
    generalize t.links.length = n3 at *
    generalize t.data.length = n4 at *
    go_upto_region 9 with fail
    have cs4 : V4.cell? ⟨cb, 9, none⟩ = some (.slice a4 n4 c4) := cell_blk hCb rfl
    go_wp2
    go_loopw [50] (fun kv wr => ∃ i : Nat, i ≤ n4 ∧ kv = .int .i64 i ∧ RB 5 1 0 .u8 wr (.slice a4 n4 c4) n4 g4 ∧ Fr (fun q => 0 < n4 ∧ q = g4) V4 wr) (fun kv _ => n4 - (intOf kv).toNat)
    case atStart => exact ⟨0, Nat.zero_le _, rfl, hr4, Fr.refl _ _⟩
    case round =>
      obtain ⟨i, hin, rfl, hrow, hfr⟩ := hrel
      have hcs : wr.cell? ⟨cb, 9, none⟩ = some (.slice a4 n4 c4) := (fr_cell hfr (heap_lt hCb) hnb4.out).trans cs4
      by_cases hlt : i < n4
      · obtain ⟨hae, hn1, hn2, x, hc, hz⟩ := hrow.get hlt
        subst hae
        replace hc : wr.cell? ⟨g4, i, none⟩ = some (.int .u8 x) := by simpa using hc
        have hz9 := hz (i)
        have hpos : Hid ((0 < n4) ∧ True) := ⟨by omega, trivial⟩
        replace hrow : Hid _ := hrow
        replace hfr : Hid _ := hfr
        clear hz
        go_wp2
        go_roundw
        case rel => exact ⟨i + 1, by omega, by go_num, RB.set (i := i) hrow.out _ (by decide) (by omega), Fr.setCell hfr.out (.inl ⟨hpos.out.1, rfl⟩) _⟩
        case measure => simp [intOf]; omega
      · have hge4 : ¬ i < n4 := hlt
        clear hlt hin hcs cs4 hrow
        have hb3 : Fr (fun q => base ≤ q) V4 wr := hfr.mono (fun q hq => by rw [hq.2]; exact hg4.out)
        replace hCb := (hfr.block _ (heap_lt hCb) hnb4.out).trans hCb
        replace hr3 := hr3.keep hfr (hx43.out)
        replace hr1 := hr1.keep hfr (hx41.out)
        clear hfr
        generalize wr = V3 at *
        go_upto_region 14 with fail
        have cs3 : V3.cell? ⟨cb, 8, none⟩ = some (.slice a3 n3 c3) := cell_blk hCb rfl
        go_wp2
        go_loopw [64] (fun kv wr => ∃ i : Nat, i ≤ n3 ∧ kv = .int .i64 i ∧ RB 50 2 0 .u64 wr (.slice a3 n3 c3) n3 g3 ∧ Fr (fun q => 0 < n3 ∧ q = g3) V3 wr) (fun kv _ => n3 - (intOf kv).toNat)
        case atStart => exact ⟨0, Nat.zero_le _, rfl, hr3, Fr.refl _ _⟩
        case round =>
          obtain ⟨i, hin, rfl, hrow, hfr⟩ := hrel
          have hcs : wr.cell? ⟨cb, 8, none⟩ = some (.slice a3 n3 c3) := (fr_cell hfr (heap_lt hCb) hnb3.out).trans cs3
          by_cases hlt : i < n3
          · obtain ⟨hae, hn1, hn2, x, hc, hz⟩ := hrow.get hlt
            subst hae
            replace hc : wr.cell? ⟨g3, i * 2, none⟩ = some (.int .u64 x) := by simpa using hc
            have hz9 := hz (i * 2)
            have hpos : Hid ((0 < n3) ∧ True) := ⟨by omega, trivial⟩
            replace hrow : Hid _ := hrow
            replace hfr : Hid _ := hfr
            clear hz
            go_wp2
            go_roundw
            case rel => exact ⟨i + 1, by omega, by go_num, RB.set (i := i) hrow.out _ (by decide) (by omega), Fr.setCell hfr.out (.inl ⟨hpos.out.1, rfl⟩) _⟩
            case measure => simp [intOf]; omega
          · have hge3 : ¬ i < n3 := hlt
            clear hlt hin hcs cs3 hrow
            have hb1 : Fr (fun q => base ≤ q) V4 wr := Fr.trans hb3 (hfr.mono (fun q hq => by rw [hq.2]; exact hg3.out)) (fun q hq => .inl hq)
            replace hCb := (hfr.block _ (heap_lt hCb) hnb3.out).trans hCb
            replace hr1 := hr1.keep hfr (hx31.out)
            clear hfr
            generalize wr = V1 at *
            go_upto_region 19 with fail
            have cs1 : V1.cell? ⟨cb, 3, none⟩ = some (.slice a1 n1 c1) := cell_blk hCb rfl
            go_wp2
            go_loopw [81] (fun kv wr => ∃ i : Nat, i ≤ n1 ∧ kv = .int .i64 i ∧ RB 52 2 1 .i64 wr (.slice a1 n1 c1) n1 g1 ∧ Fr (fun q => 0 < n1 ∧ q = g1) V1 wr) (fun kv _ => n1 - (intOf kv).toNat)
            case atStart => exact ⟨0, Nat.zero_le _, rfl, hr1, Fr.refl _ _⟩
            case round =>
              obtain ⟨i, hin, rfl, hrow, hfr⟩ := hrel
              have hcs : wr.cell? ⟨cb, 3, none⟩ = some (.slice a1 n1 c1) := (fr_cell hfr (heap_lt hCb) hnb1.out).trans cs1
              by_cases hlt : i < n1
              · obtain ⟨hae, hn1, hn2, x, hc, hz⟩ := hrow.get hlt
                subst hae
                replace hc : wr.cell? ⟨g1, i * 2 + 1, none⟩ = some (.int .i64 x) := by simpa using hc
                have hz9 := hz (i * 2 + 1)
                have hpos : Hid ((0 < n1) ∧ True) := ⟨by omega, trivial⟩
                replace hrow : Hid _ := hrow
                replace hfr : Hid _ := hfr
                clear hz
                go_wp2
                go_roundw
                case rel => exact ⟨i + 1, by omega, by go_num, RB.set (i := i) hrow.out _ (by decide) (by omega), Fr.setCell hfr.out (.inl ⟨hpos.out.1, rfl⟩) _⟩
                case measure => simp [intOf]; omega
              · have hge1 : ¬ i < n1 := hlt
                clear hlt hin hcs cs1 hrow
                have hb0 : Fr (fun q => base ≤ q) V4 wr := Fr.trans hb1 (hfr.mono (fun q hq => by rw [hq.2]; exact hg1.out)) (fun q hq => .inl hq)
                replace hCb := (hfr.block _ (heap_lt hCb) hnb1.out).trans hCb
                clear hfr
                go_upto_region 24 with fail
                have hA9 := (hb0.block _ (heap_lt hA4.out) (fun h => by have := hlA.out; omega)).trans hA4.out
                have hC9 := (hb0.block _ (heap_lt hC4.out) (fun h => by have := hlC.out; omega)).trans hC4.out
                have ht9 := ht4.out.keep hb0 (fun b hb _ h => by omega) (fun b hb _ => hb)
                have hw9 := hw4.out.keep hb0 (fun b hb _ h => by omega) (fun b hb _ => hb)
                have hcs : Hid _ := c_rtsame wr ht9 hw9
                unfold AnsP at hcs
                have hrA := range_all hA9
                have hrC := range_all hC9
                have nE : Hid (Nw w wr) := Fr.trans nW4.out hb0 (fun q hq => .inr (by have := hlA.out; omega))
                clear ht9 hw9 hA9 hC9 hb0 hCb
                go_wp2_with (first | (refine wpList_load_as rfl 34 _ rfl (w.heap.size) 0 rfl (thV t uL uC uK uD) _ rfl hrA Try.rowT Try.sizeT ?_) | (refine wpList_load_as rfl 34 _ rfl (ca) 0 rfl (thV t q1 q2 q3 q4) _ rfl hrC Try.rowT Try.sizeT ?_) | (go_at_call 14; refine Calls.mono hcs.out ?_; rintro e Vz ⟨r1, rfl, hq, n9⟩; obtain rfl := hq.2 (by trivial); refine stop_here ?_))
                unfold Hid
                have nE2 : Hid (Nw w Vz) := nw_trans nE.out n9
                clear hq n9 hcs nE
                go_wp2
                go_ret
                exact ⟨rfl, nE2.out⟩
end Go.Proofs.Ytghlilncdfiojaa
