/-
  Where a link stands: cmp.Compare, slices.BinarySearchFunc, place; Has.
-/
import Derived.Deep.LoopGhost
import Derived.Test.YtppfcdnhmieejaaDrPlainS
import Derived.Test.YtppfcdnhmieejaaThC2S
namespace Go.Proofs.Ytppfcdnhmieejaa
set_option linter.unusedVariables false
set_option linter.unusedSimpArgs false
set_option maxRecDepth 20000
open Go.RowKit

theorem c_place1 (c : Cat) (id : Int) (w : World) : Calls Try.prog 39 #[.agg #[.int .u64 c.1, .int .i64 c.2], .int .u64 id] w fun e w' => e = .returned (.int .i64 (cmpI c.1 id)) ∧ Nw w w' := by
  have hn : Hid (Nw w (w.alloc (.cells #[.int .u64 c.1, .int .i64 c.2] 65))) := nw_alloc (nw_refl w) _
  go_enter Try.func39, Try.ntmps39
  go_wp2_with (go_at_call 40; refine (c_cmp _ _ _).mono ?_; rintro e w' ⟨rfl, rfl⟩)
  go_ret
  exact ⟨rfl, hn.out⟩

theorem cmpI_eq (a b : Int) : (cmpI a b == 0) = (a == b) := by
  unfold cmpI
  split
  · rename_i h
    have : ¬ a = b := by omega
    simp [this]
  · split
    · have : ¬ a = b := by omega
      simp [this]
    · have : a = b := by omega
      simp [this]

set_option maxHeartbeats 3200000 in
theorem c_search {X : Nat → Prop} {v : Value} {ls : List Cat} (id : Int) (w : World) (h : CSl X w v ls) (hl : LkOk ls) (hn : ls.length ≤ 1000) :
    Calls Try.prog 38 #[v, .int .u64 id, .func (.func 39) #[] #[]] w fun e w' => e = .returned (.tuple #[.int .i64 (posL ls id), .bool (hasB ls id)]) ∧ Nw w w' := by
  obtain ⟨ao, cap, rfl, hcl, hcm⟩ := h.form
  have hM : Hid (∀ i j (_ : i ≤ j) (hj : j < ls.length), ls[j].1 < id → ls[i].1 < id) := fun i j hij hj hlt => by
    rcases Nat.eq_or_lt_of_le hij with e | e
    · simpa [e] using hlt
    · have := lk_lt hl i j e hj; omega
  have hP : Hid (∀ i, i ≤ ls.length → (∀ t (h : t < ls.length), t < i → ls[t].1 < id) → (∀ (h : i < ls.length), ¬ ls[i].1 < id) → posL ls id = i) := pos_of ls id
  rw [← found_has hl id]
  clear hl
  obtain ⟨N, hN⟩ : ∃ N, Hid (ls.length = N) := ⟨_, rfl⟩
  have hlen := hN.out
  rw [hlen]
  have hn2 : N ≤ 1000 := by omega
  clear hlen hn
  go_enter Try.func38, Try.ntmps38
  go_wp2
  go_loopg [9, 10] N (fun kx s9 s10 wr => ∃ lo hi : Nat, s9 = .int .i64 lo ∧ s10 = .int .i64 hi ∧ lo ≤ hi ∧ hi ≤ N ∧ hi - lo ≤ kx ∧ Hid (Nw w wr) ∧
    Hid ((∀ t (h : t < ls.length), t < lo → ls[t].1 < id) ∧ (∀ t (h : t < ls.length), hi ≤ t → ¬ ls[t].1 < id)))
  case atStart => exact ⟨0, N, rfl, rfl, Nat.zero_le _, Nat.le_refl _, by omega, nw_refl w, (⟨fun t h ht => absurd ht (Nat.not_lt_zero _), fun t h h1 => by have := hN.out; omega⟩ : (∀ t (h : t < ls.length), t < 0 → ls[t].1 < id) ∧ (∀ t (h : t < ls.length), N ≤ t → ¬ ls[t].1 < id))⟩
  case round =>
    obtain ⟨lo, hi, rfl, rfl, hlh, hin, hg, hnw, I⟩ := hrel
    by_cases hlt : lo < hi
    · have hmid : (lo + hi) / 2 < ls.length := by have := hN.out; omega
      obtain ⟨q, off, rfl, _, d1, d2⟩ := (h.nw hnw.out).get ((lo + hi) / 2) hmid
      have Y : Hid (∃ hh : (lo + hi) / 2 < ls.length, ls[(lo + hi) / 2]'hh = ls[(lo + hi) / 2]) := ⟨hmid, rfl⟩
      have hI : Hid ((ls[(lo + hi) / 2].1 < id → ∀ t (h : t < ls.length), t < (lo + hi) / 2 + 1 → ls[t].1 < id) ∧ (¬ ls[(lo + hi) / 2].1 < id → ∀ t (h : t < ls.length), (lo + hi) / 2 ≤ t → ¬ ls[t].1 < id)) :=
        ⟨fun h1 t h2 h3 => hM.out t ((lo + hi) / 2) (by omega) hmid h1, fun h1 t h2 h3 h4 => h1 (hM.out ((lo + hi) / 2) t h3 h2 h4)⟩
      generalize ls[(lo + hi) / 2] = y at *
      have hc := fun w => c_place1 y id w
      have hc0 := cmpI_lt y.1 id
      clear Y hmid
      by_cases hyx : y.1 < id
      · rw [decide_eq_true hyx] at hc0
        have I2 : Hid ((∀ t (h : t < ls.length), t < (lo + hi) / 2 + 1 → ls[t].1 < id) ∧ (∀ t (h : t < ls.length), hi ≤ t → ¬ ls[t].1 < id)) := ⟨hI.out.1 hyx, I.out.2⟩
        clear hyx hI I
        go_wp2_with (go_at_call 39; refine (hc _).mono ?_; rintro e w' ⟨rfl, n1⟩)
        go_roundg (hi - ((lo + hi) / 2 + 1))
        case measure => omega
        case rel =>
          exact ⟨(lo + hi) / 2 + 1, hi, by rw [show ((lo : Int) + (hi : Int)) / 2 + 1 = (((lo + hi) / 2 + 1 : Nat) : Int) by omega], rfl, by omega, hin, Nat.le_refl _, nw_trans hnw.out n1, I2⟩
      · rw [decide_eq_false hyx] at hc0
        have I2 : Hid ((∀ t (h : t < ls.length), t < lo → ls[t].1 < id) ∧ (∀ t (h : t < ls.length), (lo + hi) / 2 ≤ t → ¬ ls[t].1 < id)) := ⟨I.out.1, hI.out.2 hyx⟩
        clear hyx hI I
        go_wp2_with (go_at_call 39; refine (hc _).mono ?_; rintro e w' ⟨rfl, n1⟩)
        go_roundg ((lo + hi) / 2 - lo)
        case measure => omega
        case rel =>
          exact ⟨lo, (lo + hi) / 2, rfl, by rw [show ((lo : Int) + (hi : Int)) / 2 = (((lo + hi) / 2 : Nat) : Int) by omega], by omega, by omega, Nat.le_refl _, nw_trans hnw.out n1, I2⟩
    · obtain rfl : hi = lo := by omega
      have hpos : Hid (posL ls id = hi) := hP.out hi (by have := hN.out; omega) I.out.1 (fun h => by have := I.out.2 hi h (Nat.le_refl _); omega)
      have hF : foundB ls id = if h : hi < ls.length then ls[hi].1 == id else false := by unfold foundB; simp only [hpos.out]
      clear I hM hP
      by_cases hnn : hi < N
      · have hmid : hi < ls.length := by have := hN.out; omega
        obtain ⟨q, off, rfl, _, d1, d2⟩ := (h.nw hnw.out).get hi hmid
        rw [dif_pos hmid] at hF
        generalize ls[hi] = y at *
        have hc := fun w => c_place1 y id w
        have hc0 := cmpI_eq y.1 id
        rw [← hF] at hc0
        clear hF hmid
        have hfin : Hid (∀ w', Nw wr w' → Ending.returned (.tuple #[.int .i64 hi, .bool (foundB ls id)]) = .returned (.tuple #[.int .i64 (posL ls id), .bool (foundB ls id)]) ∧ Nw w w') := fun w' n1 => ⟨by rw [hpos.out], nw_trans hnw.out n1⟩
        generalize hfb : foundB ls id = fb at *
        replace hfb : Hid _ := hfb
        go_wp2_with (go_at_call 39; refine (hc _).mono ?_; rintro e w' ⟨rfl, n1⟩)
        go_ret2
        exact ⟨by rw [hfb.out]; exact (hfin.out _ n1).1, (hfin.out _ n1).2⟩
      · have hmid : ¬ hi < ls.length := by have := hN.out; omega
        rw [dif_neg hmid] at hF
        have hfin : Hid (Ending.returned (.tuple #[.int .i64 hi, .bool false]) = .returned (.tuple #[.int .i64 (posL ls id), .bool (foundB ls id)]) ∧ Nw w wr) := ⟨by rw [hpos.out, hF], hnw.out⟩
        clear hF hmid
        go_wp2
        go_ret2
        exact hfin.out

set_option maxHeartbeats 1600000 in
theorem c_place {X : Nat → Prop} {t : Th} {uL uC uK uD : Value} (id : Int) (w : World) (h : ThAt X w t uL uC uK uD) (hl : LkOk t.links) (hn : t.links.length ≤ 1000) :
    Calls Try.prog 27 #[thV t uL uC uK uD, .int .u64 id] w fun e w' => e = .returned (.tuple #[.int .i64 (posL t.links id), .bool (hasB t.links id)]) ∧ Nw w w' := by
  obtain ⟨ka, kc, rfl, hk1, hk2⟩ := h.k.form
  obtain ⟨W, hW⟩ : ∃ W, Hid (W = w.alloc (.cells (thC t uL uC (.slice ka t.links.length kc) uD).toArray 34)) := ⟨_, rfl⟩
  have nW : Nw w W := by rw [hW.out]; exact nw_alloc (nw_refl w) _
  have hA : W.heap[w.heap.size]? = some (.cells (thC t uL uC (.slice ka t.links.length kc) uD).toArray 34 (0, 0)) := by rw [hW.out]; exact heap_alloc_new w _
  have hs : Hid _ := fun w' (n : Nw W w') => c_search id w' ((h.k.nw nW).nw n) hl hn
  have a8 : W.cell? ⟨w.heap.size, 8, none⟩ = some (.slice ka t.links.length kc) := cell_blk hA rfl
  go_enter Try.func27, Try.ntmps27
  go_upto_region 1 with (refine wpList_box_agg rfl 34 _ rfl (thV t uL uC (.slice ka t.links.length kc) uD) _ rfl rfl ?_)
  rw [← hW.out]
  clear hW
  go_wp2_with (go_at_call 38; refine (hs.out _ (nw_refl _)).mono ?_; rintro e w' ⟨rfl, n1⟩)
  go_ret2
  exact ⟨rfl, nw_trans nW n1⟩

set_option maxHeartbeats 1600000 in
theorem c_has {X : Nat → Prop} {t : Th} {uL uC uK uD : Value} (id : Int) (w : World) (h : ThAt X w t uL uC uK uD) (hl : LkOk t.links) (hn : t.links.length ≤ 1000) :
    Calls Try.prog 15 #[thV t uL uC uK uD, .int .u64 id] w fun e w' => e = .returned (.bool (hasB t.links id)) ∧ Nw w w' := by
  obtain ⟨W, hW⟩ : ∃ W, Hid (W = w.alloc (.cells (thC t uL uC uK uD).toArray 34)) := ⟨_, rfl⟩
  have nW : Nw w W := by rw [hW.out]; exact nw_alloc (nw_refl w) _
  have hA : W.heap[w.heap.size]? = some (.cells (thC t uL uC uK uD).toArray 34 (0, 0)) := by rw [hW.out]; exact heap_alloc_new w _
  have hr0 : W.rangeAt w.heap.size 0 (thC t uL uC uK uD) := range_all hA
  have hs : Hid _ := c_place id W (h.nw nW) hl hn
  generalize hasB t.links id = hb at *
  go_enter Try.func15, Try.ntmps15
  go_upto_region 1 with (refine wpList_box_agg rfl 34 _ rfl (thV t uL uC uK uD) _ rfl rfl ?_)
  rw [← hW.out]
  clear hW
  go_wp2_with (first
    | (refine wpList_load_as rfl 34 _ rfl w.heap.size 0 rfl (thV t uL uC uK uD) _ rfl hr0 Try.rowT Try.sizeT ?_)
    | (go_at_call 27; refine Calls.mono hs.out ?_; rintro e w' ⟨rfl, n1⟩))
  go_ret
  exact ⟨rfl, nw_trans nW n1⟩
end Go.Proofs.Ytppfcdnhmieejaa
