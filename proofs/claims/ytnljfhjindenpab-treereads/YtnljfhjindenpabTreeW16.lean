/-
  Package tree: list at any tree; Nodes.
-/
import Derived.Test.YtnljfhjindenpabTreeW15
namespace Go.Proofs.Ytnljfhjindenpab
set_option linter.unusedVariables false
set_option linter.unusedSimpArgs false
set_option maxRecDepth 20000
open Go.RowKit

theorem c_list {W : World} : ∀ {n m M : Nat} {t : Tr n} {b : Nat} {a bb : Int} {A : Nat → Prop} {v : Value} {nds : List Nv} (w : World), NAt W n t b → R n m M t a bb → M ≤ 7 → (∀ k, A k → k < w.heap.size) → Lst W A w v nds → nds.length + (nodesT n t nds.length).length ≤ 1000000 →
    Calls Try.prog 44 #[.pointer (some ⟨b, 0, none⟩), v] w fun e w2 => ∃ v2, e = .returned v2 ∧ Lst W A w2 v2 (nds ++ nodesT n t nds.length) ∧ Fr (fun k => v.ownBlock = some k) w w2 ∧ ∀ k, v2.ownBlock = some k → v.ownBlock = some k ∨ w.heap.size ≤ k
  | 0, m, M, t, b, _, _, A, v, nds, w, h, hR, hM, hA, hL, hsz => by
    obtain ⟨kv, vv, sv, h1, h2, h3, h4⟩ := h
    have hl := hR.1
    exact c_listG (bs := []) (fun _ _ => []) w h1 h2 h3 h4 (by simp; omega) (by simp; omega) (by simp) hA hL (by simpa [kidsG, nodesT] using hsz) (fun j q hq => by simp at hq)
  | n + 1, m, M, t, b, _, _, A, v, nds, w, h, hR, hM, hA, hL, hsz => by
    obtain ⟨kv, vv, sv, bs, h1, h2, h3, h4, h5⟩ := h
    have hl := hR.1
    have hcl := bds_length hR.2
    have hbl := kids_length h5
    rw [nodesT] at hsz ⊢
    rw [← hbl] at hsz ⊢
    refine c_listG (fun j k => nodesT n (t.2.getD j (dflt n)) k) w h1 h2 h3 h4 (by omega) (by simp) (by omega) hA hL (by simp only [List.length_cons] at hsz; omega) ?_
    intro j q hq A' w' v' nds' hA' hL' hsz'
    have hj : j < t.2.length := by have := (List.getElem?_eq_some_iff.1 hq).1; omega
    obtain ⟨q', hq', hn⟩ := kids_get j h5 (List.getElem?_eq_getElem hj)
    rw [hq] at hq'
    simp only [Option.some.injEq] at hq'
    subst hq'
    obtain ⟨x, y, hxy⟩ := bds_mem hR.2 (List.getElem_mem hj)
    have hg : t.2.getD j (dflt n) = t.2[j] := by rw [List.getD_eq_getElem?_getD, List.getElem?_eq_getElem hj]; rfl
    simp only [hg] at hsz' ⊢
    exact c_list w' hn hxy (by decide) hA' hL' hsz'

/-- The nodes that a slice tells. -/
def Nds (w : World) (v : Value) (nds : List Nv) : Prop := ∃ xs, Hs w v xs.length (tcells xs) ∧ Cts (fun _ => True) w xs nds

theorem Nds.nw {w w' : World} {v : Value} {nds : List Nv} (h : Nds w v nds) (hw : Nw w w') : Nds w' v nds := by
  obtain ⟨xs, h1, h2⟩ := h
  exact ⟨xs, h1.nw hw, h2.stay (fun b _ hlt => ⟨trivial, hw.block b hlt id⟩)⟩

theorem Nds.form {w : World} {v : Value} {nds : List Nv} (h : Nds w v nds) : ∃ ao cap, v = .slice ao nds.length cap ∧ nds.length ≤ cap ∧ cap ≤ 9223372036854775807 := by
  obtain ⟨xs, h1, h2⟩ := h
  obtain ⟨ao, cap, e, h3, h4⟩ := h1.form
  rw [h2.length] at e h3
  exact ⟨ao, cap, e, h3, h4⟩

/-! ### How many nodes -/
theorem kidsG_sum {f : Nat → Nat} (g : Nat → Nat → List Nv) (hg : ∀ j k, (g j k).length + 1 ≤ f j) (k : Nat) : ∀ J, (kidsG g J k).2.length + J ≤ ((List.range J).map f).sum
  | 0 => by simp [kidsG]
  | J + 1 => by
    have := kidsG_sum g hg k J
    have := hg J (k + (kidsG g J k).2.length)
    rw [kidsG, List.range_succ]
    simp only [List.length_append, List.map_append, List.sum_append, List.map_cons, List.map_nil, List.sum_cons, List.sum_nil]
    omega

theorem flat_sum {n : Nat} : ∀ cs : List (Tr n), (cs.flatMap (flat n)).length = ((List.range cs.length).map (fun j => (flat n (cs.getD j (dflt n))).length)).sum
  | [] => rfl
  | c :: cs => by
    rw [List.flatMap_cons, List.length_append, flat_sum cs, List.length_cons, List.range_succ_eq_map]
    simp [List.map_map, Function.comp_def]

theorem kidsG_ext {g g' : Nat → Nat → List Nv} (k : Nat) : ∀ {J : Nat}, (∀ j, j < J → ∀ k, g j k = g' j k) → kidsG g J k = kidsG g' J k
  | 0, _ => rfl
  | J + 1, h => by
    have := kidsG_ext k (J := J) (fun j hj k => h j (by omega) k)
    rw [kidsG, kidsG, this, h J (by omega)]

theorem nodes_le : ∀ {n m M : Nat} {t : Tr n} {a b : Int} (k : Nat), R n m M t a b → 3 ≤ m → (nodesT n t k).length + 1 ≤ (flat n t).length
  | 0, m, M, t, a, b, k, h, hm => by
    have := h.1
    simp only [nodesT, flat, List.length_cons, List.length_nil]
    omega
  | n + 1, m, M, t, a, b, k, h, hm => by
    have hl := bds_length h.2
    have h1 := h.1.1
    have hk : ∀ j, j < t.2.length → ∀ k, (nodesT n (t.2.getD j (dflt n)) k).length + 1 ≤ (flat n (t.2.getD j (dflt n))).length := fun j hj k => by
      obtain ⟨x, y, hxy⟩ := bds_mem h.2 (List.getElem_mem hj)
      have hg : t.2.getD j (dflt n) = t.2[j] := by rw [List.getD_eq_getElem?_getD, List.getElem?_eq_getElem hj]; rfl
      rw [hg]
      exact nodes_le k hxy (by decide)
    have hs := kidsG_sum (f := fun j => if j < t.2.length then (flat n (t.2.getD j (dflt n))).length else 1) (fun j k => if j < t.2.length then nodesT n (t.2.getD j (dflt n)) k else []) (fun j k => by
      by_cases hj : j < t.2.length
      · simp only [hj, if_true]; exact hk j hj k
      · simp [hj]) (k + 1) t.2.length
    rw [kidsG_ext (g' := fun j k => nodesT n (t.2.getD j (dflt n)) k) (k + 1) (fun j hj k => by simp [hj])] at hs
    have he : ((List.range t.2.length).map (fun j => if j < t.2.length then (flat n (t.2.getD j (dflt n))).length else 1)) = ((List.range t.2.length).map (fun j => (flat n (t.2.getD j (dflt n))).length)) := by
      refine List.map_congr_left (fun j hj => ?_)
      simp [List.mem_range.1 hj]
    rw [he, ← flat_sum] at hs
    rw [nodesT, List.length_cons]
    show _ ≤ (t.2.flatMap (flat n)).length
    omega

theorem nodes_top {n : Nat} {t : Tr n} (k : Nat) (h : Top n t) : (nodesT n t k).length ≤ (flat n t).length + 1 := by
  cases n with
  | zero => simp [nodesT]
  | succ n =>
    have hl := bds_length h.2
    have h1 : 1 ≤ t.1.length := by have := h.1.1; omega
    have hk : ∀ j, j < t.2.length → ∀ k, (nodesT n (t.2.getD j (dflt n)) k).length + 1 ≤ (flat n (t.2.getD j (dflt n))).length := fun j hj k => by
      obtain ⟨x, y, hxy⟩ := bds_mem h.2 (List.getElem_mem hj)
      have hg : t.2.getD j (dflt n) = t.2[j] := by rw [List.getD_eq_getElem?_getD, List.getElem?_eq_getElem hj]; rfl
      rw [hg]
      exact nodes_le k hxy (by decide)
    have hs := kidsG_sum (f := fun j => if j < t.2.length then (flat n (t.2.getD j (dflt n))).length else 1) (fun j k => if j < t.2.length then nodesT n (t.2.getD j (dflt n)) k else []) (fun j k => by
      by_cases hj : j < t.2.length
      · simp only [hj, if_true]; exact hk j hj k
      · simp [hj]) (k + 1) t.2.length
    rw [kidsG_ext (g' := fun j k => nodesT n (t.2.getD j (dflt n)) k) (k + 1) (fun j hj k => by simp [hj])] at hs
    have he : ((List.range t.2.length).map (fun j => if j < t.2.length then (flat n (t.2.getD j (dflt n))).length else 1)) = ((List.range t.2.length).map (fun j => (flat n (t.2.getD j (dflt n))).length)) := by
      refine List.map_congr_left (fun j hj => ?_)
      simp [List.mem_range.1 hj]
    rw [he, ← flat_sum] at hs
    rw [nodesT, List.length_cons]
    show _ ≤ (t.2.flatMap (flat n)).length + 1
    omega

theorem c_Nodes {n : Nat} {t : Tr n} {b : Nat} (w : World) (h : TAt w b n t) (hR : Top n t) (hl : (flat n t).length ≤ 900000) :
    Calls Try.prog 20 #[.pointer (some ⟨b, 0, none⟩)] w fun e w' => ∃ v, e = .returned v ∧ Nds w' v (nodesT n t 0) ∧ Nw w w' := by
  obtain ⟨r, hb, hr⟩ := h
  have c0 : w.cell? ⟨b, 0, none⟩ = some (.pointer (some ⟨r, 0, none⟩)) := cell_blk hb rfl
  have hlist := c_list (A := fun _ => False) w hr hR (Nat.le_refl _) (fun _ h => h.elim) (Lst.nil w _ w (nw_refl w)) (by have := nodes_top 0 hR; simp only [List.length_nil]; omega)
  replace hlist : Calls Try.prog 44 #[.pointer (some ⟨r, 0, none⟩), .slice none 0 0] w fun e w' => ∃ v, e = .returned v ∧ Nds w' v (nodesT n t 0) ∧ Nw w w' := by
    refine hlist.mono ?_
    rintro e w2 ⟨v2, rfl, h1, h2, h3⟩
    obtain ⟨xs, h4, h5⟩ := h1.ex
    exact ⟨v2, rfl, ⟨xs, hs_of_owns h4, h5.stay (fun b _ _ => ⟨trivial, rfl⟩)⟩, h1.nw⟩
  clear hb hr hR hl
  go_enter Try.func20, Try.ntmps20
  go_wp2_with (go_at_call 44; refine hlist.mono ?_; rintro e w2 ⟨v2, rfl, hv, hn⟩; refine stop_here ?_)
  unfold Hid
  obtain ⟨ao, cap, rfl, _, _⟩ := hv.form
  clear hlist c0
  go_wp2
  go_ret
  exact ⟨_, rfl, hv, hn⟩
end Go.Proofs.Ytnljfhjindenpab
