/-
  Package tree: a list of nodes as it grows; Clone.
-/
import Derived.Test.YtnljfhjindenpabTreeW13
import Derived.Lib.SliceRun
namespace Go.Proofs.Ytnljfhjindenpab
set_option linter.unusedVariables false
set_option linter.unusedSimpArgs false
set_option maxRecDepth 20000
open Go.RowKit

/-- A node that is told: its keys, extents, kids. -/
abbrev Nv := List Int × List Ext × List Int
abbrev Tv := Value × Value × Value
def icell (i : Int) : Value := .int .i64 i
def tcell (x : Tv) : List Value := [x.1, x.2.1, x.2.2]
def tcells (xs : List Tv) : List Value := xs.flatMap tcell
def nodeV (x : Tv) : Value := .agg #[x.1, x.2.1, x.2.2]

theorem tcells_append (a b : List Tv) : tcells (a ++ b) = tcells a ++ tcells b := by simp [tcells]
theorem tcells_one (x : Tv) : tcells [x] = tcell x := by simp [tcells]
theorem tcells_length (xs : List Tv) : (tcells xs).length = xs.length * 3 := by
  induction xs with
  | nil => rfl
  | cons e es ih => rw [tcells, List.flatMap_cons, List.length_append, ← tcells, ih]; simp [tcell]; omega

theorem tcells_get (xs : List Tv) (i : Nat) (h : i < xs.length) : (tcells xs)[i * 3]? = some xs[i].1 ∧ (tcells xs)[i * 3 + 1]? = some xs[i].2.1 ∧ (tcells xs)[i * 3 + 2]? = some xs[i].2.2 := by
  have e : xs = xs.take i ++ xs[i] :: xs.drop (i + 1) := by simp
  have e2 : tcells xs = tcells (xs.take i) ++ (tcell xs[i] ++ tcells (xs.drop (i + 1))) := by
    conv => lhs; rw [e]
    rw [tcells_append, show xs[i] :: xs.drop (i + 1) = [xs[i]] ++ xs.drop (i + 1) from rfl, tcells_append, tcells_one]
  have hl : (tcells (xs.take i)).length = i * 3 := by rw [tcells_length, List.length_take, Nat.min_eq_left (by omega)]
  rw [e2]
  refine ⟨?_, ?_, ?_⟩
  · rw [List.getElem?_append_right (by omega), hl]; simp [tcell]
  · rw [List.getElem?_append_right (by omega), hl]; simp [tcell]
  · rw [List.getElem?_append_right (by omega), hl]; simp [tcell]

theorem tcells_set (xs : List Tv) (i : Nat) (h : i < xs.length) (u : Value) : (tcells xs).set (i * 3 + 2) u = tcells (xs.set i (xs[i].1, xs[i].2.1, u)) := by
  induction xs generalizing i with
  | nil => simp at h
  | cons x xs ih =>
    have h1 : tcells (x :: xs) = tcell x ++ tcells xs := by simp [tcells]
    cases i with
    | zero =>
      rw [h1]
      simp [tcell, tcells]
    | succ i =>
      have hi' : i < xs.length := by simpa using h
      have h2 : tcells ((x :: xs).set (i + 1) ((x :: xs)[i + 1].1, (x :: xs)[i + 1].2.1, u)) = tcell x ++ tcells (xs.set i (xs[i].1, xs[i].2.1, u)) := by simp [tcells]
      rw [h1, h2, ← ih i hi', List.set_append_right _ _ (by simp [tcell]; omega)]
      congr 2
      simp [tcell]
      omega

theorem Try.infoN : (Try.prog.info? 92).map (fun i => (i.zero, i.size, i.bytes)) = some (some (.agg #[.slice none 0 0, .slice none 0 0, .slice none 0 0]), 3, 72) := by kernel_rfl
theorem Try.infoI : (Try.prog.info? 3).map (fun i => (i.zero, i.size, i.bytes)) = some (some (.int .i64 0), 1, 8) := by kernel_rfl

theorem icell_oneCell (is : List Int) : ∀ u ∈ is.map icell, u.oneCell' = true := by
  intro u hu
  obtain ⟨k, _, rfl⟩ := List.mem_map.1 hu
  rfl

/-- What a node's lists hold, in blocks of a class. -/
def Ct (X : Nat → Prop) (w : World) (x : Tv) (nd : Nv) : Prop :=
  Slp X w x.1 nd.1.length (nd.1.map kcell) ∧ Slp X w x.2.1 nd.2.1.length (ecells nd.2.1) ∧ Slp X w x.2.2 nd.2.2.length (nd.2.2.map icell)

theorem Slp.stay {X X' : Nat → Prop} {w w' : World} {v : Value} {n : Nat} {cs : List Value} (h : Slp X w v n cs) (hX : ∀ b, X b → b < w.heap.size → X' b ∧ w'.heap[b]? = w.heap[b]?) : Slp X' w' v n cs := by
  obtain ⟨ao, cap, hv, hc, hn, hcs⟩ := h
  refine ⟨ao, cap, hv, hc, hn, fun i c hi => ?_⟩
  obtain ⟨b, off, h1, h2, h3⟩ := hcs i c hi
  obtain ⟨h4, h5⟩ := hX b h2 (World.block_lt_of_cell? w _ h3)
  exact ⟨b, off, h1, h4, by rw [World.cell?_of_block (w := w) h5]; exact h3⟩

theorem Slp.hs {X : Nat → Prop} {w : World} {v : Value} {n : Nat} {cs : List Value} (h : Slp X w v n cs) : Hs w v n cs := by
  obtain ⟨ao, cap, hv, hc, hn, hcs⟩ := h
  refine ⟨ao, cap, hv, hc, hn, fun i c hi => ?_⟩
  obtain ⟨b, off, h1, h2, h3⟩ := hcs i c hi
  exact ⟨b, off, h1, World.block_lt_of_cell? w _ h3, h3⟩

theorem slp_nil (X : Nat → Prop) (w : World) : Slp X w (.slice none 0 0) 0 [] := ⟨none, 0, rfl, ⟨Nat.le_refl _, Nat.zero_le _⟩, fun _ => rfl, fun i c h => by simp at h⟩

theorem Ct.stay {X X' : Nat → Prop} {w w' : World} {x : Tv} {nd : Nv} (h : Ct X w x nd) (hX : ∀ b, X b → b < w.heap.size → X' b ∧ w'.heap[b]? = w.heap[b]?) : Ct X' w' x nd := ⟨h.1.stay hX, h.2.1.stay hX, h.2.2.stay hX⟩

def Cts (X : Nat → Prop) (w : World) : List Tv → List Nv → Prop
  | [], [] => True
  | x :: xs, nd :: nds => Ct X w x nd ∧ Cts X w xs nds
  | _, _ => False

theorem Cts.length {X : Nat → Prop} {w : World} : ∀ {xs : List Tv} {nds : List Nv}, Cts X w xs nds → xs.length = nds.length
  | [], [], _ => rfl
  | x :: xs, nd :: nds, h => by simp [Cts.length h.2]
  | [], _ :: _, h => h.elim
  | _ :: _, [], h => h.elim

theorem Cts.stay {X X' : Nat → Prop} {w w' : World} (hX : ∀ b, X b → b < w.heap.size → X' b ∧ w'.heap[b]? = w.heap[b]?) : ∀ {xs : List Tv} {nds : List Nv}, Cts X w xs nds → Cts X' w' xs nds
  | [], [], _ => trivial
  | x :: xs, nd :: nds, h => ⟨h.1.stay hX, Cts.stay hX h.2⟩

theorem Cts.snoc {X : Nat → Prop} {w : World} {x : Tv} {nd : Nv} (hx : Ct X w x nd) : ∀ {xs : List Tv} {nds : List Nv}, Cts X w xs nds → Cts X w (xs ++ [x]) (nds ++ [nd])
  | [], [], _ => ⟨hx, trivial⟩
  | y :: xs, d :: nds, h => ⟨h.1, Cts.snoc hx h.2⟩

theorem Cts.get {X : Nat → Prop} {w : World} : ∀ {xs : List Tv} {nds : List Nv} (i : Nat), Cts X w xs nds → ∀ (h : i < xs.length) (h' : i < nds.length), Ct X w xs[i] nds[i]
  | x :: xs, nd :: nds, 0, h, _, _ => h.1
  | x :: xs, nd :: nds, i + 1, h, h1, h2 => Cts.get i h.2 (by simpa using h1) (by simpa using h2)
  | [], _, _, _, h1, _ => by simp at h1

theorem Cts.set {X : Nat → Prop} {w : World} {x : Tv} {nd : Nv} (hx : Ct X w x nd) : ∀ {xs : List Tv} {nds : List Nv} (i : Nat), Cts X w xs nds → Cts X w (xs.set i x) (nds.set i nd)
  | [], [], _, _ => trivial
  | y :: xs, d :: nds, 0, h => ⟨hx, h.2⟩
  | y :: xs, d :: nds, i + 1, h => ⟨h.1, Cts.set hx i h.2⟩

/-- A list of nodes that grows: a row of one's own; the blocks of A are none of it. -/
structure Lst (W : World) (A : Nat → Prop) (w : World) (v : Value) (nds : List Nv) : Prop where
  nw : Nw W w
  av : ∀ k, v.ownBlock = some k → ¬ A k
  ex : ∃ xs, w.ownsRow W.heap.size 92 3 v xs.length (tcells xs) ∧ Cts (fun b => v.ownBlock ≠ some b ∧ ¬ A b) w xs nds

theorem Lst.nil (W : World) (A : Nat → Prop) (w : World) (h : Nw W w) : Lst W A w (.slice none 0 0) [] := ⟨h, fun k hk => by simp [Value.ownBlock] at hk, [], World.ownsRow_nil _ _ _ _, trivial⟩

/-- Other memory turns. -/
theorem Lst.fr {W w w' : World} {A B : Nat → Prop} {v : Value} {nds : List Nv} (h : Lst W A w v nds) {T : Nat → Prop} (hf : Fr T w w') (hT : ∀ k, T k → W.heap.size ≤ k ∧ A k) (hB : ∀ k, B k → A k ∨ w.heap.size ≤ k) : Lst W B w' v nds := by
  obtain ⟨xs, h1, h2⟩ := h.ex
  refine ⟨Fr.trans h.nw hf (fun i hi => .inr (hT i hi).1), fun k hk hB' => ?_, xs, ?_, ?_⟩
  · rcases hB k hB' with h3 | h3
    · exact h.av k hk h3
    · have := (h1.lt k hk).2; omega
  · exact owns_of_block h1 (fun k hk => hf.block k (h1.lt k hk).2 (fun ht => h.av k hk (hT k ht).2))
  · refine h2.stay (fun b hb hlt => ⟨⟨hb.1, fun hB' => ?_⟩, hf.block b hlt (fun ht => hb.2 (hT b ht).2)⟩)
    rcases hB b hB' with h3 | h3
    · exact hb.2 h3
    · omega

theorem Lst.nw' {W w w' : World} {A : Nat → Prop} {v : Value} {nds : List Nv} (h : Lst W A w v nds) (hf : Nw w w') : Lst W A w' v nds := h.fr hf (fun _ h => h.elim) (fun _ h => .inl h)

/-- One more node. -/
theorem Lst.add {W w w1 w' : World} {A : Nat → Prop} {v v' : Value} {nds : List Nv} {xs : List Tv} {x : Tv} {nd : Nv} (hA : ∀ k, A k → k < w.heap.size) (hn : Nw W w) (hav : ∀ k, v.ownBlock = some k → ¬ A k) (hr : w.ownsRow W.heap.size 92 3 v xs.length (tcells xs)) (hc : Cts (fun b => v.ownBlock ≠ some b ∧ ¬ A b) w xs nds)
    (hx : Ct (fun b => v.ownBlock ≠ some b ∧ ¬ A b) w x nd) (hw : Nw w w1) (hg : w1.grownBy w' v.ownBlock) (hv' : v'.ownBlock = v.ownBlock ∨ v'.ownBlock = some w1.heap.size) (hr' : w'.ownsRow W.heap.size 92 3 v' (xs.length + 1) (tcells xs ++ tcell x)) :
    Lst W A w' v' (nds ++ [nd]) ∧ Fr (fun k => v.ownBlock = some k) w w' ∧ ∀ k, v'.ownBlock = some k → v.ownBlock = some k ∨ w.heap.size ≤ k := by
  have hf : Fr (fun k => v.ownBlock = some k) w w' := by
    have h1 : Fr (fun k => v.ownBlock = some k) w w1 := Fr.mono hw (fun _ h => h.elim)
    exact h1.grown hg (fun k hk => .inl hk)
  have hsz := hw.size
  refine ⟨⟨Fr.trans hn hf (fun i hi => .inr (hr.lt i hi).1), fun k hk hAk => ?_, xs ++ [x], ?_, ?_⟩, hf, fun k hk => ?_⟩
  · rcases hv' with h1 | h1
    · exact hav k (h1 ▸ hk) hAk
    · rw [h1] at hk
      have := hA k hAk
      simp at hk
      omega
  · rw [List.length_append, tcells_append, tcells_one]
    exact hr'
  · have hst : ∀ b, (v.ownBlock ≠ some b ∧ ¬ A b) → b < w.heap.size → (v'.ownBlock ≠ some b ∧ ¬ A b) ∧ w'.heap[b]? = w.heap[b]? := fun b hb hlt => by
      refine ⟨⟨?_, hb.2⟩, hf.block b hlt hb.1⟩
      rcases hv' with h1 | h1
      · rw [h1]; exact hb.1
      · rw [h1]; intro h2; simp at h2; omega
    exact Cts.snoc (hx.stay hst) (hc.stay hst)
  · rcases hv' with h1 | h1
    · exact .inl (h1 ▸ hk)
    · right
      rw [h1] at hk
      simp at hk
      omega

/-- The kids of one node, written. -/
theorem Lst.kids {W w : World} {A : Nat → Prop} {v u : Value} {nds : List Nv} {i : Nat} {nd : Nv} {is : List Int} (h : Lst W A w v nds) (hi : nds[i]? = some nd) (hu : Slp (fun b => v.ownBlock ≠ some b ∧ ¬ A b) w u is.length (is.map icell)) :
    ∃ g cap old, v = .slice (some ⟨g, 0, none⟩) nds.length cap ∧ nds.length ≤ cap ∧ cap ≤ 9223372036854775807 ∧ i < nds.length ∧ w.cell? ⟨g, i * 3 + 2, none⟩ = some old ∧ w.frozen? ⟨g, i * 3 + 2, none⟩ = false ∧ (∃ ao n c, old = .slice ao n c) ∧
      Lst W A (w.setCell ⟨g, i * 3 + 2, none⟩ u) v (nds.set i (nd.1, nd.2.1, is)) ∧ Fr (fun k => v.ownBlock = some k) w (w.setCell ⟨g, i * 3 + 2, none⟩ u) := by
  obtain ⟨xs, h1, h2⟩ := h.ex
  obtain ⟨hin, hnd⟩ := List.getElem?_eq_some_iff.1 hi
  have hlen := h2.length
  have hix : i < xs.length := by omega
  rcases h1.2 with ⟨_, h0⟩ | ⟨g, cap, cur, hv, hb, hg, hnc, hcm, hcs, ht⟩
  · omega
  · subst hv
    have hct := h2.get i hix hin
    rw [hnd] at hct
    have e1 := tcells_get xs i hix
    have hst := (h1.stored (i * 3 + 2) u).1
    rw [tcells_set xs i hix] at hst
    have hf : Fr (fun k => Value.ownBlock (.slice (some ⟨g, 0, none⟩) xs.length cap) = some k) w (w.setCell ⟨g, i * 3 + 2, none⟩ u) := (Fr.refl (fun k => Value.ownBlock (.slice (some ⟨g, 0, none⟩) xs.length cap) = some k) w).setCell (p := ⟨g, i * 3 + 2, none⟩) (.inl rfl) _
    obtain ⟨ao, c, hold, _⟩ := hct.2.2
    refine ⟨g, cap, xs[i].2.2, by rw [hlen], by omega, hcm, hin, ?_, h1.frozenAt _, ⟨_, _, _, hold⟩, ⟨Fr.trans h.nw hf (fun k hk => .inr ?_), h.av, xs.set i (xs[i].1, xs[i].2.1, u), ?_, ?_⟩, ?_⟩
    · rw [h1.cellAt _ (by omega)]; exact e1.2.2
    · exact (h1.lt k hk).1
    · rw [List.length_set]; exact hst
    · refine Cts.set ?_ i (h2.stay (fun b hb' hlt => ⟨hb', hf.block b hlt hb'.1⟩))
      have hc2 : Ct _ w (xs[i].1, xs[i].2.1, u) (nd.1, nd.2.1, is) := ⟨hct.1, hct.2.1, hu⟩
      exact hc2.stay (fun b hb' hlt => ⟨hb', hf.block b hlt hb'.1⟩)
    · exact hf

/-! ### Clone -/
set_option maxHeartbeats 1600000 in
theorem c_cloneK {v : Value} {ks : List Int} (w : World) (h : Ks w v ks) (hl : ks.length ≤ 1000000) :
    Calls Try.prog 71 #[v] w fun e w' => ∃ u, e = .returned u ∧ w'.ownsRow w.heap.size 27 1 u ks.length (ks.map kcell) ∧ Nw w w' := by
  obtain ⟨i0, hj, hj0, hj1, hj2⟩ := info_parts3 Try.infoK
  have hsl : Sl w.heap.size w v ks.length (ks.map kcell) := h
  obtain ⟨ao, cap, rfl, ⟨hc, hm⟩, hn, hcs⟩ := h
  have hq : ∀ (w : World) (a : Option Addr) (n c n' c' : Nat), (binOp .eql 88 (.slice a n c) (.slice none n' c')).run Try.prog w = .ok (.bool a.isNone) w := fun w a n c n' c' => Lib.run_eql_slice_nil w _ _ a n c n' c' Try.underlying88
  cases ao with
  | none =>
    have h0 := hn rfl
    subst h0
    have hk0 : ks = [] := List.eq_nil_of_length_eq_zero (by omega)
    subst hk0
    go_enter Try.func71, Try.ntmps71
    go_wp2
    go_ret
    exact ⟨_, rfl, World.ownsRow_nil _ _ _ _, nw_refl w⟩
  | some ad =>
    have hrA : (w.alloc (.cells #[] 27)).ownsRow w.heap.size 27 1 (.slice (some ⟨w.heap.size, 0, none⟩) 0 0) 0 [] := ⟨rfl, .inr ⟨w.heap.size, 0, #[], rfl, Nat.le_refl _, heap_alloc_new w _, Nat.le_refl _, Nat.zero_le _, rfl, rfl⟩⟩
    have hslA : Sl w.heap.size (w.alloc (.cells #[] 27)) (.slice (some ad) ks.length cap) ks.length (ks.map kcell) := hsl.keep ((Below.refl _ w).alloc (Nat.le_refl _) _)
    have hkl : (ks.map kcell).length = ks.length * 1 := by simp
    have hone := kcell_oneCell ks
    clear hsl hcs hn
    generalize ks.map kcell = cs at *
    generalize ks.length = n at *
    go_enter Try.func71, Try.ntmps71
    go_upto_region 3 with fail
    go_wp2_with (first | (refine wpList_buildSlice0 rfl 88 27 rfl Try.underlying88 (by kernel_rfl) ?_) | (at_builtin; refine wpList_append_sl _ rfl _ _ 88 rfl w.heap.size 27 i0 _ 1 8 Try.underlying88 hj hj0 hj1 hj2 rfl (by decide) _ _ _ rfl hrA _ _ _ _ rfl hslA hkl hone ?d2 ?d3 ?d4 ?_))
    case d2 => unfold maxLen; omega
    case d3 => omega
    case d4 => simp
    intro v9 w9 hown9 hgrow9 hat9
    have hf : Nw w w9 := Fr.grown (nw_alloc (nw_refl w) _) hgrow9 (fun q hq => .inr (hrA.lt q hq).1)
    obtain ⟨ao9, cap9, rfl⟩ := owns_form hown9
    clear hgrow9 hat9 hrA hslA
    go_wp2
    go_ret
    exact ⟨_, rfl, hown9, hf⟩
set_option maxHeartbeats 1600000 in
theorem c_cloneE {v : Value} {ks : List Ext} (w : World) (h : Vs w v ks) (hl : ks.length ≤ 1000000) :
    Calls Try.prog 72 #[v] w fun e w' => ∃ u, e = .returned u ∧ w'.ownsRow w.heap.size 58 2 u ks.length (ecells ks) ∧ Nw w w' := by
  obtain ⟨i0, hj, hj0, hj1, hj2⟩ := info_parts3 Try.infoE
  have hsl : Sl w.heap.size w v ks.length (ecells ks) := h
  obtain ⟨ao, cap, rfl, ⟨hc, hm⟩, hn, hcs⟩ := h
  have hq : ∀ (w : World) (a : Option Addr) (n c n' c' : Nat), (binOp .eql 89 (.slice a n c) (.slice none n' c')).run Try.prog w = .ok (.bool a.isNone) w := fun w a n c n' c' => Lib.run_eql_slice_nil w _ _ a n c n' c' Try.underlying89
  cases ao with
  | none =>
    have h0 := hn rfl
    subst h0
    have hk0 : ks = [] := List.eq_nil_of_length_eq_zero (by omega)
    subst hk0
    go_enter Try.func72, Try.ntmps72
    go_wp2
    go_ret
    exact ⟨_, rfl, World.ownsRow_nil _ _ _ _, nw_refl w⟩
  | some ad =>
    have hrA : (w.alloc (.cells #[] 58)).ownsRow w.heap.size 58 2 (.slice (some ⟨w.heap.size, 0, none⟩) 0 0) 0 [] := ⟨rfl, .inr ⟨w.heap.size, 0, #[], rfl, Nat.le_refl _, heap_alloc_new w _, Nat.le_refl _, Nat.zero_le _, rfl, rfl⟩⟩
    have hslA : Sl w.heap.size (w.alloc (.cells #[] 58)) (.slice (some ad) ks.length cap) ks.length (ecells ks) := hsl.keep ((Below.refl _ w).alloc (Nat.le_refl _) _)
    have hkl : (ecells ks).length = ks.length * 2 := ecells_length ks
    have hone := ecells_oneCell ks
    clear hsl hcs hn
    generalize ecells ks = cs at *
    generalize ks.length = n at *
    go_enter Try.func72, Try.ntmps72
    go_upto_region 3 with fail
    go_wp2_with (first | (refine wpList_buildSlice0 rfl 89 58 rfl Try.underlying89 (by kernel_rfl) ?_) | (at_builtin; refine wpList_append_sl _ rfl _ _ 89 rfl w.heap.size 58 i0 _ 2 16 Try.underlying89 hj hj0 hj1 hj2 rfl (by decide) _ _ _ rfl hrA _ _ _ _ rfl hslA hkl hone ?d2 ?d3 ?d4 ?_))
    case d2 => unfold maxLen; omega
    case d3 => omega
    case d4 => simp
    intro v9 w9 hown9 hgrow9 hat9
    have hf : Nw w w9 := Fr.grown (nw_alloc (nw_refl w) _) hgrow9 (fun q hq => .inr (hrA.lt q hq).1)
    obtain ⟨ao9, cap9, rfl⟩ := owns_form hown9
    clear hgrow9 hat9 hrA hslA
    go_wp2
    go_ret
    exact ⟨_, rfl, hown9, hf⟩
end Go.Proofs.Ytnljfhjindenpab
