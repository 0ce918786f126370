/-
  slices.Insert of one link: where there is too little room, and at the end; as a whole.
-/
import Derived.Test.YtppfcdnhmieejaaDrIS
namespace Go.Proofs.Ytppfcdnhmieejaa
set_option linter.unusedVariables false
set_option linter.unusedSimpArgs false
set_option maxRecDepth 20000
open Go.RowKit

/-- The cells of a list with one more, where they have been written one behind another. -/
theorem ins_cells {W : World} {g i : Nat} {xs : List Cat} {c : Cat} (hi : i ≤ xs.length) (h0 : ∀ j v, j < i * 2 → (ccells xs)[j]? = some v → W.cell? ⟨g, j, none⟩ = some v) (h1 : ∀ t v, (ccell c)[t]? = some v → W.cell? ⟨g, i * 2 + t, none⟩ = some v)
    (h2 : ∀ t v, (ccells (xs.drop i))[t]? = some v → W.cell? ⟨g, (i + 1) * 2 + t, none⟩ = some v) : ∀ j v, (ccells (xs.take i ++ c :: xs.drop i))[j]? = some v → W.cell? ⟨g, j, none⟩ = some v := fun j v h => by
  rcases cells_ins hi j v h with ⟨a, b⟩ | ⟨t, a, b⟩ | ⟨t, a, b⟩
  · exact h0 j v a b
  · rw [a]; exact h1 t v b
  · rw [a]; exact h2 t v b

theorem setCells_get {W : World} {g o : Nat} {vs : List Value} (h : ∀ j, j < vs.length → (W.cell? ⟨g, o + j, none⟩).isSome = true) (t : Nat) (v : Value) (hv : vs[t]? = some v) : (W.setCells g o vs).cell? ⟨g, o + t, none⟩ = some v := by
  rw [World.cell?_setCells_in g vs o W h t (List.getElem?_eq_some_iff.1 hv).1]
  exact (List.getElem?_eq_getElem _).symm.trans hv

set_option maxHeartbeats 1600000 in
theorem c_insLGrow {g q n cap i : Nat} {cur : Array Value} {xs : List Cat} {c : Cat} (w : World) (hx : xs.length = n) (hin : i < n) (hn : n ≤ 8796093022208) (hnc : n ≤ cap) (hroom : cap < n + 1) (hg : w.heap[g]? = some (.cells cur 65 (0, 0))) (ht : cur.toList.take (n * 2) = ccells xs)
    (hq : w.heap[q]? = some (.cells (ccell c).toArray 65 (0, 0))) :
    Calls Try.prog 30 #[.slice (some ⟨g, 0, none⟩) n cap, .int .i64 i, .slice (some ⟨q, 0, none⟩) 1 1] w fun e w' => ∃ G, e = .returned (.slice (some ⟨w.heap.size, 0, none⟩) (n + 1) G) ∧ n + 1 ≤ G ∧ G ≤ 9223372036854775807 ∧ (∀ j v, (ccells (xs.take i ++ c :: xs.drop i))[j]? = some v → w'.cell? ⟨w.heap.size, j, none⟩ = some v) ∧ Nw w w' := by
  obtain ⟨i0, hi0, hz0, hs0, hb0⟩ := info_parts3 Try.infoLk
  have hlx : (ccells xs).length = n * 2 := by rw [ccells_length, hx]
  have hld : (ccells (xs.drop i)).length = (n - i) * 2 := by rw [ccells_length, List.length_drop, hx]
  have hlt : (ccells (xs.take i)).length = i * 2 := by rw [ccells_length, List.length_take, Nat.min_eq_left (by omega)]
  have hgl : g < w.heap.size := heap_lt hg
  have hql : q < w.heap.size := heap_lt hq
  have hxs : ∀ j v, (ccells xs)[j]? = some v → w.cell? ⟨g, j, none⟩ = some v := fun j v hj => by
    refine cell_blk hg ?_
    have hjl := (List.getElem?_eq_some_iff.1 hj).1
    rw [← ht, List.getElem?_take_of_lt (by omega)] at hj
    simpa using hj
  have e2 : ccells xs = ccells (xs.take i) ++ ccells (xs.drop i) := by rw [← ccells_append, List.take_append_drop]
  have hxt : ∀ j v, (ccells (xs.take i))[j]? = some v → w.cell? ⟨g, j, none⟩ = some v := fun j v hj => hxs j v (by
    rw [e2, List.getElem?_append_left (List.getElem?_eq_some_iff.1 hj).1]; exact hj)
  have hcs2 : ∀ j v, (ccell c)[j]? = some v → w.cell? ⟨q, j, none⟩ = some v := fun j v hj => cell_blk hq (by simpa using hj)
  have hsz : (Try.prog.info? 65).map (·.size) = some 2 := by kernel_rfl
  obtain ⟨G, hG⟩ : ∃ G, G = grownCap w (n + 1) cap 65 := ⟨_, rfl⟩
  obtain ⟨ROW, hROW⟩ : ∃ ROW : Array Value, ROW = (ccells (xs.take i)).toArray ++ Builtin.zeroCells (Value.agg #[.int .u64 0, .int .i64 0]).cells (n + 1 - i) ++ Builtin.zeroCells (Value.agg #[.int .u64 0, .int .i64 0]).cells (G - (n + 1)) := ⟨_, rfl⟩
  have hRl : (n + 1) * 2 ≤ ROW.size := by
    rw [hROW]
    simp [Builtin.zeroCells, Value.cells, hlt]
    omega
  have hR0 : ∀ j v, (ccells (xs.take i))[j]? = some v → ROW[j]? = some v := fun j v hj => by
    have hl := (List.getElem?_eq_some_iff.1 hj).1
    rw [hROW, Array.append_assoc, Array.getElem?_append_left (by simpa using hl)]
    simpa using hj
  obtain ⟨W1, hW1⟩ : ∃ W1, W1 = w.drew.alloc (.cells ROW 65) := ⟨_, rfl⟩
  have hold : (Builtin.firstCells i0.size i (.slice (some ⟨g, 0, none⟩) i cap)).run Try.prog w.drew = .ok (ccells (xs.take i)).toArray w.drew := by
    rw [hs0]
    exact run_firstCells_some w.drew 2 i ⟨g, 0, none⟩ i cap (ccells (xs.take i)) hlt (fun j v hj => by
      rw [Addr.add_lit, Nat.zero_add]
      exact hxt j v hj)
  have hkk : (n : Int) + 1 - (i : Int) = ((n + 1 - i : Nat) : Int) := by omega
  have hik : i + (n + 1 - i) = n + 1 := by omega
  have hrz : ∀ ty, (Builtin.append_ #[27, 3] ty #[.slice (some ⟨g, 0, none⟩) i cap, .int .i64 ((n : Int) + 1 - (i : Int))]).run Try.prog w = .ok (.slice (some ⟨w.heap.size, 0, none⟩) (n + 1) G) W1 := fun ty => by
    have hnx := nextslicecap_le_wide hroom
    have h := Lib.run_append_grow_zeros w 27 3 ty 65 i0 _ .i64 .i64 Try.underlying27 Try.underlying3 hi0 hz0 (some ⟨g, 0, none⟩) i cap (ccells (xs.take i)) hold (n + 1 - i) (by omega) (by omega) (by omega) (by omega) (by rw [hb0]; omega) (by rw [hb0, hik]; omega)
    rw [hik] at h
    rw [hkk, hW1, hROW, hG]
    exact h
  have hN : ∀ j, j < (n + 1) * 2 → (W1.cell? ⟨w.heap.size, j, none⟩).isSome = true := fun j hj => by
    rw [hW1, World.cell?_alloc_at (w := w.drew) ROW _ w.heap.size j rfl, Array.getElem?_eq_getElem (by omega)]; rfl
  have hN0 : ∀ j v, (ccells (xs.take i))[j]? = some v → W1.cell? ⟨w.heap.size, j, none⟩ = some v := fun j v hj => by
    rw [hW1, World.cell?_alloc_at (w := w.drew) ROW _ w.heap.size j rfl]; exact hR0 j v hj
  have hNf : ∀ j, W1.frozen? ⟨w.heap.size, j, none⟩ = false := fun j => by rw [hW1]; exact World.frozen?_alloc_at (w := w.drew) ROW _ w.heap.size j rfl
  have hOb : ∀ j v, w.cell? ⟨g, j, none⟩ = some v → W1.cell? ⟨g, j, none⟩ = some v := fun j v h => by rw [hW1, World.cell?_alloc_past (w := w.drew) _ g j hgl]; exact h
  have hOv : ∀ j v, w.cell? ⟨q, j, none⟩ = some v → W1.cell? ⟨q, j, none⟩ = some v := fun j v h => by rw [hW1, World.cell?_alloc_past (w := w.drew) _ q j hql]; exact h
  have hcpA : ∀ (W : World), (∀ x, W.cell? x = W1.cell? x) → (∀ x, W.frozen? x = W1.frozen? x) → ∀ ty dc, (Builtin.copy_ #[27, 27] ty #[.slice (some ⟨w.heap.size, i * 2, none⟩) (n + 1 - i) dc, .slice (some ⟨q, 0, none⟩) 1 1]).run Try.prog W = .ok (goInt 1) (W.setCells w.heap.size (i * 2) (ccell c)) := fun W hWc hWf ty dc => by
    have hmin : Nat.min 1 (n + 1 - i) = 1 := Nat.min_eq_left (by omega)
    have := run_copy_sized (P := Try.prog) W 27 27 ty 65 w.heap.size (i * 2) (n + 1 - i) dc ⟨q, 0, none⟩ 1 1 2 (ccell c) Try.underlying27 hsz (by rw [hmin]; rfl)
      (fun j v hj => by rw [Addr.add_lit, Nat.zero_add, hWc]; exact hOv _ v (hcs2 j v hj))
      (fun j hj => by have hj2 : j < 2 := hj; rw [hWc]; exact hN _ (by omega))
      (fun j hj => by rw [hWf]; exact hNf _) (ccell_one c)
    rw [hmin] at this
    exact this
  have hcpB : ∀ (W : World), (∀ x, W.cell? x = (W1.setCells w.heap.size (i * 2) (ccell c)).cell? x) → (∀ x, W.frozen? x = (W1.setCells w.heap.size (i * 2) (ccell c)).frozen? x) → ∀ ty dc sc, (Builtin.copy_ #[27, 27] ty #[.slice (some ⟨w.heap.size, (i + 1) * 2, none⟩) (n - i) dc, .slice (some ⟨g, i * 2, none⟩) (n - i) sc]).run Try.prog W = .ok (goInt (n - i : Nat)) (W.setCells w.heap.size ((i + 1) * 2) (ccells (xs.drop i))) := fun W hWc hWf ty dc sc => by
    have hmin : Nat.min (n - i) (n - i) = n - i := Nat.min_self _
    have := run_copy_sized (P := Try.prog) W 27 27 ty 65 w.heap.size ((i + 1) * 2) (n - i) dc ⟨g, i * 2, none⟩ (n - i) sc 2 (ccells (xs.drop i)) Try.underlying27 hsz (by rw [hmin, hld])
      (fun j v hj => by
        rw [Addr.add_lit, hWc, World.cell?_setCells_out _ _ _ _ _ (fun h _ => absurd h (by show g ≠ _; omega))]
        exact hOb _ v (hxs _ v (cells_drop (by omega) j v hj)))
      (fun j hj => by rw [hWc]; exact isSome_setCells _ (ccell c) (i * 2) W1 (fun t ht => hN _ (by have : t < 2 := ht; omega)) _ (hN _ (by omega)))
      (fun j hj => by rw [hWf, World.frozen?_setCells]; exact hNf _) (ccells_oneCell _)
    rw [hmin] at this
    exact this
  have hGn : n + 1 ≤ G := by rw [hG]; exact grownCap_ge w _ _ _
  have hG63 : G ≤ 9223372036854775807 := by
    have := grownCap_le_maxLen w (n + 1) cap 65 (by unfold maxLen; omega)
    rw [← hG] at this
    unfold maxLen at this
    omega
  have hfin : Hid (∀ W2 : World, (∀ x, W2.cell? x = (W1.setCells w.heap.size (i * 2) (ccell c)).cell? x) → Nw w W2 → (∀ j v, (ccells (xs.take i ++ c :: xs.drop i))[j]? = some v → (W2.setCells w.heap.size ((i + 1) * 2) (ccells (xs.drop i))).cell? ⟨w.heap.size, j, none⟩ = some v) ∧ Nw w (W2.setCells w.heap.size ((i + 1) * 2) (ccells (xs.drop i)))) := fun W2 h1 h2 => by
    have hs2 : ∀ j, j < (n + 1) * 2 → (W2.cell? ⟨w.heap.size, j, none⟩).isSome = true := fun j hj => by
      rw [h1]; exact isSome_setCells _ (ccell c) (i * 2) W1 (fun t ht => hN _ (by have : t < 2 := ht; omega)) _ (hN _ hj)
    refine ⟨ins_cells (by omega) (fun j v hj h => ?_) (fun t v h => ?_) (fun t v h => ?_), fr_setCells (.inr (Nat.le_refl _)) _ _ _ h2⟩
    · rw [World.cell?_setCells_out _ _ _ _ _ (fun _ _ => .inl (by show j < _; omega)), h1, World.cell?_setCells_out _ _ _ _ _ (fun _ _ => .inl (by show j < _; omega))]
      refine hN0 j v ?_
      rw [e2, List.getElem?_append_left (by omega)] at h
      exact h
    · have htl : t < 2 := (List.getElem?_eq_some_iff.1 h).1
      rw [World.cell?_setCells_out _ _ _ _ _ (fun _ _ => .inl (by show i * 2 + t < _; omega)), h1]
      exact setCells_get (fun j hj => hN _ (by have : j < 2 := hj; omega)) t v h
    · exact setCells_get (fun j hj => hs2 _ (by omega)) t v h
  subst hW1
  have hfr : Hid (Nw w ((w.alloc (.cells ROW 65)).drew.setCells w.heap.size (i * 2) (ccell c)).drew) := Fr.drew (fr_setCells (.inr (Nat.le_refl _)) _ _ _ (Fr.drew (nw_alloc (nw_refl w) _)))
  have hE1 : ∀ x, ((w.alloc (.cells ROW 65)).drew).cell? x = (w.drew.alloc (.cells ROW 65)).cell? x := fun x => rfl
  have hE2 : ∀ x, ((w.alloc (.cells ROW 65)).drew).frozen? x = (w.drew.alloc (.cells ROW 65)).frozen? x := fun x => rfl
  have hF1 : ∀ x, (((w.alloc (.cells ROW 65)).drew.setCells w.heap.size (i * 2) (ccell c)).drew).cell? x = ((w.drew.alloc (.cells ROW 65)).setCells w.heap.size (i * 2) (ccell c)).cell? x := fun x => rfl
  have hF2 : ∀ x, (((w.alloc (.cells ROW 65)).drew.setCells w.heap.size (i * 2) (ccell c)).drew).frozen? x = ((w.drew.alloc (.cells ROW 65)).setCells w.heap.size (i * 2) (ccell c)).frozen? x := fun x => rfl
  have hz2 : ¬ ((i : Int) = (n : Int)) := by omega
  have hz3 : (cap : Int) < (n : Int) + 1 := by omega
  have hw1 : IntKind.i64.wrap ((i : Int) + 1) = (i : Int) + 1 := by rw [IntKind.wrap_i64]; omega
  have hb1 : (0 : Int) ≤ (i : Int) + 1 := by omega
  have hGi : ¬ (G = i) := by omega
  have hGim : ¬ (G = i + 1) := by omega
  have hci : ¬ (cap = i) := by omega
  have hb3 : (i : Int) ≤ (n : Int) := by omega
  have hb4 : (i : Int) ≤ (n : Int) + 1 := by omega
  have hb5 : (i : Int) + 1 ≤ (n : Int) + 1 := by omega
  have hb6 : i ≤ n := by omega
  have htn : ((i : Int) + 1).toNat = i + 1 := by omega
  clear hxs hcs2 hlx hsz hROW hG hRl hN hNf hOb hOv hg hq ht hi0 hz0 hs0 hb0 hkk hik hold hR0 hN0 hxt e2 hld hlt
  go_enter Try.func30, Try.ntmps30
  go_wp2_with (first
    | (at_builtin; refine Lib.wpList_append_run _ rfl _ _ _ _ rfl _ _ rfl rfl _ _ (hrz _) ?_)
    | (at_builtin; refine wpList_copy_run _ rfl _ _ 27 27 rfl _ _ rfl rfl _ _ (hcpA _ hE1 hE2 _ _) ?_))
  go_region_law (refine step_copy_run rfl _ _ 27 27 rfl (.slice (some ⟨w.heap.size, (i + 1) * 2, none⟩) (n - i) (G - (i + 1))) (.slice (some ⟨g, i * 2, none⟩) (n - i) (cap - i)) (by simp [Act.eval, Act.put]) (by simp [Act.eval, Act.put]) (hcpB _ hF1 hF2 3 (G - (i + 1)) (cap - i)) ?_)
  go_wp2
  go_ret
  exact ⟨G, rfl, hGn, hG63, hfin.out ((w.alloc (.cells ROW 65)).drew.setCells w.heap.size (i * 2) (ccell c)).drew hF1 hfr.out⟩

set_option maxHeartbeats 1600000 in
theorem c_insLEnd {base q n : Nat} {v : Value} {xs : List Cat} {c : Cat} (w : World) (hb : base ≤ w.heap.size) (hn : xs.length = n) (h : w.ownsRow base 65 2 v n (ccells xs)) (hl : n ≤ 1000) (hq : w.heap[q]? = some (.cells (ccell c).toArray 65 (0, 0))) :
    Calls Try.prog 30 #[v, .int .i64 n, .slice (some ⟨q, 0, none⟩) 1 1] w fun e w' => ∃ u, e = .returned u ∧ w'.ownsRow base 65 2 u (n + 1) (ccells (xs ++ [c])) ∧ Fr (fun k => v.ownBlock = some k) w w' := by
  obtain ⟨i0, hi0, hz0, hs0, hb0⟩ := info_parts3 Try.infoLk
  have hsl : Sl w.heap.size w (.slice (some ⟨q, 0, none⟩) 1 1) 1 (ccell c) := ⟨some ⟨q, 0, none⟩, 1, rfl, ⟨Nat.le_refl _, by unfold maxLen; decide⟩, (fun h => by cases h), fun j u hj => ⟨q, 0, rfl, heap_lt hq, by rw [Nat.zero_add]; exact cell_blk hq (by simpa using hj)⟩⟩
  have hone := ccell_one c
  have hlen := ccell_len c
  have hcc : ccells (xs ++ [c]) = ccells xs ++ ccell c := by rw [ccells_append, ccells_one]
  have hfo := (sl_of_owns h)
  obtain ⟨ao, cap, rfl, ⟨hc1, hc2⟩, _⟩ := hfo
  unfold maxLen at hc2
  rw [hcc]
  clear hcc hn
  generalize ccells xs = ys at *
  generalize ccell c = cs at *
  by_cases hcn : cap = n
  · subst hcn
    go_enter Try.func30, Try.ntmps30
    go_wp2_with (at_builtin; refine wpList_append_sl _ rfl _ _ 27 rfl base 65 i0 _ 2 16 Try.underlying27 hi0 hz0 hs0 hb0 rfl (by decide) _ cap _ rfl h _ _ 1 _ rfl hsl hlen hone ?d2 ?d3 hb ?_)
    case d2 => unfold maxLen; omega
    case d3 => omega
    intro v9 w9 hown9 hgrow9 hat9
    have hf : Fr (fun k => (Value.slice ao cap cap).ownBlock = some k) w w9 := Fr.grown (Fr.refl _ w) hgrow9 (fun q hq => .inl hq)
    obtain ⟨ao9, cap9, rfl⟩ := owns_form hown9
    replace hown9 : Hid _ := hown9
    clear hgrow9 hat9 h hsl
    go_wp2
    go_ret
    exact ⟨_, rfl, hown9.out, hf⟩
  · go_enter Try.func30, Try.ntmps30
    go_wp2_with (at_builtin; refine wpList_append_sl _ rfl _ _ 27 rfl base 65 i0 _ 2 16 Try.underlying27 hi0 hz0 hs0 hb0 rfl (by decide) _ n _ rfl h _ _ 1 _ rfl hsl hlen hone ?e2 ?e3 hb ?_)
    case e2 => unfold maxLen; omega
    case e3 => omega
    intro v9 w9 hown9 hgrow9 hat9
    have hf : Fr (fun k => (Value.slice ao n cap).ownBlock = some k) w w9 := Fr.grown (Fr.refl _ w) hgrow9 (fun q hq => .inl hq)
    obtain ⟨ao9, cap9, rfl⟩ := owns_form hown9
    replace hown9 : Hid _ := hown9
    clear hgrow9 hat9 h hsl
    go_wp2
    go_ret
    exact ⟨_, rfl, hown9.out, hf⟩

/-- Insert of one link, as a whole. -/
theorem c_insertL {base q i : Nat} {v : Value} {xs : List Cat} {c : Cat} (w : World) (hb : base ≤ w.heap.size) (h : w.ownsRow base 65 2 v xs.length (ccells xs)) (hi : i ≤ xs.length) (hl : xs.length ≤ 1000) (hq : w.heap[q]? = some (.cells (ccell c).toArray 65 (0, 0))) (hne : v.ownBlock ≠ some q) :
    Calls Try.prog 30 #[v, .int .i64 i, .slice (some ⟨q, 0, none⟩) 1 1] w fun e w' => ∃ u, e = .returned u ∧ CSl (fun b => base ≤ b) w' u (xs.take i ++ c :: xs.drop i) ∧ Fr (fun k => v.ownBlock = some k) w w' := by
  have hL : (xs.take i ++ c :: xs.drop i).length = xs.length + 1 := by simp; omega
  rcases Nat.eq_or_lt_of_le hi with e0 | hlt
  · subst e0
    refine (c_insLEnd (c := c) w hb rfl h hl hq).mono fun e w' hh => ?_
    obtain ⟨u, rfl, ho, hf⟩ := hh
    refine ⟨u, rfl, ?_, hf⟩
    have e2 : xs.take xs.length ++ c :: xs.drop xs.length = xs ++ [c] := by simp
    rw [e2]
    refine csl_of_own (e := 65) ?_
    rw [List.length_append]
    exact ho
  · rcases h.2 with ⟨rfl, h2⟩ | ⟨g, cap, cur, rfl, hbg, hg, hnc, hcm, hcs, ht⟩
    · omega
    · have hqg : q ≠ g := fun e => hne (by rw [e]; rfl)
      unfold maxLen at hcm
      by_cases hroom : xs.length + 1 ≤ cap
      · refine (c_insLShift (c := c) w rfl hlt hroom hcm hg hcs ht hq hqg).mono fun e w' hh => ?_
        obtain ⟨rfl, rfl⟩ := hh
        have hsp : ∀ j, j < cap * 2 → (w.drew.cell? ⟨g, j, none⟩).isSome = true := fun j hj => by
          show (w.cell? ⟨g, j, none⟩).isSome = true
          rw [cell_blk hg (v := cur[j]'(by omega)) (by simp [hcs, hj])]
          rfl
        have hld : (ccells (xs.drop i)).length = (xs.length - i) * 2 := by rw [ccells_length, List.length_drop]
        have hs1 : ∀ j, j < cap * 2 → ((w.drew.setCells g ((i + 1) * 2) (ccells (xs.drop i))).cell? ⟨g, j, none⟩).isSome = true := fun j hj => isSome_setCells g _ _ _ (fun t ht => hsp _ (by omega)) _ (hsp j hj)
        refine ⟨_, rfl, ⟨some ⟨g, 0, none⟩, cap, by rw [hL], ⟨by omega, by unfold maxLen; omega⟩, (fun h => by cases h), fun j u hj => ⟨g, 0, rfl, hbg, ?_⟩⟩, fr_setCells (S := fun k => (Value.slice (some (⟨g, 0, none⟩ : Addr)) xs.length cap).ownBlock = some k) (.inl rfl) _ _ _ (fr_setCells (S := fun k => (Value.slice (some (⟨g, 0, none⟩ : Addr)) xs.length cap).ownBlock = some k) (.inl rfl) _ _ _ (Fr.drew (Fr.refl _ w)))⟩
        rw [Nat.zero_add]
        refine ins_cells (g := g) (by omega) (fun j v hj h => ?_) (fun t v h => ?_) (fun t v h => ?_) j u hj
        · rw [World.cell?_setCells_out _ _ _ _ _ (fun _ _ => .inl (by show j < _; omega)), World.cell?_setCells_out _ _ _ _ _ (fun _ _ => .inl (by show j < _; omega))]
          refine cell_blk (w := w.drew) hg ?_
          have hjl := (List.getElem?_eq_some_iff.1 h).1
          rw [ccells_length] at hjl
          rw [← ht, List.getElem?_take_of_lt (by omega)] at h
          simpa using h
        · have htl : t < 2 := (List.getElem?_eq_some_iff.1 h).1
          exact setCells_get (fun j hj => hs1 _ (by have : j < 2 := hj; omega)) t v h
        · rw [World.cell?_setCells_out _ _ _ _ _ (fun _ _ => .inr (by show i * 2 + 2 ≤ (i + 1) * 2 + t; omega))]
          exact setCells_get (fun j hj => hsp _ (by omega)) t v h
      · refine (c_insLGrow (c := c) w rfl hlt (by omega) hnc (by omega) hg ht hq).mono fun e w' hh => ?_
        obtain ⟨G, rfl, h1, h2, h3, h4⟩ := hh
        exact ⟨_, rfl, ⟨some ⟨w.heap.size, 0, none⟩, G, by rw [hL], ⟨by omega, by unfold maxLen; omega⟩, (fun h => by cases h), fun j u hj => ⟨w.heap.size, 0, rfl, hb, by rw [Nat.zero_add]; exact h3 j u hj⟩⟩, h4.mono (fun k hk => hk.elim)⟩
end Go.Proofs.Ytppfcdnhmieejaa
