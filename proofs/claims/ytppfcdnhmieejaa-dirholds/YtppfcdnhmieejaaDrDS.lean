/-
  slices.Delete of one link.
-/
import Derived.Test.YtppfcdnhmieejaaDrI2S
namespace Go.Proofs.Ytppfcdnhmieejaa
set_option linter.unusedVariables false
set_option linter.unusedSimpArgs false
set_option maxRecDepth 20000
open Go.RowKit

theorem step_append_room2 {P : Program} {ops : Array Oper} {o : Oper} {a : Act} {w : World} {K : Act → World → Prop} {Q : Exit → Act → World → Prop} {E : Prop}
    (hg : o.guard = none) (s x : Operand) (t : TypeId) (hop : o.op = Op.call { callee := Callee.builtin Builtin.append, args := #[s, x], argTypes := #[t, t] })
    (e : TypeId) (i : TypeInfo) (size : Nat) (h1 : P.underlying t = some (.slice e)) (h2 : P.info? e = some i) (h4 : i.size = size)
    (b n cap : Nat) (hs : a.eval s = .slice (some ⟨b, 0, none⟩) n cap)
    (ad : Addr) (m c : Nat) (news : List Value) (hx : a.eval x = .slice (some ad) m c) (hn : news.length = m * size) (hc : ∀ j u, news[j]? = some u → w.cell? (ad.add j) = some u) (h1c : ∀ u ∈ news, u.oneCell' = true)
    (hroom : n + m ≤ cap) (hspare : ∀ j, j < news.length → (w.cell? ⟨b, n * size + j, none⟩).isSome = true ∧ w.frozen? ⟨b, n * size + j, none⟩ = false)
    (r : Nat) (hr : n + m = r) (W' : World) (hW' : W' = w.setCells b (n * size) news)
    (hK : K (a.put o.dst (.slice (some ⟨b, 0, none⟩) r cap)) W') :
    if Region.wanted o (yielded ops a.tmps) = true then Oper.wp P o a w K Q else E := by
  subst hr
  subst hW'
  refine step_append_room hg s x t hop e i size h1 h2 h4 b 0 n cap hs ad m c news hx hn hc h1c hroom ?_ ?_
  · intro j hj
    rw [Nat.zero_add]
    exact hspare j hj
  · rw [Nat.zero_add]
    exact hK

theorem run_clearL {w : World} {g : Nat} (p k c : Nat) (ty : TypeId) (hk : k = 1) (hs : ∀ j, j < 2 → (w.cell? ⟨g, p * 2 + j, none⟩).isSome = true) (hf : ∀ j, w.frozen? ⟨g, j, none⟩ = false) :
    (Builtin.clear_ #[27] ty #[.slice (some ⟨g, p * 2, none⟩) k c]).run Try.prog w = .ok (.tuple #[]) (w.setCells g (p * 2) (ccells (List.replicate 1 (0, 0)))) := by
  subst hk
  have hv : ∀ w, (zeroValue 65).run Try.prog w = .ok (.agg #[.int .u64 0, .int .i64 0]) w := fun w => Try.zeroValue65 w
  have hst := run_storeCells_cells (P := Try.prog) g (p * 2) (ccells (List.replicate 1 (0, 0))) 0 w
    (by intro j hj; rw [ccells_length, List.length_replicate] at hj; exact hs j (by omega))
    (by intro j hj; exact hf _)
    (ccells_oneCell _)
  simp only [Nat.add_zero] at hst
  rw [show List.replicate 1 ((0, 0) : Cat) = [(0, 0)] from rfl] at hst ⊢
  have hz1 : (Builtin.zeroCells (Value.agg #[.int .u64 0, .int .i64 0]).cells 1).toList = ccells [(0, 0)] := zeroCells_two 1
  simp [Builtin.clear_, run_underlying Try.underlying27, hv, hz1, hst]

set_option maxHeartbeats 1600000 in
theorem c_deleteL {base i : Nat} {v : Value} {xs : List Cat} (w : World) (h : w.ownsRow base 65 2 v xs.length (ccells xs)) (hi : i < xs.length) (hl : xs.length ≤ 1000) :
    Calls Try.prog 31 #[v, .int .i64 i, .int .i64 ((i : Int) + 1)] w fun e w' => ∃ u, e = .returned u ∧ CSl (fun b => base ≤ b) w' u (xs.take i ++ xs.drop (i + 1)) ∧ Fr (fun k => v.ownBlock = some k) w w' := by
  obtain ⟨i0, hi0, hz0, hs0, hb0⟩ := info_parts3 Try.infoLk
  rcases h.2 with ⟨rfl, h2⟩ | ⟨g, cap, cur, rfl, hbg, hg, hnc, hcm, hcs, ht⟩
  · omega
  unfold maxLen at hcm
  have hsp : ∀ j, j < cap * 2 → (w.cell? ⟨g, j, none⟩).isSome = true := fun j hj => by
    rw [cell_blk hg (v := cur[j]'(by omega)) (by simp [hcs, hj])]
    rfl
  have hfz : ∀ j, w.frozen? ⟨g, j, none⟩ = false := fun j => free_blk hg
  have hxs : ∀ j v, (ccells xs)[j]? = some v → w.cell? ⟨g, j, none⟩ = some v := fun j v hj => by
    refine cell_blk hg ?_
    have hjl := (List.getElem?_eq_some_iff.1 hj).1
    rw [ccells_length] at hjl
    rw [← ht, List.getElem?_take_of_lt (by omega)] at hj
    simpa using hj
  obtain ⟨n, hn⟩ : ∃ n, xs.length = n := ⟨_, rfl⟩
  obtain ⟨p, hp⟩ : ∃ p, n = p + 1 := ⟨n - 1, by omega⟩
  have hld : (ccells (xs.drop (i + 1))).length = (n - (i + 1)) * 2 := by rw [ccells_length, List.length_drop, hn]
  rw [hn] at hi hl hnc ⊢
  obtain ⟨W1, hW1⟩ : ∃ W1, W1 = w.drew.setCells g (i * 2) (ccells (xs.drop (i + 1))) := ⟨_, rfl⟩
  have hs1 : ∀ j, j < cap * 2 → (W1.cell? ⟨g, j, none⟩).isSome = true := fun j hj => by
    rw [hW1]
    exact isSome_setCells g (ccells (xs.drop (i + 1))) (i * 2) w.drew (fun t ht => hsp _ (by omega)) _ (hsp j hj)
  have hf1 : ∀ j, W1.frozen? ⟨g, j, none⟩ = false := fun j => by rw [hW1, World.frozen?_setCells]; exact hfz j
  have hclr : ∀ ty, (Builtin.clear_ #[27] ty #[.slice (some ⟨g, p * 2, none⟩) (n - p) (cap - p)]).run Try.prog W1 = .ok (.tuple #[]) (W1.setCells g (p * 2) (ccells (List.replicate 1 (0, 0)))) := fun ty => run_clearL p (n - p) (cap - p) ty (by omega) (fun j hj => hs1 _ (by omega)) hf1
  have hfin : Hid (CSl (fun b => base ≤ b) (W1.setCells g (p * 2) (ccells (List.replicate 1 (0, 0)))) (.slice (some ⟨g, 0, none⟩) p cap) (xs.take i ++ xs.drop (i + 1)) ∧ Fr (fun k => (Value.slice (some (⟨g, 0, none⟩ : Addr)) n cap).ownBlock = some k) w (W1.setCells g (p * 2) (ccells (List.replicate 1 (0, 0))))) := by
    have hL : (xs.take i ++ xs.drop (i + 1)).length = p := by simp; omega
    have hlt : (ccells (xs.take i)).length = i * 2 := by rw [ccells_length, List.length_take, Nat.min_eq_left (by omega)]
    have e2 : ccells xs = ccells (xs.take i) ++ ccells (xs.drop i) := by rw [← ccells_append, List.take_append_drop]
    refine ⟨⟨some ⟨g, 0, none⟩, cap, by rw [hL], ⟨by omega, by unfold maxLen; omega⟩, (fun h => by cases h), fun j u hj => ⟨g, 0, rfl, hbg, ?_⟩⟩, ?_⟩
    · rw [Nat.zero_add]
      have hjl := (List.getElem?_eq_some_iff.1 hj).1
      rw [ccells_length, hL] at hjl
      rw [World.cell?_setCells_out _ _ _ _ _ (fun _ _ => .inl (by show j < _; omega)), hW1]
      rw [ccells_append] at hj
      by_cases h1 : j < i * 2
      · rw [World.cell?_setCells_out _ _ _ _ _ (fun _ _ => .inl (by show j < _; omega))]
        rw [List.getElem?_append_left (by omega)] at hj
        refine hxs j u ?_
        rw [e2, List.getElem?_append_left (by omega)]
        exact hj
      · rw [List.getElem?_append_right (by omega), hlt] at hj
        have := setCells_get (W := w.drew) (g := g) (o := i * 2) (vs := ccells (xs.drop (i + 1))) (fun t ht => hsp _ (by omega)) (j - i * 2) u hj
        rw [show i * 2 + (j - i * 2) = j by omega] at this
        exact this
    · rw [hW1]
      exact fr_setCells (S := fun k => (Value.slice (some (⟨g, 0, none⟩ : Addr)) n cap).ownBlock = some k) (.inl rfl) _ _ _ (fr_setCells (S := fun k => (Value.slice (some (⟨g, 0, none⟩ : Addr)) n cap).ownBlock = some k) (.inl rfl) _ _ _ (Fr.drew (Fr.refl _ w)))
  obtain ⟨A, hA, hsrc⟩ : ∃ A : Addr, (if cap = i + 1 then some (⟨g, 0, none⟩ : Addr) else some ⟨g, (i + 1) * 2, none⟩) = some A ∧ Hid (∀ t u, (ccells (xs.drop (i + 1)))[t]? = some u → w.drew.cell? (A.add t) = some u) := by
    by_cases h : cap = i + 1
    · refine ⟨⟨g, 0, none⟩, by simp [h], fun t u hu => ?_⟩
      have := (List.getElem?_eq_some_iff.1 hu).1
      omega
    · refine ⟨⟨g, (i + 1) * 2, none⟩, by simp [h], fun t u hu => ?_⟩
      rw [Addr.add_lit]
      exact hxs _ u (cells_drop (by omega) t u hu)
  have s2 : Hid (∀ u ∈ ccells (xs.drop (i + 1)), u.oneCell' = true) := ccells_oneCell _
  have s3 : Hid (∀ t, t < (ccells (xs.drop (i + 1))).length → (w.drew.cell? ⟨g, i * 2 + t, none⟩).isSome = true ∧ w.drew.frozen? ⟨g, i * 2 + t, none⟩ = false) := fun t ht => ⟨hsp _ (by omega), hfz _⟩
  have hipn : Hid (i + (n - (i + 1)) = p) := by unfold Hid; omega
  replace hld : Hid _ := hld
  replace hW1 : Hid _ := hW1
  have hic : i ≤ cap := by omega
  have hjc : i + 1 ≤ cap := by omega
  have hjn : i + 1 ≤ n := by omega
  have hji : (i : Int) + 1 ≤ (n : Int) := by omega
  have hb1 : (0 : Int) ≤ (i : Int) + 1 := by omega
  have hw1 : ((i : Int) == (i : Int) + 1) = false := by rw [beq_eq_false_iff_ne]; omega
  have htn : ((i : Int) + 1).toNat = i + 1 := by omega
  have hpn : p ≤ n := by omega
  have hpc : ¬ (cap = p) := by omega
  have hpc2 : n ≤ cap := hnc
  clear hsp hfz hxs hs1 hf1 hn hz0 hb0 hg ht hcs hp h
  go_enter Try.func31, Try.ntmps31
  go_wp2
  go_region_law (refine step_append_room2 rfl (.tmp 22) (.tmp 25) 27 rfl 65 i0 2 Try.underlying27 hi0 hs0 g i cap (by simp [Act.eval, Act.put]) A (n - (i + 1)) (cap - (i + 1)) (ccells (xs.drop (i + 1))) (by simp [Act.eval, Act.put, hA]) hld.out hsrc.out s2.out (by omega) s3.out p hipn.out W1 hW1.out ?_)
  go_wp2
  go_ret
  exact ⟨_, rfl, hfin.out⟩
end Go.Proofs.Ytppfcdnhmieejaa
