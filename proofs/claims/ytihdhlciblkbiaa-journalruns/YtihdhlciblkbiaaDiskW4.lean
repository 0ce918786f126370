/-
  The disk's Write.
-/
import Derived.Test.YtihdhlciblkbiaaDiskW3
import Derived.Test.YtihdhlciblkbiaaLibOrd
namespace Go.Proofs.Ytihdhlciblkbiaa
set_option linter.unusedVariables false
set_option linter.unusedSimpArgs false
set_option maxRecDepth 20000
open Go.RowKit

/-- A variable of a sector, laid by the call. -/
structure Boxed (w W : World) (s : List UInt8) : Prop where
  new : W.heap[w.heap.size]? = some (.cells (s.map bv).toArray 55 (0, 0))
  fr : Fr (fun _ => False) w W
  size : W.heap.size = w.heap.size + 1

theorem boxed (w : World) (s : List UInt8) : Boxed w (w.alloc (.cells (s.map bv).toArray 55)) s := ⟨heap_alloc_new w _, (Fr.refl _ w).alloc _, by simp⟩

theorem info86 : ∃ i, Try.prog.info? 86 = some i ∧ i.zero = some (wrv (0, z128)) ∧ i.size = 129 ∧ i.bytes = 136 := by
  have := Try.info86
  cases hq : Try.prog.info? 86 with
  | none => rw [hq] at this; cases this
  | some i => rw [hq] at this; exact ⟨i, rfl, by simpa using this⟩

/-- What a pushed write leaves, all told. -/
theorem push_done {base : Nat} {w W w2 w4 : World} {b g : Nat} {vp v4 : Value} {D : Dk} {S : Nat → Prop} {s : List UInt8} (hS : ∀ k, S k ↔ Own b g vp k) (hB : Boxed w W s) (h0 : DiskG base w b g vp D) (h2 : DiskG base w2 b g vp D.spend) (hf2 : Fr (Own b g vp) W w2)
    (k : Nat) (hk : k < D.st.length) (hs : s.length = 128) (o : Obj) (ho : w4.ownsRow base 86 129 v4 (D.pd.length + 1) (pcells D.pd ++ wcell (k, s))) (hg : (w2.drew.alloc o).grownBy w4 vp.ownBlock) (hat : v4.ownBlock = vp.ownBlock ∨ v4.ownBlock = some (w2.heap.size + 1)) :
    Done base w b S { D.spend with pd := D.pd ++ [(k, s)] } (w4.setCell ⟨b, 1, none⟩ v4) := by
  have hsp := spend_st D
  have hlt := h2.own_ge
  have hfd : Fr (Own b g vp) w2 w4 := ((Fr.refl _ w2).drew.alloc o).grown hg (fun k hk => .inl (.inr (.inr hk)))
  have hb : w4.heap[b]? = w2.heap[b]? := (hg.block b (by have := (hlt b (.inl rfl)).2; simp; omega) (fun e => h2.nb e.symm)).trans (Below.heap_alloc w2.drew o b (hlt b (.inl rfl)).2)
  have hgg : w4.heap[g]? = w2.heap[g]? := (hg.block g (by have := (hlt g (.inr (.inl rfl))).2; simp; omega) (fun e => h2.ng e.symm)).trans (Below.heap_alloc w2.drew o g (hlt g (.inr (.inl rfl))).2)
  have hp := h2.push hfd k s (by rw [hsp.1]; exact hk) hs hb hgg (by rw [hsp.2]; exact ho) (by
    rcases hat with e | e
    · exact .inl e
    · exact .inr ⟨_, e, by omega⟩)
  rw [hsp.2] at hp
  obtain ⟨S', hd, hf, hn⟩ := hp
  have hsz := hB.size
  have hsz2 := hf2.size
  refine ⟨S', hd, ((hB.fr.mono (fun _ => False.elim)).trans hf2 (fun k hk => .inl ((hS k).2 hk))).trans hf (fun k hk => .inl ((hS k).2 hk)), fun k hk => ?_⟩
  rcases hn k hk with h | h
  · exact .inl ((hS k).2 h)
  · exact .inr (by omega)

theorem done_boxed {base : Nat} {w W w2 : World} {b g : Nat} {vp : Value} {D : Dk} {S : Nat → Prop} (hS : ∀ k, S k ↔ Own b g vp k) (hB : Fr (fun _ => False) w W) (h2 : DiskG base w2 b g vp D) (hf2 : Fr (Own b g vp) W w2) : Done base w b S D w2 :=
  done_same hS h2 ((hB.mono (fun _ => False.elim)).trans hf2 (fun _ hk => .inl hk))

set_option maxHeartbeats 1600000 in
theorem c_write {base : Nat} {b : Nat} {S : Nat → Prop} {D : Dk} (i : Int) (s : List UInt8) (w : World) (h : DiskAt base w b S D) (hs : s.length = 128) (hpl : D.pd.length ≤ 1000000) :
    Calls Try.prog 28 #[.pointer (some ⟨b, 0, none⟩), .int .i64 i, sec s] w fun e w' => e = .returned (.int .i64 (D.werr i)) ∧ Done base w b S (D.write i s) w' := by
  obtain ⟨g, vp, h, hS⟩ := h
  have hB := boxed w s
  have h1 := h.keep hB.fr (fun _ _ => id)
  generalize hW : w.alloc (.cells (s.map bv).toArray 55) = W at *
  have hW : Hid (w.alloc (.cells (s.map bv).toArray 55) = W) := hW
  by_cases hh : D.has i = true
  · by_cases ho : D.out = true
    · have e1 : D.werr i = 42 := by unfold Dk.werr; simp [hh, ho]
      have e2 : D.write i s = D.spend := by unfold Dk.write; simp [hh, ho]
      rw [e1, e2]
      clear e1 e2 h
      go_enter Try.func28, Try.ntmps28
      go_wp2_with (first
        | (refine wpList_box_agg rfl 55 _ rfl (sec s) _ rfl rfl ?_; rw [hW.out])
        | (go_at_call 41; refine (c_has i _ h1).mono ?_; rw [hh]; rintro e w' ⟨rfl, rfl⟩)
        | (go_at_call 44; refine (c_spend _ h1).mono ?_; rw [ho]; rintro e w2 ⟨rfl, h2, hf2⟩))
      go_ret
      exact ⟨rfl, done_boxed hS hB.fr h2 hf2⟩
    · have ho : D.out = false := by simpa using ho
      have e1 : D.werr i = 0 := by unfold Dk.werr; simp [hh, ho]
      have e2 : D.write i s = { D.spend with pd := D.pd ++ [(i.toNat, s)] } := by unfold Dk.write; simp [hh, ho]
      rw [e1, e2]
      obtain ⟨hl0, hl1⟩ := Dk.has_lt hh
      obtain ⟨k, rfl⟩ : ∃ k : Nat, i = (k : Int) := ⟨i.toNat, by omega⟩
      have hkl : k < D.st.length := by omega
      have hin := h.ok.n
      clear e1 e2 hl0 hl1
      simp only [Int.toNat_natCast]
      go_enter Try.func28, Try.ntmps28
      go_wp2_with (first
        | (refine wpList_box_agg rfl 55 _ rfl (sec s) _ rfl rfl ?_; rw [hW.out])
        | (go_at_call 41; refine (c_has (k : Int) _ h1).mono ?_; rw [hh]; rintro e w' ⟨rfl, rfl⟩)
        | (go_at_call 44; refine (c_spend _ h1).mono ?_; rw [ho]; rintro e w2 ⟨rfl, h2, hf2⟩))
      have hr2 : w2.rangeAt w.heap.size 0 (s.map bv) := by
        refine range_all (t := 55) (fr := (0, 0)) ?_
        rw [hf2.block w.heap.size (by rw [hB.size]; omega) (fun hk => by have := (h.own_ge _ hk).2; omega)]
        exact hB.new
      obtain ⟨-, k1, -, -, kf⟩ := h2.cells
      have hS0 : (fun w' : World => w'.cell? ⟨b, 1, none⟩ = some vp ∧ w'.rangeAt w.heap.size 0 (s.map bv)) w2.drew := ⟨by rw [World.cell?_drew]; exact k1, (World.rangeAt_drew ..).2 hr2⟩
      refine wp_region_ord [] 10 [(0, true), (1, true), (2, true), (3, true), (4, true), (5, true), (6, true), (7, true), (8, false), (9, false)] (fun w' => w'.cell? ⟨b, 1, none⟩ = some vp ∧ w'.rangeAt w.heap.size 0 (s.map bv)) (by kernel_rfl) (by kernel_rfl) ?_
      refine ord_quietL _ ?_ rfl hS0 rfl ?_ ?_
      rotate_left
      · rintro w' ⟨hS1, hS2⟩; go_simp; rfl
      simp only [Act.put, List.setIfInBounds_toArray, List.set_cons_zero, List.set_cons_succ]
      refine ord_quietL _ ?_ rfl hS0 rfl ?_ ?_
      rotate_left
      · rintro w' ⟨hS1, hS2⟩; go_simp; rfl
      simp only [Act.put, List.setIfInBounds_toArray, List.set_cons_zero, List.set_cons_succ]
      refine ord_quietL _ ?_ rfl hS0 rfl ?_ ?_
      rotate_left
      · rintro w' ⟨hS1, hS2⟩; go_simp; rfl
      simp only [Act.put, List.setIfInBounds_toArray, List.set_cons_zero, List.set_cons_succ]
      refine ord_quietL _ ?_ rfl hS0 rfl ?_ ?_
      rotate_left
      · rintro w' ⟨hS1, hS2⟩; go_simp; rfl
      simp only [Act.put, List.setIfInBounds_toArray, List.set_cons_zero, List.set_cons_succ]
      refine ord_quietL _ ?_ rfl hS0 rfl ?_ ?_
      rotate_left
      · rintro w' ⟨hS1, hS2⟩; go_simp; rfl
      simp only [Act.put, List.setIfInBounds_toArray, List.set_cons_zero, List.set_cons_succ]
      refine ord_quietL _ ?_ rfl hS0 rfl ?_ ?_
      rotate_left
      · rintro w' ⟨hS1, hS2⟩; go_simp; rfl
      simp only [Act.put, List.setIfInBounds_toArray, List.set_cons_zero, List.set_cons_succ]
      refine ord_quietL _ (sec s) rfl hS0 rfl ?_ ?_
      · rintro w' ⟨hS1, hS2⟩
        exact run_load_quiet 55 _ w' rfl w.heap.size 0 rfl _ hS2 Try.rowS (sizeS hs)
      simp only [Act.put, List.setIfInBounds_toArray, List.set_cons_zero, List.set_cons_succ]
      refine ord_quietL _ (wrv (k, s)) rfl hS0 rfl ?_ ?_
      · rintro w' ⟨hS1, hS2⟩
        refine run_build_quiet 86 _ w' rfl (wcell (k, s)).toArray ?_
        simp only [List.map_cons, List.map_nil, Act.eval]
        exact built86 k s hs
      simp only [Act.put, List.setIfInBounds_toArray, List.set_cons_zero, List.set_cons_succ]
      obtain ⟨j0, hj, hj0, hj1, hj2⟩ := info86
      refine ord_actL _ rfl (fun K8 hK8 => ?_)
      refine wpList_buildSlice1 rfl 65 86 _ rfl (wrv (k, s)) rfl (wcell (k, s)) rfl Try.underlying65 (by rw [wcell_length hs]; exact Try.size86) Try.isz72 (by rw [wcell_length hs]; omega) (by rw [wcell_length hs]; omega) ?_
      generalize hw3 : w2.drew.alloc (.cells (wcell (k, s)).toArray 86) = w3
      have hown3 : w3.ownsRow base 86 129 vp D.spend.pd.length (pcells D.spend.pd) := by subst hw3; exact (h2.pd.drew).alloc _
      have hlies := sl_lit w2.drew (wcell (k, s)).toArray 86 1 (by omega)
      rw [hw3] at hlies
      have hS3 : (fun w' : World => w'.cell? ⟨b, 1, none⟩ = some vp ∧ w'.rangeAt w.heap.size 0 (s.map bv)) w3 := by
        subst hw3
        exact ⟨by rw [World.cell?_alloc_lt _ _ _ (World.block_lt_of_cell? w2.drew _ hS0.1)]; exact hS0.1, World.rangeAt_alloc hS0.2 _⟩
      have hb3 : base ≤ w3.heap.size := by subst hw3; have := h2.bb; have := heap_lt h2.obj; simp; omega
      refine wpList_nil (hK8 _ _ hS3 ?_)
      simp only [Act.put, List.setIfInBounds_toArray, List.set_cons_zero, List.set_cons_succ]
      refine ord_actL _ rfl (fun K9 hK9 => ?_)
      refine wpList_append_sl _ rfl _ _ 65 rfl base 86 j0 _ 129 136 Try.underlying65 hj hj0 hj1 hj2 (by simp [wrv, Value.cells, wcell, z128_length]) (by decide) vp _ _ rfl hown3 _ _ 1 _ rfl hlies (by rw [wcell_length hs]) (wcell_oneCell _) ?d1 ?d2 hb3 ?_
      case d1 => rw [(spend_st D).2]; unfold maxLen; omega
      case d2 => rw [(spend_st D).2]; omega
      intro v4 w4 hown4 hg4 hat4
      have hf4 : Fr (Own b g vp) w2 w4 := by
        subst hw3
        exact ((Fr.refl _ w2).drew.alloc _).grown hg4 (fun k hk => .inl (.inr (.inr hk)))
      have hblk : ∀ q, (q = b ∨ q = w.heap.size) → w4.heap[q]? = w2.heap[q]? := by
        intro q hq
        have hql : q < w2.heap.size := by
          rcases hq with rfl | rfl
          · exact heap_lt h2.obj
          · have := hf2.size; have := hB.size; omega
        subst hw3
        refine (hg4.block q (by simp; omega) (fun e => ?_)).trans (Below.heap_alloc w2.drew _ q hql)
        rcases hq with rfl | rfl
        · exact h2.nb e.symm
        · have := (h.own_ge _ (.inr (.inr e.symm))).2; omega
      have hS4 : (fun w' : World => w'.cell? ⟨b, 1, none⟩ = some vp ∧ w'.rangeAt w.heap.size 0 (s.map bv)) w4 :=
        ⟨(World.cell?_of_block (w := w2) (hblk b (.inl rfl))).trans k1, fun j v hv => (World.cell?_of_block (w := w2) (a := ⟨w.heap.size, 0 + j, none⟩) (hblk _ (.inr rfl))).trans (hr2 j v hv)⟩
      have hfz : w4.frozen? ⟨b, 1, none⟩ = false := (World.frozen?_of_block (w := w2) (a := ⟨b, 1, none⟩) (hblk b (.inl rfl))).trans (kf 1)
      have hc4 := hS4.1
      have hsz3 : w3.heap.size = w2.heap.size + 1 := by subst hw3; simp
      rw [(spend_st D).2] at hown4
      obtain ⟨ao4, cap4, rfl⟩ := owns_form hown4
      have hdone := push_done hS hB h h2 hf2 k hkl hs (.cells (wcell (k, s)).toArray 86) hown4 (by rw [hw3]; exact hg4) (by rw [← hsz3]; exact hat4)
      refine wpList_nil (hK9 _ _ hS4 ?_)
      refine ord_tail ?_
      simp only [List.drop_succ_cons, List.drop_zero, Act.put, List.setIfInBounds_toArray, List.set_cons_zero, List.set_cons_succ]
      clear hK8 hK9 hS4 hS0 hown4 hg4 hat4 hblk hf4 hS3 hlies hown3 hr2 k1 kf h2 hf2 hj hj0 hj1 hj2 h h1 hB
      go_wp2
      go_ret
      exact ⟨rfl, hdone⟩
  · have hh : D.has i = false := by simpa using hh
    have e1 : D.werr i = 41 := by unfold Dk.werr; simp [hh]
    have e2 : D.write i s = D := by unfold Dk.write; simp [hh]
    rw [e1, e2]
    clear e1 e2 h
    go_enter Try.func28, Try.ntmps28
    go_wp2_with (first
      | (refine wpList_box_agg rfl 55 _ rfl (sec s) _ rfl rfl ?_; rw [hW.out])
      | (go_at_call 41; refine (c_has i _ h1).mono ?_; rw [hh]; rintro e w' ⟨rfl, rfl⟩))
    go_ret
    exact ⟨rfl, done_boxed hS hB.fr h1 (Fr.refl _ _)⟩
end Go.Proofs.Ytihdhlciblkbiaa
