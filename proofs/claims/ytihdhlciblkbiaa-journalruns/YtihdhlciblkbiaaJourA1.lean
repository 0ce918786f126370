/-
  Add where the power stays; the chapter's example.
-/
import Derived.Test.YtihdhlciblkbiaaJourW8
import Derived.Test.YtihdhlciblkbiaaJourPlain3
import Derived.Lib.SlBytesConst
namespace Go.Proofs.Ytihdhlciblkbiaa
set_option linter.unusedVariables false
set_option linter.unusedSimpArgs false
set_option maxRecDepth 20000
open Go.RowKit

/-- A journal on a calm disk, with the records of its generation. -/
structure JC (base : Nat) (w : World) (b : Nat) (S : Nat → Prop) (D : Dk) (j f gen t : Nat) (l : List (List UInt8)) : Prop where
  d : DiskAt base w b S D
  jr : JrAt w j b f gen l.length
  n : ¬ S j
  c : Calm D
  g : Gen D f gen t l

theorem JC.nw {base : Nat} {w w' : World} {b : Nat} {S : Nat → Prop} {D : Dk} {j f gen t : Nat} {l : List (List UInt8)} (h : JC base w b S D j f gen t l) (hn : Nw w w') : JC base w' b S D j f gen t l :=
  ⟨h.d.keep hn (fun _ _ => id), h.jr.nw hn, h.n, h.c, h.g⟩

/-- What an Add leaves there. -/
def CalmAdded (base : Nat) (w : World) (b : Nat) (S : Nat → Prop) (j f gen t : Nat) (l : List (List UInt8)) (xs : List UInt8) (e : Ending) (w' : World) : Prop :=
  ∃ S' D' l' z, e = .returned (.int .i64 z) ∧ JC base w' b S' D' j f gen t l' ∧ Fr (fun k => S k ∨ k = j) w w' ∧ (∀ k, S' k → S k ∨ w.heap.size ≤ k) ∧
    ((384 < xs.length ∧ z = 63 ∧ l' = l) ∨ (xs.length ≤ 384 ∧ l.length = 4 ∧ z = 62 ∧ l' = l) ∨ (xs.length ≤ 384 ∧ l.length < 4 ∧ z = 0 ∧ l' = l ++ [xs]))

theorem c_calm {base b : Nat} {S : Nat → Prop} {D : Dk} {j f gen t : Nat} {l : List (List UInt8)} {xs : List UInt8} {v : Value} (w : World) (h : JC base w b S D j f gen t l)
    (hs : Slp (fun k => ¬ S k) w v xs.length (xs.map bv)) (hx : xs.length ≤ 140737488355328) :
    Calls Try.prog 13 #[.pointer (some ⟨j, 0, none⟩), v] w fun e w' => CalmAdded base w b S j f gen t l xs e w' := by
  refine (c_jadd w h.d h.jr h.n hs hx (by rw [h.c.rest.pd]; simp)).mono ?_
  rintro e w' ⟨rfl, S', hD', hJ', hf, hS⟩
  have hj := heap_lt h.jr.blk
  have hn' : ¬ S' j := fun hh => (hS j hh).elim h.n (by omega)
  rcases calm_add h.c h.g (xs := xs) hD'.ok with ⟨h1, h2⟩ | ⟨h1, h2, h3⟩ | ⟨h1, h2, h3, h4, h5, -⟩
  · rw [h2] at hD' hJ' ⊢
    exact ⟨S', D, l, 63, rfl, ⟨hD', hJ', hn', h.c, h.g⟩, hf, hS, .inl ⟨h1, rfl, rfl⟩⟩
  · rw [h3] at hD' hJ' ⊢
    exact ⟨S', D, l, 62, rfl, ⟨hD', hJ', hn', h.c, h.g⟩, hf, hS, .inr (.inl ⟨h1, h2, rfl, rfl⟩)⟩
  · rw [h3] at hJ' ⊢
    refine ⟨S', _, l ++ [xs], 0, rfl, ⟨hD', ?_, hn', h4, h5⟩, hf, hS, .inr (.inr ⟨h1, h2, rfl, rfl⟩)⟩
    rw [List.length_append]
    exact hJ'

theorem JC.start {base : Nat} {w w' : World} {b : Nat} {S : Nat → Prop} {D : Dk} {j f gen t : Nat} (hD : DiskAt base w b S D) (hj : JrAt w' j b f gen 0) (hn : Nw w w') (hw : w.heap.size ≤ j) (hc : Calm D) (hh : Heads D f t) : JC base w' b S D j f gen t [] :=
  ⟨hD.keep hn (fun _ _ => id), hj, fun h => by have := (hD.ge j h).2; omega, hc, hh.gen gen⟩

/-- Nothing of another generation is found. -/
theorem scan_other {D : Dk} (hR : Rest D) {f gen : Nat} (hr : f + 16 ≤ D.st.length) (h : (D.at (headN f 0)).drop 120 ≠ be 8 (hdMark gen 0)) : D.scan f gen = [] := by
  refine scan_stop (l := []) (by simp) (fun i x hx => by simp at hx) (.inr (recAt_none ?_))
  show (D.read (headN f 0 : Int)).drop 120 ≠ _
  rw [Dk.read_rest hR.pd (by unfold headN; omega)]
  exact h

theorem heads_scan {D : Dk} (hR : Rest D) {f gen : Nat} (h : Heads D f gen) (hg : gen < 256) : D.scan f gen = [] := (h.gen gen).scan hR.pd hR.ok (Nat.le_refl _) hg

theorem parts_two {K n : Nat} {w : World} {u v : Value} {xs ys : List UInt8} (t : TypeId) (h : Sl K w u xs.length (xs.map bv)) (h' : Sl K w v ys.length (ys.map bv)) (hK : K ≤ w.heap.size) (hl : xs.length ≤ 140737488355328) (hl' : ys.length ≤ 140737488355328) (hn : w.heap.size = n) :
    Parts (n + 1) (w.alloc (.cells #[u, v] t)) (.slice (some ⟨n, 0, none⟩) 2 2) [xs, ys] := by
  subst hn
  have hb : Below w.heap.size w (w.alloc (.cells #[u, v] t)) := (Below.refl _ _).alloc (Nat.le_refl _) _
  refine ⟨some ⟨w.heap.size, 0, none⟩, 2, rfl, Nat.le_refl _, fun i x hi => ?_⟩
  match i, hi with
  | 0, hi =>
    obtain rfl : xs = x := by simpa using hi
    exact ⟨w.heap.size, 0, u, rfl, by omega, cell_blk (heap_alloc_new w _) rfl, (h.keep (hb.mono hK)).mono (by omega), hl⟩
  | 1, hi =>
    obtain rfl : ys = x := by simpa using hi
    exact ⟨w.heap.size, 0, v, rfl, by omega, cell_blk (heap_alloc_new w _) rfl, (h'.keep (hb.mono hK)).mono (by omega), hl'⟩
  | i + 2, hi => simp at hi

theorem slp_cells (w : World) (cs : Array Value) (t n : Nat) (fz : Nat × Nat) (hn : n ≤ 1000000000) : Slp (fun k => k = w.heap.size) (w.alloc (.cells cs t fz)) (.slice (some ⟨w.heap.size, 0, none⟩) n n) n cs.toList :=
  ⟨_, n, rfl, ⟨Nat.le_refl _, by unfold maxLen; omega⟩, fun h => by simp at h, fun i c hi => ⟨w.heap.size, 0, rfl, rfl, cell_blk (heap_alloc_new w _) (by simpa using hi)⟩⟩

/-- What was new stays new. -/
theorem nw_over {w0 w w' : World} {base b : Nat} {S : Nat → Prop} {D : Dk} {j : Nat} (hn : Nw w0 w) (hD : DiskAt base w b S D) (hb : w0.heap.size ≤ base) (hj : w0.heap.size ≤ j) (hf : Fr (fun k => S k ∨ k = j) w w') : Nw w0 w' :=
  Fr.trans hn hf (fun k hk => .inr (hk.elim (fun h => Nat.le_trans hb (hD.ge k h).1) (fun h => by omega)))

def exA : List UInt8 := [97]
def exB2 : List UInt8 := [98]

set_option maxHeartbeats 3200000 in
theorem c_jalive (w : World) : Calls Try.prog 8 #[] w fun e w' => e = .returned (.bool true) ∧ Below w.heap.size w w' := by
  have kc := fun (w : World) (C : Array Value) (n c : Nat) => Lib.run_convert_bytes_const (P := Try.prog) w 37 5 C n c Try.underlying37 Try.underlying5
  go_enter Try.func8, Try.ntmps8
  go_wp2_with (go_at_call 9; refine stop_here ?_)
  unfold Hid
  refine (c_new 20 _).mono ?_
  rintro e W1 ⟨b, S, rfl, hD, hn1⟩
  go_wp2_with (go_at_call 12; refine stop_here ?_)
  unfold Hid
  refine (c_start (f := 2) (gen := 1) _ (by decide) (by decide)).mono ?_
  rintro e W2 ⟨rfl, hj2, hn2⟩
  have hJC := JC.start hD hj2 hn2 (Nat.le_refl _) (new_calm 20) (new_heads (f := 2) (t := 1) (by decide) (by decide) (by decide))
  have hnw := hn1.trans hn2
  clear hD hj2 hn2
  go_wp2_with (go_at_call 13; refine stop_here ?_)
  unfold Hid
  have hal : Nw W2 (W2.alloc (.cells #[.int .u8 97] 5 (1, 2))) := (Fr.refl _ W2).alloc _
  have hsl : Slp (fun k => ¬ S k) (W2.alloc (.cells #[.int .u8 97] 5 (1, 2))) (.slice (some ⟨W2.heap.size, 0, none⟩) 1 1) exA.length (exA.map bv) :=
    (slp_cells W2 #[.int .u8 97] 5 1 (1, 2) (by omega)).sub (fun k hk _ hS => by have := (hJC.d.ge k hS).2; omega)
  have hJC3 := hJC.nw hal
  have hnw3 := hnw.trans hal
  have hW1 : w.heap.size ≤ W1.heap.size := hn1.size
  clear hal hJC hnw hn1
  generalize W2.alloc (.cells #[.int .u8 97] 5 (1, 2)) = W3 at *
  refine (c_calm _ hJC3 hsl (by decide)).mono ?_
  rintro e W4 ⟨S4, D4, l4, z4, rfl, hJC4, hf4, hS4, hz4⟩
  obtain ⟨rfl, rfl⟩ : z4 = 0 ∧ l4 = [exA] := by
    rcases hz4 with ⟨h, -, -⟩ | ⟨-, h, -, -⟩ | ⟨-, -, h1, h2⟩
    · exact absurd h (by decide)
    · exact absurd h (by decide)
    · exact ⟨h1, h2⟩
  have hnw4 := nw_over hnw3 hJC3.d (Nat.le_refl _) hW1 hf4
  clear hf4 hz4 hS4 hsl hJC3 hnw3
  go_wp2_with (go_at_call 13; refine stop_here ?_)
  unfold Hid
  have hal : Nw W4 (W4.alloc (.cells #[.int .u8 98] 5 (1, 2))) := (Fr.refl _ W4).alloc _
  have hsl : Slp (fun k => ¬ S4 k) (W4.alloc (.cells #[.int .u8 98] 5 (1, 2))) (.slice (some ⟨W4.heap.size, 0, none⟩) 1 1) exB2.length (exB2.map bv) :=
    (slp_cells W4 #[.int .u8 98] 5 1 (1, 2) (by omega)).sub (fun k hk _ hS => by have := (hJC4.d.ge k hS).2; omega)
  have hJC5 := hJC4.nw hal
  have hnw5 := hnw4.trans hal
  clear hal hJC4 hnw4
  generalize W4.alloc (.cells #[.int .u8 98] 5 (1, 2)) = W5 at *
  refine (c_calm _ hJC5 hsl (by decide)).mono ?_
  rintro e W6 ⟨S6, D6, l6, z6, rfl, hJC6, hf6, hS6, hz6⟩
  obtain ⟨rfl, rfl⟩ : z6 = 0 ∧ l6 = [exA, exB2] := by
    rcases hz6 with ⟨h, -, -⟩ | ⟨-, h, -, -⟩ | ⟨-, -, h1, h2⟩
    · exact absurd h (by decide)
    · exact absurd h (by decide)
    · exact ⟨h1, h2⟩
  have hnw6 := nw_over hnw5 hJC5.d (Nat.le_refl _) hW1 hf6
  clear hf6 hz6 hS6 hsl hJC5 hnw5
  go_wp2_with (go_at_call 19; refine stop_here ?_)
  unfold Hid
  refine (c_jlen _ hJC6.jr).mono ?_
  rintro e w' ⟨rfl, rfl⟩
  simp only [List.length_cons, List.length_nil, Nat.zero_add, Nat.reduceAdd]
  go_wp2_with (go_at_call 17; refine stop_here ?_)
  unfold Hid
  refine (c_crash (.slice none 0 0) [] (-1) 0 _ hJC6.d ⟨none, 0, rfl, ⟨Nat.le_refl _, Nat.zero_le _⟩, fun _ => rfl, fun i c h => by simp at h⟩).mono ?_
  rintro e W7 ⟨rfl, S7, hD7, hf7, hS7⟩
  have hR7 := crash_rest hJC6.c.rest.ok [] (-1) 0
  have hG7 := hJC6.g.same (D' := D6.crash [] (-1) 0) (crash_calm hJC6.c.rest.pd [] (-1) 0)
  have hsc := hG7.scan hR7.pd hR7.ok (Nat.le_refl _) (by decide)
  have hsc2 := heads_scan hR7 (hG7.heads (by decide) (by decide)) (by decide)
  have hlen7 := hG7.len
  have hnw7 := nw_over hnw6 hJC6.d (Nat.le_refl _) hW1 (hf7.mono (fun _ h => .inl h))
  generalize D6.crash [] (-1) 0 = D7 at *
  clear hf7 hS7 hnw6 hG7 hR7 hJC6
  go_wp2_with (go_at_call 21; refine stop_here ?_)
  unfold Hid
  refine (c_scan (f := 2) (gen := 1) _ hD7 (by decide) (by decide) hlen7).mono ?_
  rintro e W8 ⟨v8, rfl, hp8, hn8⟩
  rw [hsc] at hp8
  have hz1 : (W8.alloc (.cells #[.int .u8 97] 5 (1, 2))).heap.size = W8.heap.size + 1 := by simp
  have hb9 : Below W8.heap.size W8 (W8.alloc (.cells #[.int .u8 97] 5 (1, 2))) := (Below.refl _ _).alloc (Nat.le_refl _) _
  have hsl1 := sl_cells W8 #[.int .u8 97] 5 1 (1, 2) (by omega)
  have hp9 := (hp8.keep hb9).mono (show W8.heap.size ≤ (W8.alloc (.cells #[.int .u8 97] 5 (1, 2))).heap.size by simp)
  have hn9 := nw_of_below hb9
  obtain ⟨ao8, cap8, rfl, -, -⟩ := id hp8
  have kc2 : (convert 37 37 (.slice (some ⟨W8.heap.size + 1, 0, none⟩) 1 1)).run Try.prog ((W8.alloc (.cells #[.int .u8 97] 5 (1, 2))).alloc (.cells #[.int .u8 98] 5)) = .ok (.slice (some ⟨W8.heap.size + 1, 0, none⟩) 1 1) ((W8.alloc (.cells #[.int .u8 97] 5 (1, 2))).alloc (.cells #[.int .u8 98] 5 (1, 2))) := by
    have := kc (W8.alloc (.cells #[.int .u8 97] 5 (1, 2))) #[.int .u8 98] 1 1
    rw [hz1] at this
    exact this
  clear hp8 hb9
  go_wp2_with (go_at_call 20; refine stop_here ?_)
  unfold Hid
  generalize hA1 : W8.alloc (.cells #[.int .u8 97] 5 (1, 2)) = A1 at *
  have hsl1 : Sl A1.heap.size A1 (.slice (some ⟨W8.heap.size, 0, none⟩) 1 1) exA.length (exA.map bv) := by rw [hz1]; exact hsl1
  have hbA : Below A1.heap.size A1 (A1.alloc (.cells #[.int .u8 98] 5 (1, 2))) := (Below.refl _ _).alloc (Nat.le_refl _) _
  have hsl2 := sl_cells A1 #[.int .u8 98] 5 1 (1, 2) (by omega)
  have hA2s : (A1.alloc (.cells #[.int .u8 98] 5 (1, 2))).heap.size = A1.heap.size + 1 := by simp
  have hpA := (hp9.keep hbA).mono hbA.size
  have hsl1 := (hsl1.keep hbA).mono hbA.size
  have hnA := nw_of_below hbA
  rw [hz1] at *
  clear hp9 hbA
  generalize A1.alloc (.cells #[.int .u8 98] 5 (1, 2)) = A2 at *
  have hsl2 : Sl A2.heap.size A2 (.slice (some ⟨W8.heap.size + 1, 0, none⟩) 1 1) exB2.length (exB2.map bv) := by rw [hA2s]; exact hsl2
  have hpt := parts_two (n := W8.heap.size + 1 + 1) 37 hsl1 hsl2 (Nat.le_refl _) (by decide) (by decide) hA2s
  have hbB : Below A2.heap.size A2 (A2.alloc (.cells #[.slice (some ⟨W8.heap.size, 0, none⟩) 1 1, .slice (some ⟨W8.heap.size + 1, 0, none⟩) 1 1] 37)) := (Below.refl _ _).alloc (Nat.le_refl _) _
  have hpB := (hpA.keep hbB).mono (show A2.heap.size ≤ W8.heap.size + 1 + 1 + 1 by omega)
  have hsB : W8.heap.size + 1 + 1 + 1 ≤ (A2.alloc (.cells #[.slice (some ⟨W8.heap.size, 0, none⟩) 1 1, .slice (some ⟨W8.heap.size + 1, 0, none⟩) 1 1] 37)).heap.size := by simp; omega
  have hnB : Nw W7 (A2.alloc (.cells #[.slice (some ⟨W8.heap.size, 0, none⟩) 1 1, .slice (some ⟨W8.heap.size + 1, 0, none⟩) 1 1] 37)) := ((hn8.trans hn9).trans hnA).trans (nw_of_below hbB)
  clear hbB hpA hsl1 hsl2
  generalize A2.alloc (.cells #[.slice (some ⟨W8.heap.size, 0, none⟩) 1 1, .slice (some ⟨W8.heap.size + 1, 0, none⟩) 1 1] 37) = A3 at *
  refine (c_same _ _ _ _ _ _ hpB hpt hsB (by decide) (by decide)).mono ?_
  rintro e A4 ⟨rfl, hnC⟩
  rw [decide_eq_true rfl]
  have hn4 := hnB.trans hnC
  have hD4 := hD7.keep hn4 (fun _ _ => id)
  have hnw4 := hnw7.trans hn4
  clear hnB hnC hD7 hpB hpt kc kc2
  go_wp2_with (go_at_call 21; refine stop_here ?_)
  unfold Hid
  refine (c_scan (f := 2) (gen := 2) _ hD4 (by decide) (by decide) hlen7).mono ?_
  rintro e A5 ⟨v5, rfl, hp5, hn5⟩
  rw [show D7.scan 2 2 = [] from hsc2] at hp5
  obtain ⟨ao5, cap5, rfl, -, -⟩ := hp5
  have hbE := below_of_nw (hnw4.trans hn5)
  clear hn5 hnw4 hn4
  simp only [List.length_nil]
  go_wp2
  go_ret
  exact ⟨rfl, hbE⟩
end Go.Proofs.Ytihdhlciblkbiaa
