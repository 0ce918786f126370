/-
  Branches in memory; a branch as it is made.
-/
import Derived.Test.YtnljfhjindenpabTreePAll
namespace Go.Proofs.Ytnljfhjindenpab
set_option linter.unusedVariables false
set_option linter.unusedSimpArgs false
set_option maxRecDepth 20000
open Go.RowKit

abbrev Bx := Nat × Nat × Nat
def brcell (x : Bx) : List Value := [.int .i64 (x.1 : Int), .int .i64 (x.2.1 : Int), pcell x.2.2]
def brcells (xs : List Bx) : List Value := xs.flatMap brcell

theorem brcells_append (a b : List Bx) : brcells (a ++ b) = brcells a ++ brcells b := by simp [brcells]
theorem brcells_one (x : Bx) : brcells [x] = brcell x := by simp [brcells]
theorem brcells_length (xs : List Bx) : (brcells xs).length = xs.length * 3 := by
  induction xs with
  | nil => rfl
  | cons e es ih => rw [brcells, List.flatMap_cons, List.length_append, ← brcells, ih]; simp [brcell]; omega

theorem brcells_get (xs : List Bx) (i : Nat) (h : i < xs.length) : (brcells xs)[i * 3]? = some (.int .i64 (xs[i].1 : Int)) ∧ (brcells xs)[i * 3 + 1]? = some (.int .i64 (xs[i].2.1 : Int)) ∧ (brcells xs)[i * 3 + 2]? = some (pcell xs[i].2.2) := by
  have e : xs = xs.take i ++ xs[i] :: xs.drop (i + 1) := by simp
  have e2 : brcells xs = brcells (xs.take i) ++ (brcell xs[i] ++ brcells (xs.drop (i + 1))) := by
    conv => lhs; rw [e]
    rw [brcells_append, show xs[i] :: xs.drop (i + 1) = [xs[i]] ++ xs.drop (i + 1) from rfl, brcells_append, brcells_one]
  have hl : (brcells (xs.take i)).length = i * 3 := by rw [brcells_length, List.length_take, Nat.min_eq_left (by omega)]
  rw [e2]
  refine ⟨?_, ?_, ?_⟩
  · rw [List.getElem?_append_right (by omega), hl]; simp [brcell]
  · rw [List.getElem?_append_right (by omega), hl]; simp [brcell]
  · rw [List.getElem?_append_right (by omega), hl]; simp [brcell]

/-- Branches that a slice holds. -/
def Bs (w : World) (v : Value) (xs : List Bx) : Prop := Hs w v xs.length (brcells xs)

theorem Bs.get {w : World} {ao : Option Addr} {n cap : Nat} {xs : List Bx} (h : Bs w (.slice ao n cap) xs) {i : Nat} (hi : i < xs.length) :
    ∃ b off, ao = some ⟨b, off, none⟩ ∧ w.cell? ⟨b, off + i * 3, none⟩ = some (.int .i64 (xs[i].1 : Int)) ∧ w.cell? ⟨b, off + i * 3 + 1, none⟩ = some (.int .i64 (xs[i].2.1 : Int)) ∧ w.cell? ⟨b, off + i * 3 + 2, none⟩ = some (.pointer (some ⟨xs[i].2.2, 0, none⟩)) := by
  obtain ⟨t1, t2, t3⟩ := brcells_get xs i hi
  obtain ⟨b, off, e1, c1⟩ := Hs.get h t1
  obtain ⟨b2, off2, e2, c2⟩ := Hs.get h t2
  obtain ⟨b3, off3, e3, c3⟩ := Hs.get h t3
  rw [e1] at e2 e3
  simp only [Option.some.injEq, Addr.mk.injEq, and_true] at e2 e3
  obtain ⟨rfl, rfl⟩ := e2
  obtain ⟨rfl, rfl⟩ := e3
  exact ⟨b, off, e1, c1, by rw [Nat.add_assoc]; exact c2, by rw [Nat.add_assoc]; exact c3⟩

/-- A row is no block of another type. -/
theorem row_ne {w : World} {base e s n : Nat} {v : Value} {xs : List Value} (h : w.ownsRow base e s v n xs) {k t : Nat} {C : Array Value} {fr : Nat × Nat} (hk : w.heap[k]? = some (.cells C t fr)) (ht : e ≠ t) : v.ownBlock ≠ some k := by
  intro hv
  rcases h.2 with ⟨rfl, _⟩ | ⟨g, cap, cur, rfl, hb, hg, _⟩
  · simp [Value.ownBlock] at hv
  · simp [Value.ownBlock] at hv
    subst hv
    rw [hg] at hk
    simp only [Option.some.injEq, Obj.cells.injEq] at hk
    exact ht hk.2.1

theorem owns_base {w : World} {base base' e s n : Nat} {v : Value} {xs : List Value} (h : w.ownsRow base e s v n xs) (hb : base' ≤ base) : w.ownsRow base' e s v n xs := by
  refine ⟨h.1, ?_⟩
  rcases h.2 with h1 | ⟨g, cap, cur, rfl, hg, h2⟩
  · exact .inl h1
  · exact .inr ⟨g, cap, cur, rfl, Nat.le_trans hb hg, h2⟩

/-- A block that holds no branches. -/
def TX (w : World) (b : Nat) : Prop := ∀ C fr, w.heap[b]? ≠ some (.cells C 119 fr)

theorem slp_tx {w : World} {base e s n : Nat} {v : Value} {xs : List Value} (h : w.ownsRow base e s v n xs) (he : e ≠ 119) : Slp (TX w) w v n xs :=
  slp_of_own h (fun b hb _ C fr hc => row_ne h hc he hb)

/-- A node in memory none of whose lists lies among branches. -/
def NX (w : World) : (n : Nat) → Tr n → Nat → Prop
  | 0, t, b => ∃ kv vv sv, Nd w b kv vv sv ∧ Slp (TX w) w kv (t.map (·.1)).length ((t.map (·.1)).map kcell) ∧ Slp (TX w) w vv (t.map (·.2)).length (ecells (t.map (·.2))) ∧ Slp (TX w) w sv 0 []
  | n + 1, t, b => ∃ kv vv sv bs, Nd w b kv vv sv ∧ Slp (TX w) w kv t.1.length (t.1.map kcell) ∧ Slp (TX w) w vv 0 [] ∧ Slp (TX w) w sv bs.length (bs.map pcell) ∧ Kids (NX w n) t.2 bs

theorem nx_nat {w : World} : ∀ {n : Nat} {t : Tr n} {b : Nat}, NX w n t b → NAt w n t b
  | 0, t, b, ⟨kv, vv, sv, h1, h2, h3, h4⟩ => ⟨kv, vv, sv, h1, h2.hs, h3.hs, h4.hs⟩
  | n + 1, t, b, ⟨kv, vv, sv, bs, h1, h2, h3, h4, h5⟩ => ⟨kv, vv, sv, bs, h1, h2.hs, h3.hs, h4.hs, kids_mono (fun _ _ h => nx_nat h) h5⟩

/-- It stays where all but branches stays. -/
theorem NX.stay {w w' : World} (hw : ∀ b, TX w b → b < w.heap.size → w'.heap[b]? = w.heap[b]?) : ∀ {n : Nat} {t : Tr n} {b : Nat}, NX w n t b → NX w' n t b := by
  have hX : ∀ b, TX w b → b < w.heap.size → TX w' b ∧ w'.heap[b]? = w.heap[b]? := fun b hb hlt => ⟨fun C fr => by rw [hw b hb hlt]; exact hb C fr, hw b hb hlt⟩
  have hN : ∀ {b : Nat} {kv vv sv : Value}, Nd w b kv vv sv → Nd w' b kv vv sv := fun {b kv vv sv} h => by
    refine (hw b (fun C fr hc => ?_) (heap_lt h)).trans h
    unfold Nd at h
    rw [h] at hc
    simp only [Option.some.injEq, Obj.cells.injEq] at hc
    exact absurd hc.2.1 (by decide)
  intro n
  induction n with
  | zero =>
    rintro t b ⟨kv, vv, sv, h1, h2, h3, h4⟩
    exact ⟨kv, vv, sv, hN h1, h2.stay hX, h3.stay hX, h4.stay hX⟩
  | succ n ih =>
    rintro t b ⟨kv, vv, sv, bs, h1, h2, h3, h4, h5⟩
    exact ⟨kv, vv, sv, bs, hN h1, h2.stay hX, h3.stay hX, h4.stay hX, kids_mono (fun _ _ h => ih h) h5⟩

/-- A branch that is being made: its block, its node's block, the rows. -/
structure BI (w1 wr : World) (g' g : Nat) (num H : Int) (ks : List Int) (es : List Ext) (kv vv sv : Value) (ps : List Nat) : Prop where
  nw : Nw w1 wr
  bb : wr.heap[g']? = some (.cells #[.int .i64 num, .int .i64 H, .pointer (some ⟨g, 0, none⟩)] 119 (0, 0))
  nd : Nd wr g kv vv sv
  rk : wr.ownsRow w1.heap.size 27 1 kv ks.length (ks.map kcell)
  re : wr.ownsRow w1.heap.size 58 2 vv es.length (ecells es)
  rp : wr.ownsRow w1.heap.size 78 1 sv ps.length (ps.map pcell)
  lb : w1.heap.size ≤ g'
  lg : w1.heap.size ≤ g

theorem BI.stay {w1 wr w2 : World} {g' g : Nat} {num H : Int} {ks : List Int} {es : List Ext} {kv vv sv : Value} {ps : List Nat} (h : BI w1 wr g' g num H ks es kv vv sv ps) (hw : Nw wr w2) : BI w1 w2 g' g num H ks es kv vv sv ps :=
  ⟨nw_trans h.nw hw, hw.blk h.bb, hw.blk h.nd, owns_of_block h.rk (fun k hk => hw.block k (h.rk.lt k hk).2 id), owns_of_block h.re (fun k hk => hw.block k (h.re.lt k hk).2 id), owns_of_block h.rp (fun k hk => hw.block k (h.rp.lt k hk).2 id), h.lb, h.lg⟩

theorem BI.ne {w1 wr : World} {g' g : Nat} {num H : Int} {ks : List Int} {es : List Ext} {kv vv sv : Value} {ps : List Nat} (h : BI w1 wr g' g num H ks es kv vv sv ps) : g ≠ g' := by
  intro e
  have h1 := h.nd
  have h2 := h.bb
  rw [← e] at h2
  unfold Nd at h1
  rw [h1] at h2
  simp only [Option.some.injEq, Obj.cells.injEq] at h2
  exact absurd h2.2.1 (by decide)

theorem BI.height {w1 wr : World} {g' g : Nat} {num H : Int} {ks : List Int} {es : List Ext} {kv vv sv : Value} {ps : List Nat} (h : BI w1 wr g' g num H ks es kv vv sv ps) (H' : Int) : BI w1 (wr.setCell ⟨g', 1, none⟩ (.int .i64 H')) g' g num H' ks es kv vv sv ps := by
  have hf : Fr (fun k => k = g') wr (wr.setCell ⟨g', 1, none⟩ (.int .i64 H')) := (Fr.refl (fun k => k = g') wr).setCell (p := ⟨g', 1, none⟩) (.inl rfl) _
  have hr : ∀ {e s n : Nat} {v : Value} {xs : List Value}, wr.ownsRow w1.heap.size e s v n xs → e ≠ 119 → (wr.setCell ⟨g', 1, none⟩ (.int .i64 H')).ownsRow w1.heap.size e s v n xs := fun hr he => owns_of_block hr (fun k hk => hf.block k (hr.lt k hk).2 (fun e => row_ne hr h.bb he (e ▸ hk)))
  refine ⟨Fr.trans h.nw hf (fun k hk => .inr (by rw [hk]; exact h.lb)), ?_, ?_, hr h.rk (by decide), hr h.re (by decide), hr h.rp (by decide), h.lb, h.lg⟩
  · rw [blk_setCell h.bb]; rfl
  · exact (hf.block g (heap_lt h.nd) h.ne).trans h.nd

theorem BI.kid {w1 wr w9 : World} {g' g q : Nat} {num H : Int} {ks : List Int} {es : List Ext} {kv vv sv v9 : Value} {ps : List Nat} (h : BI w1 wr g' g num H ks es kv vv sv ps) {o : Obj} (hg : (wr.alloc o).grownBy w9 sv.ownBlock) (hr9 : w9.ownsRow w1.heap.size 78 1 v9 (ps.length + 1) (ps.map pcell ++ [pcell q])) :
    BI w1 (w9.setCell ⟨g, 2, none⟩ v9) g' g num H ks es kv vv v9 (ps ++ [q]) ∧ w9.heap[g']? = wr.heap[g']? ∧ w9.heap[g]? = wr.heap[g]? ∧ Nw w1 w9 := by
  have hf : Fr (fun k => sv.ownBlock = some k) wr w9 := Fr.grown (Fr.alloc (Fr.refl _ wr) _) hg (fun k hk => .inl hk)
  have hn9 : Nw w1 w9 := Fr.trans h.nw hf (fun k hk => .inr (h.rp.lt k hk).1)
  have b1 : w9.heap[g']? = wr.heap[g']? := hf.block g' (heap_lt h.bb) (row_ne h.rp h.bb (by decide))
  have b2 : w9.heap[g]? = wr.heap[g]? := hf.block g (heap_lt h.nd) (row_ne h.rp h.nd (by decide))
  have hnd : w9.heap[g]? = some (.cells #[kv, vv, sv] 95 (0, 0)) := b2.trans h.nd
  have hf2 : Fr (fun k => k = g) w9 (w9.setCell ⟨g, 2, none⟩ v9) := (Fr.refl (fun k => k = g) w9).setCell (p := ⟨g, 2, none⟩) (.inl rfl) _
  have hr : ∀ {e s n : Nat} {v : Value} {xs : List Value}, w9.ownsRow w1.heap.size e s v n xs → e ≠ 95 → (w9.setCell ⟨g, 2, none⟩ v9).ownsRow w1.heap.size e s v n xs := fun hr he => owns_of_block hr (fun k hk => hf2.block k (hr.lt k hk).2 (fun e => row_ne hr hnd he (e ▸ hk)))
  have hr0 : ∀ {e s n : Nat} {v : Value} {xs : List Value}, wr.ownsRow w1.heap.size e s v n xs → 78 ≠ e → w9.ownsRow w1.heap.size e s v n xs := fun hr he => owns_of_block hr (fun k hk => hf.block k (hr.lt k hk).2 (fun e => rows_apart h.rp hr he k e hk))
  refine ⟨⟨Fr.trans hn9 hf2 (fun k hk => .inr (by rw [hk]; exact h.lg)), ?_, ?_, hr (hr0 h.rk (by decide)) (by decide), hr (hr0 h.re (by decide)) (by decide), ?_, h.lb, h.lg⟩, b1, b2, hn9⟩
  · exact (hf2.block g' (heap_lt (b1.trans h.bb)) (fun e => h.ne e.symm)).trans (b1.trans h.bb)
  · unfold Nd
    rw [blk_setCell hnd]
    rfl
  · rw [List.length_append, List.map_append]
    exact hr hr9 (by decide)
end Go.Proofs.Ytnljfhjindenpab
