/-
  A disk, plainly, and how it lies in memory; frames. It names no function of the program.
-/
import Derived.Test.YtihdhlciblkbiaaLibSec
import Derived.Deep.MidRow
import Derived.Laws.CopyOwn
import Derived.Laws.ResultCell
namespace Go.Proofs.Ytihdhlciblkbiaa
set_option linter.unusedVariables false
set_option linter.unusedSimpArgs false
set_option maxRecDepth 20000
open Go.RowKit

/-- A disk, plainly. -/
structure Dk where
  st : List (List UInt8)
  pd : List (Nat × List UInt8)
  left : Int
  dead : Bool

/-- What is right of a disk. -/
structure Dk.Ok (D : Dk) : Prop where
  sec : ∀ s ∈ D.st, s.length = 128
  wr : ∀ p ∈ D.pd, p.1 < D.st.length ∧ p.2.length = 128
  n : D.st.length ≤ 1024
  lo : -9223372036854775808 ≤ D.left
  hi : D.left ≤ 9223372036854775807

/-- The cells of sectors. -/
def flat (st : List (List UInt8)) : List Value := (st.map fun s => s.map bv).flatten
/-- The cells of a pending write. -/
def wcell (p : Nat × List UInt8) : List Value := Value.int .i64 (p.1 : Int) :: p.2.map bv
def pcells (pd : List (Nat × List UInt8)) : List Value := (pd.map wcell).flatten
/-- A sector as a value. -/
def wrv (p : Nat × List UInt8) : Value := .agg (wcell p).toArray

theorem flat_length {st : List (List UInt8)} (h : ∀ s ∈ st, s.length = 128) : (flat st).length = st.length * 128 := by
  unfold flat
  induction st with
  | nil => rfl
  | cons s st ih =>
    simp only [List.map_cons, List.flatten_cons, List.length_append, List.length_map, List.length_cons, h s List.mem_cons_self, ih (fun t ht => h t (List.mem_cons_of_mem _ ht))]
    omega

theorem pcells_length {pd : List (Nat × List UInt8)} (h : ∀ p ∈ pd, p.2.length = 128) : (pcells pd).length = pd.length * 129 := by
  unfold pcells
  induction pd with
  | nil => rfl
  | cons s st ih =>
    simp only [List.map_cons, List.flatten_cons, List.length_append, wcell, List.length_map, List.length_cons, h s List.mem_cons_self, ih (fun t ht => h t (List.mem_cons_of_mem _ ht))]
    omega

theorem wcell_length {p : Nat × List UInt8} (h : p.2.length = 128) : (wcell p).length = 129 := by simp [wcell, h]

theorem flatten_get {α : Type} (m : Nat) : ∀ (L : List (List α)), (∀ s ∈ L, s.length = m) → ∀ i j (hi : i < L.length), j < m → L.flatten[i * m + j]? = L[i][j]?
  | [], _, i, j, hi, _ => by simp at hi
  | s :: L, h, i, j, hi, hj => by
    have hs := h s List.mem_cons_self
    cases i with
    | zero => simp [List.getElem?_append_left (show j < s.length by omega)]
    | succ i =>
      have ih := flatten_get m L (fun t ht => h t (List.mem_cons_of_mem _ ht)) i j (by simpa using hi) hj
      rw [List.flatten_cons, List.getElem?_append_right (by rw [hs, Nat.succ_mul]; omega), hs]
      rw [show (i + 1) * m + j - m = i * m + j by rw [Nat.succ_mul]; omega, ih]
      simp

theorem flatten_set {α : Type} (m : Nat) : ∀ (L : List (List α)), (∀ s ∈ L, s.length = m) → ∀ i (t : List α), i < L.length → t.length = m → splice L.flatten (i * m) t = (L.set i t).flatten
  | [], _, i, t, hi, _ => by simp at hi
  | s :: L, h, i, t, hi, ht => by
    have hs := h s List.mem_cons_self
    cases i with
    | zero =>
      simp only [splice, Nat.zero_mul, List.take_zero, List.nil_append, Nat.zero_add, List.flatten_cons, List.set_cons_zero]
      rw [List.drop_append_of_le_length (by omega), ht, ← hs]
      simp
    | succ i =>
      have ih := flatten_set m L (fun u hu => h u (List.mem_cons_of_mem _ hu)) i t (by simpa using hi) ht
      simp only [List.set_cons_succ, List.flatten_cons]
      rw [← ih]
      unfold splice
      rw [List.take_append, List.take_of_length_le (by rw [hs, Nat.succ_mul]; omega), List.drop_append, List.drop_eq_nil_of_le (by rw [hs, Nat.succ_mul]; omega), hs]
      rw [show (i + 1) * m - m = i * m by rw [Nat.succ_mul]; omega, show (i + 1) * m + t.length - m = i * m + t.length by rw [Nat.succ_mul]; omega]
      simp

theorem splice_part (s t : List UInt8) (L A B : List Value) (o n : Nat) (hs : s.length = 128) (hn : n ≤ 128) (ht : t.length = 128) (hL : L = A ++ s.map bv ++ B) (ho : A.length = o) :
    splice L o ((t.take n).map bv) = splice L o ((lay s t n).map bv) := by
  subst hL
  subst ho
  unfold splice lay
  simp only [List.append_assoc, List.take_left, List.map_append, List.length_append, List.length_map, List.length_take, List.length_drop, ht, hs, Nat.min_eq_left hn]
  congr 1
  congr 1
  have e1 : List.drop (A.length + n) (A ++ (List.map bv s ++ B)) = List.drop n (List.map bv s ++ B) := by rw [← List.drop_drop, List.drop_left]
  have e2 : List.drop (A.length + (n + (128 - n))) (A ++ (List.map bv s ++ B)) = List.drop (n + (128 - n)) (List.map bv s ++ B) := by rw [← List.drop_drop, List.drop_left]
  rw [e1, e2, show n + (128 - n) = (List.map bv s).length by simp [hs]; omega, List.drop_left, List.drop_append_of_le_length (by simp; omega), List.map_drop]

theorem flat_parts {st : List (List UInt8)} (h : ∀ s ∈ st, s.length = 128) (i : Nat) (hi : i < st.length) : ∃ A B, flat st = A ++ st[i].map bv ++ B ∧ A.length = i * 128 := by
  refine ⟨flat (st.take i), flat (st.drop (i + 1)), ?_, ?_⟩
  · have e : st = st.take i ++ st[i] :: st.drop (i + 1) := by simp
    have e2 : flat st = flat (st.take i ++ st[i] :: st.drop (i + 1)) := congrArg flat e
    rw [e2]
    simp only [flat, List.map_append, List.map_cons, List.flatten_append, List.flatten_cons, List.append_assoc]
  · rw [flat_length (fun s hs => h s (List.mem_of_mem_take hs))]
    rw [List.length_take, Nat.min_eq_left (by omega)]

theorem flat_set {st : List (List UInt8)} (h : ∀ s ∈ st, s.length = 128) (i : Nat) (hi : i < st.length) (t : List UInt8) (ht : t.length = 128) : splice (flat st) (i * 128) (t.map bv) = flat (st.set i t) := by
  unfold flat
  rw [List.map_set]
  exact flatten_set 128 _ (fun s hs => by obtain ⟨u, hu, rfl⟩ := List.mem_map.1 hs; simpa using h u hu) i _ (by simpa using hi) (by simpa using ht)

/-- What is behind a crash, of n bytes of a write. -/
theorem flat_lay {st : List (List UInt8)} (h : ∀ s ∈ st, s.length = 128) (i : Nat) (hi : i < st.length) (t : List UInt8) (ht : t.length = 128) (n : Nat) (hn : n ≤ 128) :
    splice (flat st) (i * 128) ((t.take n).map bv) = flat (st.set i (lay st[i] t n)) := by
  obtain ⟨A, B, hL, hA⟩ := flat_parts h i hi
  rw [splice_part st[i] t _ A B _ n (h _ (List.getElem_mem hi)) hn ht hL hA]
  exact flat_set h i hi _ (lay_length (h _ (List.getElem_mem hi)) ht hn)

theorem flat_get {st : List (List UInt8)} (h : ∀ s ∈ st, s.length = 128) (i : Nat) (hi : i < st.length) (j : Nat) (hj : j < 128) : (flat st)[i * 128 + j]? = (st[i].map bv)[j]? := by
  unfold flat
  rw [flatten_get 128 _ (fun s hs => by obtain ⟨u, hu, rfl⟩ := List.mem_map.1 hs; simpa using h u hu) i j (by simpa using hi) hj]
  simp

theorem pcells_get {pd : List (Nat × List UInt8)} (h : ∀ p ∈ pd, p.2.length = 128) (i : Nat) (hi : i < pd.length) (j : Nat) (hj : j < 129) : (pcells pd)[i * 129 + j]? = (wcell pd[i])[j]? := by
  unfold pcells
  rw [flatten_get 129 _ (fun s hs => by obtain ⟨u, hu, rfl⟩ := List.mem_map.1 hs; exact wcell_length (h u hu)) i j (by simpa using hi) hj]
  simp

theorem pcells_snoc (pd : List (Nat × List UInt8)) (p : Nat × List UInt8) : pcells (pd ++ [p]) = pcells pd ++ wcell p := by simp [pcells]

theorem wcell_oneCell (p : Nat × List UInt8) : ∀ u ∈ wcell p, u.oneCell' = true := by
  intro u hu
  rcases List.mem_cons.1 hu with rfl | hu
  · rfl
  · exact bv_oneCell _ u hu

/-! ### The disk in memory -/
structure DiskG (base : Nat) (w : World) (b g : Nat) (vp : Value) (D : Dk) : Prop where
  obj : w.heap[b]? = some (.cells #[.slice (some ⟨g, 0, none⟩) D.st.length D.st.length, vp, .int .i64 D.left, .bool D.dead] 67 (0, 0))
  st : w.heap[g]? = some (.cells (flat D.st).toArray 55 (0, 0))
  pd : w.ownsRow base 86 129 vp D.pd.length (pcells D.pd)
  nbg : b ≠ g
  nb : vp.ownBlock ≠ some b
  ng : vp.ownBlock ≠ some g
  bb : base ≤ b
  bg : base ≤ g
  ok : D.Ok

/-- The blocks of a disk. -/
def Own (b g : Nat) (vp : Value) (k : Nat) : Prop := k = b ∨ k = g ∨ vp.ownBlock = some k

/-- The disk D lies at block b, in blocks of S alone, none below base. -/
def DiskAt (base : Nat) (w : World) (b : Nat) (S : Nat → Prop) (D : Dk) : Prop := ∃ g vp, DiskG base w b g vp D ∧ ∀ k, S k ↔ Own b g vp k

theorem DiskG.own_ge {base : Nat} {w : World} {b g : Nat} {vp : Value} {D : Dk} (h : DiskG base w b g vp D) : ∀ k, Own b g vp k → base ≤ k ∧ k < w.heap.size := by
  rintro k (rfl | rfl | hk)
  · exact ⟨h.bb, heap_lt h.obj⟩
  · exact ⟨h.bg, heap_lt h.st⟩
  · exact h.pd.lt k hk

theorem DiskAt.ge {base : Nat} {w : World} {b : Nat} {S : Nat → Prop} {D : Dk} (h : DiskAt base w b S D) : ∀ k, S k → base ≤ k ∧ k < w.heap.size := by
  obtain ⟨g, vp, h, hS⟩ := h
  intro k hk
  exact h.own_ge k ((hS k).1 hk)

theorem DiskG.keep {base : Nat} {w w' : World} {b g : Nat} {vp : Value} {D : Dk} (h : DiskG base w b g vp D) {T : Nat → Prop} (hf : Fr T w w') (hT : ∀ k, Own b g vp k → ¬ T k) : DiskG base w' b g vp D := by
  have hk : ∀ k, Own b g vp k → w'.heap[k]? = w.heap[k]? := fun k hk => hf.block k (h.own_ge k hk).2 (hT k hk)
  exact ⟨(hk b (.inl rfl)).trans h.obj, (hk g (.inr (.inl rfl))).trans h.st, owns_of_block h.pd (fun k e => hk k (.inr (.inr e))), h.nbg, h.nb, h.ng, h.bb, h.bg, h.ok⟩

theorem DiskAt.keep {base : Nat} {w w' : World} {b : Nat} {S : Nat → Prop} {D : Dk} (h : DiskAt base w b S D) {T : Nat → Prop} (hf : Fr T w w') (hT : ∀ k, S k → ¬ T k) : DiskAt base w' b S D := by
  obtain ⟨g, vp, h, hS⟩ := h
  exact ⟨g, vp, h.keep hf (fun k hk => hT k ((hS k).2 hk)), hS⟩

theorem DiskAt.ok {base : Nat} {w : World} {b : Nat} {S : Nat → Prop} {D : Dk} (h : DiskAt base w b S D) : D.Ok := by
  obtain ⟨g, vp, h, hS⟩ := h
  exact h.ok

theorem DiskG.cells {base : Nat} {w : World} {b g : Nat} {vp : Value} {D : Dk} (h : DiskG base w b g vp D) :
    w.cell? ⟨b, 0, none⟩ = some (.slice (some ⟨g, 0, none⟩) D.st.length D.st.length) ∧ w.cell? ⟨b, 1, none⟩ = some vp ∧ w.cell? ⟨b, 2, none⟩ = some (.int .i64 D.left) ∧ w.cell? ⟨b, 3, none⟩ = some (.bool D.dead) ∧
    (∀ i, w.frozen? ⟨b, i, none⟩ = false) :=
  ⟨cell_blk h.obj rfl, cell_blk h.obj rfl, cell_blk h.obj rfl, cell_blk h.obj rfl, fun _ => free_blk h.obj⟩

/-- A field of the disk's object written. -/
theorem DiskG.write {base : Nat} {w : World} {b g : Nat} {vp : Value} {D : Dk} (h : DiskG base w b g vp D) (D' : Dk) (i : Nat) (v : Value) (hst : D'.st = D.st) (hpd : D'.pd = D.pd)
    (hc : (#[.slice (some ⟨g, 0, none⟩) D.st.length D.st.length, vp, .int .i64 D.left, .bool D.dead] : Array Value).setIfInBounds i v = #[.slice (some ⟨g, 0, none⟩) D.st.length D.st.length, vp, .int .i64 D'.left, .bool D'.dead])
    (h1 : -9223372036854775808 ≤ D'.left) (h2 : D'.left ≤ 9223372036854775807) : DiskG base (w.setCell ⟨b, i, none⟩ v) b g vp D' := by
  have hf : Fr (fun k => k = b) w (w.setCell ⟨b, i, none⟩ v) := (Fr.refl (fun k => k = b) w).setCell (p := ⟨b, i, none⟩) (.inl rfl) v
  refine ⟨?_, ?_, ?_, h.nbg, h.nb, h.ng, h.bb, h.bg, ⟨by rw [hst]; exact h.ok.sec, by rw [hst, hpd]; exact h.ok.wr, by rw [hst]; exact h.ok.n, h1, h2⟩⟩
  · rw [blk_setCell h.obj, hc, hst]
  · rw [hf.block g (heap_lt h.st) (fun e => h.nbg e.symm), hst]; exact h.st
  · rw [hpd]; exact owns_of_block h.pd (fun k e => hf.block k (h.pd.lt k e).2 (fun e' => by subst e'; exact h.nb e))

theorem diskAt_of {base : Nat} {w : World} {b g : Nat} {vp : Value} {D : Dk} (h : DiskG base w b g vp D) : DiskAt base w b (Own b g vp) D := ⟨g, vp, h, fun _ => Iff.rfl⟩
end Go.Proofs.Ytihdhlciblkbiaa
