/-
  A row of branches that is cut, and grows again.
-/
import Derived.Test.YtnljfhjindenpabTreeP7
namespace Go.Proofs.Ytnljfhjindenpab
set_option linter.unusedVariables false
set_option linter.unusedSimpArgs false
set_option maxRecDepth 20000
open Go.RowKit

/-- The first ones of a row of one's own are a row of one's own. -/
theorem owns_prefix {w : World} {base e s n r cap : Nat} {ao : Option Addr} {xs : List Value} (h : w.ownsRow base e s (.slice ao n cap) n xs) (hr : r ≤ n) : w.ownsRow base e s (.slice ao r cap) r (xs.take (r * s)) := by
  obtain ⟨h1, h2⟩ := h
  have hrs : r * s ≤ n * s := Nat.mul_le_mul_right s hr
  refine ⟨by rw [List.length_take, h1]; omega, ?_⟩
  rcases h2 with ⟨hv, hn⟩ | ⟨g, cap', cur, hv, hb, hg, hnc, hcm, hcs, ht⟩
  · simp only [Value.slice.injEq] at hv
    obtain ⟨rfl, rfl, rfl⟩ := hv
    have : r = 0 := by omega
    subst this
    exact .inl ⟨rfl, rfl⟩
  · simp only [Value.slice.injEq] at hv
    obtain ⟨rfl, _, rfl⟩ := hv
    refine .inr ⟨g, cap, cur, rfl, hb, hg, by omega, hcm, hcs, ?_⟩
    first
      | (rw [← ht, List.take_take, Nat.min_eq_left hrs])
      | (rw [← ht]; simp [List.take_take, Nat.min_eq_left hrs])

theorem brcells_take (xs : List Bx) : ∀ i, (brcells xs).take (i * 3) = brcells (xs.take i) := by
  induction xs with
  | nil => intro i; simp [brcells]
  | cons x xs ih =>
    intro i
    cases i with
    | zero => simp [brcells]
    | succ i =>
      have h1 : brcells (x :: xs) = brcell x ++ brcells xs := by simp [brcells]
      have h2 : brcells ((x :: xs).take (i + 1)) = brcell x ++ brcells (xs.take i) := by simp [brcells]
      rw [h1, h2, List.take_append, List.take_of_length_le (by simp [brcell]; omega), show (i + 1) * 3 - (brcell x).length = i * 3 by simp [brcell]; omega, ih]

theorem brcells_drop (xs : List Bx) : ∀ i, (brcells xs).drop (i * 3) = brcells (xs.drop i) := by
  induction xs with
  | nil => intro i; simp [brcells]
  | cons x xs ih =>
    intro i
    cases i with
    | zero => simp [brcells]
    | succ i =>
      have h1 : brcells (x :: xs) = brcell x ++ brcells xs := by simp [brcells]
      rw [h1, List.drop_append, List.drop_eq_nil_of_le (by simp [brcell]; omega), show (i + 1) * 3 - (brcell x).length = i * 3 by simp [brcell]; omega, ih]
      simp

theorem Bs.cut {w : World} {ao : Option Addr} {n cap : Nat} {xs : List Bx} (h : Bs w (.slice ao n cap) xs) (l r : Nat) (hlr : l ≤ r) (hrn : r ≤ xs.length) : Bs w (sliced ao l r cap 3) ((xs.drop l).take (r - l)) := by
  have hn : n = xs.length := by obtain ⟨_, _, hv, _⟩ := h; simp only [Value.slice.injEq] at hv; exact hv.2.1
  subst hn
  have := Hs.cut h 3 l r (by decide) (by rw [brcells_length]) hlr hrn
  unfold Bs
  rw [show ((xs.drop l).take (r - l)).length = r - l by simp; omega]
  rwa [brcells_drop, brcells_take] at this

/-- A row of branches of one's own, each with its tree. -/
structure BR (W w : World) (v : Value) (st : List Br) (xs : List Bx) : Prop where
  nw : Nw W w
  row : w.ownsRow W.heap.size 119 3 v xs.length (brcells xs)
  all : BAll w xs st

theorem BR.nil (W w : World) (h : Nw W w) : BR W w (.slice none 0 0) [] [] := ⟨h, World.ownsRow_nil _ _ _ _, trivial⟩

theorem BR.stay {W w w' : World} {v : Value} {st : List Br} {xs : List Bx} (h : BR W w v st xs) (hw : Nw w w') : BR W w' v st xs :=
  ⟨nw_trans h.nw hw, owns_of_block h.row (fun k hk => hw.block k (h.row.lt k hk).2 id), h.all.stay (fun b _ hlt => hw.block b hlt id)⟩

/-- The last ones give way to one. -/
theorem BR.put {W w w' : World} {ao : Option Addr} {cap r : Nat} {v' : Value} {st : List Br} {xs : List Bx} {x : Bx} {b : Br} {o : Obj} (h : BR W w (.slice ao xs.length cap) st xs) (hr : r ≤ xs.length) (hx : x.1 = b.1 ∧ x.2.1 = b.2.1 ∧ NX w b.2.1 b.2.2 x.2.2)
    (hg : (w.alloc o).grownBy w' (Value.ownBlock (.slice ao r cap))) (hr' : w'.ownsRow W.heap.size 119 3 v' (r + 1) (brcells (xs.take r) ++ brcell x)) : BR W w' v' (st.take r ++ [b]) (xs.take r ++ [x]) := by
  have hrow := owns_prefix h.row hr
  have hf : Fr (fun k => Value.ownBlock (.slice ao r cap) = some k) w w' := Fr.grown (Fr.alloc (Fr.refl _ w) _) hg (fun k hk => .inl hk)
  have hst : ∀ b, TX w b → b < w.heap.size → w'.heap[b]? = w.heap[b]? := fun b hb hlt => hf.block b hlt (fun hk => by
    rcases hrow.2 with ⟨e, _⟩ | ⟨g, cap', cur, e, _, hgb, _⟩
    · rw [e] at hk; simp [Value.ownBlock] at hk
    · rw [e] at hk
      simp [Value.ownBlock] at hk
      subst hk
      exact hb _ _ hgb)
  refine ⟨Fr.trans h.nw hf (fun k hk => .inr (hrow.lt k hk).1), ?_, BAll.snoc ⟨hx.1, hx.2.1, NX.stay hst hx.2.2⟩ ((h.all.take r).stay hst)⟩
  rw [List.length_append, List.length_take, Nat.min_eq_left hr, brcells_append, brcells_one]
  exact hr'
end Go.Proofs.Ytnljfhjindenpab
