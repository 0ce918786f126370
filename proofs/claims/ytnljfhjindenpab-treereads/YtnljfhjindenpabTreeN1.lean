/-
  Nodes that are told, plainly: their form, what reading them says. It names nothing of the program.
-/
import Derived.Test.YtnljfhjindenpabTreeW16
namespace Go.Proofs.Ytnljfhjindenpab
set_option linter.unusedVariables false
set_option linter.unusedSimpArgs false
set_option maxRecDepth 20000

/-- The form of a node. -/
abbrev Form (nd : Nv) (root : Bool) : Prop :=
  nd.1.length ≤ 7 ∧ (root = true ∨ 3 ≤ nd.1.length) ∧ Rise nd.1 ∧ ((nd.2.2.length = 0 ∧ nd.2.1.length = nd.1.length) ∨ (nd.2.2.length ≠ 0 ∧ nd.2.1.length = 0 ∧ nd.2.2.length = nd.1.length + 1 ∧ 1 < nd.2.2.length))

theorem rise_one (ks : List Int) : Rise (ks.take 1) := by
  cases ks with
  | nil => exact List.Pairwise.nil
  | cons k ks => simp [Rise]

theorem rise_next {ks : List Int} {i : Nat} (h0 : 0 < i) (h : i < ks.length) (hr : Rise (ks.take i)) (hk : ks[i - 1] < ks[i]) : Rise (ks.take (i + 1)) := by
  rw [List.take_succ_eq_append_getElem h]
  refine List.pairwise_append.2 ⟨hr, List.pairwise_singleton _ _, fun x hx y hy => ?_⟩
  have hy' : y = ks[i] := by simpa using hy
  subst hy'
  obtain ⟨j, hj, rfl⟩ := List.mem_take_iff_getElem.1 hx
  by_cases hji : j = i - 1
  · subst hji; exact hk
  · have := List.pairwise_iff_getElem.1 hr j (i - 1) (by simp; omega) (by simp; omega) (by omega)
    simp at this
    omega

theorem rise_pair {ks : List Int} {i : Nat} (h0 : 0 < i) (h : i < ks.length) (hr : Rise ks) : ks[i - 1] < ks[i] := List.pairwise_iff_getElem.1 hr (i - 1) i (by omega) h (by omega)

/-- What stands ahead of the kid i, and behind it, of a node whose own bounds are a and b. -/
def lft (ks : List Int) (a : Int) (i : Nat) : Int := if 0 < i then ks.getD (i - 1) 0 else a
def rgt (ks : List Int) (b : Int) (i : Nat) : Int := if i < ks.length then ks.getD i 0 else b

/-- Are keys within those beside the kid i? -/
abbrev Ins (xs : List Int) (ks : List Int) (i : Nat) : Prop := ∀ k ∈ xs, ¬ ((0 < i ∧ k < ks.getD (i - 1) 0) ∨ (i < ks.length ∧ ks.getD i 0 ≤ k))

abbrev InsAll (l : List Nv) (ks : List Int) (i k n : Nat) : Prop := ∀ nd ∈ (l.drop k).take n, Ins nd.1 ks i

abbrev Rd := Nat × Int × List Pr

/-- What reading the kids says. -/
def rdK (l : List Nv) (rec : Nat → Option Rd) (ks : List Int) (p : Nat) : List Int → Nat → Nat → Int → List Pr → Option Rd
  | [], _, size, deep, pairs => some (size, deep + 1, pairs)
  | kid :: kids, i, size, deep, pairs =>
    if kid = ((p + size : Nat) : Int) then
      match rec (p + size) with
      | none => none
      | some (n, d, below) => if ¬ (0 ≤ deep ∧ d ≠ deep) ∧ InsAll l ks i (p + size) n then rdK l rec ks p kids (i + 1) (size + n) d (pairs ++ below) else none
    else none

/-- What reading the nodes from one on says: how many, how deep, the pairs. -/
def rd (l : List Nv) : Nat → Nat → Option Rd
  | 0, _ => none
  | f + 1, p =>
    match l[p]? with
    | none => none
    | some nd =>
      if Form nd (decide (p = 0)) then
        if nd.2.2.length = 0 then some (1, 0, nd.1.zip nd.2.1)
        else rdK l (rd l f) nd.1 p nd.2.2 0 1 (-1) []
      else none

theorem rdK_bound {l : List Nv} {rec : Nat → Option Rd} {ks : List Int} {p : Nat} (hr : ∀ q x, rec q = some x → q + x.1 ≤ l.length ∧ 1 ≤ x.1 ∧ 0 ≤ x.2.1 ∧ x.2.1 < (l.length : Int) - q) : ∀ {kids : List Int} {i size : Nat} {deep : Int} {pairs : List Pr} {x : Rd}, rdK l rec ks p kids i size deep pairs = some x → p + size ≤ l.length → 1 ≤ size → -1 ≤ deep → deep + 1 < (l.length : Int) - p → p + x.1 ≤ l.length ∧ 1 ≤ x.1 ∧ 0 ≤ x.2.1 ∧ x.2.1 < (l.length : Int) - p
  | [], i, size, deep, pairs, x, h, h1, h2, h3, h4 => by
    simp only [rdK, Option.some.injEq] at h
    subst h
    simp only
    omega
  | kid :: kids, i, size, deep, pairs, x, h, h1, h2, h3, h4 => by
    rw [rdK] at h
    split at h
    · split at h
      · cases h
      · next n d below e =>
        split at h
        · obtain ⟨b1, b2, b3, b4⟩ := hr _ _ e
          simp only at b1 b2 b3 b4
          exact rdK_bound hr h (by omega) (by omega) (by omega) (by omega)
        · cases h
    · cases h

theorem rd_bound (l : List Nv) : ∀ (f p : Nat) (x : Rd), rd l f p = some x → p + x.1 ≤ l.length ∧ 1 ≤ x.1 ∧ 0 ≤ x.2.1 ∧ x.2.1 < (l.length : Int) - p
  | 0, p, x, h => by simp [rd] at h
  | f + 1, p, x, h => by
    rw [rd] at h
    split at h
    · cases h
    · next nd e =>
      have hp := (List.getElem?_eq_some_iff.1 e).1
      split at h
      · split at h
        · simp only [Option.some.injEq] at h
          subst h
          simp only
          omega
        · next hk =>
          refine rdK_bound (fun q x hx => rd_bound l f q x hx) h (by omega) (by omega) (by omega) (by omega)
      · cases h
end Go.Proofs.Ytnljfhjindenpab
