/-
  The document's list of categories, plainly: rising, each once. It names nothing of the program.
-/
import Derived.Test.YtimgelekpghklaaLabPlain5
namespace Go.Proofs.Ytimgelekpghklaa
set_option linter.unusedVariables false
set_option linter.unusedSimpArgs false
set_option maxRecDepth 20000

def insS (c : Int) (s : List Int × Bool) (id : Int) : List Int × Bool :=
  let t : List Int × Bool := if s.2 = false ∧ c ≤ id then (s.1 ++ [c], true) else s
  if id = c then t else (t.1 ++ [id], t.2)

def insF (c : Int) (out : List Int) (k : Nat) : List Int × Bool := (out.take k).foldl (insS c) ([], false)
def insI (c : Int) (out : List Int) : List Int := if (insF c out out.length).2 = true then (insF c out out.length).1 else (insF c out out.length).1 ++ [c]

theorem insF_succ (c : Int) (out : List Int) (k : Nat) (h : k < out.length) : insF c out (k + 1) = insS c (insF c out k) out[k] := by
  unfold insF
  rw [List.take_succ_eq_append_getElem h, List.foldl_append]
  rfl

structure InsI (c : Int) (pre : List Int) (s : List Int × Bool) : Prop where
  rs : s.1.Pairwise (· < ·)
  mem : ∀ x, x ∈ s.1 ↔ x ∈ pre ∨ (s.2 = true ∧ x = c)
  no : s.2 = false → ∀ x ∈ pre, x < c
  len : s.1.length ≤ pre.length + 1 ∧ (s.2 = false → s.1.length ≤ pre.length)
  hi : s.2 = true → ∃ x ∈ pre, c ≤ x

theorem InsI.step {c : Int} {pre : List Int} {s : List Int × Bool} {id : Int} (h : InsI c pre s) (hlt : ∀ x ∈ pre, x < id) : InsI c (pre ++ [id]) (insS c s id) := by
  obtain ⟨n, d⟩ := s
  have hN : ∀ x ∈ n, x < id ∨ x = c := fun x hx => by
    rcases (h.mem x).1 hx with h1 | ⟨_, h1⟩
    · exact .inl (hlt x h1)
    · exact .inr h1
  cases d with
  | true =>
    have hci : c < id := by
      obtain ⟨x, hx, hcx⟩ := h.hi rfl
      have := hlt x hx
      omega
    have e : insS c (n, true) id = (n ++ [id], true) := by
      unfold insS
      have : ¬ id = c := by omega
      simp [this]
    rw [e]
    refine ⟨List.pairwise_append.2 ⟨h.rs, List.pairwise_singleton _ _, fun a ha b hb => ?_⟩, fun x => ?_, (fun h0 => Bool.noConfusion h0), ?_, fun _ => ?_⟩
    · have : b = id := by simpa using hb
      subst this
      rcases hN a ha with h1 | h1 <;> omega
    · have := h.mem x
      simp only [List.mem_append, List.mem_singleton] at *
      rw [this]
      constructor
      · rintro ((h1 | h1) | h1)
        · exact .inl (.inl h1)
        · exact .inr ⟨trivial, h1.2⟩
        · exact .inl (.inr h1)
      · rintro ((h1 | h1) | ⟨_, h1⟩)
        · exact .inl (.inl h1)
        · exact .inr h1
        · exact .inl (.inr ⟨trivial, h1⟩)
    · have := h.len.1
      simp at *
      omega
    · obtain ⟨x, hx, hcx⟩ := h.hi rfl
      exact ⟨x, List.mem_append_left _ hx, hcx⟩
  | false =>
    have hm : ∀ x, x ∈ n ↔ x ∈ pre := fun x => by
      rw [h.mem x]
      simp
    have hl := h.len.2 rfl
    have hno := h.no rfl
    by_cases hci : c ≤ id
    · by_cases he : id = c
      · subst he
        have e : insS id (n, false) id = (n ++ [id], true) := by unfold insS; simp
        rw [e]
        refine ⟨List.pairwise_append.2 ⟨h.rs, List.pairwise_singleton _ _, fun a ha b hb => ?_⟩, fun x => ?_, (fun h0 => Bool.noConfusion h0), ?_, fun _ => ?_⟩
        · have : b = id := by simpa using hb
          subst this
          exact hno a ((hm a).1 ha)
        · simp only [List.mem_append, List.mem_singleton, hm x]
          constructor
          · rintro (h1 | h1)
            · exact .inl (.inl h1)
            · exact .inl (.inr h1)
          · rintro ((h1 | h1) | ⟨_, h1⟩)
            · exact .inl h1
            · exact .inr h1
            · exact .inr h1
        · simp at *
          omega
        · exact ⟨id, List.mem_append_right _ List.mem_cons_self, Int.le_refl _⟩
      · have e : insS c (n, false) id = (n ++ [c] ++ [id], true) := by unfold insS; simp [hci, he]
        rw [e]
        refine ⟨List.pairwise_append.2 ⟨List.pairwise_append.2 ⟨h.rs, List.pairwise_singleton _ _, fun a ha b hb => ?_⟩, List.pairwise_singleton _ _, fun a ha b hb => ?_⟩, fun x => ?_, (fun h0 => Bool.noConfusion h0), ?_, fun _ => ?_⟩
        · have : b = c := by simpa using hb
          subst this
          exact hno a ((hm a).1 ha)
        · have : b = id := by simpa using hb
          subst this
          rcases List.mem_append.1 ha with h1 | h1
          · exact hlt a ((hm a).1 h1)
          · have : a = c := by simpa using h1
            omega
        · simp only [List.mem_append, List.mem_singleton, hm x]
          constructor
          · rintro ((h1 | h1) | h1)
            · exact .inl (.inl h1)
            · exact .inr ⟨trivial, h1⟩
            · exact .inl (.inr h1)
          · rintro ((h1 | h1) | ⟨_, h1⟩)
            · exact .inl (.inl h1)
            · exact .inr h1
            · exact .inl (.inr h1)
        · simp at *
          omega
        · exact ⟨id, List.mem_append_right _ List.mem_cons_self, hci⟩
    · have he : ¬ id = c := by omega
      have e : insS c (n, false) id = (n ++ [id], false) := by unfold insS; simp [hci, he]
      rw [e]
      refine ⟨List.pairwise_append.2 ⟨h.rs, List.pairwise_singleton _ _, fun a ha b hb => ?_⟩, fun x => ?_, fun _ x hx => ?_, ?_, (fun h0 => Bool.noConfusion h0)⟩
      · have : b = id := by simpa using hb
        subst this
        exact hlt a ((hm a).1 ha)
      · simp [List.mem_append, hm x]
      · rcases List.mem_append.1 hx with h1 | h1
        · exact hno x h1
        · have : x = id := by simpa using h1
          omega
      · simp at *
        omega

theorem insF_inv {c : Int} {out : List Int} (h : out.Pairwise (· < ·)) : ∀ k, k ≤ out.length → InsI c (out.take k) (insF c out k)
  | 0, _ => ⟨List.Pairwise.nil, fun x => by simp [insF], fun _ x hx => by simp at hx, by simp [insF], fun h0 => by simp [insF] at h0⟩
  | k + 1, hk => by
    rw [insF_succ c out k (by omega), List.take_succ_eq_append_getElem (by omega)]
    refine (insF_inv h k (by omega)).step (fun x hx => ?_)
    obtain ⟨i, hi, rfl⟩ := List.mem_take_iff_getElem.1 hx
    exact List.pairwise_iff_getElem.1 h i k (by omega) (by omega) (by omega)

theorem insI_rs {c : Int} {out : List Int} (h : out.Pairwise (· < ·)) : (insI c out).Pairwise (· < ·) ∧ (∀ x, x ∈ insI c out ↔ x = c ∨ x ∈ out) ∧ (insI c out).length ≤ out.length + 1 := by
  have hi := insF_inv (c := c) h out.length (Nat.le_refl _)
  rw [List.take_length] at hi
  unfold insI
  generalize insF c out out.length = s at *
  obtain ⟨n, d⟩ := s
  cases d with
  | true =>
    refine ⟨by simpa using hi.rs, fun x => ?_, by simpa using hi.len.1⟩
    have := hi.mem x
    simp at this
    simp [this]
    exact Or.comm
  | false =>
    have hm : ∀ x, x ∈ n ↔ x ∈ out := fun x => by have := hi.mem x; simpa using this
    have hno := hi.no rfl
    refine ⟨?_, fun x => ?_, by have := hi.len.2 rfl; simp at *; omega⟩
    · simp only [if_neg, Bool.false_eq_true]
      refine List.pairwise_append.2 ⟨hi.rs, List.pairwise_singleton _ _, fun a ha b hb => ?_⟩
      have : b = c := by simpa using hb
      subst this
      exact hno a ((hm a).1 ha)
    · simp [hm x]
      exact Or.comm

def idsF (cs : List Cat) (out : List Int) : List Int := cs.foldl (fun o c => insI c.1 o) out

theorem idsF_snoc (cs : List Cat) (c : Cat) (out : List Int) : idsF (cs ++ [c]) out = insI c.1 (idsF cs out) := by
  unfold idsF
  rw [List.foldl_append]
  rfl

theorem idsF_rs : ∀ (cs : List Cat) {out : List Int}, out.Pairwise (· < ·) → (idsF cs out).Pairwise (· < ·) ∧ (∀ x, x ∈ idsF cs out ↔ (∃ c ∈ cs, c.1 = x) ∨ x ∈ out) ∧ (idsF cs out).length ≤ out.length + cs.length
  | [], out, h => ⟨h, fun x => by simp [idsF], by simp [idsF]⟩
  | c :: cs, out, h => by
    obtain ⟨h1, h2, h3⟩ := insI_rs (c := c.1) h
    obtain ⟨k1, k2, k3⟩ := idsF_rs cs h1
    have e : idsF (c :: cs) out = idsF cs (insI c.1 out) := rfl
    rw [e]
    refine ⟨k1, fun x => ?_, by simp; omega⟩
    rw [k2, h2]
    constructor
    · rintro (⟨d, hd, he⟩ | rfl | h0)
      · exact .inl ⟨d, List.mem_cons_of_mem _ hd, he⟩
      · exact .inl ⟨c, List.mem_cons_self, rfl⟩
      · exact .inr h0
    · rintro (⟨d, hd, he⟩ | h0)
      · rcases List.mem_cons.1 hd with rfl | hd
        · exact .inr (.inl he.symm)
        · exact .inl ⟨d, hd, he⟩
      · exact .inr (.inr h0)

/-- The document's list of the categories of two labels. -/
def idsL (xa xb : List Cat) : List Int := idsF xb (idsF xa [])

theorem idsL_rs (xa xb : List Cat) : (idsL xa xb).Pairwise (· < ·) ∧ (∀ x, x ∈ idsL xa xb ↔ (∃ c ∈ xa, c.1 = x) ∨ ∃ c ∈ xb, c.1 = x) ∧ (idsL xa xb).length ≤ xa.length + xb.length := by
  obtain ⟨h1, h2, h3⟩ := idsF_rs xa (out := []) List.Pairwise.nil
  obtain ⟨k1, k2, k3⟩ := idsF_rs xb h1
  refine ⟨k1, fun x => ?_, by unfold idsL; simp at h3; omega⟩
  unfold idsL
  rw [k2, h2]
  simp only [List.not_mem_nil, or_false]
  exact Or.comm
end Go.Proofs.Ytimgelekpghklaa
