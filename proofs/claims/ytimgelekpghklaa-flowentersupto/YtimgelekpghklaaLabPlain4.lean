/-
  Labels, plainly: the level of a category, the form, what Make makes. It names nothing of the program.
-/
import Derived.Test.YtimgelekpghklaaLabC3
namespace Go.Proofs.Ytimgelekpghklaa
set_option linter.unusedVariables false
set_option linter.unusedSimpArgs false
set_option maxRecDepth 20000

def lev (d : Int) : List Cat → Int → Int
  | [], _ => d
  | c :: r, id => if c.1 = id then c.2 else lev d r id

def Rs (xs : List Cat) : Prop := xs.Pairwise (fun a b => a.1 < b.1)
structure Fm (d : Int) (xs : List Cat) : Prop where
  rs : Rs xs
  ne : ∀ c ∈ xs, c.2 ≠ d

theorem lev_append (d : Int) (b : List Cat) (id : Int) : ∀ a : List Cat, lev d (a ++ b) id = lev (lev d b id) a id
  | [] => rfl
  | c :: a => by
    rw [List.cons_append, lev, lev, lev_append d b id a]

theorem lev_has {d d' : Int} {id : Int} : ∀ {a : List Cat}, (∃ c ∈ a, c.1 = id) → lev d a id = lev d' a id
  | [], ⟨c, hc, _⟩ => by cases hc
  | e :: a, ⟨c, hc, h⟩ => by
    rw [lev, lev]
    split
    · rfl
    · rename_i hne
      rcases List.mem_cons.1 hc with rfl | hc
      · exact absurd h hne
      · exact lev_has ⟨c, hc, h⟩

theorem lev_none {d : Int} {id : Int} : ∀ {a : List Cat}, (∀ c ∈ a, c.1 ≠ id) → lev d a id = d
  | [], _ => rfl
  | e :: a, h => by
    rw [lev, if_neg (h e List.mem_cons_self)]
    exact lev_none (fun c hc => h c (List.mem_cons_of_mem _ hc))

theorem lev_filter (d id : Int) : ∀ xs : List Cat, lev d xs id = lev d (xs.filter (fun c => c.1 == id)) id
  | [] => rfl
  | c :: r => by
    rw [lev, List.filter_cons]
    by_cases h : c.1 = id
    · rw [if_pos h, if_pos (by simpa using h), lev, if_pos h]
    · rw [if_neg h, if_neg (by simpa using h)]
      exact lev_filter d id r

theorem form_unique {d : Int} : ∀ {xs ys : List Cat}, Fm d xs → Fm d ys → (∀ id, lev d xs id = lev d ys id) → xs = ys
  | [], [], _, _, _ => rfl
  | [], c :: r, _, h2, h => by
    have := h c.1
    rw [lev, lev, if_pos rfl] at this
    exact absurd this.symm (h2.ne c List.mem_cons_self)
  | c :: r, [], h1, _, h => by
    have := h c.1
    rw [lev, lev, if_pos rfl] at this
    exact absurd this (h1.ne c List.mem_cons_self)
  | c :: r, e :: s, h1, h2, h => by
    have r1 := List.pairwise_cons.1 h1.rs
    have r2 := List.pairwise_cons.1 h2.rs
    have hk : c.1 = e.1 := by
      rcases Int.lt_trichotomy c.1 e.1 with q | q | q
      · have := h c.1
        rw [lev, if_pos rfl, lev_none (fun x hx => by
          rcases List.mem_cons.1 hx with rfl | hx
          · omega
          · have := r2.1 x hx; omega)] at this
        exact absurd this (h1.ne c List.mem_cons_self)
      · exact q
      · have := h e.1
        rw [lev_none (fun x hx => by
          rcases List.mem_cons.1 hx with rfl | hx
          · omega
          · have := r1.1 x hx; omega), lev, if_pos rfl] at this
        exact absurd this.symm (h2.ne e List.mem_cons_self)
    have hl : c.2 = e.2 := by
      have := h c.1
      rwa [lev, if_pos rfl, lev, if_pos hk.symm] at this
    have ht : r = s := by
      refine form_unique ⟨r1.2, fun x hx => h1.ne x (List.mem_cons_of_mem _ hx)⟩ ⟨r2.2, fun x hx => h2.ne x (List.mem_cons_of_mem _ hx)⟩ (fun id => ?_)
      by_cases hid : c.1 = id
      · rw [lev_none (fun x hx => by have := r1.1 x hx; omega), lev_none (fun x hx => by have := r2.1 x hx; omega)]
      · have := h id
        rwa [lev, if_neg hid, lev, if_neg (by rw [← hk]; exact hid)] at this
    rw [ht, Prod.ext hk hl]

theorem gt_mem {xs : List Cat} {k i : Nat} (h1 : i < k) (h2 : i < xs.length) : gt xs i ∈ xs.take k := by
  rw [gt_of h2]
  exact List.mem_take_iff_getElem.2 ⟨i, by omega, rfl⟩

theorem ddT_mem (xs : List Cat) : ∀ k, k ≤ xs.length → ∀ c ∈ ddT xs k, ∃ i, i < k ∧ c = gt xs i
  | 0, _, c, hc => by simp [ddT] at hc
  | k + 1, hk, c, hc => by
    rw [ddT] at hc
    split at hc
    · rcases List.mem_append.1 hc with hc | hc
      · obtain ⟨i, h1, h2⟩ := ddT_mem xs k (by omega) c hc
        exact ⟨i, by omega, h2⟩
      · exact ⟨k, by omega, by simpa using hc⟩
    · obtain ⟨i, h1, h2⟩ := ddT_mem xs k (by omega) c hc
      exact ⟨i, by omega, h2⟩

theorem ddT_lev (xs : List Cat) (id : Int) : ∀ k, k ≤ xs.length → ∀ d, lev d (ddT xs k) id = lev d (xs.take k) id
  | 0, _, d => by simp [ddT]
  | k + 1, hk, d => by
    rw [List.take_succ_eq_append_getElem (by omega), ← gt_of (by omega), lev_append, ddT]
    split
    · rw [lev_append, ddT_lev xs id k (by omega)]
    · rename_i hne
      rw [ddT_lev xs id k (by omega)]
      rw [lev]
      split
      · rename_i hc
        refine lev_has ⟨gt xs (k - 1), gt_mem ?_ (by omega), ?_⟩
        · by_cases h0 : k = 0
          · exact absurd (.inl h0) hne
          · omega
        · by_cases h1 : ky xs k = ky xs (k - 1)
          · unfold ky at h1; rw [← h1]; exact hc
          · exact absurd (.inr h1) hne
      · rfl

theorem ddT_rs {xs : List Cat} (h : ∀ i j, i < j → j < xs.length → ky xs i ≤ ky xs j) : ∀ k, k ≤ xs.length → Rs (ddT xs k)
  | 0, _ => List.Pairwise.nil
  | k + 1, hk => by
    rw [ddT]
    split
    · rename_i hc
      refine List.pairwise_append.2 ⟨ddT_rs h k (by omega), List.pairwise_singleton _ _, fun a ha b hb => ?_⟩
      have hb : b = gt xs k := by simpa using hb
      subst hb
      obtain ⟨i, h1, rfl⟩ := ddT_mem xs k (by omega) a ha
      rcases hc with hc | hc
      · omega
      · have a1 : ky xs i ≤ ky xs (k - 1) := by
          by_cases e : i = k - 1
          · rw [e]; exact Int.le_refl _
          · exact h i (k - 1) (by omega) (by omega)
        have a2 := h (k - 1) k (by omega) (by omega)
        unfold ky at *
        omega
    · exact ddT_rs h k (by omega)

theorem keep_lev {d : Int} (id : Int) : ∀ {xs : List Cat}, Rs xs → lev d (xs.filter (keepC d)) id = lev d xs id
  | [], _ => rfl
  | c :: r, h => by
    have hr := List.pairwise_cons.1 h
    rw [List.filter_cons]
    by_cases hc : c.2 = d
    · rw [if_neg (by simp [keepC, hc]), keep_lev id hr.2, lev]
      split
      · rename_i he
        rw [lev_none (fun x hx => by have := hr.1 x hx; omega), hc]
      · rfl
    · rw [if_pos (by simp [keepC, hc]), lev, lev, keep_lev id hr.2]

theorem keep_form {d : Int} {xs : List Cat} (h : Rs xs) : Fm d (xs.filter (keepC d)) := by
  refine ⟨List.Pairwise.filter _ h, fun c hc => ?_⟩
  have := (List.mem_filter.1 hc).2
  simpa [keepC] using this

/-- What Make makes. -/
theorem make_form {d : Int} {xs ys : List Cat} {n : Nat} (h : Stab xs ys) (hn : ys.length = n) : Fm d ((ddT ys n).filter (keepC d)) ∧ ∀ id, lev d ((ddT ys n).filter (keepC d)) id = lev d xs id := by
  have hr := ddT_rs h.2.1 n (by omega)
  refine ⟨keep_form hr, fun id => ?_⟩
  rw [keep_lev id hr, ddT_lev ys id n (by omega), List.take_of_length_le (by omega), lev_filter d id ys, h.2.2 id, ← lev_filter]
end Go.Proofs.Ytimgelekpghklaa
