/-
  A group of operations that come up in any order, each with the range of blocks that it makes: ranges of two never meet. It names nothing of the program.
-/
import Derived.Test.YtimgelekpghklaaLibGrow
namespace Go.Proofs.Ytimgelekpghklaa
set_option linter.unusedVariables false
set_option linter.unusedSimpArgs false
set_option maxRecDepth 20000
section
variable {P : Program} {l : List Oper} {S : World → Prop} {Q : Exit → Act → World → Prop}

theorem plan_group2 {T : Act → World → Prop} {r : List (Nat × List (Nat × List Nat))} {a : Act} {w : World} {q0 : Nat × List Nat} {qs : List (Nat × List Nat)} (d : Nat → Nat) (F : Nat → Value → Nat → Nat → World → Prop) (G : World → World → Prop)
    (hnd : ((q0 :: qs).map (·.1)).Nodup) (hinj : ∀ p ∈ q0 :: qs, ∀ q ∈ q0 :: qs, d p.1 = d q.1 → p.1 = q.1) (hdep : ∀ p ∈ q0 :: qs, ∀ j ∈ p.2, ∃ q ∈ q0 :: qs, q.1 = j)
    (hSG : ∀ w w', S w → G w w' → S w') (hGs : ∀ w w', G w w' → w.heap.size ≤ w'.heap.size) (hFG : ∀ p ∈ q0 :: qs, ∀ v lo hi w w', F p.1 v lo hi w → G w w' → F p.1 v lo hi w') (hS : S w)
    (steps : ∀ p ∈ q0 :: qs, ∀ (x : Nat → Value) (lo hi : Nat → Nat) w, S w → (∀ j ∈ p.2, F j (x j) (lo j) (hi j) w) → ∃ oi, l[p.1]? = some oi ∧ ∀ K : Act → World → Prop, (∀ v w', G w w' → F p.1 v w.heap.size w'.heap.size w' → K ((putAll a d (q0 :: qs) x).put (some (d p.1)) v) w') → wpList P l.toArray (Exit.then K Q) [oi] (putAll a d (q0 :: qs) x) w)
    (fin : ∀ (x : Nat → Value) (lo hi : Nat → Nat) w, S w → (∀ p ∈ q0 :: qs, F p.1 (x p.1) (lo p.1) (hi p.1) w ∧ hi p.1 ≤ w.heap.size) → (∀ p ∈ q0 :: qs, ∀ q ∈ q0 :: qs, p.1 ≠ q.1 → hi p.1 ≤ lo q.1 ∨ hi q.1 ≤ lo p.1) → ∀ ls, wpG P l.toArray Q S T r ls (putAll a d (q0 :: qs) x) w) : ∀ ls, wpG P l.toArray Q S T ((0, q0 :: qs) :: r) ls a w := by
  intro ls hno
  refine ⟨fun ls a' w' => S w' ∧ ∃ (x : Nat → Value) (lo hi : Nat → Nat), a' = putAll a d (q0 :: qs) x ∧ (∀ p ∈ q0 :: qs, ls.getD p.1 false = true → F p.1 (x p.1) (lo p.1) (hi p.1) w' ∧ hi p.1 ≤ w'.heap.size) ∧ (∀ p ∈ q0 :: qs, ∀ q ∈ q0 :: qs, ls.getD p.1 false = true → ls.getD q.1 false = true → p.1 ≠ q.1 → hi p.1 ≤ lo q.1 ∨ hi q.1 ≤ lo p.1), ?_, ?_, ?_⟩
  · have hnone : ∀ p ∈ q0 :: qs, ¬ ls.getD p.1 false = true := fun p hp h => by
      have h1 := hno p hp
      by_cases hlt : p.1 < ls.size
      · simp [hlt] at h h1
        rw [h1] at h
        cases h
      · simp [hlt] at h
    exact ⟨hS, _, fun _ => 0, fun _ => 0, (putAll_self a d _).symm, fun p hp h => absurd h (hnone p hp), fun p hp _ _ h => absurd h (hnone p hp)⟩
  · rintro ls a' w' p ⟨hSw, x, lo, hi, rfl, hx, hR⟩ hp hun hd
    obtain ⟨oi, ho, hst⟩ := steps p hp x lo hi w' hSw (fun j hj => by
      obtain ⟨q, hq, rfl⟩ := hdep p hp j hj
      exact (hx q hq (hd _ hj)).1)
    have key : ∀ q : Nat × List Nat, q.1 ≠ p.1 → (ls.setIfInBounds p.1 true).getD q.1 false = true → ls.getD q.1 false = true := fun q he hl => by
      have hne : p.1 ≠ q.1 := fun e => he e.symm
      simpa [Array.getElem?_setIfInBounds_ne hne] using hl
    refine grp_op oi ho (hst _ (fun v w2 hg hF => ⟨hSG _ _ hSw hg, hSG _ _ hSw hg, fun j => if j = p.1 then v else x j, fun j => if j = p.1 then w'.heap.size else lo j, fun j => if j = p.1 then w2.heap.size else hi j, putAll_put a d v x _ hnd hinj p hp, ?_, ?_⟩))
    · intro q hq hl
      by_cases he : q.1 = p.1
      · simp only [he, if_true]; exact ⟨hF, Nat.le_refl _⟩
      · simp only [he, if_false]
        have h1 := hx q hq (key q he hl)
        exact ⟨hFG q hq _ _ _ _ _ h1.1 hg, Nat.le_trans h1.2 (hGs _ _ hg)⟩
    · intro q hq s hs hlq hls hqs
      by_cases he : q.1 = p.1
      · have hes : s.1 ≠ p.1 := fun e => hqs (he.trans e.symm)
        simp only [he, if_true, hes, if_false]
        exact .inr (hx s hs (key s hes hls)).2
      · by_cases hes : s.1 = p.1
        · simp only [he, if_false, hes, if_true]
          exact .inl (hx q hq (key q he hlq)).2
        · simp only [he, if_false, hes, if_false]
          exact hR q hq s hs (key q he hlq) (key s hes hls) hqs
  · rintro a' w' hall ⟨hSw, x, lo, hi, rfl, hx, hR⟩
    exact fin x lo hi w' hSw (fun p hp => hx p hp (hall p hp)) (fun p hp q hq h => hR p hp q hq (hall p hp) (hall q hq) h) _
end
end Go.Proofs.Ytimgelekpghklaa
