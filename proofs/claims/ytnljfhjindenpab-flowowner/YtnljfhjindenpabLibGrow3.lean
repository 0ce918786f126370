/-
  A group of operations that come up in any order, each with the range of blocks that it makes, and with what its value has to do with those that it leans on. It names nothing of the program.
-/
import Derived.Test.YtnljfhjindenpabLibGrow2
namespace Go.Proofs.Ytnljfhjindenpab
set_option linter.unusedVariables false
set_option linter.unusedSimpArgs false
set_option maxRecDepth 20000
section
variable {P : Program} {l : List Oper} {S : World → Prop} {Q : Exit → Act → World → Prop}

theorem plan_group3 {T : Act → World → Prop} {r : List (Nat × List (Nat × List Nat))} {a : Act} {w : World} {q0 : Nat × List Nat} {qs : List (Nat × List Nat)} (d : Nat → Nat) (F : Nat → Value → Nat → Nat → World → Prop) (R : Nat → (Nat → Value) → Prop) (G : World → World → Prop)
    (hnd : ((q0 :: qs).map (·.1)).Nodup) (hinj : ∀ p ∈ q0 :: qs, ∀ q ∈ q0 :: qs, d p.1 = d q.1 → p.1 = q.1) (hdep : ∀ p ∈ q0 :: qs, ∀ j ∈ p.2, ∃ q ∈ q0 :: qs, q.1 = j)
    (hRc : ∀ p ∈ q0 :: qs, ∀ x x' : Nat → Value, x p.1 = x' p.1 → (∀ j ∈ p.2, x j = x' j) → R p.1 x → R p.1 x')
    (hSG : ∀ w w', S w → G w w' → S w') (hGs : ∀ w w', G w w' → w.heap.size ≤ w'.heap.size) (hFG : ∀ p ∈ q0 :: qs, ∀ v lo hi w w', F p.1 v lo hi w → G w w' → F p.1 v lo hi w') (hS : S w)
    (steps : ∀ p ∈ q0 :: qs, ∀ (x : Nat → Value) (lo hi : Nat → Nat) w, S w → (∀ j ∈ p.2, F j (x j) (lo j) (hi j) w ∧ R j x) → ∃ oi, l[p.1]? = some oi ∧ ∀ K : Act → World → Prop, (∀ v w', G w w' → F p.1 v w.heap.size w'.heap.size w' → R p.1 (fun j => if j = p.1 then v else x j) → K ((putAll a d (q0 :: qs) x).put (some (d p.1)) v) w') → wpList P l.toArray (Exit.then K Q) [oi] (putAll a d (q0 :: qs) x) w)
    (fin : ∀ (x : Nat → Value) (lo hi : Nat → Nat) w, S w → (∀ p ∈ q0 :: qs, F p.1 (x p.1) (lo p.1) (hi p.1) w ∧ R p.1 x ∧ hi p.1 ≤ w.heap.size) → (∀ p ∈ q0 :: qs, ∀ q ∈ q0 :: qs, p.1 ≠ q.1 → hi p.1 ≤ lo q.1 ∨ hi q.1 ≤ lo p.1) → ∀ ls, wpG P l.toArray Q S T r ls (putAll a d (q0 :: qs) x) w) : ∀ ls, wpG P l.toArray Q S T ((0, q0 :: qs) :: r) ls a w := by
  intro ls hno
  refine ⟨fun ls a' w' => S w' ∧ ∃ (x : Nat → Value) (lo hi : Nat → Nat), a' = putAll a d (q0 :: qs) x ∧ (∀ p ∈ q0 :: qs, ls.getD p.1 false = true → F p.1 (x p.1) (lo p.1) (hi p.1) w' ∧ R p.1 x ∧ hi p.1 ≤ w'.heap.size) ∧ (∀ p ∈ q0 :: qs, ∀ q ∈ q0 :: qs, ls.getD p.1 false = true → ls.getD q.1 false = true → p.1 ≠ q.1 → hi p.1 ≤ lo q.1 ∨ hi q.1 ≤ lo p.1) ∧ (∀ p ∈ q0 :: qs, ls.getD p.1 false = true → ∀ j ∈ p.2, ls.getD j false = true), ?_, ?_, ?_⟩
  · have hnone : ∀ p ∈ q0 :: qs, ¬ ls.getD p.1 false = true := fun p hp h => by
      have h1 := hno p hp
      by_cases hlt : p.1 < ls.size
      · simp [hlt] at h h1
        rw [h1] at h
        cases h
      · simp [hlt] at h
    exact ⟨hS, _, fun _ => 0, fun _ => 0, (putAll_self a d _).symm, fun p hp h => absurd h (hnone p hp), fun p hp _ _ h => absurd h (hnone p hp), fun p hp h => absurd h (hnone p hp)⟩
  · rintro ls a' w' p ⟨hSw, x, lo, hi, rfl, hx, hR, hD⟩ hp hun hd
    have hun2 : ls.getD p.1 false = false := by
      by_cases hlt : p.1 < ls.size
      · simp [hlt] at hun ⊢
        exact hun
      · simp [hlt] at hun
    obtain ⟨oi, ho, hst⟩ := steps p hp x lo hi w' hSw (fun j hj => by
      obtain ⟨q, hq, rfl⟩ := hdep p hp j hj
      have := hx q hq (hd _ hj)
      exact ⟨this.1, this.2.1⟩)
    have key : ∀ j : Nat, j ≠ p.1 → (ls.setIfInBounds p.1 true).getD j false = true → ls.getD j false = true := fun j he hl => by
      have hne : p.1 ≠ j := fun e => he e.symm
      simpa [Array.getElem?_setIfInBounds_ne hne] using hl
    have key2 : ∀ j : Nat, ls.getD j false = true → (ls.setIfInBounds p.1 true).getD j false = true := fun j hl => by
      by_cases he : p.1 = j
      · rw [← he, hun2] at hl; cases hl
      · simpa [Array.getElem?_setIfInBounds_ne he] using hl
    refine grp_op oi ho (hst _ (fun v w2 hg hF hRp => ⟨hSG _ _ hSw hg, hSG _ _ hSw hg, fun j => if j = p.1 then v else x j, fun j => if j = p.1 then w'.heap.size else lo j, fun j => if j = p.1 then w2.heap.size else hi j, putAll_put a d v x _ hnd hinj p hp, ?_, ?_, ?_⟩))
    · intro q hq hl
      by_cases he : q.1 = p.1
      · simp only [he, if_true]
        exact ⟨hF, hRp, Nat.le_refl _⟩
      · simp only [he, if_false]
        have hdone := key q.1 he hl
        have h1 := hx q hq hdone
        refine ⟨hFG q hq _ _ _ _ _ h1.1 hg, hRc q hq x _ (by simp [he]) (fun j hj => ?_) h1.2.1, Nat.le_trans h1.2.2 (hGs _ _ hg)⟩
        have hjd := hD q hq hdone j hj
        have hjp : j ≠ p.1 := fun e => by rw [e, hun2] at hjd; cases hjd
        simp [hjp]
    · intro q hq s hs hlq hls hqs
      by_cases he : q.1 = p.1
      · have hes : s.1 ≠ p.1 := fun e => hqs (he.trans e.symm)
        simp only [he, if_true, hes, if_false]
        exact .inr (hx s hs (key s.1 hes hls)).2.2
      · by_cases hes : s.1 = p.1
        · simp only [he, if_false, hes, if_true]
          exact .inl (hx q hq (key q.1 he hlq)).2.2
        · simp only [he, if_false, hes, if_false]
          exact hR q hq s hs (key q.1 he hlq) (key s.1 hes hls) hqs
    · intro q hq hl j hj
      by_cases he : q.1 = p.1
      · have hqp : q = p := by
          rcases q with ⟨q1, q2⟩
          rcases p with ⟨p1, p2⟩
          simp only at he
          subst he
          have : ∀ (L : List (Nat × List Nat)), (L.map (·.1)).Nodup → ∀ a ∈ L, ∀ b ∈ L, a.1 = b.1 → a = b := by
            intro L
            induction L with
            | nil => intro _ a ha; simp at ha
            | cons c r ih =>
              intro hn a ha b hb hab
              rw [List.map_cons, List.nodup_cons] at hn
              rcases List.mem_cons.1 ha with e1 | h1
              · rcases List.mem_cons.1 hb with e2 | h2
                · rw [e1, e2]
                · exact absurd (List.mem_map.2 ⟨b, h2, by rw [← hab, e1]⟩) hn.1
              · rcases List.mem_cons.1 hb with e2 | h2
                · exact absurd (List.mem_map.2 ⟨a, h1, by rw [hab, e2]⟩) hn.1
                · exact ih hn.2 a h1 b h2 hab
          exact this _ hnd _ hq _ hp rfl
        rw [hqp] at hj
        exact key2 j (hd j hj)
      · exact key2 j (hD q hq (key q.1 he hl) j hj)
  · rintro a' w' hall ⟨hSw, x, lo, hi, rfl, hx, hR, _⟩
    exact fin x lo hi w' hSw (fun p hp => hx p hp (hall p hp)) (fun p hp q hq h => hR p hp q hq (hall p hp) (hall q hq) h) _
end
end Go.Proofs.Ytnljfhjindenpab
