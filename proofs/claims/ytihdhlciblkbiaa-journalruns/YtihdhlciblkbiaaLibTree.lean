/-
  A region that draws its order, where two that make memory may come up in either order: a tree of orders in place of one order; what they leave is said once. It names nothing of the program.
-/
import Derived.Test.YtihdhlciblkbiaaLibOrd
namespace Go.Proofs.Ytihdhlciblkbiaa
set_option linter.unusedVariables false
set_option linter.unusedSimpArgs false
set_option maxRecDepth 20000

inductive OT where
  | tail : OT
  | quiet (i : Nat) (r : OT) : OT
  | one (i : Nat) (r : OT) : OT
  | two (i : Nat) (r : OT) (j : Nat) (s : OT) : OT

def OT.depth : OT → Nat
  | .tail => 0
  | .quiet _ r => r.depth + 1
  | .one _ r => r.depth + 1
  | .two _ r _ _ => r.depth + 1

section
variable {P : Program} {ops : Array Oper} {md : Region.Mode} {S : World → Prop} {Q Q1 : Exit → Act → World → Prop}

def lexT (md : Region.Mode) (ops : Array Oper) (keep : List Nat) (g n : Nat) : OT → Array Bool → Bool
  | .tail, listed => Region.seqB md ops g n listed
  | .quiet i r, listed => decide (i < n) && ((Region.ready md ops listed).contains i && Region.free md ops listed i && ((ops[i]?).map fun o => (o.dst.map fun d => !keep.contains d).getD true).getD false) && lexT md ops keep g n r (listed.setIfInBounds i true)
  | .one i r, listed => decide (i < n) && decide (Region.ready md ops listed = [i]) && lexT md ops keep g n r (listed.setIfInBounds i true)
  | .two i r j s, listed => decide (i < n) && decide (j < n) && decide (Region.ready md ops listed = [i, j]) && decide (r.depth = s.depth) && lexT md ops keep g n r (listed.setIfInBounds i true) && lexT md ops keep g n s (listed.setIfInBounds j true)

def wpT (P : Program) (ops : Array Oper) (Q : Exit → Act → World → Prop) (S : World → Prop) (T : Act → World → Prop) : OT → Act → World → Prop
  | .tail, a, w => T a w
  | .quiet i r, a, w => S w ∧ ∃ oi v, ops[i]? = some oi ∧ YieldsIf P ops S oi v a ∧ wpT P ops Q S T r (a.put oi.dst v) w
  | .one i r, a, w => wpOp P ops Q i (fun a' w' => S w' ∧ wpT P ops Q S T r a' w') a w
  | .two i r j s, a, w => wpOp P ops Q i (fun a' w' => S w' ∧ wpT P ops Q S T r a' w') a w ∧ wpOp P ops Q j (fun a' w' => S w' ∧ wpT P ops Q S T s a' w') a w

theorem wpHL_tree {keep : List Nat} {n g : Nat} {T : Act → World → Prop} (hsel : Region.noSelect ops = true) (hs : Region.sinkB md ops n = true) (hc : Region.chainB md ops n = true) (hn : n < ops.size) :
    ∀ (l : OT) (listed : Array Bool) (a : Act) (w : World), HeadInv md ops n listed → lexT md ops keep g n l listed = true → wpT P ops (panicAny keep Q) S T l a w →
    wpHL P md ops (panicAny keep Q) S n (fun listed' a' w' => Region.seqB md ops g n listed' = true ∧ T a' w') l.depth listed a w
  | .tail, listed, a, w, _, hB, h => ⟨hB, h⟩
  | .quiet i l, listed, a, w, inv, hB, h => by
    simp only [lexT, Bool.and_eq_true, decide_eq_true_eq] at hB
    obtain ⟨⟨hin, ⟨hr, hf⟩, hk⟩, hB'⟩ := hB
    obtain ⟨hS, oi, v, ho, hy, hrest⟩ := h
    have hr' : i ∈ Region.ready md ops listed := by simpa using hr
    rw [ho] at hk
    exact wpHL_first ho (Region.noSelect_spec hsel) (panicAny_put (by simpa using hk)) hs hc hn hin (fun listed' a' w' hL => seqB_ready hL.1) l.depth listed a w inv (Region.free_spec ho hf) hr' hy hS
      (wpHL_tree hsel hs hc hn l _ _ w (inv.set hr' hin) hB' hrest)
  | .one i l, listed, a, w, inv, hB, h => by
    simp only [lexT, Bool.and_eq_true, decide_eq_true_eq] at hB
    obtain ⟨⟨hin, hr⟩, hB'⟩ := hB
    have hr' : i ∈ Region.ready md ops listed := by rw [hr]; simp
    refine ⟨fun h0 => (by rw [hr] at h0; cases h0), fun j hj => ?_⟩
    rw [hr] at hj
    have hji : j = i := by simpa using hj
    subst hji
    exact ⟨hin, wpOp_mono (fun a' w' h' => ⟨h'.1, wpHL_tree hsel hs hc hn l _ a' w' (inv.set hr' hin) hB' h'.2⟩) h⟩
  | .two i l k m, listed, a, w, inv, hB, h => by
    simp only [lexT, Bool.and_eq_true, decide_eq_true_eq] at hB
    obtain ⟨⟨⟨⟨⟨hin, hkn⟩, hr⟩, hd⟩, hB1⟩, hB2⟩ := hB
    have hi' : i ∈ Region.ready md ops listed := by rw [hr]; simp
    have hk' : k ∈ Region.ready md ops listed := by rw [hr]; simp
    refine ⟨fun h0 => (by rw [hr] at h0; cases h0), fun j hj => ?_⟩
    rw [hr] at hj
    have hji : j = i ∨ j = k := by simpa using hj
    rcases hji with hji | hji
    · subst hji
      exact ⟨hin, wpOp_mono (fun a' w' h' => ⟨h'.1, wpHL_tree hsel hs hc hn l _ a' w' (inv.set hi' hin) hB1 h'.2⟩) h.1⟩
    · subst hji
      refine ⟨hkn, wpOp_mono (fun a' w' h' => ⟨h'.1, ?_⟩) h.2⟩
      rw [hd]
      exact wpHL_tree hsel hs hc hn m _ a' w' (inv.set hk' hkn) hB2 h'.2

def treeB (keep : List Nat) (ops : Array Oper) (n : Nat) (t : OT) : Bool :=
  Region.noSelect ops && decide (n < ops.size) && Region.sinkB .any ops n && Region.chainB .any ops n && decide (t.depth = n) && lexT .any ops keep (ops.size - n) n t (Array.replicate ops.size false)

/-- One walk of the tree serves every order; what each way leaves is said by R, and walked on from once. -/
theorem wp_region_tree {id : Nat} {a : Act} {w : World} {l : List Oper} (keep : List Nat) (n : Nat) (t : OT) (S : World → Prop) (R : Act → Act → World → Prop) (hm : P.follows .mixedOrders = true) (hB : treeB keep l.toArray n t = true)
    (h : wpT P l.toArray (panicAny keep Q) S (R a) t a w.drew) (hR : ∀ a' w', R a a' w' → wpList P l.toArray Q (l.drop n) a' w') : (Code.region id l.toArray true).wp P Q a w := by
  simp only [treeB, Bool.and_eq_true, decide_eq_true_eq] at hB
  obtain ⟨⟨⟨⟨⟨hsel, hn⟩, hs⟩, hc⟩, hlen⟩, hlex⟩ := hB
  have hdl : (l.drop n).length = l.toArray.size - n := by simp
  have inv0 : HeadInv .any l.toArray n (Array.replicate l.toArray.size false) :=
    ⟨by simp, fun j oj _ hl => (by rw [getD_replicate_false] at hl; cases hl), fun t _ ht => getD_in (by simpa using ht) (getD_replicate_false _ _)⟩
  have H := wpHL_tree (md := .any) (Q := Q) hsel hs hc hn t _ a w.drew inv0 hlex h
  refine wp_region_any hm ?_
  have := wpAny_of_HL (Q := Q) (Q1 := panicAny keep Q) (g := l.toArray.size - n) panicAny_post (fun listed a' w' hL => by
    have := wpAny_of_seq (md := .any) (Q' := Q) (l.drop n) n listed a' w' (fun j => by simp [List.getElem?_drop]) (by rw [hdl]; exact hL.1) (hR _ _ hL.2)
    rwa [hdl] at this) _ _ _ _ H
  rw [hlen, show n + (l.toArray.size - n) = l.toArray.size by omega] at this
  exact this
end

section
variable {P : Program} {l : List Oper} {S : World → Prop} {Q : Exit → Act → World → Prop}

theorem tree_quiet {T : Act → World → Prop} {i : Nat} {r : OT} {a : Act} {w : World} (oi : Oper) (v : Value) (ho : l[i]? = some oi) (hS : S w)
    (hw : Region.wanted oi (yielded l.toArray a.tmps) = true) (hy : ∀ w, S w → (execOp a.eval oi).run P w = .ok (.value v) w) (h : wpT P l.toArray Q S T r (a.put oi.dst v) w) : wpT P l.toArray Q S T (.quiet i r) a w :=
  ⟨hS, oi, v, by simpa using ho, .inl ⟨hw, hy⟩, h⟩

theorem act_op {i : Nat} {K : Act → World → Prop} {a : Act} {w : World} (oi : Oper) (ho : l[i]? = some oi)
    (h : wpList P l.toArray (Exit.then K Q) [oi] a w) : wpOp P l.toArray Q i K a w := by
  have ho' : l.toArray[i]? = some oi := by simpa using ho
  unfold wpOp
  simp only [ho']
  simp only [wpList] at h
  split
  · rename_i hw
    simp only [hw, if_true] at h
    rcases h with h1 | ⟨h1, a0, w0, h2⟩
    · refine .inl ?_
      unfold Oper.wp at *
      generalize (execOp a.eval oi).run P w = res at *
      cases res with
      | ok x w' =>
        cases x <;> simp only [Oper.upon] at h1 ⊢ <;> exact h1
      | halt x w' => cases x <;> simp only [Oper.upon] at h1 ⊢; exact h1
    · exact .inr ⟨h1, a0, w0, h2⟩
  · rename_i hw
    simp only [hw] at h
    exact h

theorem tree_one {T : Act → World → Prop} {i : Nat} {r : OT} {a : Act} {w : World} (oi : Oper) (ho : l[i]? = some oi)
    (h : ∀ K : Act → World → Prop, (∀ a' w', S w' → wpT P l.toArray Q S T r a' w' → K a' w') → wpList P l.toArray (Exit.then K Q) [oi] a w) : wpT P l.toArray Q S T (.one i r) a w :=
  act_op oi ho (h (fun a' w' => S w' ∧ wpT P l.toArray Q S T r a' w') (fun _ _ h1 h2 => ⟨h1, h2⟩))

theorem tree_two {T : Act → World → Prop} {i j : Nat} {r s : OT} {a : Act} {w : World} (oi oj : Oper) (ho : l[i]? = some oi) (hoj : l[j]? = some oj)
    (h1 : ∀ K : Act → World → Prop, (∀ a' w', S w' → wpT P l.toArray Q S T r a' w' → K a' w') → wpList P l.toArray (Exit.then K Q) [oi] a w)
    (h2 : ∀ K : Act → World → Prop, (∀ a' w', S w' → wpT P l.toArray Q S T s a' w' → K a' w') → wpList P l.toArray (Exit.then K Q) [oj] a w) : wpT P l.toArray Q S T (.two i r j s) a w :=
  ⟨act_op oi ho (h1 (fun a' w' => S w' ∧ wpT P l.toArray Q S T r a' w') (fun _ _ h1 h2 => ⟨h1, h2⟩)), act_op oj hoj (h2 (fun a' w' => S w' ∧ wpT P l.toArray Q S T s a' w') (fun _ _ h1 h2 => ⟨h1, h2⟩))⟩

theorem tree_tail {T : Act → World → Prop} {a : Act} {w : World} (h : T a w) : wpT P l.toArray Q S T .tail a w := h
end
end Go.Proofs.Ytihdhlciblkbiaa
