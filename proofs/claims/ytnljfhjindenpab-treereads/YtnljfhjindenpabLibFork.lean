/-
  A region that draws its order, where two or more that make memory are ready at once: straight orders that fork. It names nothing of the program.
-/
import Derived.Test.YtnljfhjindenpabLibOrd
namespace Go.Proofs.Ytnljfhjindenpab
set_option linter.unusedVariables false
set_option linter.unusedSimpArgs false
set_option maxRecDepth 20000

/-- A straight order; then, if any, the ways to go on, each with the one that comes up. -/
def FT : Nat → Type
  | 0 => List (Nat × Bool)
  | d + 1 => List (Nat × Bool) × List (Nat × FT d)

def lenF : (d : Nat) → FT d → Nat
  | 0, l => List.length (α := Nat × Bool) l
  | d + 1, t => t.1.length + (match t.2 with | [] => 0 | f :: _ => 1 + lenF d f.2)

section
variable {P : Program} {ops : Array Oper} {md : Region.Mode} {S : World → Prop} {Q Q1 : Exit → Act → World → Prop}

def preB (md : Region.Mode) (ops : Array Oper) (keep : List Nat) (n : Nat) : List (Nat × Bool) → Array Bool → Bool
  | [], _ => true
  | (i, q) :: r, listed => decide (i < n) && (if q then (Region.ready md ops listed).contains i && Region.free md ops listed i && ((ops[i]?).map fun o => (o.dst.map fun d => !keep.contains d).getD true).getD false else decide (Region.ready md ops listed = [i])) &&
      preB md ops keep n r (listed.setIfInBounds i true)

def preL : List (Nat × Bool) → Array Bool → Array Bool
  | [], l => l
  | (i, _) :: r, l => preL r (l.setIfInBounds i true)

def lexF (md : Region.Mode) (ops : Array Oper) (keep : List Nat) (g n : Nat) : (d : Nat) → FT d → Array Bool → Bool
  | 0, l, listed => preB md ops keep n l listed && Region.seqB md ops g n (preL l listed)
  | d + 1, t, listed => preB md ops keep n t.1 listed && (match t.2 with
    | [] => Region.seqB md ops g n (preL t.1 listed)
    | f0 :: fs => decide (Region.ready md ops (preL t.1 listed) = (f0 :: fs).map (·.1)) && (f0 :: fs).all (fun f => decide (f.1 < n) && decide (lenF d f.2 = lenF d f0.2) && lexF md ops keep g n d f.2 ((preL t.1 listed).setIfInBounds f.1 true)))

def wpF (P : Program) (ops : Array Oper) (Q : Exit → Act → World → Prop) (S : World → Prop) (T : Act → World → Prop) : (d : Nat) → FT d → Act → World → Prop
  | 0, l, a, w => wpOrd P ops Q S T l a w
  | d + 1, t, a, w => wpOrd P ops Q S (fun a w => match t.2 with
    | [] => T a w
    | f0 :: fs => ∀ f ∈ f0 :: fs, wpOp P ops Q f.1 (fun a' w' => S w' ∧ wpF P ops Q S T d f.2 a' w') a w) t.1 a w

theorem wpHL_pre {keep : List Nat} {n f : Nat} {T : Act → World → Prop} {L : Array Bool → Act → World → Prop} (hsel : Region.noSelect ops = true) (hs : Region.sinkB md ops n = true) (hc : Region.chainB md ops n = true) (hn : n < ops.size)
    (hL : ∀ listed a w, L listed a w → ∀ j ∈ Region.ready md ops listed, n ≤ j) :
    ∀ (l : List (Nat × Bool)) (listed : Array Bool) (a : Act) (w : World), HeadInv md ops n listed → preB md ops keep n l listed = true → wpOrd P ops (panicAny keep Q) S T l a w →
    (∀ a' w', HeadInv md ops n (preL l listed) → T a' w' → wpHL P md ops (panicAny keep Q) S n L f (preL l listed) a' w') → wpHL P md ops (panicAny keep Q) S n L (l.length + f) listed a w
  | [], listed, a, w, inv, _, h, hT => by rw [List.length_nil, Nat.zero_add]; exact hT a w inv h
  | (i, true) :: l, listed, a, w, inv, hB, h, hT => by
    simp only [preB, Bool.and_eq_true, decide_eq_true_eq, if_true] at hB
    obtain ⟨⟨hin, ⟨hr, hf⟩, hk⟩, hB'⟩ := hB
    obtain ⟨hS, oi, v, ho, hy, hrest⟩ := h
    have hr' : i ∈ Region.ready md ops listed := by simpa using hr
    rw [ho] at hk
    rw [List.length_cons, show l.length + 1 + f = (l.length + f) + 1 by omega]
    exact wpHL_first ho (Region.noSelect_spec hsel) (panicAny_put (by simpa using hk)) hs hc hn hin hL (l.length + f) listed a w inv (Region.free_spec ho hf) hr' hy hS
      (wpHL_pre hsel hs hc hn hL l _ _ w (inv.set hr' hin) hB' hrest hT)
  | (i, false) :: l, listed, a, w, inv, hB, h, hT => by
    simp only [preB, Bool.and_eq_true, decide_eq_true_eq, if_false, Bool.false_eq_true] at hB
    obtain ⟨⟨hin, hr⟩, hB'⟩ := hB
    have hr' : i ∈ Region.ready md ops listed := by rw [hr]; simp
    rw [List.length_cons, show l.length + 1 + f = (l.length + f) + 1 by omega]
    refine ⟨fun h0 => (by rw [hr] at h0; cases h0), fun j hj => ?_⟩
    rw [hr] at hj
    have hji : j = i := by simpa using hj
    subst hji
    exact ⟨hin, wpOp_mono (fun a' w' h' => ⟨h'.1, wpHL_pre hsel hs hc hn hL l _ a' w' (inv.set hr' hin) hB' h'.2 hT⟩) h⟩

theorem wpHL_fork {keep : List Nat} {n g : Nat} {T : Act → World → Prop} (hsel : Region.noSelect ops = true) (hs : Region.sinkB md ops n = true) (hc : Region.chainB md ops n = true) (hn : n < ops.size) :
    ∀ (d : Nat) (t : FT d) (listed : Array Bool) (a : Act) (w : World), HeadInv md ops n listed → lexF md ops keep g n d t listed = true → wpF P ops (panicAny keep Q) S T d t a w →
    wpHL P md ops (panicAny keep Q) S n (fun listed' a' w' => Region.seqB md ops g n listed' = true ∧ T a' w') (lenF d t) listed a w
  | 0, l, listed, a, w, inv, hB, h => by
    simp only [lexF, Bool.and_eq_true] at hB
    exact wpHL_pre (f := 0) hsel hs hc hn (fun listed' a' w' hL => seqB_ready hL.1) l listed a w inv hB.1 h (fun a' w' _ hT => ⟨hB.2, hT⟩)
  | d + 1, (l, []), listed, a, w, inv, hB, h => by
    simp only [lexF, Bool.and_eq_true] at hB
    exact wpHL_pre (f := 0) hsel hs hc hn (fun listed' a' w' hL => seqB_ready hL.1) l listed a w inv hB.1 h (fun a' w' _ hT => ⟨hB.2, hT⟩)
  | d + 1, (l, f0 :: fs), listed, a, w, inv, hB, h => by
    simp only [lexF, Bool.and_eq_true, decide_eq_true_eq] at hB
    obtain ⟨h1, h2, h3⟩ := hB
    refine wpHL_pre (f := 1 + lenF d f0.2) hsel hs hc hn (fun listed' a' w' hL => seqB_ready hL.1) l listed a w inv h1 h (fun a' w' inv' hT => ?_)
    rw [Nat.add_comm 1]
    refine ⟨fun h0 => (by rw [h2] at h0; cases h0), fun j hj => ?_⟩
    have hj2 := hj
    rw [h2] at hj2
    obtain ⟨f, hf, rfl⟩ := List.mem_map.1 hj2
    have h4 := List.all_eq_true.1 h3 f hf
    simp only [Bool.and_eq_true, decide_eq_true_eq] at h4
    obtain ⟨⟨h5, h6⟩, h7⟩ := h4
    refine ⟨h5, wpOp_mono (fun a2 w2 h' => ⟨h'.1, ?_⟩) (hT f hf)⟩
    rw [← h6]
    exact wpHL_fork hsel hs hc hn d f.2 _ a2 w2 (inv'.set hj h5) h7 h'.2

def forkB (keep : List Nat) (ops : Array Oper) (n d : Nat) (t : FT d) : Bool :=
  Region.noSelect ops && decide (n < ops.size) && Region.sinkB .any ops n && Region.chainB .any ops n && decide (lenF d t = n) && lexF .any ops keep (ops.size - n) n d t (Array.replicate ops.size false)

/-- What each way leaves is said by T, and walked on from once. -/
theorem wp_region_fork {id : Nat} {a : Act} {w : World} {l : List Oper} (keep : List Nat) (n d : Nat) (t : FT d) (S : World → Prop) (T : Act → World → Prop) (hm : P.follows .mixedOrders = true) (hB : forkB keep l.toArray n d t = true)
    (h : wpF P l.toArray (panicAny keep Q) S T d t a w.drew) (hT : ∀ a' w', T a' w' → wpList P l.toArray Q (l.drop n) a' w') : (Code.region id l.toArray true).wp P Q a w := by
  simp only [forkB, Bool.and_eq_true, decide_eq_true_eq] at hB
  obtain ⟨⟨⟨⟨⟨hsel, hn⟩, hs⟩, hc⟩, hlen⟩, hlex⟩ := hB
  have hdl : (l.drop n).length = l.toArray.size - n := by simp
  have inv0 : HeadInv .any l.toArray n (Array.replicate l.toArray.size false) :=
    ⟨by simp, fun j oj _ hl => (by rw [getD_replicate_false] at hl; cases hl), fun t _ ht => getD_in (by simpa using ht) (getD_replicate_false _ _)⟩
  have H := wpHL_fork (md := .any) (Q := Q) hsel hs hc hn d t _ a w.drew inv0 hlex h
  refine wp_region_any hm ?_
  have := wpAny_of_HL (Q := Q) (Q1 := panicAny keep Q) (g := l.toArray.size - n) panicAny_post (fun listed a' w' hL => by
    have := wpAny_of_seq (md := .any) (Q' := Q) (l.drop n) n listed a' w' (fun j => by simp [List.getElem?_drop]) (by rw [hdl]; exact hL.1) (hT _ _ hL.2)
    rwa [hdl] at this) _ _ _ _ H
  rw [hlen, show n + (l.toArray.size - n) = l.toArray.size by omega] at this
  exact this
end

section
variable {P : Program} {l : List Oper} {S : World → Prop} {Q : Exit → Act → World → Prop}

theorem fork_op {i : Nat} {K : Act → World → Prop} {a : Act} {w : World} (oi : Oper) (ho : l[i]? = some oi)
    (h : wpList P l.toArray (Exit.then K Q) [oi] a w) : wpOp P l.toArray Q i K a w := by
  have ho' : l.toArray[i]? = some oi := by simpa using ho
  unfold wpOp
  simp only [ho']
  simp only [wpList] at h
  split
  · rename_i hw
    simp only [hw, if_true] at h
    rcases h with h1 | ⟨h1, a0, w0, h2⟩
    · refine .inl ?_
      unfold Oper.wp at *
      generalize (execOp a.eval oi).run P w = res at *
      cases res with
      | ok x w' =>
        cases x <;> simp only [Oper.upon] at h1 ⊢ <;> exact h1
      | halt x w' => cases x <;> simp only [Oper.upon] at h1 ⊢; exact h1
    · exact .inr ⟨h1, a0, w0, h2⟩
  · rename_i hw
    simp only [hw] at h
    exact h

theorem fork_in2 {T : Act → World → Prop} {d i j : Nat} {r s : FT d} {o : List (Nat × Bool)} {a : Act} {w : World}
    (h : wpOrd P l.toArray Q S (fun a w => ∀ f ∈ [(i, r), (j, s)], wpOp P l.toArray Q f.1 (fun a' w' => S w' ∧ wpF P l.toArray Q S T d f.2 a' w') a w) o a w) : wpF P l.toArray Q S T (d + 1) (o, [(i, r), (j, s)]) a w := h

theorem fork_leaf {T : Act → World → Prop} {o : List (Nat × Bool)} {a : Act} {w : World} (h : wpOrd P l.toArray Q S T o a w) : wpF P l.toArray Q S T 0 o a w := h

/-- A fork with two ways, at the end of a straight order. -/
theorem fork_two {T : Act → World → Prop} {d i j : Nat} {r s : FT d} {a : Act} {w : World} (oi oj : Oper) (ho : l[i]? = some oi) (hoj : l[j]? = some oj)
    (h1 : ∀ K : Act → World → Prop, (∀ a' w', S w' → wpF P l.toArray Q S T d r a' w' → K a' w') → wpList P l.toArray (Exit.then K Q) [oi] a w)
    (h2 : ∀ K : Act → World → Prop, (∀ a' w', S w' → wpF P l.toArray Q S T d s a' w' → K a' w') → wpList P l.toArray (Exit.then K Q) [oj] a w) :
    wpOrd P l.toArray Q S (fun a w => ∀ f ∈ [(i, r), (j, s)], wpOp P l.toArray Q f.1 (fun a' w' => S w' ∧ wpF P l.toArray Q S T d f.2 a' w') a w) [] a w := by
  intro f hf
  simp only [List.mem_cons, List.not_mem_nil, or_false] at hf
  rcases hf with rfl | rfl
  · exact fork_op oi ho (h1 _ (fun _ _ k1 k2 => ⟨k1, k2⟩))
  · exact fork_op oj hoj (h2 _ (fun _ _ k1 k2 => ⟨k1, k2⟩))
end
end Go.Proofs.Ytnljfhjindenpab
