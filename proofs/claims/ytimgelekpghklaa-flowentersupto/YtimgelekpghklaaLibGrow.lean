/-
  A region that draws its order: what only reads is taken first; some that make memory may come up in any order among themselves, each of them shown once, for whatever the others have left; then the tail. It names nothing of the program.
-/
import Derived.Test.YtimgelekpghklaaLibOrd
namespace Go.Proofs.Ytimgelekpghklaa
set_option linter.unusedVariables false
set_option linter.unusedSimpArgs false
set_option maxRecDepth 20000
section
variable {P : Program} {ops : Array Oper} {md : Region.Mode} {S : World → Prop} {Q Q1 : Exit → Act → World → Prop}

def setAll (listed : Array Bool) (qs : List (Nat × List Nat)) : Array Bool := qs.foldl (fun l q => l.setIfInBounds q.1 true) listed

/-- Whichever of a group comes up, what it leans on has come up. -/
def grpB (md : Region.Mode) (ops : Array Oper) (n : Nat) (qs : List (Nat × List Nat)) (fin : Array Bool) : Nat → Array Bool → Bool
  | 0, listed => decide (listed.toList = fin.toList)
  | k + 1, listed => decide (Region.ready md ops listed ≠ []) && (Region.ready md ops listed).all (fun i => decide (i < n) && qs.any (fun q => decide (q.1 = i) && q.2.all (fun j => listed.getD j false)) && grpB md ops n qs fin k (listed.setIfInBounds i true))

def lexG (md : Region.Mode) (ops : Array Oper) (keep : List Nat) (g n : Nat) : List (Nat × List (Nat × List Nat)) → Array Bool → Bool
  | [], listed => Region.seqB md ops g n listed
  | (i, []) :: r, listed => decide (i < n) && ((Region.ready md ops listed).contains i && Region.free md ops listed i && ((ops[i]?).map fun o => (o.dst.map fun d => !keep.contains d).getD true).getD false) && lexG md ops keep g n r (listed.setIfInBounds i true)
  | (_, q :: qs) :: r, listed => (q :: qs).all (fun p => !listed.getD p.1 true) && (q :: qs).all (fun p => (setAll listed (q :: qs)).getD p.1 false) && grpB md ops n (q :: qs) (setAll listed (q :: qs)) (q :: qs).length listed && lexG md ops keep g n r (setAll listed (q :: qs))

def wpG (P : Program) (ops : Array Oper) (Q : Exit → Act → World → Prop) (S : World → Prop) (T : Act → World → Prop) : List (Nat × List (Nat × List Nat)) → Array Bool → Act → World → Prop
  | [], _, a, w => T a w
  | (i, []) :: r, listed, a, w => S w ∧ ∃ oi v, ops[i]? = some oi ∧ YieldsIf P ops S oi v a ∧ wpG P ops Q S T r (listed.setIfInBounds i true) (a.put oi.dst v) w
  | (_, q :: qs) :: r, listed, a, w => (∀ p ∈ q :: qs, listed.getD p.1 true = false) → ∃ I : Array Bool → Act → World → Prop, I listed a w ∧
      (∀ ls a w p, I ls a w → p ∈ q :: qs → ls.getD p.1 true = false → (∀ j ∈ p.2, ls.getD j false = true) → wpOp P ops Q p.1 (fun a' w' => S w' ∧ I (ls.setIfInBounds p.1 true) a' w') a w) ∧
      (∀ a w, (∀ p ∈ q :: qs, (setAll listed (q :: qs)).getD p.1 false = true) → I (setAll listed (q :: qs)) a w → wpG P ops Q S T r (setAll listed (q :: qs)) a w)

def cnt : List (Nat × List (Nat × List Nat)) → Nat
  | [] => 0
  | (_, []) :: r => cnt r + 1
  | (_, q :: qs) :: r => (q :: qs).length + cnt r

theorem wpHL_grp {n f : Nat} {qs : List (Nat × List Nat)} {fin : Array Bool} {L : Array Bool → Act → World → Prop} {I : Array Bool → Act → World → Prop}
    (hI : ∀ ls a w p, I ls a w → p ∈ qs → ls.getD p.1 true = false → (∀ j ∈ p.2, ls.getD j false = true) → wpOp P ops Q p.1 (fun a' w' => S w' ∧ I (ls.setIfInBounds p.1 true) a' w') a w)
    (hfin : ∀ a w, HeadInv md ops n fin → I fin a w → wpHL P md ops Q S n L f fin a w) :
    ∀ (k : Nat) (ls : Array Bool) (a : Act) (w : World), HeadInv md ops n ls → grpB md ops n qs fin k ls = true → I ls a w → wpHL P md ops Q S n L (k + f) ls a w
  | 0, ls, a, w, inv, hB, h => by
    simp only [grpB, decide_eq_true_eq] at hB
    have : ls = fin := Array.toList_inj.1 hB
    subst this
    rw [Nat.zero_add]
    exact hfin a w inv h
  | k + 1, ls, a, w, inv, hB, h => by
    simp only [grpB, Bool.and_eq_true, decide_eq_true_eq, List.all_eq_true, List.any_eq_true] at hB
    obtain ⟨hne, hall⟩ := hB
    rw [show k + 1 + f = (k + f) + 1 by omega]
    refine ⟨hne, fun i hi => ?_⟩
    obtain ⟨⟨hin, p, hp, hpi, hd⟩, hB'⟩ := hall i hi
    subst hpi
    refine ⟨hin, wpOp_mono (fun a' w' h' => ⟨h'.1, wpHL_grp hI hfin k _ a' w' (inv.set hi hin) hB' h'.2⟩) (hI ls a w p h hp (mem_ready.1 hi).1 hd)⟩

theorem wpHL_plan {keep : List Nat} {n g : Nat} {T : Act → World → Prop} (hsel : Region.noSelect ops = true) (hs : Region.sinkB md ops n = true) (hc : Region.chainB md ops n = true) (hn : n < ops.size) :
    ∀ (l : List (Nat × List (Nat × List Nat))) (listed : Array Bool) (a : Act) (w : World), HeadInv md ops n listed → lexG md ops keep g n l listed = true → wpG P ops (panicAny keep Q) S T l listed a w →
    wpHL P md ops (panicAny keep Q) S n (fun listed' a' w' => Region.seqB md ops g n listed' = true ∧ T a' w') (cnt l) listed a w
  | [], listed, a, w, _, hB, h => ⟨hB, h⟩
  | (i, []) :: l, listed, a, w, inv, hB, h => by
    simp only [lexG, Bool.and_eq_true, decide_eq_true_eq] at hB
    obtain ⟨⟨hin, ⟨hr, hf⟩, hk⟩, hB'⟩ := hB
    obtain ⟨hS, oi, v, ho, hy, hrest⟩ := h
    have hr' : i ∈ Region.ready md ops listed := by simpa using hr
    rw [ho] at hk
    exact wpHL_first ho (Region.noSelect_spec hsel) (panicAny_put (by simpa using hk)) hs hc hn hin (fun listed' a' w' hL => seqB_ready hL.1) (cnt l) listed a w inv (Region.free_spec ho hf) hr' hy hS
      (wpHL_plan hsel hs hc hn l _ _ w (inv.set hr' hin) hB' hrest)
  | (_, q :: qs) :: l, listed, a, w, inv, hB, h => by
    rw [lexG, Bool.and_eq_true, Bool.and_eq_true, Bool.and_eq_true] at hB
    obtain ⟨⟨⟨h0, h1⟩, h2⟩, h3⟩ := hB
    obtain ⟨I, i1, i2, i3⟩ := h (fun p hp => by have := List.all_eq_true.1 h0 p hp; simpa using this)
    exact wpHL_grp i2 (fun a' w' inv' hI => wpHL_plan hsel hs hc hn l _ a' w' inv' h3 (i3 a' w' (fun p hp => List.all_eq_true.1 h1 p hp) hI)) _ listed a w inv h2 i1

def planB (keep : List Nat) (ops : Array Oper) (n : Nat) (t : List (Nat × List (Nat × List Nat))) : Bool :=
  Region.noSelect ops && decide (n < ops.size) && Region.sinkB .any ops n && Region.chainB .any ops n && decide (cnt t = n) && lexG .any ops keep (ops.size - n) n t (Array.replicate ops.size false)

theorem wp_region_plan {id : Nat} {a : Act} {w : World} {l : List Oper} (keep : List Nat) (n : Nat) (t : List (Nat × List (Nat × List Nat))) (S : World → Prop) (hm : P.follows .mixedOrders = true) (hB : planB keep l.toArray n t = true)
    (h : ∀ ls, wpG P l.toArray (panicAny keep Q) S (wpList P l.toArray Q (l.drop n)) t ls a w.drew) : (Code.region id l.toArray true).wp P Q a w := by
  simp only [planB, Bool.and_eq_true, decide_eq_true_eq] at hB
  obtain ⟨⟨⟨⟨⟨hsel, hn⟩, hs⟩, hc⟩, hlen⟩, hlex⟩ := hB
  have hdl : (l.drop n).length = l.toArray.size - n := by simp
  have inv0 : HeadInv .any l.toArray n (Array.replicate l.toArray.size false) :=
    ⟨by simp, fun j oj _ hl => (by rw [getD_replicate_false] at hl; cases hl), fun t _ ht => getD_in (by simpa using ht) (getD_replicate_false _ _)⟩
  have H := wpHL_plan (md := .any) (Q := Q) hsel hs hc hn t _ a w.drew inv0 hlex (h _)
  refine wp_region_any hm ?_
  have := wpAny_of_HL (Q := Q) (Q1 := panicAny keep Q) (g := l.toArray.size - n) panicAny_post (fun listed a' w' hL => by
    have := wpAny_of_seq (md := .any) (Q' := Q) (l.drop n) n listed a' w' (fun j => by simp [List.getElem?_drop]) (by rw [hdl]; exact hL.1) hL.2
    rwa [hdl] at this) _ _ _ _ H
  rw [hlen, show n + (l.toArray.size - n) = l.toArray.size by omega] at this
  exact this
end

section
variable {P : Program} {l : List Oper} {S : World → Prop} {Q : Exit → Act → World → Prop}

theorem plan_quiet {T : Act → World → Prop} {i : Nat} {r : List (Nat × List (Nat × List Nat))} {a : Act} {w : World} (oi : Oper) (v : Value) (ho : l[i]? = some oi) (hS : S w)
    (hw : Region.wanted oi (yielded l.toArray a.tmps) = true) (hy : ∀ w, S w → (execOp a.eval oi).run P w = .ok (.value v) w) (h : ∀ ls, wpG P l.toArray Q S T r ls (a.put oi.dst v) w) : ∀ ls, wpG P l.toArray Q S T ((i, []) :: r) ls a w :=
  fun ls => ⟨hS, oi, v, by simpa using ho, .inl ⟨hw, hy⟩, h _⟩

theorem plan_tail {T : Act → World → Prop} {a : Act} {w : World} (h : T a w) : ∀ ls, wpG P l.toArray Q S T [] ls a w := fun _ => h

theorem grp_op {i : Nat} {K : Act → World → Prop} {a : Act} {w : World} (oi : Oper) (ho : l[i]? = some oi)
    (h : wpList P l.toArray (Exit.then K Q) [oi] a w) : wpOp P l.toArray Q i K a w := by
  have ho' : l.toArray[i]? = some oi := by simpa using ho
  unfold wpOp
  simp only [ho']
  simp only [wpList] at h
  split
  · rename_i hw
    simp only [hw, if_true] at h
    rcases h with h1 | ⟨h1, a0, w0, h2⟩
    · refine .inl ?_
      unfold Oper.wp at *
      generalize (execOp a.eval oi).run P w = res at *
      cases res with
      | ok x w' =>
        cases x <;> simp only [Oper.upon] at h1 ⊢ <;> exact h1
      | halt x w' => cases x <;> simp only [Oper.upon] at h1 ⊢; exact h1
    · exact .inr ⟨h1, a0, w0, h2⟩
  · rename_i hw
    simp only [hw] at h
    exact h

/-- One that comes up alone. -/
theorem plan_act {T : Act → World → Prop} {i : Nat} {r : List (Nat × List (Nat × List Nat))} {a : Act} {w : World} (oi : Oper) (ho : l[i]? = some oi)
    (h : ∀ K : Act → World → Prop, (∀ a' w', S w' → (∀ ls, wpG P l.toArray Q S T r ls a' w') → K a' w') → wpList P l.toArray (Exit.then K Q) [oi] a w) : ∀ ls, wpG P l.toArray Q S T ((0, [(i, [])]) :: r) ls a w := by
  intro ls hno
  refine ⟨fun ls' a' w' => (ls'.getD i true = false → a' = a ∧ w' = w) ∧ (ls'.getD i false = true → ∀ ls, wpG P l.toArray Q S T r ls a' w'), ?_, ?_, ?_⟩
  · refine ⟨fun _ => ⟨rfl, rfl⟩, fun h1 => ?_⟩
    have h2 := hno (i, []) List.mem_cons_self
    by_cases hlt : i < ls.size
    · simp [hlt] at h1 h2
      rw [h1] at h2
      cases h2
    · simp [hlt] at h1
  · rintro ls' a' w' p ⟨h1, h2⟩ hp hun _
    have hpi : p = (i, []) := by simpa using hp
    subst hpi
    obtain ⟨rfl, rfl⟩ := h1 hun
    refine grp_op oi ho (h _ (fun a2 w2 hS2 h3 => ⟨hS2, fun h4 => ?_, fun _ => h3⟩))
    have hlt : i < ls'.size := by
      by_cases hlt : i < ls'.size
      · exact hlt
      · simp [hlt] at hun
    simp [hlt] at h4
  · rintro a' w' hall ⟨_, h2⟩
    exact h2 (hall (i, []) List.mem_cons_self) _

/-- A frame with what a group's operations have left. -/
def putAll (a : Act) (d : Nat → Nat) : List (Nat × List Nat) → (Nat → Value) → Act
  | [], _ => a
  | q :: r, x => (putAll a d r x).put (some (d q.1)) (x q.1)

theorem put_self (a : Act) (d : Nat) : a.put (some d) (a.tmps.getD d undef) = a := by
  unfold Act.put
  simp only
  congr 1
  apply Array.ext (by simp)
  intro i h1 h2
  by_cases hd : d = i
  · subst hd
    simp [h2]
  · rw [Array.getElem_setIfInBounds_ne (by simpa using h2) hd]

theorem put_comm (a : Act) {d e : Nat} (u v : Value) (h : d ≠ e) : (a.put (some d) u).put (some e) v = (a.put (some e) v).put (some d) u := by
  unfold Act.put
  simp only
  rw [Array.setIfInBounds_comm _ _ h]

theorem put_twice (a : Act) (d : Nat) (u v : Value) : (a.put (some d) u).put (some d) v = a.put (some d) v := by
  unfold Act.put
  simp only
  congr 1
  apply Array.ext (by simp)
  intro i h1 h2
  by_cases hd : d = i
  · subst hd; simp
  · rw [Array.getElem_setIfInBounds_ne (by simpa using h2) hd, Array.getElem_setIfInBounds_ne (by simpa using h2) hd, Array.getElem_setIfInBounds_ne (by simpa using h2) hd]

theorem putAll_self (a : Act) (d : Nat → Nat) : ∀ gs : List (Nat × List Nat), putAll a d gs (fun i => a.tmps.getD (d i) undef) = a
  | [] => rfl
  | q :: r => by rw [putAll, putAll_self a d r, put_self]

theorem putAll_other (a : Act) (d : Nat → Nat) (i : Nat) (v : Value) (x : Nat → Value) : ∀ gs : List (Nat × List Nat), (∀ q ∈ gs, q.1 ≠ i) → putAll a d gs (fun j => if j = i then v else x j) = putAll a d gs x
  | [], _ => rfl
  | q :: r, h => by rw [putAll, putAll, putAll_other a d i v x r (fun p hp => h p (List.mem_cons_of_mem _ hp)), if_neg (h q List.mem_cons_self)]

theorem putAll_put (a : Act) (d : Nat → Nat) (v : Value) (x : Nat → Value) : ∀ (gs : List (Nat × List Nat)), (gs.map (·.1)).Nodup → (∀ p ∈ gs, ∀ q ∈ gs, d p.1 = d q.1 → p.1 = q.1) → ∀ g ∈ gs, (putAll a d gs x).put (some (d g.1)) v = putAll a d gs (fun j => if j = g.1 then v else x j)
  | q :: r, hnd, hinj, g, hg => by
    rw [List.map_cons, List.nodup_cons] at hnd
    rcases List.mem_cons.1 hg with rfl | hg'
    · rw [putAll, put_twice, putAll, if_pos rfl, putAll_other a d _ v x r (fun p hp e => hnd.1 (List.mem_map.2 ⟨p, hp, e⟩))]
    · have hne : q.1 ≠ g.1 := fun e => hnd.1 (List.mem_map.2 ⟨g, hg', e.symm⟩)
      have hd : d q.1 ≠ d g.1 := fun e => hne (hinj q List.mem_cons_self g hg e)
      rw [putAll, put_comm _ _ _ hd, putAll_put a d v x r hnd.2 (fun p hp q' hq' => hinj p (List.mem_cons_of_mem _ hp) q' (List.mem_cons_of_mem _ hq')) g hg', putAll, if_neg hne]

/-- A group, each of it shown once. -/
theorem plan_group {T : Act → World → Prop} {r : List (Nat × List (Nat × List Nat))} {a : Act} {w : World} {q0 : Nat × List Nat} {qs : List (Nat × List Nat)} (d : Nat → Nat) (F : Nat → Value → World → Prop) (G : World → World → Prop)
    (hnd : ((q0 :: qs).map (·.1)).Nodup) (hinj : ∀ p ∈ q0 :: qs, ∀ q ∈ q0 :: qs, d p.1 = d q.1 → p.1 = q.1) (hdep : ∀ p ∈ q0 :: qs, ∀ j ∈ p.2, ∃ q ∈ q0 :: qs, q.1 = j)
    (hSG : ∀ w w', S w → G w w' → S w') (hFG : ∀ p ∈ q0 :: qs, ∀ v w w', F p.1 v w → G w w' → F p.1 v w') (hS : S w)
    (steps : ∀ p ∈ q0 :: qs, ∀ x w, S w → (∀ j ∈ p.2, F j (x j) w) → ∃ oi, l[p.1]? = some oi ∧ ∀ K : Act → World → Prop, (∀ v w', G w w' → F p.1 v w' → K ((putAll a d (q0 :: qs) x).put (some (d p.1)) v) w') → wpList P l.toArray (Exit.then K Q) [oi] (putAll a d (q0 :: qs) x) w)
    (fin : ∀ x w, S w → (∀ p ∈ q0 :: qs, F p.1 (x p.1) w) → ∀ ls, wpG P l.toArray Q S T r ls (putAll a d (q0 :: qs) x) w) : ∀ ls, wpG P l.toArray Q S T ((0, q0 :: qs) :: r) ls a w := by
  intro ls hno
  refine ⟨fun ls a' w' => S w' ∧ ∃ x, a' = putAll a d (q0 :: qs) x ∧ ∀ p ∈ q0 :: qs, ls.getD p.1 false = true → F p.1 (x p.1) w', ?_, ?_, ?_⟩
  · refine ⟨hS, _, (putAll_self a d _).symm, fun p hp h => ?_⟩
    have h1 := hno p hp
    by_cases hlt : p.1 < ls.size
    · simp [hlt] at h h1
      rw [h1] at h
      cases h
    · simp [hlt] at h
  · rintro ls a' w' p ⟨hSw, x, rfl, hx⟩ hp _ hd
    obtain ⟨oi, ho, hst⟩ := steps p hp x w' hSw (fun j hj => by
      obtain ⟨q, hq, rfl⟩ := hdep p hp j hj
      exact hx q hq (hd _ hj))
    refine grp_op oi ho (hst _ (fun v w2 hg hF => ⟨hSG _ _ hSw hg, hSG _ _ hSw hg, fun j => if j = p.1 then v else x j, ?_, ?_⟩))
    · exact putAll_put a d v x _ hnd hinj p hp
    · intro q hq hl
      by_cases he : q.1 = p.1
      · simp only [he, if_true]; exact hF
      · simp only [he, if_false]
        refine hFG q hq _ _ _ (hx q hq ?_) hg
        have hne : p.1 ≠ q.1 := fun e => he e.symm
        simpa [Array.getElem?_setIfInBounds_ne hne] using hl
  · rintro a' w' hall ⟨hSw, x, rfl, hx⟩
    exact fin x w' hSw (fun p hp => hx p hp (hall p hp)) _
end
end Go.Proofs.Ytimgelekpghklaa
