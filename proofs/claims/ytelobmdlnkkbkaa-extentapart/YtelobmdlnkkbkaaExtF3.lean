/-
  What is had, plainly: extents that are had and not given back never meet.
-/
import Derived.Test.YtelobmdlnkkbkaaExtF1
namespace Go.Proofs.Ytelobmdlnkkbkaa
set_option linter.unusedVariables false
set_option linter.unusedSimpArgs false
set_option maxRecDepth 20000

structure Held (had : List Ext) (xs : List UInt8) : Prop where
  hit : ∀ i, i < xs.length → hits had i = if xs[i]? = some 1 then 1 else 0
  mem : ∀ e ∈ had, 1 ≤ e.2 ∧ e.1 + e.2 ≤ xs.length
  sum : total had = xs.count 1
  val : ∀ (i : Nat) x, xs[i]? = some x → x = 0 ∨ x = 1 ∨ x = 2

theorem held_new (n : Int) : Held [] (newX n) := by
  unfold newX
  generalize (max 0 (min n 1024)).toNat = k
  refine ⟨fun i hi => ?_, fun e he => by simp at he, ?_, fun i x hx => ?_⟩
  · simp at hi
    simp [hits, List.getElem?_replicate, hi]
  · simp [total, List.count_replicate]
  · rw [List.getElem?_replicate] at hx
    split at hx
    · simp at hx; exact .inl hx.symm
    · cases hx

theorem layx_val {xs : List UInt8} {s n : Nat} {v : UInt8} (h : ∀ (i : Nat) x, xs[i]? = some x → x = 0 ∨ x = 1 ∨ x = 2) (hv : v = 0 ∨ v = 1 ∨ v = 2) : ∀ (i : Nat) x, (layx xs s n v)[i]? = some x → x = 0 ∨ x = 1 ∨ x = 2 := by
  intro i x hx
  rw [layx_get] at hx
  split at hx
  · simp at hx; subst hx; exact hv
  · exact h i x hx

theorem Held.alloc {had : List Ext} {xs : List UInt8} (h : Held had xs) {n : Nat} (hn : 1 ≤ n) (hc : 0 < xs.count 0) : Held (had ++ [pick xs n]) (allocX xs n) := by
  obtain ⟨p1, p2, p3, p4⟩ := pick_some hn hc
  obtain ⟨c1, c2, c3⟩ := allocX_count hn hc
  refine ⟨fun i hi => ?_, fun e he => ?_, ?_, layx_val h.val (.inr (.inl rfl))⟩
  · rw [allocX_length] at hi
    unfold allocX
    rw [hits_append, hits_one, layx_get, h.hit i hi]
    by_cases hin : Ins (pick xs n) i
    · have hin' : Ins ((pick xs n).1, (pick xs n).2) i := hin
      rw [p4 i hin]
      simp [hin, hi]
    · have hin' : ¬ Ins ((pick xs n).1, (pick xs n).2) i := hin
      simp [hin]
  · rw [allocX_length]
    rcases List.mem_append.1 he with he | he
    · exact h.mem e he
    · simp at he; subst he; exact ⟨p1, p3⟩
  · rw [total_append, total_one, h.sum, c2]

theorem Held.allF' : ∀ (f : Nat) {had : List Ext} {xs : List UInt8} {n : Nat}, Held had xs → n ≤ f → n ≤ xs.count 0 → Held (had ++ (allF f xs n).1) (allF f xs n).2
  | 0, had, xs, n, h, hf, hc => by
    simp [allF]
    exact h
  | f + 1, had, xs, n, h, hf, hc => by
    by_cases hn : n = 0
    · subst hn; rw [allF_zero]; simpa using h
    · rw [allF, if_neg hn]
      have h1 := h.alloc (n := n) (by omega) (by omega : 0 < xs.count 0)
      obtain ⟨p1, p2, p3, p4⟩ := pick_some (xs := xs) (n := n) (by omega) (by omega)
      obtain ⟨c1, c2, c3⟩ := allocX_count (xs := xs) (n := n) (by omega) (by omega)
      have h2 := Held.allF' f h1 (n := n - (pick xs n).2) (by omega) (by omega)
      simpa using h2

theorem Held.all {had : List Ext} {xs : List UInt8} (h : Held had xs) (n : Int) : Held (had ++ allV xs n) (allM xs n) := by
  unfold allV allM
  by_cases hc : (xs.count 0 : Int) < n
  · rw [if_pos hc, if_pos hc]; simpa using h
  · rw [if_neg hc, if_neg hc]
    exact Held.allF' _ h (Nat.le_refl _) (by omega)

theorem Held.head {e : Ext} {had : List Ext} {xs : List UInt8} (h : Held (e :: had) xs) (d : UInt8) (hd : d = 0 ∨ d = 2) : canT xs e.1 e.2 1 = true ∧ Held had (turnX xs e.1 e.2 1 d) := by
  obtain ⟨m1, m2⟩ := h.mem e List.mem_cons_self
  have hall : ∀ i, Ins e i → xs[i]? = some 1 ∧ hits had i = 0 := fun i hi => by
    have hl : i < xs.length := by unfold Ins at hi; omega
    have := h.hit i hl
    rw [hits_cons, if_pos hi] at this
    by_cases hx : xs[i]? = some 1
    · rw [if_pos hx] at this; exact ⟨hx, by omega⟩
    · rw [if_neg hx] at this; omega
  have hcan : canT xs e.1 e.2 1 = true := by
    refine canT_yes ?_ (fun i hi => (hall _ ?_).1)
    · unfold hasT; exact decide_eq_true (by omega)
    · unfold Ins; omega
  have hd1 : d ≠ 1 := by rcases hd with rfl | rfl <;> decide
  refine ⟨hcan, ?_⟩
  have et : turnX xs e.1 e.2 1 d = layx xs e.1 e.2 d := by unfold turnX; rw [if_pos hcan]; simp
  rw [et]
  obtain ⟨c1, c2, c3⟩ := layx_count xs e.1 1 d (Ne.symm hd1) e.2 (fun i hi => (hall i hi).1)
  refine ⟨fun i hi => ?_, fun f hf => ?_, ?_, layx_val h.val (by rcases hd with rfl | rfl <;> simp)⟩
  · rw [layx_length] at hi
    rw [layx_get]
    by_cases hin : Ins e i
    · have hin' : Ins (e.1, e.2) i := hin
      rw [(hall i hin).2, if_pos (And.intro hin' hi), if_neg (fun hh : some d = some (1 : UInt8) => hd1 (by simpa using hh))]
    · have hin' : ¬ Ins (e.1, e.2) i := hin
      have := h.hit i hi
      rw [hits_cons, if_neg hin] at this
      simp only [hin', false_and, if_false]
      omega
  · rw [layx_length]
    exact h.mem f (List.mem_cons_of_mem _ hf)
  · have := h.sum
    rw [total_cons] at this
    omega

theorem Held.commit {had : List Ext} {xs : List UInt8} (h : Held had xs) : Held had (commitX xs) := by
  have hg : ∀ i : Nat, (commitX xs)[i]? = xs[i]?.map (fun x => if x = 2 then 0 else x) := fun i => by unfold commitX; rw [List.getElem?_map]
  refine ⟨fun i hi => ?_, fun f hf => ?_, ?_, fun i x hx => ?_⟩
  · rw [commitX_length] at hi
    rw [h.hit i hi, hg]
    cases hx : xs[i]? with
    | none => rfl
    | some x =>
      by_cases h2 : x = 2
      · subst h2; decide
      · simp [h2]
  · rw [commitX_length]; exact h.mem f hf
  · rw [h.sum]
    unfold commitX
    clear hg h
    induction xs with
    | nil => rfl
    | cons x xs ih =>
      rw [List.map_cons, List.count_cons, List.count_cons, ih]
      by_cases h2 : x = 2
      · subst h2; rfl
      · simp [h2]
  · rw [hg] at hx
    cases hx' : xs[i]? with
    | none => rw [hx'] at hx; cases hx
    | some y =>
      rw [hx'] at hx
      simp at hx
      have := h.val i y hx'
      subst hx
      split
      · exact .inl rfl
      · exact this

theorem count3 : ∀ (xs : List UInt8), (∀ (i : Nat) x, xs[i]? = some x → x = 0 ∨ x = 1 ∨ x = 2) → xs.count 1 + xs.count 0 + xs.count 2 = xs.length
  | [], _ => rfl
  | x :: xs, h => by
    have ih := count3 xs (fun i y hy => h (i + 1) y (by simpa using hy))
    rw [List.count_cons, List.count_cons, List.count_cons, List.length_cons]
    rcases h 0 x rfl with rfl | rfl | rfl
    · simp; omega
    · simp; omega
    · simp; omega

/-- All together: each sector once. -/
def allOf (had : List Ext) (xs : List UInt8) : List Ext := had ++ runs 0 xs ++ runs 2 xs

theorem Held.whole {had : List Ext} {xs : List UInt8} (h : Held had xs) : (∀ i, i < xs.length → hits (allOf had xs) i = 1) ∧ total (allOf had xs) = xs.length ∧ (∀ e ∈ allOf had xs, 1 ≤ e.2 ∧ e.1 + e.2 ≤ xs.length) := by
  unfold allOf
  refine ⟨fun i hi => ?_, ?_, fun e he => ?_⟩
  · rw [hits_append, hits_append, h.hit i hi, runs_hits, runs_hits]
    have hx : xs[i]? = some xs[i] := List.getElem?_eq_getElem hi
    rw [hx]
    rcases h.val i _ hx with e | e | e <;> rw [e] <;> decide
  · rw [total_append, total_append, h.sum, runs_total, runs_total]
    exact count3 xs h.val
  · rcases List.mem_append.1 he with he | he
    · rcases List.mem_append.1 he with he | he
      · exact h.mem e he
      · obtain ⟨h1, h2, _⟩ := runs_mem 0 xs e he; exact ⟨h1, h2⟩
    · obtain ⟨h1, h2, _⟩ := runs_mem 2 xs e he; exact ⟨h1, h2⟩

theorem Held.small {had : List Ext} {xs : List UInt8} (h : Held had xs) : had.length ≤ xs.length := by
  have h1 := length_le_total had (fun e he => (h.mem e he).1)
  rw [h.sum] at h1
  exact Nat.le_trans h1 List.count_le_length

/-! ### Counts, a byte a sector -/
def cnts (es : List Ext) : List UInt8 := (List.range 1024).map fun i => UInt8.ofNat (hits es i)

theorem cnts_length (es : List Ext) : (cnts es).length = 1024 := by simp [cnts]

theorem cnts_get (es : List Ext) (i : Nat) (hi : i < 1024) : (cnts es)[i]? = some (UInt8.ofNat (hits es i)) := by
  unfold cnts; rw [List.getElem?_map, List.getElem?_range hi]; rfl

theorem cnts_nil : cnts [] = List.replicate 1024 0 := by
  apply List.ext_getElem?
  intro i
  by_cases hi : i < 1024
  · rw [cnts_get _ i hi, List.getElem?_replicate, if_pos hi]; rfl
  · rw [List.getElem?_eq_none (by rw [cnts_length]; omega), List.getElem?_replicate, if_neg hi]

theorem hits_none_of {p : List Ext} {e : Ext} {r : List Ext} {i : Nat} (h : hits (p ++ e :: r) i = 1) (hi : Ins e i) : hits p i = 0 := by
  rw [hits_append, hits_cons, if_pos hi] at h
  omega

theorem cnts_zero (es : List Ext) (p : List Ext) (s l : Nat) (j : Nat) (hh : hits p (s + j) = 0) (hj : s + j < 1024) : (cnts (p ++ [(s, j)]))[s + j]? = some 0 := by
  rw [cnts_get _ _ hj, hits_append, hits_one, hh, if_neg (by unfold Ins; simp only; omega)]
  rfl

theorem cnts_step (p : List Ext) (s j : Nat) (hh : hits p (s + j) = 0) (hj : s + j < 1024) : (cnts (p ++ [(s, j)])).set (s + j) 1 = cnts (p ++ [(s, j + 1)]) := by
  apply List.ext_getElem?
  intro i
  rw [List.getElem?_set, cnts_length]
  by_cases hi : s + j = i
  · subst hi
    rw [if_pos rfl, if_pos hj, cnts_get _ _ hj, hits_append, hits_one, hh, if_pos (by unfold Ins; simp only; omega)]
    rfl
  · rw [if_neg hi]
    by_cases hl : i < 1024
    · rw [cnts_get _ _ hl, cnts_get _ _ hl, hits_append, hits_append, hits_one, hits_one]
      have : Ins (s, j + 1) i ↔ Ins (s, j) i := by unfold Ins; simp only; omega
      simp only [this]
    · rw [List.getElem?_eq_none (by rw [cnts_length]; omega), List.getElem?_eq_none (by rw [cnts_length]; omega)]

theorem cnts_zero_ext (p : List Ext) (s : Nat) : cnts (p ++ [(s, 0)]) = cnts p := by
  unfold cnts
  congr 1
  funext i
  rw [hits_append, hits_one, if_neg (by unfold Ins; simp only; omega)]
  rfl
end Go.Proofs.Ytelobmdlnkkbkaa
