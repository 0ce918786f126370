/-
  Which sectors are free, plainly: extents of a state, the one that is chosen, what taking and giving back leaves. It names nothing of the program.
-/
import Derived.WalkKit
namespace Go.Proofs.Ytelobmdlnkkbkaa
set_option linter.unusedVariables false
set_option linter.unusedSimpArgs false
set_option maxRecDepth 20000

/-- An extent: where it starts, how long it is. -/
abbrev Ext := Nat × Nat

/-- The last extent, longer by one. -/
def bumpL (es : List Ext) : List Ext := es.dropLast ++ (es.getLast?.map fun e => (e.1, e.2 + 1)).toList

theorem bumpL_snoc (p : List Ext) (e : Ext) : bumpL (p ++ [e]) = p ++ [(e.1, e.2 + 1)] := by simp [bumpL]

/-- Is the sector ahead of k of the state c? -/
abbrev adj (c : UInt8) (xs : List UInt8) (k : Nat) : Prop := 0 < k ∧ xs[k - 1]? = some c

def runsTo (c : UInt8) (xs : List UInt8) : Nat → List Ext
  | 0 => []
  | k + 1 => if xs[k]? = some c then (if adj c xs k then bumpL (runsTo c xs k) else runsTo c xs k ++ [(k, 1)]) else runsTo c xs k

def runs (c : UInt8) (xs : List UInt8) : List Ext := runsTo c xs xs.length

theorem runsTo_last (c : UInt8) (xs : List UInt8) : ∀ k, (adj c xs k → ∃ p e, runsTo c xs k = p ++ [e] ∧ e.1 + e.2 = k) ∧ (¬ adj c xs k → ∀ p e, runsTo c xs k = p ++ [e] → e.1 + e.2 < k)
  | 0 => ⟨fun h => absurd h.1 (Nat.lt_irrefl 0), fun _ p e h => by simp [runsTo] at h⟩
  | k + 1 => by
    obtain ⟨i1, i2⟩ := runsTo_last c xs k
    have e0 : adj c xs (k + 1) ↔ xs[k]? = some c := by unfold adj; simp
    constructor
    · intro h
      have h := e0.1 h
      by_cases ha : adj c xs k
      · obtain ⟨p, e, h1, h2⟩ := i1 ha
        exact ⟨p, (e.1, e.2 + 1), by simp only [runsTo, h, if_true, if_pos ha, h1, bumpL_snoc], by simp; omega⟩
      · exact ⟨runsTo c xs k, (k, 1), by simp only [runsTo, h, if_true, if_neg ha], rfl⟩
    · intro h p e he
      have h : ¬ xs[k]? = some c := fun h' => h (e0.2 h')
      simp only [runsTo, h, if_false] at he
      by_cases ha : adj c xs k
      · obtain ⟨p', e', h1, h2⟩ := i1 ha
        rw [h1] at he
        have := List.append_inj_right' he rfl
        simp at this
        subst this
        omega
      · have := i2 ha p e he; omega

/-- What both the program and the document ask: does the last one end at k? -/
theorem runsTo_ends (c : UInt8) (xs : List UInt8) (k : Nat) (p : List Ext) (e : Ext) (h : runsTo c xs k = p ++ [e]) : (e.1 + e.2 = k ↔ adj c xs k) := by
  obtain ⟨i1, i2⟩ := runsTo_last c xs k
  constructor
  · intro he
    by_cases ha : adj c xs k
    · exact ha
    · have := i2 ha p e h; omega
  · intro ha
    obtain ⟨p', e', h1, h2⟩ := i1 ha
    rw [h1] at h
    have := List.append_inj_right' h rfl
    simp at this
    subst this
    exact h2

theorem runsTo_nil (c : UInt8) (xs : List UInt8) (k : Nat) (h : runsTo c xs k = []) : ¬ adj c xs k := by
  intro ha
  obtain ⟨p, e, h1, _⟩ := (runsTo_last c xs k).1 ha
  rw [h1] at h
  simp at h

/-- Sector i lies in the extent e. -/
abbrev Ins (e : Ext) (i : Nat) : Prop := e.1 ≤ i ∧ i < e.1 + e.2

/-- In how many extents sector i lies. -/
def hits (es : List Ext) (i : Nat) : Nat := es.countP fun e => decide (Ins e i)

theorem hits_nil (i : Nat) : hits [] i = 0 := rfl
theorem hits_append (a b : List Ext) (i : Nat) : hits (a ++ b) i = hits a i + hits b i := List.countP_append ..
theorem hits_one (e : Ext) (i : Nat) : hits [e] i = if Ins e i then 1 else 0 := by
  unfold hits; by_cases h : Ins e i <;> simp [List.countP_cons, h]
theorem hits_cons (e : Ext) (es : List Ext) (i : Nat) : hits (e :: es) i = (if Ins e i then 1 else 0) + hits es i := by
  rw [show e :: es = [e] ++ es from rfl, hits_append, hits_one]

/-- How many sectors they are together. -/
def total (es : List Ext) : Nat := (es.map (·.2)).sum

theorem total_append (a b : List Ext) : total (a ++ b) = total a + total b := by simp [total]
theorem total_cons (e : Ext) (es : List Ext) : total (e :: es) = e.2 + total es := by simp [total]
theorem total_nil : total [] = 0 := rfl
theorem total_one (e : Ext) : total [e] = e.2 := by simp [total]

theorem length_le_total : ∀ es : List Ext, (∀ e ∈ es, 1 ≤ e.2) → es.length ≤ total es
  | [], _ => Nat.le_refl _
  | e :: es, h => by
    have := length_le_total es (fun f hf => h f (List.mem_cons_of_mem _ hf))
    have := h e List.mem_cons_self
    rw [total_cons]
    simp
    omega

theorem runsTo_mem (c : UInt8) (xs : List UInt8) : ∀ k, ∀ e ∈ runsTo c xs k, 1 ≤ e.2 ∧ e.1 + e.2 ≤ k ∧ ∀ i, Ins e i → xs[i]? = some c
  | 0 => fun e h => by simp [runsTo] at h
  | k + 1 => by
    have ih := runsTo_mem c xs k
    intro e he
    unfold runsTo at he
    by_cases h : xs[k]? = some c
    · rw [if_pos h] at he
      by_cases ha : adj c xs k
      · rw [if_pos ha] at he
        obtain ⟨p, f, h1, h2⟩ := (runsTo_last c xs k).1 ha
        rw [h1, bumpL_snoc] at he
        rcases List.mem_append.1 he with he | he
        · obtain ⟨j1, j2, j3⟩ := ih e (by rw [h1]; exact List.mem_append_left _ he)
          exact ⟨j1, by omega, j3⟩
        · obtain ⟨j1, j2, j3⟩ := ih f (by rw [h1]; simp)
          simp at he
          subst he
          refine ⟨by simp, by simp; omega, fun i hi => ?_⟩
          unfold Ins at hi
          simp only at hi
          by_cases hk : i = k
          · subst hk; exact h
          · exact j3 i ⟨hi.1, by omega⟩
      · rw [if_neg ha] at he
        rcases List.mem_append.1 he with he | he
        · obtain ⟨j1, j2, j3⟩ := ih e he
          exact ⟨j1, by omega, j3⟩
        · simp at he
          subst he
          refine ⟨by simp, by simp, fun i hi => ?_⟩
          unfold Ins at hi
          simp only at hi
          have : i = k := by omega
          subst this; exact h
    · rw [if_neg h] at he
      obtain ⟨j1, j2, j3⟩ := ih e he
      exact ⟨j1, by omega, j3⟩

theorem runsTo_hits (c : UInt8) (xs : List UInt8) : ∀ k i, hits (runsTo c xs k) i = if i < k ∧ xs[i]? = some c then 1 else 0
  | 0, i => by simp [runsTo, hits]
  | k + 1, i => by
    have ih := runsTo_hits c xs k i
    unfold runsTo
    by_cases h : xs[k]? = some c
    · rw [if_pos h]
      by_cases ha : adj c xs k
      · rw [if_pos ha]
        obtain ⟨p, f, h1, h2⟩ := (runsTo_last c xs k).1 ha
        rw [h1, bumpL_snoc]
        rw [h1, hits_append, hits_one] at ih
        rw [hits_append, hits_one]
        by_cases hk : i = k
        · subst hk
          have e1 : ¬ Ins f i := by unfold Ins; omega
          have e2 : Ins (f.1, f.2 + 1) i := by
            have := (runsTo_mem c xs i f (by rw [h1]; simp)).1
            unfold Ins; simp; omega
          rw [if_neg e1] at ih
          simp only [Nat.lt_irrefl, false_and, if_false, Nat.add_zero] at ih
          rw [if_pos e2, if_pos ⟨by omega, h⟩, ih]
        · have e2 : Ins (f.1, f.2 + 1) i ↔ Ins f i := by unfold Ins; simp only; omega
          have e3 : (i < k + 1 ∧ xs[i]? = some c) ↔ (i < k ∧ xs[i]? = some c) := by constructor <;> rintro ⟨h1, h2⟩ <;> exact ⟨by omega, h2⟩
          simp only [e2, e3]
          exact ih
      · rw [if_neg ha, hits_append, hits_one, ih]
        by_cases hk : i = k
        · subst hk
          have e2 : Ins (i, 1) i := by unfold Ins; simp
          simp [e2, h]
        · have e1 : ¬ Ins (k, 1) i := by unfold Ins; simp only; omega
          have e3 : (i < k + 1 ∧ xs[i]? = some c) ↔ (i < k ∧ xs[i]? = some c) := by constructor <;> rintro ⟨h1, h2⟩ <;> exact ⟨by omega, h2⟩
          simp only [e1, e3, if_false, Nat.add_zero]
    · rw [if_neg h, ih]
      by_cases hk : i = k
      · subst hk
        simp [h]
      · have e3 : (i < k + 1 ∧ xs[i]? = some c) ↔ (i < k ∧ xs[i]? = some c) := by constructor <;> rintro ⟨h1, h2⟩ <;> exact ⟨by omega, h2⟩
        simp only [e3]

theorem runsTo_total (c : UInt8) (xs : List UInt8) : ∀ k, k ≤ xs.length → total (runsTo c xs k) = (xs.take k).count c
  | 0, _ => by simp [runsTo, total]
  | k + 1, hk => by
    have ih := runsTo_total c xs k (by omega)
    have hx : xs[k]? = some xs[k] := List.getElem?_eq_getElem (by omega)
    rw [List.take_succ_eq_append_getElem (by omega), List.count_append]
    unfold runsTo
    by_cases h : xs[k]? = some c
    · have hc : xs[k] = c := by rw [hx] at h; simpa using h
      rw [if_pos h, hc, List.count_singleton_self]
      by_cases ha : adj c xs k
      · rw [if_pos ha]
        obtain ⟨p, f, h1, h2⟩ := (runsTo_last c xs k).1 ha
        rw [h1, total_append, total_one] at ih
        rw [h1, bumpL_snoc, total_append, total_one]
        simp only
        omega
      · rw [if_neg ha, total_append, total_one, ih]
    · have hc : ¬ xs[k] = c := by rw [hx] at h; simpa using h
      rw [if_neg h, ih]
      simp [List.count_singleton, hc]

theorem runs_total (c : UInt8) (xs : List UInt8) : total (runs c xs) = xs.count c := by
  have := runsTo_total c xs xs.length (Nat.le_refl _)
  rw [List.take_length] at this
  exact this

theorem runs_hits (c : UInt8) (xs : List UInt8) (i : Nat) : hits (runs c xs) i = if xs[i]? = some c then 1 else 0 := by
  unfold runs
  rw [runsTo_hits]
  by_cases h : i < xs.length
  · simp [h]
  · rw [List.getElem?_eq_none (by omega)]; simp

theorem runs_mem (c : UInt8) (xs : List UInt8) : ∀ e ∈ runs c xs, 1 ≤ e.2 ∧ e.1 + e.2 ≤ xs.length ∧ ∀ i, Ins e i → xs[i]? = some c := runsTo_mem c xs xs.length

theorem runs_length (c : UInt8) (xs : List UInt8) : (runs c xs).length ≤ xs.length := by
  have h1 := length_le_total (runs c xs) (fun e he => (runs_mem c xs e he).1)
  rw [runs_total] at h1
  exact Nat.le_trans h1 List.count_le_length

theorem runsTo_length (c : UInt8) (xs : List UInt8) (k : Nat) (hk : k ≤ xs.length) : (runsTo c xs k).length ≤ k := by
  have h1 := length_le_total (runsTo c xs k) (fun e he => (runsTo_mem c xs k e he).1)
  rw [runsTo_total c xs k hk] at h1
  have := List.count_le_length (a := c) (l := xs.take k)
  rw [List.length_take, Nat.min_eq_left hk] at this
  omega

/-! ### The one that is chosen -/
def choose (n : Nat) : List Ext → Ext → Ext
  | [], lg => lg
  | e :: es, lg => if n ≤ e.2 then (e.1, n) else choose n es (if lg.2 < e.2 then e else lg)

theorem choose_start (n : Nat) (e : Ext) (es : List Ext) (h : 1 ≤ e.2) : choose n (e :: es) (0, 0) = choose n (e :: es) e := by
  have h1 : (0 : Nat) < e.2 := h
  simp [choose, h1]

theorem choose_mem (n : Nat) (hn : 1 ≤ n) : ∀ (es : List Ext) (lg : Ext), (∀ e ∈ es, 1 ≤ e.2) → lg.2 < n → choose n es lg = lg ∨ ∃ e ∈ es, (choose n es lg).1 = e.1 ∧ (choose n es lg).2 ≤ e.2 ∧ 1 ≤ (choose n es lg).2 ∧ (choose n es lg).2 ≤ n
  | [], lg, _, _ => .inl rfl
  | e :: es, lg, h, hl => by
    unfold choose
    by_cases hh : n ≤ e.2
    · rw [if_pos hh]
      exact .inr ⟨e, List.mem_cons_self, rfl, hh, hn, Nat.le_refl _⟩
    · rw [if_neg hh]
      have h1 := h e List.mem_cons_self
      by_cases hb : lg.2 < e.2
      · rw [if_pos hb]
        rcases choose_mem n hn es e (fun f hf => h f (List.mem_cons_of_mem _ hf)) (by omega) with h2 | ⟨f, hf, h2⟩
        · rw [h2]; exact .inr ⟨e, List.mem_cons_self, rfl, Nat.le_refl _, h1, by omega⟩
        · exact .inr ⟨f, List.mem_cons_of_mem _ hf, h2⟩
      · rw [if_neg hb]
        rcases choose_mem n hn es lg (fun f hf => h f (List.mem_cons_of_mem _ hf)) hl with h2 | ⟨f, hf, h2⟩
        · exact .inl h2
        · exact .inr ⟨f, List.mem_cons_of_mem _ hf, h2⟩

theorem choose_zero (n : Nat) (hn : 1 ≤ n) (e : Ext) (es : List Ext) (h : ∀ f ∈ e :: es, 1 ≤ f.2) : ∃ f ∈ e :: es, (choose n (e :: es) (0, 0)).1 = f.1 ∧ (choose n (e :: es) (0, 0)).2 ≤ f.2 ∧ 1 ≤ (choose n (e :: es) (0, 0)).2 ∧ (choose n (e :: es) (0, 0)).2 ≤ n := by
  have h1 := h e List.mem_cons_self
  by_cases hh : n ≤ e.2
  · refine ⟨e, List.mem_cons_self, ?_⟩
    unfold choose
    rw [if_pos hh]
    exact ⟨rfl, hh, hn, Nat.le_refl _⟩
  · rw [choose_start n e es h1]
    rcases choose_mem n hn (e :: es) e h (by omega) with h2 | h2
    · rw [h2]; exact ⟨e, List.mem_cons_self, rfl, Nat.le_refl _, h1, by omega⟩
    · exact h2

def pick (xs : List UInt8) (n : Nat) : Ext := choose n (runs 0 xs) (0, 0)

theorem runs_nil {c : UInt8} {xs : List UInt8} (h : xs.count c = 0) : runs c xs = [] := by
  have h1 := length_le_total (runs c xs) (fun e he => (runs_mem c xs e he).1)
  rw [runs_total, h] at h1
  exact List.eq_nil_of_length_eq_zero (by omega)

theorem runs_cons {c : UInt8} {xs : List UInt8} (h : 0 < xs.count c) : ∃ e es, runs c xs = e :: es := by
  cases hr : runs c xs with
  | nil => have := runs_total c xs; rw [hr, total_nil] at this; omega
  | cons e es => exact ⟨e, es, rfl⟩

theorem pick_none {xs : List UInt8} (n : Nat) (h : xs.count 0 = 0) : pick xs n = (0, 0) := by
  unfold pick; rw [runs_nil h]; rfl

theorem pick_some {xs : List UInt8} {n : Nat} (hn : 1 ≤ n) (h : 0 < xs.count 0) : 1 ≤ (pick xs n).2 ∧ (pick xs n).2 ≤ n ∧ (pick xs n).1 + (pick xs n).2 ≤ xs.length ∧ ∀ i, Ins (pick xs n) i → xs[i]? = some 0 := by
  obtain ⟨e, es, he⟩ := runs_cons h
  have hm : ∀ f ∈ e :: es, 1 ≤ f.2 := fun f hf => (runs_mem 0 xs f (by rw [he]; exact hf)).1
  obtain ⟨f, hf, h1, h2, h3, h4⟩ := choose_zero n hn e es hm
  obtain ⟨k1, k2, k3⟩ := runs_mem 0 xs f (by rw [he]; exact hf)
  unfold pick
  rw [he]
  refine ⟨h3, h4, by omega, fun i hi => k3 i ?_⟩
  unfold Ins at *
  omega

/-! ### Sectors laid in a state -/
def layx (xs : List UInt8) (s : Nat) : Nat → UInt8 → List UInt8
  | 0, _ => xs
  | n + 1, v => (layx xs s n v).set (s + n) v

theorem layx_length (xs : List UInt8) (s : Nat) : ∀ n v, (layx xs s n v).length = xs.length
  | 0, _ => rfl
  | n + 1, v => by unfold layx; rw [List.length_set, layx_length]

theorem layx_get (xs : List UInt8) (s : Nat) : ∀ n v i, (layx xs s n v)[i]? = if Ins (s, n) i ∧ i < xs.length then some v else xs[i]?
  | 0, v, i => by
    have : ¬ Ins (s, 0) i := by unfold Ins; simp only; omega
    simp [layx, this]
  | n + 1, v, i => by
    have ih := layx_get xs s n v i
    unfold layx
    rw [List.getElem?_set, layx_length]
    by_cases h : s + n = i
    · subst h
      rw [if_pos rfl]
      by_cases hl : s + n < xs.length
      · have : Ins (s, n + 1) (s + n) := by unfold Ins; simp only; omega
        rw [if_pos hl, if_pos ⟨this, hl⟩]
      · rw [if_neg hl, if_neg (fun hh => hl hh.2), List.getElem?_eq_none (by omega)]
    · rw [if_neg h, ih]
      have : Ins (s, n + 1) i ↔ Ins (s, n) i := by unfold Ins; simp only; omega
      simp only [this]

theorem count_set_ne (xs : List UInt8) (i : Nat) (c d a : UInt8) (hi : xs[i]? = some c) (hcd : c ≠ d) :
    (a ≠ c → a ≠ d → (xs.set i d).count a = xs.count a) ∧ xs.count c = (xs.set i d).count c + 1 ∧ (xs.set i d).count d = xs.count d + 1 := by
  obtain ⟨hl, hc⟩ := List.getElem?_eq_some_iff.1 hi
  have e : xs = xs.take i ++ c :: xs.drop (i + 1) := by rw [← hc]; simp
  have e2 : xs.set i d = xs.take i ++ d :: xs.drop (i + 1) := by rw [List.set_eq_take_append_cons_drop, if_pos hl]
  have q : ∀ a, xs.count a = (xs.take i).count a + ((if c == a then 1 else 0) + (xs.drop (i + 1)).count a) := fun a => by
    have := congrArg (List.count a) e
    rw [List.count_append, List.count_cons] at this
    omega
  have q2 : ∀ a, (xs.set i d).count a = (xs.take i).count a + ((if d == a then 1 else 0) + (xs.drop (i + 1)).count a) := fun a => by
    rw [e2, List.count_append, List.count_cons]
    omega
  have b1 : (d == c) = false := by simpa using Ne.symm hcd
  have b2 : (c == d) = false := by simpa using hcd
  refine ⟨fun h1 h2 => ?_, ?_, ?_⟩
  · rw [q, q2]
    have b3 : (c == a) = false := by simpa using Ne.symm h1
    have b4 : (d == a) = false := by simpa using Ne.symm h2
    simp [b3, b4]
  · rw [q, q2]; simp [b1]; omega
  · rw [q, q2]; simp [b2]; omega

theorem layx_count (xs : List UInt8) (s : Nat) (c d : UInt8) (hcd : c ≠ d) : ∀ n, (∀ i, Ins (s, n) i → xs[i]? = some c) →
    (∀ a, a ≠ c → a ≠ d → (layx xs s n d).count a = xs.count a) ∧ xs.count c = (layx xs s n d).count c + n ∧ (layx xs s n d).count d = xs.count d + n
  | 0, _ => ⟨fun _ _ _ => rfl, rfl, rfl⟩
  | n + 1, h => by
    obtain ⟨i1, i2, i3⟩ := layx_count xs s c d hcd n (fun i hi => h i (by unfold Ins at *; simp only at *; omega))
    have hx := h (s + n) (by unfold Ins; simp only; omega)
    have hy : (layx xs s n d)[s + n]? = some c := by
      rw [layx_get, if_neg (fun hh => by unfold Ins at hh; simp only at hh; omega)]; exact hx
    unfold layx
    have j1 := fun a => (count_set_ne (layx xs s n d) (s + n) c d a hy hcd).1
    obtain ⟨_, j2, j3⟩ := count_set_ne (layx xs s n d) (s + n) c d 0 hy hcd
    exact ⟨fun a h1 h2 => (j1 a h1 h2).trans (i1 a h1 h2), by omega, by omega⟩

/-! ### Alloc, All -/
def allocX (xs : List UInt8) (n : Nat) : List UInt8 := layx xs (pick xs n).1 (pick xs n).2 1

def allF : Nat → List UInt8 → Nat → List Ext × List UInt8
  | 0, xs, _ => ([], xs)
  | f + 1, xs, n => if n = 0 then ([], xs) else (pick xs n :: (allF f (allocX xs n) (n - (pick xs n).2)).1, (allF f (allocX xs n) (n - (pick xs n).2)).2)

theorem allF_zero (f : Nat) (xs : List UInt8) : allF f xs 0 = ([], xs) := by cases f <;> simp [allF]

/-- How it goes on does not hang on how long it might. -/
theorem allF_step (f : Nat) (xs : List UInt8) (n : Nat) (hn : 1 ≤ n) (hf : n ≤ f) (hc : n ≤ xs.count 0) :
    ∃ g, f = g + 1 ∧ n - (pick xs n).2 ≤ g ∧ allF f xs n = (pick xs n :: (allF g (allocX xs n) (n - (pick xs n).2)).1, (allF g (allocX xs n) (n - (pick xs n).2)).2) := by
  cases f with
  | zero => omega
  | succ g =>
    have := (pick_some hn (by omega : 0 < xs.count 0)).1
    refine ⟨g, rfl, by omega, ?_⟩
    rw [allF, if_neg (by omega)]

theorem allocX_count {xs : List UInt8} {n : Nat} (hn : 1 ≤ n) (h : 0 < xs.count 0) : xs.count 0 = (allocX xs n).count 0 + (pick xs n).2 ∧ (allocX xs n).count 1 = xs.count 1 + (pick xs n).2 ∧ (allocX xs n).count 2 = xs.count 2 := by
  obtain ⟨h1, h2, h3, h4⟩ := pick_some hn h
  obtain ⟨i1, i2, i3⟩ := layx_count xs (pick xs n).1 0 1 (by decide) (pick xs n).2 h4
  exact ⟨i2, i3, i1 2 (by decide) (by decide)⟩

theorem allocX_length (xs : List UInt8) (n : Nat) : (allocX xs n).length = xs.length := layx_length ..

def allX (xs : List UInt8) (n : Nat) : List Ext × List UInt8 := allF n xs n

theorem allF_spec : ∀ (f : Nat) (xs : List UInt8) (n : Nat), n ≤ f → n ≤ xs.count 0 →
    total (allF f xs n).1 = n ∧ (∀ e ∈ (allF f xs n).1, 1 ≤ e.2 ∧ e.1 + e.2 ≤ xs.length) ∧ (allF f xs n).2.length = xs.length ∧ xs.count 0 = (allF f xs n).2.count 0 + n
  | 0, xs, n, hf, hc => by
    have : n = 0 := by omega
    subst this
    simp [allF, total]
  | f + 1, xs, n, hf, hc => by
    by_cases hn : n = 0
    · subst hn; rw [allF_zero]; simp [total]
    · rw [allF, if_neg hn]
      obtain ⟨h1, h2, h3, h4⟩ := pick_some (xs := xs) (n := n) (by omega) (by omega)
      obtain ⟨c1, c2, c3⟩ := allocX_count (xs := xs) (n := n) (by omega) (by omega)
      obtain ⟨i1, i2, i3, i4⟩ := allF_spec f (allocX xs n) (n - (pick xs n).2) (by omega) (by omega)
      rw [allocX_length] at i2 i3
      refine ⟨by rw [total_cons, i1]; omega, fun e he => ?_, i3, by simp only; omega⟩
      rcases List.mem_cons.1 he with rfl | he
      · exact ⟨h1, h3⟩
      · exact i2 e he

/-! ### Take, Free, Later -/
def canT (xs : List UInt8) (s l : Int) (c : UInt8) : Bool := decide (1 ≤ l ∧ 0 ≤ s ∧ l ≤ (xs.length : Int) - s ∧ ∀ i, i < l.toNat → xs[s.toNat + i]? = some c)
def turnX (xs : List UInt8) (s l : Int) (c d : UInt8) : List UInt8 := if canT xs s l c then layx xs s.toNat l.toNat d else xs

theorem turnX_length (xs : List UInt8) (s l : Int) (c d : UInt8) : (turnX xs s l c d).length = xs.length := by
  unfold turnX; split
  · exact layx_length ..
  · rfl

/-! ### Commit -/
def commitX (xs : List UInt8) : List UInt8 := xs.map fun x => if x = 2 then 0 else x

def layAll (xs : List UInt8) (es : List Ext) (v : UInt8) : List UInt8 := es.foldl (fun ys e => layx ys e.1 e.2 v) xs

theorem layAll_get (v : UInt8) (i : Nat) : ∀ (es : List Ext) (xs : List UInt8), (layAll xs es v).length = xs.length ∧ (layAll xs es v)[i]? = if 0 < hits es i ∧ i < xs.length then some v else xs[i]?
  | [], xs => by simp [layAll, hits]
  | e :: es, xs => by
    obtain ⟨h1, h2⟩ := layAll_get v i es (layx xs e.1 e.2 v)
    have q : layAll xs (e :: es) v = layAll (layx xs e.1 e.2 v) es v := rfl
    rw [layx_length] at h1 h2
    refine ⟨by rw [q, h1], ?_⟩
    rw [q, h2, layx_get, hits_cons]
    by_cases hi : Ins e i
    · have hi' : Ins (e.1, e.2) i := hi
      by_cases hl : i < xs.length
      · rw [if_pos (And.intro hi' hl), if_pos hi, if_pos (show 0 < 1 + hits es i ∧ i < xs.length from ⟨by omega, hl⟩)]
        split <;> rfl
      · rw [if_neg (fun hh : Ins (e.1, e.2) i ∧ i < xs.length => hl hh.2), if_neg (fun hh : 0 < hits es i ∧ i < xs.length => hl hh.2), if_neg (fun hh : 0 < (if Ins e i then 1 else 0) + hits es i ∧ i < xs.length => hl hh.2)]
    · have hi' : ¬ Ins (e.1, e.2) i := hi
      rw [if_neg (fun hh : Ins (e.1, e.2) i ∧ i < xs.length => hi' hh.1), if_neg hi, Nat.zero_add]

theorem layAll_commit (xs : List UInt8) : layAll xs (runs 2 xs) 0 = commitX xs := by
  apply List.ext_getElem?
  intro i
  rw [(layAll_get 0 i (runs 2 xs) xs).2, runs_hits]
  unfold commitX
  rw [List.getElem?_map]
  by_cases h : i < xs.length
  · rw [List.getElem?_eq_getElem h]
    by_cases hx : xs[i] = 2
    · simp [hx, h]
    · simp [hx, h]
  · rw [List.getElem?_eq_none (by omega)]; simp

theorem commitX_length (xs : List UInt8) : (commitX xs).length = xs.length := List.length_map ..
end Go.Proofs.Ytelobmdlnkkbkaa
