/-
  A tree of keys with extents, plainly: its pairs, what putting and deleting make of it, and that it stays right. It names nothing of the program.
-/
import Derived.WalkKit
namespace Go.Proofs.Ytnljfhjindenpab
set_option linter.unusedVariables false
set_option linter.unusedSimpArgs false
set_option maxRecDepth 20000

/-- An extent: where it starts, how long it is; a key with its extent. -/
abbrev Ext := Int × Int
abbrev Pr := Int × Ext

/-- A tree whose leaves stand n below its root. -/
abbrev Tr : Nat → Type
  | 0 => List Pr
  | n + 1 => List Int × List (Tr n)

def keysOf : (n : Nat) → Tr n → List Int
  | 0, t => t.map (·.1)
  | _ + 1, t => t.1

def flat : (n : Nat) → Tr n → List Pr
  | 0, t => t
  | n + 1, t => t.2.flatMap (flat n)

def lo (ks : List Int) (k : Int) : Nat := ks.countP (fun x => decide (x < k))
def hi (ks : List Int) (k : Int) : Nat := ks.countP (fun x => decide (x ≤ k))

abbrev Rise (ks : List Int) : Prop := ks.Pairwise (· < ·)

theorem lo_le (ks : List Int) (k : Int) : lo ks k ≤ ks.length := List.countP_le_length
theorem hi_le (ks : List Int) (k : Int) : hi ks k ≤ ks.length := List.countP_le_length

/-- In what rises those below k stand ahead. -/
theorem split_at (p : Int → Bool) (hp : ∀ x y, x < y → p y = true → p x = true) : ∀ (ks : List Int), Rise ks → ks.take (ks.countP p) = ks.filter p ∧ ks.drop (ks.countP p) = ks.filter (fun x => !p x)
  | [], _ => ⟨rfl, rfl⟩
  | k :: ks, h => by
    have h1 := List.pairwise_cons.1 h
    obtain ⟨i1, i2⟩ := split_at p hp ks h1.2
    by_cases hk : p k = true
    · simp [List.countP_cons, hk, i1, i2]
    · have : ∀ x ∈ ks, p x = false := fun x hx => by
        by_cases hx' : p x = true
        · exact absurd (hp k x (h1.1 x hx) hx') hk
        · simpa using hx'
      have h0 : ks.countP p = 0 := List.countP_eq_zero.2 (fun x hx => by simp [this x hx])
      have hf : ks.filter p = [] := List.filter_eq_nil_iff.2 (fun x hx => by simp [this x hx])
      have hg : ks.filter (fun x => !p x) = ks := List.filter_eq_self.2 (fun x hx => by simp [this x hx])
      simp [List.countP_cons, hk, h0, hf, hg]

/-! ### What is asked of a tree -/
section
variable {α : Type} (B : α → Int → Int → Prop)

def Bds : Int → List Int → List α → Int → Prop
  | a, [], [c], b => B c a b
  | a, k :: ks, c :: cs, b => B c a k ∧ Bds k ks cs b
  | _, _, _, _ => False

def Pre : Int → List Int → List α → Int → Prop
  | a, [], [], m => m = a
  | a, k :: ks, c :: cs, m => B c a k ∧ Pre k ks cs m
  | _, _, _, _ => False

def Post : Int → List Int → List α → Int → Prop
  | n, [], [], b => n = b
  | n, k :: ks, c :: cs, b => n = k ∧ ∃ n', B c k n' ∧ Post n' ks cs b
  | _, _, _, _ => False

variable {B}

theorem bds_length : ∀ {a b : Int} {ks : List Int} {cs : List α}, Bds B a ks cs b → cs.length = ks.length + 1
  | _, _, [], [c], _ => rfl
  | _, _, [], [], h => h.elim
  | _, _, [], _ :: _ :: _, h => h.elim
  | _, _, _ :: _, [], h => h.elim
  | a, b, k :: ks, c :: cs, h => by have := bds_length h.2; simp [this]

theorem pre_length : ∀ {a b : Int} {ks : List Int} {cs : List α}, Pre B a ks cs b → cs.length = ks.length
  | _, _, [], [], _ => rfl
  | _, _, [], _ :: _, h => h.elim
  | _, _, _ :: _, [], h => h.elim
  | a, b, k :: ks, c :: cs, h => by have := pre_length h.2; simp [this]

theorem post_length : ∀ {a b : Int} {ks : List Int} {cs : List α}, Post B a ks cs b → cs.length = ks.length
  | _, _, [], [], _ => rfl
  | _, _, [], _ :: _, h => h.elim
  | _, _, _ :: _, [], h => h.elim
  | a, b, k :: ks, c :: cs, ⟨_, n', _, h⟩ => by have := post_length h; simp [this]

theorem bds_post : ∀ {ks : List Int} {cs : List α} {k b : Int} {c : α}, Bds B k ks (c :: cs) b ↔ ∃ n, B c k n ∧ Post B n ks cs b
  | [], [], k, b, c => ⟨fun h => ⟨b, h, rfl⟩, fun ⟨n, h1, h2⟩ => by cases h2; exact h1⟩
  | [], _ :: _, k, b, c => ⟨fun h => h.elim, fun ⟨_, _, h⟩ => h.elim⟩
  | k' :: ks, [], k, b, c => ⟨fun h => by cases ks <;> exact h.2.elim, fun ⟨_, _, h⟩ => h.elim⟩
  | k' :: ks, c' :: cs, k, b, c => by
    constructor
    · rintro ⟨h1, h2⟩
      exact ⟨k', h1, rfl, bds_post.1 h2⟩
    · rintro ⟨n, h1, rfl, h2⟩
      exact ⟨h1, bds_post.2 h2⟩

theorem bds_split : ∀ {ks1 ks2 : List Int} {cs1 cs2 : List α} {a b : Int} {c : α}, cs1.length = ks1.length →
    (Bds B a (ks1 ++ ks2) (cs1 ++ c :: cs2) b ↔ ∃ m n, Pre B a ks1 cs1 m ∧ B c m n ∧ Post B n ks2 cs2 b)
  | [], ks2, [], cs2, a, b, c, _ => by
    constructor
    · intro h
      obtain ⟨n, h1, h2⟩ := bds_post.1 h
      exact ⟨a, n, rfl, h1, h2⟩
    · rintro ⟨m, n, rfl, h1, h2⟩
      exact bds_post.2 ⟨n, h1, h2⟩
  | k :: ks1, ks2, c0 :: cs1, cs2, a, b, c, hl => by
    have hl' : cs1.length = ks1.length := by simpa using hl
    constructor
    · rintro ⟨h1, h2⟩
      obtain ⟨m, n, h3, h4, h5⟩ := (bds_split hl').1 h2
      exact ⟨m, n, ⟨h1, h3⟩, h4, h5⟩
    · rintro ⟨m, n, ⟨h1, h2⟩, h3, h4⟩
      exact ⟨h1, (bds_split hl').2 ⟨m, n, h2, h3, h4⟩⟩

/-- Two beside each other are one. -/
theorem bds_join : ∀ {ks1 ks2 : List Int} {cs1 cs2 : List α} {a b k : Int}, cs1.length = ks1.length + 1 →
    (Bds B a (ks1 ++ k :: ks2) (cs1 ++ cs2) b ↔ Bds B a ks1 cs1 k ∧ Bds B k ks2 cs2 b)
  | [], ks2, [c], cs2, a, b, k, _ => by simp [Bds]
  | k0 :: ks1, ks2, c0 :: cs1, cs2, a, b, k, hl => by
    have hl' : cs1.length = ks1.length + 1 := by simpa using hl
    simp only [List.cons_append, Bds, bds_join hl', and_assoc]

theorem pre_snoc : ∀ {ks : List Int} {cs : List α} {a m : Int}, Pre B a ks cs m → ks ≠ [] → ∃ ks' k cs' c m', ks = ks' ++ [k] ∧ cs = cs' ++ [c] ∧ Pre B a ks' cs' m' ∧ B c m' k ∧ m = k
  | [], _, _, _, _, h => absurd rfl h
  | [k], [c], a, m, ⟨h1, h2⟩, _ => by
    cases h2
    exact ⟨[], k, [], c, a, rfl, rfl, rfl, h1, rfl⟩
  | [k], _ :: _ :: _, a, m, ⟨h1, h2⟩, _ => h2.elim
  | k :: k2 :: ks, [c], a, m, ⟨h1, h2⟩, _ => h2.elim
  | k :: k2 :: ks, c :: c2 :: cs, a, m, ⟨h1, h2⟩, _ => by
    obtain ⟨ks', k', cs', c', m', e1, e2, h3, h4, h5⟩ := pre_snoc h2 (by simp)
    refine ⟨k :: ks', k', c :: cs', c', m', by simp [e1], by simp [e2], ⟨h1, h3⟩, h4, h5⟩

theorem bds_mono {B' : α → Int → Int → Prop} (hB : ∀ c a b, B c a b → B' c a b) : ∀ {ks : List Int} {cs : List α} {a b : Int}, Bds B a ks cs b → Bds B' a ks cs b
  | [], [c], a, b, h => hB _ _ _ h
  | k :: ks, c :: cs, a, b, h => ⟨hB _ _ _ h.1, bds_mono hB h.2⟩

theorem bds_mem : ∀ {ks : List Int} {cs : List α} {a b : Int} {c : α}, Bds B a ks cs b → c ∈ cs → ∃ m n, B c m n
  | [], [c0], a, b, c, h, hc => by
    have : c = c0 := by simpa using hc
    subst this
    exact ⟨a, b, h⟩
  | k :: ks, c0 :: cs, a, b, c, h, hc => by
    rcases List.mem_cons.1 hc with rfl | hc
    · exact ⟨_, _, h.1⟩
    · exact bds_mem h.2 hc

theorem bds_keys (hB : ∀ c a b, B c a b → a < b) : ∀ {ks : List Int} {cs : List α} {a b : Int}, Bds B a ks cs b → a < b ∧ Rise ks ∧ ∀ k ∈ ks, a < k ∧ k < b
  | [], [c], a, b, h => ⟨hB _ _ _ h, List.Pairwise.nil, by simp⟩
  | k :: ks, c :: cs, a, b, h => by
    obtain ⟨h1, h2, h3⟩ := bds_keys hB h.2
    have h4 := hB _ _ _ h.1
    refine ⟨by omega, List.pairwise_cons.2 ⟨fun x hx => (h3 x hx).1, h2⟩, fun x hx => ?_⟩
    rcases List.mem_cons.1 hx with rfl | hx
    · exact ⟨h4, h1⟩
    · have := h3 x hx
      omega

/-- Below which kid a key belongs. -/
theorem bds_find (hB : ∀ c a b, B c a b → a < b) (key : Int) : ∀ {ks : List Int} {cs : List α} {a b : Int}, Bds B a ks cs b → a ≤ key → key < b →
    ∃ ks1 ks2 cs1 c cs2 m n, ks = ks1 ++ ks2 ∧ cs = cs1 ++ c :: cs2 ∧ ks1.length = hi ks key ∧ cs1.length = hi ks key ∧ Pre B a ks1 cs1 m ∧ B c m n ∧ Post B n ks2 cs2 b ∧ m ≤ key ∧ key < n
  | [], [c], a, b, h, h1, h2 => ⟨[], [], [], c, [], a, b, rfl, rfl, rfl, rfl, rfl, h, rfl, h1, h2⟩
  | k :: ks, c :: cs, a, b, h, h1, h2 => by
    by_cases hk : k ≤ key
    · obtain ⟨ks1, ks2, cs1, c', cs2, m, n, e1, e2, e3, e4, h3, h4, h5, h6, h7⟩ := bds_find hB key h.2 hk h2
      have hh : hi (k :: ks) key = hi ks key + 1 := by simp [hi, List.countP_cons, hk]
      exact ⟨k :: ks1, ks2, c :: cs1, c', cs2, m, n, by simp [e1], by simp [e2], by simp [hh, e3], by simp [hh, e4], ⟨h.1, h3⟩, h4, h5, h6, h7⟩
    · have hkeys := (bds_keys hB h.2).2.2
      have hh : hi (k :: ks) key = 0 := by
        unfold hi
        refine List.countP_eq_zero.2 (fun x hx => ?_)
        rcases List.mem_cons.1 hx with rfl | hx
        · simpa using hk
        · have := hkeys x hx
          simp; omega
      obtain ⟨n, h3, h4⟩ := bds_post.1 (show Bds B a (k :: ks) (c :: cs) b from h)
      refine ⟨[], k :: ks, [], c, cs, a, n, rfl, rfl, hh.symm, hh.symm, rfl, h3, h4, h1, ?_⟩
      cases cs with
      | nil => exact h4.elim
      | cons c2 cs => have := h4.1; omega
end

/-- A tree with from m to M keys in its root, from 3 to 7 in all others, all keys from a on, below b, each in its place. -/
def R : (n : Nat) → (m M : Nat) → Tr n → Int → Int → Prop
  | 0, m, M, t, a, b => (m ≤ t.length ∧ t.length ≤ M) ∧ Rise (t.map (·.1)) ∧ ∀ p ∈ t, a ≤ p.1 ∧ p.1 < b
  | n + 1, m, M, t, a, b => (m ≤ t.1.length ∧ t.1.length ≤ M) ∧ Bds (fun c a b => R n 3 7 c a b) a t.1 t.2 b

theorem R.size : ∀ {n m M : Nat} {t : Tr n} {a b : Int}, R n m M t a b → m ≤ (keysOf n t).length ∧ (keysOf n t).length ≤ M
  | 0, m, M, t, a, b, h => by simpa [keysOf] using h.1
  | n + 1, m, M, t, a, b, h => h.1

theorem R.resize : ∀ {n m M m' M' : Nat} {t : Tr n} {a b : Int}, R n m M t a b → m' ≤ (keysOf n t).length → (keysOf n t).length ≤ M' → R n m' M' t a b
  | 0, m, M, m', M', t, a, b, h, h1, h2 => ⟨⟨by simpa [keysOf] using h1, by simpa [keysOf] using h2⟩, h.2⟩
  | n + 1, m, M, m', M', t, a, b, h, h1, h2 => ⟨⟨h1, h2⟩, h.2⟩

theorem R.lt : ∀ {n m M : Nat} {t : Tr n} {a b : Int}, R n m M t a b → 0 < m → a < b
  | 0, m, M, t, a, b, h, hm => by
    cases t with
    | nil => have := h.1.1; simp at this; omega
    | cons p t => have := h.2.2 p (by simp); omega
  | n + 1, m, M, t, a, b, h, _ => (bds_keys (fun c a b hc => R.lt hc (by decide)) h.2).1

theorem R.kidlt {n : Nat} : ∀ (c : Tr n) a b, (fun c a b => R n 3 7 c a b) c a b → a < b := fun _ _ _ h => R.lt h (by decide)

theorem R.keys : ∀ {n m M : Nat} {t : Tr n} {a b : Int}, R n m M t a b → Rise (keysOf n t) ∧ ∀ k ∈ keysOf n t, a ≤ k ∧ k < b
  | 0, m, M, t, a, b, h => ⟨h.2.1, fun k hk => by
      obtain ⟨p, hp, rfl⟩ := List.mem_map.1 hk
      exact h.2.2 p hp⟩
  | n + 1, m, M, t, a, b, h => by
    obtain ⟨_, h2, h3⟩ := bds_keys R.kidlt h.2
    exact ⟨h2, fun k hk => ⟨by have := h3 k hk; omega, (h3 k hk).2⟩⟩

/-! ### The pairs -/
theorem pre_flat {α : Type} {B : α → Int → Int → Prop} {f : α → List Pr} (hB : ∀ c a b, B c a b → a < b) (hf : ∀ c a b, B c a b → ∀ p ∈ f c, a ≤ p.1 ∧ p.1 < b) : ∀ {ks : List Int} {cs : List α} {a m : Int}, Pre B a ks cs m → a ≤ m ∧ ∀ p ∈ cs.flatMap f, a ≤ p.1 ∧ p.1 < m
  | [], [], a, m, h => by cases h; exact ⟨by omega, by simp⟩
  | k :: ks, c :: cs, a, m, ⟨h1, h2⟩ => by
    obtain ⟨h3, h4⟩ := pre_flat hB hf h2
    have h5 := hB _ _ _ h1
    refine ⟨by omega, fun p hp => ?_⟩
    rw [List.flatMap_cons, List.mem_append] at hp
    rcases hp with hp | hp
    · have := hf _ _ _ h1 p hp; omega
    · have := h4 p hp; omega

theorem post_flat {α : Type} {B : α → Int → Int → Prop} {f : α → List Pr} (hB : ∀ c a b, B c a b → a < b) (hf : ∀ c a b, B c a b → ∀ p ∈ f c, a ≤ p.1 ∧ p.1 < b) : ∀ {ks : List Int} {cs : List α} {a m : Int}, Post B a ks cs m → a ≤ m ∧ ∀ p ∈ cs.flatMap f, a ≤ p.1 ∧ p.1 < m
  | [], [], a, m, h => by cases h; exact ⟨by omega, by simp⟩
  | k :: ks, c :: cs, a, m, ⟨h0, n', h1, h2⟩ => by
    obtain ⟨h3, h4⟩ := post_flat hB hf h2
    have h5 := hB _ _ _ h1
    refine ⟨by omega, fun p hp => ?_⟩
    rw [List.flatMap_cons, List.mem_append] at hp
    rcases hp with hp | hp
    · have := hf _ _ _ h1 p hp; omega
    · have := h4 p hp; omega

theorem bds_flat {α : Type} {B : α → Int → Int → Prop} {f : α → List Pr} (hB : ∀ c a b, B c a b → a < b) (hf : ∀ c a b, B c a b → (∀ p ∈ f c, a ≤ p.1 ∧ p.1 < b) ∧ Rise ((f c).map (·.1))) :
    ∀ {ks : List Int} {cs : List α} {a b : Int}, Bds B a ks cs b → (∀ p ∈ cs.flatMap f, a ≤ p.1 ∧ p.1 < b) ∧ Rise ((cs.flatMap f).map (·.1))
  | [], [c], a, b, h => by simpa using hf _ _ _ h
  | k :: ks, c :: cs, a, b, h => by
    obtain ⟨h1, h2⟩ := bds_flat hB hf h.2
    obtain ⟨h3, h4⟩ := hf _ _ _ h.1
    have h5 := (bds_keys hB h.2).1
    have h6 := hB _ _ _ h.1
    constructor
    · intro p hp
      rw [List.flatMap_cons, List.mem_append] at hp
      rcases hp with hp | hp
      · have := h3 p hp; omega
      · have := h1 p hp; omega
    · rw [List.flatMap_cons, List.map_append]
      refine List.pairwise_append.2 ⟨h4, h2, fun x hx y hy => ?_⟩
      obtain ⟨p, hp, rfl⟩ := List.mem_map.1 hx
      obtain ⟨q, hq, rfl⟩ := List.mem_map.1 hy
      have := h3 p hp
      have := h1 q hq
      omega

theorem R.flat : ∀ {n m M : Nat} {t : Tr n} {a b : Int}, R n m M t a b → (∀ p ∈ flat n t, a ≤ p.1 ∧ p.1 < b) ∧ Rise ((Proofs.Ytnljfhjindenpab.flat n t).map (·.1))
  | 0, m, M, t, a, b, h => ⟨h.2.2, h.2.1⟩
  | n + 1, m, M, t, a, b, h => bds_flat (f := Proofs.Ytnljfhjindenpab.flat n) R.kidlt (fun c a b hc => R.flat hc) h.2

theorem R.kidflat {n : Nat} : ∀ (c : Tr n) a b, (fun c a b => R n 3 7 c a b) c a b → ∀ p ∈ Proofs.Ytnljfhjindenpab.flat n c, a ≤ p.1 ∧ p.1 < b := fun _ _ _ h => (R.flat h).1

/-- The pairs with one more key; without a key. -/
def putL (k : Int) (e : Ext) (l : List Pr) : List Pr := l.filter (fun p => decide (p.1 < k)) ++ (k, e) :: l.filter (fun p => decide (k < p.1))
def delL (k : Int) (l : List Pr) : List Pr := l.filter (fun p => !decide (p.1 = k))

theorem filt_all {l : List Pr} {p : Pr → Bool} (h : ∀ x ∈ l, p x = true) : l.filter p = l := List.filter_eq_self.2 h
theorem filt_none {l : List Pr} {p : Pr → Bool} (h : ∀ x ∈ l, p x = false) : l.filter p = [] := List.filter_eq_nil_iff.2 (fun x hx => by simp [h x hx])

theorem putL_mid {k : Int} {e : Ext} {a b c : List Pr} (ha : ∀ p ∈ a, p.1 < k) (hc : ∀ p ∈ c, k < p.1) : putL k e (a ++ b ++ c) = a ++ putL k e b ++ c := by
  unfold putL
  rw [List.filter_append, List.filter_append, List.filter_append, List.filter_append]
  rw [filt_all (l := a) (fun x hx => by simpa using ha x hx), filt_none (l := a) (fun x hx => by have := ha x hx; simp; omega), filt_none (l := c) (fun x hx => by have := hc x hx; simp; omega), filt_all (l := c) (fun x hx => by simpa using hc x hx)]
  simp

theorem delL_mid {k : Int} {a b c : List Pr} (ha : ∀ p ∈ a, p.1 < k) (hc : ∀ p ∈ c, k < p.1) : delL k (a ++ b ++ c) = a ++ delL k b ++ c := by
  unfold delL
  rw [List.filter_append, List.filter_append]
  rw [filt_all (l := a) (fun x hx => by have := ha x hx; simp; omega), filt_all (l := c) (fun x hx => by have := hc x hx; simp; omega)]
end Go.Proofs.Ytnljfhjindenpab
