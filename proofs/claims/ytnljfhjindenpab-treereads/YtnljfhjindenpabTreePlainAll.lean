/-
  TreePlain, TreePlain2, TreePlain3: in one text.
-/
import Derived.WalkKit
namespace Go.Proofs.Ytnljfhjindenpab
set_option linter.unusedVariables false
set_option linter.unusedSimpArgs false
set_option maxRecDepth 20000

/-- An extent: where it starts, how long it is; a key with its extent. -/
abbrev Ext := Int × Int
abbrev Pr := Int × Ext

/-- A tree whose leaves stand n below its root. -/
abbrev Tr : Nat → Type
  | 0 => List Pr
  | n + 1 => List Int × List (Tr n)

def keysOf : (n : Nat) → Tr n → List Int
  | 0, t => t.map (·.1)
  | _ + 1, t => t.1

def flat : (n : Nat) → Tr n → List Pr
  | 0, t => t
  | n + 1, t => t.2.flatMap (flat n)

def lo (ks : List Int) (k : Int) : Nat := ks.countP (fun x => decide (x < k))
def hi (ks : List Int) (k : Int) : Nat := ks.countP (fun x => decide (x ≤ k))

abbrev Rise (ks : List Int) : Prop := ks.Pairwise (· < ·)

theorem lo_le (ks : List Int) (k : Int) : lo ks k ≤ ks.length := List.countP_le_length
theorem hi_le (ks : List Int) (k : Int) : hi ks k ≤ ks.length := List.countP_le_length

/-- In what rises those below k stand ahead. -/
theorem split_at (p : Int → Bool) (hp : ∀ x y, x < y → p y = true → p x = true) : ∀ (ks : List Int), Rise ks → ks.take (ks.countP p) = ks.filter p ∧ ks.drop (ks.countP p) = ks.filter (fun x => !p x)
  | [], _ => ⟨rfl, rfl⟩
  | k :: ks, h => by
    have h1 := List.pairwise_cons.1 h
    obtain ⟨i1, i2⟩ := split_at p hp ks h1.2
    by_cases hk : p k = true
    · simp [List.countP_cons, hk, i1, i2]
    · have : ∀ x ∈ ks, p x = false := fun x hx => by
        by_cases hx' : p x = true
        · exact absurd (hp k x (h1.1 x hx) hx') hk
        · simpa using hx'
      have h0 : ks.countP p = 0 := List.countP_eq_zero.2 (fun x hx => by simp [this x hx])
      have hf : ks.filter p = [] := List.filter_eq_nil_iff.2 (fun x hx => by simp [this x hx])
      have hg : ks.filter (fun x => !p x) = ks := List.filter_eq_self.2 (fun x hx => by simp [this x hx])
      simp [List.countP_cons, hk, h0, hf, hg]

/-! ### What is asked of a tree -/
section
variable {α : Type} (B : α → Int → Int → Prop)

def Bds : Int → List Int → List α → Int → Prop
  | a, [], [c], b => B c a b
  | a, k :: ks, c :: cs, b => B c a k ∧ Bds k ks cs b
  | _, _, _, _ => False

def Pre : Int → List Int → List α → Int → Prop
  | a, [], [], m => m = a
  | a, k :: ks, c :: cs, m => B c a k ∧ Pre k ks cs m
  | _, _, _, _ => False

def Post : Int → List Int → List α → Int → Prop
  | n, [], [], b => n = b
  | n, k :: ks, c :: cs, b => n = k ∧ ∃ n', B c k n' ∧ Post n' ks cs b
  | _, _, _, _ => False

variable {B}

theorem bds_length : ∀ {a b : Int} {ks : List Int} {cs : List α}, Bds B a ks cs b → cs.length = ks.length + 1
  | _, _, [], [c], _ => rfl
  | _, _, [], [], h => h.elim
  | _, _, [], _ :: _ :: _, h => h.elim
  | _, _, _ :: _, [], h => h.elim
  | a, b, k :: ks, c :: cs, h => by have := bds_length h.2; simp [this]

theorem pre_length : ∀ {a b : Int} {ks : List Int} {cs : List α}, Pre B a ks cs b → cs.length = ks.length
  | _, _, [], [], _ => rfl
  | _, _, [], _ :: _, h => h.elim
  | _, _, _ :: _, [], h => h.elim
  | a, b, k :: ks, c :: cs, h => by have := pre_length h.2; simp [this]

theorem post_length : ∀ {a b : Int} {ks : List Int} {cs : List α}, Post B a ks cs b → cs.length = ks.length
  | _, _, [], [], _ => rfl
  | _, _, [], _ :: _, h => h.elim
  | _, _, _ :: _, [], h => h.elim
  | a, b, k :: ks, c :: cs, ⟨_, n', _, h⟩ => by have := post_length h; simp [this]

theorem bds_post : ∀ {ks : List Int} {cs : List α} {k b : Int} {c : α}, Bds B k ks (c :: cs) b ↔ ∃ n, B c k n ∧ Post B n ks cs b
  | [], [], k, b, c => ⟨fun h => ⟨b, h, rfl⟩, fun ⟨n, h1, h2⟩ => by cases h2; exact h1⟩
  | [], _ :: _, k, b, c => ⟨fun h => h.elim, fun ⟨_, _, h⟩ => h.elim⟩
  | k' :: ks, [], k, b, c => ⟨fun h => by cases ks <;> exact h.2.elim, fun ⟨_, _, h⟩ => h.elim⟩
  | k' :: ks, c' :: cs, k, b, c => by
    constructor
    · rintro ⟨h1, h2⟩
      exact ⟨k', h1, rfl, bds_post.1 h2⟩
    · rintro ⟨n, h1, rfl, h2⟩
      exact ⟨h1, bds_post.2 h2⟩

theorem bds_split : ∀ {ks1 ks2 : List Int} {cs1 cs2 : List α} {a b : Int} {c : α}, cs1.length = ks1.length →
    (Bds B a (ks1 ++ ks2) (cs1 ++ c :: cs2) b ↔ ∃ m n, Pre B a ks1 cs1 m ∧ B c m n ∧ Post B n ks2 cs2 b)
  | [], ks2, [], cs2, a, b, c, _ => by
    constructor
    · intro h
      obtain ⟨n, h1, h2⟩ := bds_post.1 h
      exact ⟨a, n, rfl, h1, h2⟩
    · rintro ⟨m, n, rfl, h1, h2⟩
      exact bds_post.2 ⟨n, h1, h2⟩
  | k :: ks1, ks2, c0 :: cs1, cs2, a, b, c, hl => by
    have hl' : cs1.length = ks1.length := by simpa using hl
    constructor
    · rintro ⟨h1, h2⟩
      obtain ⟨m, n, h3, h4, h5⟩ := (bds_split hl').1 h2
      exact ⟨m, n, ⟨h1, h3⟩, h4, h5⟩
    · rintro ⟨m, n, ⟨h1, h2⟩, h3, h4⟩
      exact ⟨h1, (bds_split hl').2 ⟨m, n, h2, h3, h4⟩⟩

/-- Two beside each other are one. -/
theorem bds_join : ∀ {ks1 ks2 : List Int} {cs1 cs2 : List α} {a b k : Int}, cs1.length = ks1.length + 1 →
    (Bds B a (ks1 ++ k :: ks2) (cs1 ++ cs2) b ↔ Bds B a ks1 cs1 k ∧ Bds B k ks2 cs2 b)
  | [], ks2, [c], cs2, a, b, k, _ => by simp [Bds]
  | k0 :: ks1, ks2, c0 :: cs1, cs2, a, b, k, hl => by
    have hl' : cs1.length = ks1.length + 1 := by simpa using hl
    simp only [List.cons_append, Bds, bds_join hl', and_assoc]

theorem pre_snoc : ∀ {ks : List Int} {cs : List α} {a m : Int}, Pre B a ks cs m → ks ≠ [] → ∃ ks' k cs' c m', ks = ks' ++ [k] ∧ cs = cs' ++ [c] ∧ Pre B a ks' cs' m' ∧ B c m' k ∧ m = k
  | [], _, _, _, _, h => absurd rfl h
  | [k], [c], a, m, ⟨h1, h2⟩, _ => by
    cases h2
    exact ⟨[], k, [], c, a, rfl, rfl, rfl, h1, rfl⟩
  | [k], _ :: _ :: _, a, m, ⟨h1, h2⟩, _ => h2.elim
  | k :: k2 :: ks, [c], a, m, ⟨h1, h2⟩, _ => h2.elim
  | k :: k2 :: ks, c :: c2 :: cs, a, m, ⟨h1, h2⟩, _ => by
    obtain ⟨ks', k', cs', c', m', e1, e2, h3, h4, h5⟩ := pre_snoc h2 (by simp)
    refine ⟨k :: ks', k', c :: cs', c', m', by simp [e1], by simp [e2], ⟨h1, h3⟩, h4, h5⟩

theorem bds_mono {B' : α → Int → Int → Prop} (hB : ∀ c a b, B c a b → B' c a b) : ∀ {ks : List Int} {cs : List α} {a b : Int}, Bds B a ks cs b → Bds B' a ks cs b
  | [], [c], a, b, h => hB _ _ _ h
  | k :: ks, c :: cs, a, b, h => ⟨hB _ _ _ h.1, bds_mono hB h.2⟩

theorem bds_mem : ∀ {ks : List Int} {cs : List α} {a b : Int} {c : α}, Bds B a ks cs b → c ∈ cs → ∃ m n, B c m n
  | [], [c0], a, b, c, h, hc => by
    have : c = c0 := by simpa using hc
    subst this
    exact ⟨a, b, h⟩
  | k :: ks, c0 :: cs, a, b, c, h, hc => by
    rcases List.mem_cons.1 hc with rfl | hc
    · exact ⟨_, _, h.1⟩
    · exact bds_mem h.2 hc

theorem bds_keys (hB : ∀ c a b, B c a b → a < b) : ∀ {ks : List Int} {cs : List α} {a b : Int}, Bds B a ks cs b → a < b ∧ Rise ks ∧ ∀ k ∈ ks, a < k ∧ k < b
  | [], [c], a, b, h => ⟨hB _ _ _ h, List.Pairwise.nil, by simp⟩
  | k :: ks, c :: cs, a, b, h => by
    obtain ⟨h1, h2, h3⟩ := bds_keys hB h.2
    have h4 := hB _ _ _ h.1
    refine ⟨by omega, List.pairwise_cons.2 ⟨fun x hx => (h3 x hx).1, h2⟩, fun x hx => ?_⟩
    rcases List.mem_cons.1 hx with rfl | hx
    · exact ⟨h4, h1⟩
    · have := h3 x hx
      omega

/-- Below which kid a key belongs. -/
theorem bds_find (hB : ∀ c a b, B c a b → a < b) (key : Int) : ∀ {ks : List Int} {cs : List α} {a b : Int}, Bds B a ks cs b → a ≤ key → key < b →
    ∃ ks1 ks2 cs1 c cs2 m n, ks = ks1 ++ ks2 ∧ cs = cs1 ++ c :: cs2 ∧ ks1.length = hi ks key ∧ cs1.length = hi ks key ∧ Pre B a ks1 cs1 m ∧ B c m n ∧ Post B n ks2 cs2 b ∧ m ≤ key ∧ key < n
  | [], [c], a, b, h, h1, h2 => ⟨[], [], [], c, [], a, b, rfl, rfl, rfl, rfl, rfl, h, rfl, h1, h2⟩
  | k :: ks, c :: cs, a, b, h, h1, h2 => by
    by_cases hk : k ≤ key
    · obtain ⟨ks1, ks2, cs1, c', cs2, m, n, e1, e2, e3, e4, h3, h4, h5, h6, h7⟩ := bds_find hB key h.2 hk h2
      have hh : hi (k :: ks) key = hi ks key + 1 := by simp [hi, List.countP_cons, hk]
      exact ⟨k :: ks1, ks2, c :: cs1, c', cs2, m, n, by simp [e1], by simp [e2], by simp [hh, e3], by simp [hh, e4], ⟨h.1, h3⟩, h4, h5, h6, h7⟩
    · have hkeys := (bds_keys hB h.2).2.2
      have hh : hi (k :: ks) key = 0 := by
        unfold hi
        refine List.countP_eq_zero.2 (fun x hx => ?_)
        rcases List.mem_cons.1 hx with rfl | hx
        · simpa using hk
        · have := hkeys x hx
          simp; omega
      obtain ⟨n, h3, h4⟩ := bds_post.1 (show Bds B a (k :: ks) (c :: cs) b from h)
      refine ⟨[], k :: ks, [], c, cs, a, n, rfl, rfl, hh.symm, hh.symm, rfl, h3, h4, h1, ?_⟩
      cases cs with
      | nil => exact h4.elim
      | cons c2 cs => have := h4.1; omega
end

/-- A tree with from m to M keys in its root, from 3 to 7 in all others, all keys from a on, below b, each in its place. -/
def R : (n : Nat) → (m M : Nat) → Tr n → Int → Int → Prop
  | 0, m, M, t, a, b => (m ≤ t.length ∧ t.length ≤ M) ∧ Rise (t.map (·.1)) ∧ ∀ p ∈ t, a ≤ p.1 ∧ p.1 < b
  | n + 1, m, M, t, a, b => (m ≤ t.1.length ∧ t.1.length ≤ M) ∧ Bds (fun c a b => R n 3 7 c a b) a t.1 t.2 b

theorem R.size : ∀ {n m M : Nat} {t : Tr n} {a b : Int}, R n m M t a b → m ≤ (keysOf n t).length ∧ (keysOf n t).length ≤ M
  | 0, m, M, t, a, b, h => by simpa [keysOf] using h.1
  | n + 1, m, M, t, a, b, h => h.1

theorem R.resize : ∀ {n m M m' M' : Nat} {t : Tr n} {a b : Int}, R n m M t a b → m' ≤ (keysOf n t).length → (keysOf n t).length ≤ M' → R n m' M' t a b
  | 0, m, M, m', M', t, a, b, h, h1, h2 => ⟨⟨by simpa [keysOf] using h1, by simpa [keysOf] using h2⟩, h.2⟩
  | n + 1, m, M, m', M', t, a, b, h, h1, h2 => ⟨⟨h1, h2⟩, h.2⟩

theorem R.lt : ∀ {n m M : Nat} {t : Tr n} {a b : Int}, R n m M t a b → 0 < m → a < b
  | 0, m, M, t, a, b, h, hm => by
    cases t with
    | nil => have := h.1.1; simp at this; omega
    | cons p t => have := h.2.2 p (by simp); omega
  | n + 1, m, M, t, a, b, h, _ => (bds_keys (fun c a b hc => R.lt hc (by decide)) h.2).1

theorem R.kidlt {n : Nat} : ∀ (c : Tr n) a b, (fun c a b => R n 3 7 c a b) c a b → a < b := fun _ _ _ h => R.lt h (by decide)

theorem R.keys : ∀ {n m M : Nat} {t : Tr n} {a b : Int}, R n m M t a b → Rise (keysOf n t) ∧ ∀ k ∈ keysOf n t, a ≤ k ∧ k < b
  | 0, m, M, t, a, b, h => ⟨h.2.1, fun k hk => by
      obtain ⟨p, hp, rfl⟩ := List.mem_map.1 hk
      exact h.2.2 p hp⟩
  | n + 1, m, M, t, a, b, h => by
    obtain ⟨_, h2, h3⟩ := bds_keys R.kidlt h.2
    exact ⟨h2, fun k hk => ⟨by have := h3 k hk; omega, (h3 k hk).2⟩⟩

/-! ### The pairs -/
theorem pre_flat {α : Type} {B : α → Int → Int → Prop} {f : α → List Pr} (hB : ∀ c a b, B c a b → a < b) (hf : ∀ c a b, B c a b → ∀ p ∈ f c, a ≤ p.1 ∧ p.1 < b) : ∀ {ks : List Int} {cs : List α} {a m : Int}, Pre B a ks cs m → a ≤ m ∧ ∀ p ∈ cs.flatMap f, a ≤ p.1 ∧ p.1 < m
  | [], [], a, m, h => by cases h; exact ⟨by omega, by simp⟩
  | k :: ks, c :: cs, a, m, ⟨h1, h2⟩ => by
    obtain ⟨h3, h4⟩ := pre_flat hB hf h2
    have h5 := hB _ _ _ h1
    refine ⟨by omega, fun p hp => ?_⟩
    rw [List.flatMap_cons, List.mem_append] at hp
    rcases hp with hp | hp
    · have := hf _ _ _ h1 p hp; omega
    · have := h4 p hp; omega

theorem post_flat {α : Type} {B : α → Int → Int → Prop} {f : α → List Pr} (hB : ∀ c a b, B c a b → a < b) (hf : ∀ c a b, B c a b → ∀ p ∈ f c, a ≤ p.1 ∧ p.1 < b) : ∀ {ks : List Int} {cs : List α} {a m : Int}, Post B a ks cs m → a ≤ m ∧ ∀ p ∈ cs.flatMap f, a ≤ p.1 ∧ p.1 < m
  | [], [], a, m, h => by cases h; exact ⟨by omega, by simp⟩
  | k :: ks, c :: cs, a, m, ⟨h0, n', h1, h2⟩ => by
    obtain ⟨h3, h4⟩ := post_flat hB hf h2
    have h5 := hB _ _ _ h1
    refine ⟨by omega, fun p hp => ?_⟩
    rw [List.flatMap_cons, List.mem_append] at hp
    rcases hp with hp | hp
    · have := hf _ _ _ h1 p hp; omega
    · have := h4 p hp; omega

theorem bds_flat {α : Type} {B : α → Int → Int → Prop} {f : α → List Pr} (hB : ∀ c a b, B c a b → a < b) (hf : ∀ c a b, B c a b → (∀ p ∈ f c, a ≤ p.1 ∧ p.1 < b) ∧ Rise ((f c).map (·.1))) :
    ∀ {ks : List Int} {cs : List α} {a b : Int}, Bds B a ks cs b → (∀ p ∈ cs.flatMap f, a ≤ p.1 ∧ p.1 < b) ∧ Rise ((cs.flatMap f).map (·.1))
  | [], [c], a, b, h => by simpa using hf _ _ _ h
  | k :: ks, c :: cs, a, b, h => by
    obtain ⟨h1, h2⟩ := bds_flat hB hf h.2
    obtain ⟨h3, h4⟩ := hf _ _ _ h.1
    have h5 := (bds_keys hB h.2).1
    have h6 := hB _ _ _ h.1
    constructor
    · intro p hp
      rw [List.flatMap_cons, List.mem_append] at hp
      rcases hp with hp | hp
      · have := h3 p hp; omega
      · have := h1 p hp; omega
    · rw [List.flatMap_cons, List.map_append]
      refine List.pairwise_append.2 ⟨h4, h2, fun x hx y hy => ?_⟩
      obtain ⟨p, hp, rfl⟩ := List.mem_map.1 hx
      obtain ⟨q, hq, rfl⟩ := List.mem_map.1 hy
      have := h3 p hp
      have := h1 q hq
      omega

theorem R.flat : ∀ {n m M : Nat} {t : Tr n} {a b : Int}, R n m M t a b → (∀ p ∈ flat n t, a ≤ p.1 ∧ p.1 < b) ∧ Rise ((Proofs.Ytnljfhjindenpab.flat n t).map (·.1))
  | 0, m, M, t, a, b, h => ⟨h.2.2, h.2.1⟩
  | n + 1, m, M, t, a, b, h => bds_flat (f := Proofs.Ytnljfhjindenpab.flat n) R.kidlt (fun c a b hc => R.flat hc) h.2

theorem R.kidflat {n : Nat} : ∀ (c : Tr n) a b, (fun c a b => R n 3 7 c a b) c a b → ∀ p ∈ Proofs.Ytnljfhjindenpab.flat n c, a ≤ p.1 ∧ p.1 < b := fun _ _ _ h => (R.flat h).1

/-- The pairs with one more key; without a key. -/
def putL (k : Int) (e : Ext) (l : List Pr) : List Pr := l.filter (fun p => decide (p.1 < k)) ++ (k, e) :: l.filter (fun p => decide (k < p.1))
def delL (k : Int) (l : List Pr) : List Pr := l.filter (fun p => !decide (p.1 = k))

theorem filt_all {l : List Pr} {p : Pr → Bool} (h : ∀ x ∈ l, p x = true) : l.filter p = l := List.filter_eq_self.2 h
theorem filt_none {l : List Pr} {p : Pr → Bool} (h : ∀ x ∈ l, p x = false) : l.filter p = [] := List.filter_eq_nil_iff.2 (fun x hx => by simp [h x hx])

theorem putL_mid {k : Int} {e : Ext} {a b c : List Pr} (ha : ∀ p ∈ a, p.1 < k) (hc : ∀ p ∈ c, k < p.1) : putL k e (a ++ b ++ c) = a ++ putL k e b ++ c := by
  unfold putL
  rw [List.filter_append, List.filter_append, List.filter_append, List.filter_append]
  rw [filt_all (l := a) (fun x hx => by simpa using ha x hx), filt_none (l := a) (fun x hx => by have := ha x hx; simp; omega), filt_none (l := c) (fun x hx => by have := hc x hx; simp; omega), filt_all (l := c) (fun x hx => by simpa using hc x hx)]
  simp

theorem delL_mid {k : Int} {a b c : List Pr} (ha : ∀ p ∈ a, p.1 < k) (hc : ∀ p ∈ c, k < p.1) : delL k (a ++ b ++ c) = a ++ delL k b ++ c := by
  unfold delL
  rw [List.filter_append, List.filter_append]
  rw [filt_all (l := a) (fun x hx => by have := ha x hx; simp; omega), filt_all (l := c) (fun x hx => by have := hc x hx; simp; omega)]
end Go.Proofs.Ytnljfhjindenpab

namespace Go.Proofs.Ytnljfhjindenpab
set_option linter.unusedVariables false
set_option linter.unusedSimpArgs false
set_option maxRecDepth 20000

def dflt : (n : Nat) → Tr n
  | 0 => []
  | _ + 1 => ([], [])

def midK (n : Nat) (t : Tr n) : Int := (keysOf n t).getD ((keysOf n t).length / 2) 0

def lefT : (n : Nat) → Tr n → Tr n
  | 0, t => t.take (t.length / 2)
  | _ + 1, t => (t.1.take (t.1.length / 2), t.2.take (t.1.length / 2 + 1))

def rigT : (n : Nat) → Tr n → Tr n
  | 0, t => t.drop (t.length / 2)
  | _ + 1, t => (t.1.drop (t.1.length / 2 + 1), t.2.drop (t.1.length / 2 + 1))

def joinT : (n : Nat) → Tr n → Int → Tr n → Tr n
  | 0, l, _, r => l ++ r
  | _ + 1, l, k, r => (l.1 ++ [k] ++ r.1, l.2 ++ r.2)

def withT (n : Nat) (t : Tr (n + 1)) (i : Nat) (c : Tr n) : Tr (n + 1) :=
  if (keysOf n c).length ≤ 7 then (t.1, t.2.take i ++ [c] ++ t.2.drop (i + 1))
  else (t.1.take i ++ [midK n c] ++ t.1.drop i, t.2.take i ++ [lefT n c, rigT n c] ++ t.2.drop (i + 1))

def fewerT (n : Nat) (t : Tr (n + 1)) (i : Nat) : Tr (n + 1) := (t.1.take i ++ t.1.drop (i + 1), t.2.take i ++ t.2.drop (i + 1))

def fusedT (n : Nat) (t : Tr (n + 1)) (i : Nat) : Tr (n + 1) := withT n (fewerT n t i) i (joinT n (t.2.getD i (dflt n)) (t.1.getD i 0) (t.2.getD (i + 1) (dflt n)))

def putT : (n : Nat) → Tr n → Int → Ext → Tr n
  | 0, t, k, e => t.take (lo (keysOf 0 t) k) ++ [(k, e)] ++ t.drop (hi (keysOf 0 t) k)
  | n + 1, t, k, e => withT n t (hi t.1 k) (putT n (t.2.getD (hi t.1 k) (dflt n)) k e)

def delT : (n : Nat) → Tr n → Int → Tr n
  | 0, t, k => t.take (lo (keysOf 0 t) k) ++ t.drop (hi (keysOf 0 t) k)
  | n + 1, t, k => if (keysOf n (delT n (t.2.getD (hi t.1 k) (dflt n)) k)).length < 3 then fusedT n (withT n t (hi t.1 k) (delT n (t.2.getD (hi t.1 k) (dflt n)) k)) (hi t.1 k - 1)
    else withT n t (hi t.1 k) (delT n (t.2.getD (hi t.1 k) (dflt n)) k)

theorem rise_mid {ks : List Int} (h : Rise ks) {i : Nat} (hi : i < ks.length) : (∀ x ∈ ks.take i, x < ks[i]) ∧ (∀ x ∈ ks.drop i, ks[i] ≤ x) ∧ ∀ x ∈ ks.drop (i + 1), ks[i] < x := by
  have e : ks = ks.take i ++ ks[i] :: ks.drop (i + 1) := by simp
  have h' := h
  rw [e] at h'
  obtain ⟨_, h2, h3⟩ := List.pairwise_append.1 h'
  have h4 := (List.pairwise_cons.1 h2).1
  refine ⟨fun x hx => h3 x hx _ List.mem_cons_self, fun x hx => ?_, h4⟩
  rw [List.drop_eq_getElem_cons hi] at hx
  rcases List.mem_cons.1 hx with rfl | hx
  · omega
  · have := h4 x hx; omega

/-- A node in two. -/
theorem halves_ok : ∀ {n : Nat} {t : Tr n} {a b : Int}, R n 8 10 t a b → a < midK n t ∧ midK n t < b ∧ R n 3 7 (lefT n t) a (midK n t) ∧ R n 3 7 (rigT n t) (midK n t) b ∧ flat n (lefT n t) ++ flat n (rigT n t) = flat n t
  | 0, t, a, b, h => by
    obtain ⟨⟨h1, h2⟩, h3, h4⟩ := h
    have hl : t.length / 2 < t.length := by omega
    have hm : midK 0 t = (t[t.length / 2]).1 := by
      unfold midK keysOf
      simp [List.getElem?_eq_getElem hl]
    have hlm : t.length / 2 < (t.map (·.1)).length := by simpa using hl
    obtain ⟨r1, r2, _⟩ := rise_mid h3 hlm
    simp only [List.getElem_map] at r1 r2
    rw [hm]
    have h0 : 0 < t.length := by omega
    have h5 := h4 t[0] (List.getElem_mem _)
    have h6 := h4 t[t.length / 2] (List.getElem_mem _)
    have h7 : t[0].1 < (t[t.length / 2]).1 := r1 _ (by rw [← List.map_take]; refine List.mem_map.2 ⟨t[0], ?_, rfl⟩; exact List.mem_take_iff_getElem.2 ⟨0, by omega, rfl⟩)
    refine ⟨by omega, by omega, ⟨⟨?_, ?_⟩, ?_, ?_⟩, ⟨⟨?_, ?_⟩, ?_, ?_⟩, ?_⟩
    · simp [lefT]; omega
    · simp [lefT]; omega
    · simp only [lefT, List.map_take]; exact h3.sublist (List.take_sublist _ _)
    · intro p hp
      simp only [lefT] at hp
      exact ⟨(h4 p (List.mem_of_mem_take hp)).1, r1 p.1 (by rw [← List.map_take]; exact List.mem_map.2 ⟨p, hp, rfl⟩)⟩
    · simp [rigT]; omega
    · simp [rigT]; omega
    · simp only [rigT, List.map_drop]; exact h3.sublist (List.drop_sublist _ _)
    · intro p hp
      simp only [rigT] at hp
      exact ⟨r2 p.1 (by rw [← List.map_drop]; exact List.mem_map.2 ⟨p, hp, rfl⟩), (h4 p (List.mem_of_mem_drop hp)).2⟩
    · simp [flat, lefT, rigT]
  | n + 1, (ks, cs), a, b, h => by
    obtain ⟨⟨h1, h2⟩, h3⟩ := h
    simp only at h1 h2 h3
    have hl : ks.length / 2 < ks.length := by omega
    have hm : midK (n + 1) (ks, cs) = ks[ks.length / 2] := by
      unfold midK keysOf
      simp [List.getElem?_eq_getElem hl]
    have hcl := bds_length h3
    have hk := (bds_keys R.kidlt h3).2.2 ks[ks.length / 2] (List.getElem_mem _)
    have e1 : ks = ks.take (ks.length / 2) ++ ks[ks.length / 2] :: ks.drop (ks.length / 2 + 1) := by simp
    have e2 : cs = cs.take (ks.length / 2 + 1) ++ cs.drop (ks.length / 2 + 1) := by simp
    have h4 : Bds (fun c a b => R n 3 7 c a b) a (ks.take (ks.length / 2) ++ ks[ks.length / 2] :: ks.drop (ks.length / 2 + 1)) (cs.take (ks.length / 2 + 1) ++ cs.drop (ks.length / 2 + 1)) b := by
      rw [← e1, ← e2]; exact h3
    rw [bds_join (by simp; omega)] at h4
    rw [hm]
    refine ⟨hk.1, hk.2, ⟨⟨?_, ?_⟩, h4.1⟩, ⟨⟨?_, ?_⟩, h4.2⟩, ?_⟩
    · simp [lefT]; omega
    · simp [lefT]; omega
    · simp [rigT]; omega
    · simp [rigT]; omega
    · simp only [flat, lefT, rigT]
      rw [← List.flatMap_append, List.take_append_drop]

/-- Two nodes in one. -/
theorem join_ok {p q : Nat} : ∀ {n : Nat} {l r : Tr n} {a k b : Int}, R n p 7 l a k → R n q 7 r k b → 5 ≤ p + q → (keysOf n l).length + (keysOf n r).length ≤ 9 → a ≤ k → k ≤ b → R n 3 10 (joinT n l k r) a b ∧ flat n (joinT n l k r) = flat n l ++ flat n r
  | 0, l, r, a, k, b, h1, h2, hpq, hs, hak, hkb => by
    obtain ⟨⟨h3, h4⟩, h5, h6⟩ := h1
    obtain ⟨⟨h7, h8⟩, h9, h10⟩ := h2
    simp only [keysOf, List.length_map] at hs
    refine ⟨⟨?_, ?_, ?_⟩, rfl⟩
    · simp only [joinT, List.length_append]; omega
    · simp only [joinT, List.map_append]
      refine List.pairwise_append.2 ⟨h5, h9, fun x hx y hy => ?_⟩
      obtain ⟨p', hp', rfl⟩ := List.mem_map.1 hx
      obtain ⟨q', hq', rfl⟩ := List.mem_map.1 hy
      have := h6 p' hp'
      have := h10 q' hq'
      omega
    · intro x hx
      simp only [joinT, List.mem_append] at hx
      rcases hx with hx | hx
      · have := h6 x hx; omega
      · have := h10 x hx; omega
  | n + 1, l, r, a, k, b, h1, h2, hpq, hs, hak, hkb => by
    obtain ⟨⟨h3, h4⟩, h5⟩ := h1
    obtain ⟨⟨h7, h8⟩, h9⟩ := h2
    simp only [keysOf] at hs
    refine ⟨⟨?_, ?_⟩, ?_⟩
    · simp only [joinT, List.length_append, List.length_cons, List.length_nil]; omega
    · have := (bds_join (B := fun c a b => R n 3 7 c a b) (bds_length h5)).2 ⟨h5, h9⟩
      simpa [joinT] using this
    · simp [flat, joinT]

theorem take_mid {α : Type} {xs ys : List α} {x : α} {i : Nat} (hi : xs.length = i) : (xs ++ x :: ys).take i = xs ∧ (xs ++ x :: ys).drop (i + 1) = ys ∧ (xs ++ x :: ys)[i]? = some x := by
  subst hi
  refine ⟨by simp, ?_, by simp⟩
  rw [List.drop_append, List.drop_eq_nil_of_le (by omega)]
  simp

/-- One kid in another's place. -/
theorem with_ok {n : Nat} {ks1 ks2 : List Int} {cs1 cs2 : List (Tr n)} {c0 c : Tr n} {a m nn b : Int} {i : Nat} (h1 : Pre (fun c a b => R n 3 7 c a b) a ks1 cs1 m) (h2 : R n 3 10 c m nn) (h3 : Post (fun c a b => R n 3 7 c a b) nn ks2 cs2 b) (hi : ks1.length = i) :
    Bds (fun c a b => R n 3 7 c a b) a (withT n (ks1 ++ ks2, cs1 ++ c0 :: cs2) i c).1 (withT n (ks1 ++ ks2, cs1 ++ c0 :: cs2) i c).2 b ∧
    (ks1 ++ ks2).length ≤ (withT n (ks1 ++ ks2, cs1 ++ c0 :: cs2) i c).1.length ∧ (withT n (ks1 ++ ks2, cs1 ++ c0 :: cs2) i c).1.length ≤ (ks1 ++ ks2).length + 1 ∧
    flat (n + 1) (withT n (ks1 ++ ks2, cs1 ++ c0 :: cs2) i c) = cs1.flatMap (flat n) ++ flat n c ++ cs2.flatMap (flat n) := by
  have hl := pre_length h1
  have hci : cs1.length = i := by omega
  obtain ⟨e1, e2, _⟩ := take_mid (xs := cs1) (ys := cs2) (x := c0) hci
  have e3 : (ks1 ++ ks2).take i = ks1 := by subst hi; simp
  have e4 : (ks1 ++ ks2).drop i = ks2 := by subst hi; simp
  unfold withT
  by_cases hs : (keysOf n c).length ≤ 7
  · rw [if_pos hs]
    have hc : R n 3 7 c m nn := R.resize h2 h2.size.1 hs
    refine ⟨?_, Nat.le_refl _, Nat.le_succ _, ?_⟩
    · simp only [e1, e2]
      have := (bds_split (B := fun c a b => R n 3 7 c a b) (ks2 := ks2) (cs2 := cs2) (b := b) hl).2 ⟨m, nn, h1, hc, h3⟩
      simpa using this
    · simp only [e1, e2, flat]
      simp
  · rw [if_neg hs]
    have hc : R n 8 10 c m nn := R.resize h2 (by omega) h2.size.2
    obtain ⟨_, _, h6, h7, h8⟩ := halves_ok hc
    refine ⟨?_, ?_, ?_, ?_⟩
    · simp only [e1, e2, e3, e4]
      have := (bds_split (B := fun c a b => R n 3 7 c a b) (c := lefT n c) (ks2 := midK n c :: ks2) (cs2 := rigT n c :: cs2) (b := b) hl).2 ⟨m, midK n c, h1, h6, rfl, nn, h7, h3⟩
      simpa using this
    · simp only [e3, e4, List.length_append, List.length_cons, List.length_nil]; omega
    · simp only [e3, e4, List.length_append, List.length_cons, List.length_nil]; omega
    · simp only [e1, e2, flat]
      rw [← h8]
      simp

theorem leaf_cut {t : List Pr} (h : Rise (t.map (·.1))) (k : Int) : t.take (lo (t.map (·.1)) k) = t.filter (fun p => decide (p.1 < k)) ∧ t.drop (hi (t.map (·.1)) k) = t.filter (fun p => decide (k < p.1)) := by
  induction t with
  | nil => exact ⟨rfl, rfl⟩
  | cons p t ih =>
    have h1 : (∀ x ∈ t.map (·.1), p.1 < x) ∧ Rise (t.map (·.1)) := List.pairwise_cons.1 h
    obtain ⟨i1, i2⟩ := ih h1.2
    constructor
    · by_cases hk : p.1 < k
      · have : lo ((p :: t).map (·.1)) k = lo (t.map (·.1)) k + 1 := by simp [lo, List.countP_cons, hk]
        rw [this]; simp [hk, i1]
      · have h0 : lo ((p :: t).map (·.1)) k = 0 := by
          unfold lo
          refine List.countP_eq_zero.2 (fun x hx => ?_)
          rcases List.mem_cons.1 hx with rfl | hx
          · simpa using hk
          · have := h1.1 x hx; simp; omega
        rw [h0]
        simp only [List.take_zero]
        refine (filt_none (fun x hx => ?_)).symm
        rcases List.mem_cons.1 hx with rfl | hx
        · simpa using hk
        · have := h1.1 x.1 (List.mem_map.2 ⟨x, hx, rfl⟩); simp; omega
    · by_cases hk : p.1 ≤ k
      · have : hi ((p :: t).map (·.1)) k = hi (t.map (·.1)) k + 1 := by simp [hi, List.countP_cons, hk]
        rw [this]
        have hk' : ¬ k < p.1 := by omega
        simp [hk', i2]
      · have h0 : hi ((p :: t).map (·.1)) k = 0 := by
          unfold hi
          refine List.countP_eq_zero.2 (fun x hx => ?_)
          rcases List.mem_cons.1 hx with rfl | hx
          · simpa using hk
          · have := h1.1 x hx; simp; omega
        rw [h0]
        simp only [List.drop_zero]
        refine (filt_all (fun x hx => ?_)).symm
        rcases List.mem_cons.1 hx with rfl | hx
        · simp; omega
        · have := h1.1 x.1 (List.mem_map.2 ⟨x, hx, rfl⟩); simp; omega

theorem hi_lo (ks : List Int) (k : Int) (h : Rise ks) : lo ks k ≤ hi ks k ∧ hi ks k ≤ lo ks k + 1 := by
  induction ks with
  | nil => simp [lo, hi]
  | cons x ks ih =>
    have h1 := List.pairwise_cons.1 h
    have := ih h1.2
    simp only [lo, hi, List.countP_cons] at *
    by_cases hx : x < k
    · have : x ≤ k := by omega
      simp only [hx, this, decide_true, if_true]; omega
    · by_cases hx2 : x = k
      · subst hx2
        have h2 : ks.countP (fun y => decide (y ≤ x)) = 0 := List.countP_eq_zero.2 (fun y hy => by have := h1.1 y hy; simp; omega)
        have h3 : ks.countP (fun y => decide (y < x)) = 0 := List.countP_eq_zero.2 (fun y hy => by have := h1.1 y hy; simp; omega)
        rw [h2, h3]
        simp
      · have : ¬ x ≤ k := by omega
        simp [hx, this]; omega

/-- Put. -/
theorem put_ok (k : Int) (e : Ext) : ∀ {n m : Nat} {t : Tr n} {a b : Int}, R n m 7 t a b → a ≤ k → k < b → R n m 8 (putT n t k e) a b ∧ flat n (putT n t k e) = putL k e (flat n t)
  | 0, m, t, a, b, ⟨⟨h1, h2⟩, h3, h4⟩, hak, hkb => by
    obtain ⟨c1, c2⟩ := leaf_cut h3 k
    have hf : putT 0 t k e = putL k e t := by
      unfold putT putL keysOf
      rw [c1, c2]; simp
    have hcnt := hi_lo (t.map (·.1)) k h3
    have hlo := lo_le (t.map (·.1)) k
    have hhi := hi_le (t.map (·.1)) k
    simp only [List.length_map] at hlo hhi
    refine ⟨⟨?_, ?_, ?_⟩, hf⟩
    · unfold putT keysOf
      simp only [List.length_append, List.length_take, List.length_drop, List.length_cons, List.length_nil]
      omega
    · rw [hf]
      unfold putL
      simp only [List.map_append, List.map_cons]
      refine List.pairwise_append.2 ⟨?_, List.pairwise_cons.2 ⟨?_, ?_⟩, ?_⟩
      · exact h3.sublist (List.Sublist.map _ List.filter_sublist)
      · intro x hx
        obtain ⟨p, hp, rfl⟩ := List.mem_map.1 hx
        simpa using (List.mem_filter.1 hp).2
      · exact h3.sublist (List.Sublist.map _ List.filter_sublist)
      · intro x hx y hy
        obtain ⟨p, hp, rfl⟩ := List.mem_map.1 hx
        have h5 : p.1 < k := by simpa using (List.mem_filter.1 hp).2
        rcases List.mem_cons.1 hy with rfl | hy
        · exact h5
        · obtain ⟨q, hq, rfl⟩ := List.mem_map.1 hy
          have h6 : k < q.1 := by simpa using (List.mem_filter.1 hq).2
          omega
    · rw [hf]
      intro p hp
      unfold putL at hp
      rcases List.mem_append.1 hp with hp | hp
      · exact h4 p (List.mem_filter.1 hp).1
      · rcases List.mem_cons.1 hp with rfl | hp
        · exact ⟨hak, hkb⟩
        · exact h4 p (List.mem_filter.1 hp).1
  | n + 1, m, (ks, cs), a, b, ⟨⟨h1, h2⟩, h3⟩, hak, hkb => by
    obtain ⟨ks1, ks2, cs1, c, cs2, mm, nn, rfl, rfl, e3, e4, h4, h5, h6, h7, h8⟩ := bds_find R.kidlt k h3 hak hkb
    obtain ⟨i1, i2⟩ := put_ok k e h5 h7 h8
    have hp := with_ok (c0 := c) h4 (R.resize i1 i1.size.1 (by have := i1.size.2; omega)) h6 e3
    have hg : (cs1 ++ c :: cs2).getD (hi (ks1 ++ ks2) k) (dflt n) = c := by
      rw [List.getD_eq_getElem?_getD, (take_mid e4).2.2]; rfl
    have hput : putT (n + 1) (ks1 ++ ks2, cs1 ++ c :: cs2) k e = withT n (ks1 ++ ks2, cs1 ++ c :: cs2) (hi (ks1 ++ ks2) k) (putT n c k e) := by
      rw [putT]; simp only [hg]
    rw [hput]
    obtain ⟨hp1, hp2, hp3, hp4⟩ := hp
    simp only at h1 h2
    refine ⟨⟨⟨Nat.le_trans h1 hp2, Nat.le_trans hp3 (by omega)⟩, hp1⟩, ?_⟩
    rw [hp4, i2]
    have hfl : flat (n + 1) (ks1 ++ ks2, cs1 ++ c :: cs2) = cs1.flatMap (flat n) ++ flat n c ++ cs2.flatMap (flat n) := by simp [flat]
    rw [hfl]
    refine (putL_mid (fun p hp => ?_) (fun p hp => ?_)).symm
    · have := (pre_flat R.kidlt R.kidflat h4).2 p hp; omega
    · have := (post_flat R.kidlt R.kidflat h6).2 p hp; omega
end Go.Proofs.Ytnljfhjindenpab

namespace Go.Proofs.Ytnljfhjindenpab
set_option linter.unusedVariables false
set_option linter.unusedSimpArgs false
set_option maxRecDepth 20000

theorem del_ok (k : Int) : ∀ {n m : Nat} {t : Tr n} {a b : Int}, R n m 7 t a b → (n = 0 ∨ 1 ≤ m) → a ≤ k → k < b → R n (m - 1) 7 (delT n t k) a b ∧ flat n (delT n t k) = delL k (flat n t)
  | 0, m, t, a, b, ⟨⟨h1, h2⟩, h3, h4⟩, _, hak, hkb => by
    obtain ⟨c1, c2⟩ := leaf_cut h3 k
    have hf : delT 0 t k = delL k t := by
      unfold delT delL keysOf
      rw [c1, c2]
      clear c1 c2 h1 h2 h4
      induction t with
      | nil => rfl
      | cons p t ih =>
        have h5 : (∀ x ∈ t.map (·.1), p.1 < x) ∧ Rise (t.map (·.1)) := List.pairwise_cons.1 h3
        have ih := ih h5.2
        have h6 : ∀ q ∈ t, p.1 < q.1 := fun q hq => h5.1 q.1 (List.mem_map.2 ⟨q, hq, rfl⟩)
        rcases Int.lt_trichotomy p.1 k with hk | hk | hk
        · have e1 : ¬ k < p.1 := by omega
          have e2 : ¬ p.1 = k := by omega
          simp [hk, e1, e2, ih]
        · have e0 : ¬ p.1 < k := by omega
          have e1 : ¬ k < p.1 := by omega
          simp [e0, e1, hk, ih]
        · have e0 : ¬ p.1 < k := by omega
          have e2 : ¬ p.1 = k := by omega
          have e3 : t.filter (fun p => decide (p.1 < k)) = [] := filt_none (fun x hx => by have := h6 x hx; simp; omega)
          rw [e3] at ih
          simp [hk, e0, e2, e3, ← ih]
    have hcnt := hi_lo (t.map (·.1)) k h3
    have hlo := lo_le (t.map (·.1)) k
    have hhi := hi_le (t.map (·.1)) k
    simp only [List.length_map] at hlo hhi
    refine ⟨⟨?_, ?_, ?_⟩, hf⟩
    · unfold delT keysOf
      simp only [List.length_append, List.length_take, List.length_drop]
      omega
    · rw [hf]
      exact h3.sublist (List.Sublist.map _ List.filter_sublist)
    · rw [hf]
      intro p hp
      exact h4 p (List.mem_filter.1 hp).1
  | n + 1, m, (ks, cs), a, b, ⟨⟨h1, h2⟩, h3⟩, hm, hak, hkb => by
    have hm : 1 ≤ m := by omega
    obtain ⟨ks1, ks2, cs1, c, cs2, mm, nn, rfl, rfl, e3, e4, h4, h5, h6, h7, h8⟩ := bds_find R.kidlt k h3 hak hkb
    obtain ⟨i1, i2⟩ := del_ok k h5 (.inr (by decide)) h7 h8
    have hg : (cs1 ++ c :: cs2).getD (hi (ks1 ++ ks2) k) (dflt n) = c := by
      rw [List.getD_eq_getElem?_getD, (take_mid e4).2.2]; rfl
    have hfl : flat (n + 1) (ks1 ++ ks2, cs1 ++ c :: cs2) = cs1.flatMap (flat n) ++ flat n c ++ cs2.flatMap (flat n) := by simp [flat]
    have hdl : delL k (flat (n + 1) (ks1 ++ ks2, cs1 ++ c :: cs2)) = cs1.flatMap (flat n) ++ flat n (delT n c k) ++ cs2.flatMap (flat n) := by
      rw [hfl, i2]
      refine delL_mid (fun p hp => ?_) (fun p hp => ?_)
      · have := (pre_flat R.kidlt R.kidflat h4).2 p hp; omega
      · have := (post_flat R.kidlt R.kidflat h6).2 p hp; omega
    simp only at h1 h2
    have hc7 := i1.size
    rw [delT]
    simp only [hg, hdl]
    generalize delT n c k = c' at *
    by_cases hs : (keysOf n c').length < 3
    · rw [if_pos hs]
      have hw : withT n (ks1 ++ ks2, cs1 ++ c :: cs2) (hi (ks1 ++ ks2) k) c' = (ks1 ++ ks2, cs1 ++ c' :: cs2) := by
        unfold withT
        rw [if_pos hc7.2]
        obtain ⟨t1, t2, _⟩ := take_mid (xs := cs1) (ys := cs2) (x := c) e4
        simp only [t1, t2]
        simp
      rw [hw]
      by_cases hk1 : ks1 = []
      · subst hk1
        have e30 : hi ([] ++ ks2) k = 0 := by simpa using e3.symm
        have hc1 : cs1 = [] := List.eq_nil_of_length_eq_zero (pre_length h4)
        subst hc1
        cases ks2 with
        | nil => simp at h1; omega
        | cons k0 ks2 =>
          cases cs2 with
          | nil => exact h6.elim
          | cons r cs2 =>
            obtain ⟨rfl, n', h9, h10⟩ := h6
            have h4' : mm = a := h4
            subst h4'
            have hj := join_ok (p := 2) (q := 3) i1 h9 (by decide) (by have := h9.size; omega) (by omega) (by have := R.lt h9 (by decide); omega)
            have hp := with_ok (ks1 := []) (cs1 := []) (a := mm) (c0 := r) (i := 0) rfl hj.1 h10 rfl
            have hfu : fusedT n ([] ++ nn :: ks2, [] ++ c' :: r :: cs2) (hi ([] ++ nn :: ks2) k - 1) = withT n ([] ++ ks2, [] ++ r :: cs2) 0 (joinT n c' nn r) := by
              rw [e30]; rfl
            rw [hfu]
            obtain ⟨hp1, hp2, hp3, hp4⟩ := hp
            simp only [List.nil_append, List.length_cons] at h1 h2 hp2 hp3
            refine ⟨⟨⟨Nat.le_trans (by omega) hp2, Nat.le_trans hp3 (by omega)⟩, hp1⟩, ?_⟩
            rw [hp4, hj.2]
            simp
      · obtain ⟨ks1', k0, cs1', l, m', rfl, rfl, h9, h10, rfl⟩ := pre_snoc h4 hk1
        have hl' := pre_length h9
        have e5 : hi (ks1' ++ [mm] ++ ks2) k = ks1'.length + 1 := by rw [← e3]; simp
        have hj := join_ok (p := 3) (q := 2) h10 i1 (by decide) (by have := h10.size; omega) (by have := R.lt h10 (by decide); omega) (by omega)
        have hp := with_ok (ks2 := ks2) (cs2 := cs2) (a := a) (b := b) (c0 := c') (i := ks1'.length) h9 hj.1 h6 rfl
        have hfu : fusedT n (ks1' ++ [mm] ++ ks2, cs1' ++ [l] ++ c' :: cs2) (hi (ks1' ++ [mm] ++ ks2) k - 1) = withT n (ks1' ++ ks2, cs1' ++ c' :: cs2) ks1'.length (joinT n l mm c') := by
          rw [e5, Nat.add_sub_cancel]
          obtain ⟨t1, t2, t3⟩ := take_mid (xs := ks1') (ys := ks2) (x := mm) (i := ks1'.length) rfl
          obtain ⟨t4, t5, t6⟩ := take_mid (xs := cs1') (ys := c' :: cs2) (x := l) (i := ks1'.length) hl'
          have t7 : (cs1' ++ l :: c' :: cs2)[ks1'.length + 1]? = some c' := by
            rw [List.getElem?_append_right (by omega), hl']; simp
          unfold fusedT fewerT
          simp only [List.append_assoc, List.singleton_append, t1, t2, t4, t5, List.getD_eq_getElem?_getD, t3, t6, t7, Option.getD_some]
        rw [hfu]
        obtain ⟨hp1, hp2, hp3, hp4⟩ := hp
        simp only [List.length_append, List.length_cons, List.length_nil] at h1 h2 hp2 hp3
        refine ⟨⟨⟨Nat.le_trans (by omega) hp2, Nat.le_trans hp3 (by omega)⟩, hp1⟩, ?_⟩
        rw [hp4, hj.2]
        simp
    · rw [if_neg hs]
      have hp := with_ok (c0 := c) h4 (R.resize i1 (by omega) (by omega)) h6 e3
      obtain ⟨hp1, hp2, hp3, hp4⟩ := hp
      have hw : (withT n (ks1 ++ ks2, cs1 ++ c :: cs2) (hi (ks1 ++ ks2) k) c').1 = ks1 ++ ks2 := by
        unfold withT
        rw [if_pos hc7.2]
      refine ⟨⟨⟨?_, ?_⟩, hp1⟩, hp4⟩
      · rw [hw]; omega
      · rw [hw]; omega

/-! ### Whole trees -/
/-- A right tree: of keys from 0 on, below 2^64; the root may have fewer keys. -/
def Top (n : Nat) (t : Tr n) : Prop := R n (min n 1) 7 t 0 18446744073709551616

/-- What stands below a root that may have a single kid. -/
def topT : (n : Nat) → Tr n → (n' : Nat) × Tr n'
  | 0, t => ⟨0, t⟩
  | n + 1, t => if t.2.length = 1 then ⟨n, t.2.getD 0 (dflt n)⟩ else ⟨n + 1, t⟩

theorem top_ok : ∀ {n m : Nat} {t : Tr n}, R n m 7 t 0 18446744073709551616 → Top (topT n t).1 (topT n t).2 ∧ flat _ (topT n t).2 = flat n t
  | 0, m, t, h => ⟨R.resize (n := 0) h (Nat.zero_le _) h.size.2, rfl⟩
  | n + 1, m, (ks, cs), h => by
    obtain ⟨⟨h1, h2⟩, h3⟩ := h
    have hl := bds_length h3
    by_cases hc : cs.length = 1
    · rw [show topT (n + 1) (ks, cs) = ⟨n, cs.getD 0 (dflt n)⟩ from if_pos hc]
      simp only at h1 h2 h3 hl
      have hk : ks = [] := List.eq_nil_of_length_eq_zero (by omega)
      subst hk
      obtain ⟨c, rfl⟩ := List.length_eq_one_iff.1 hc
      have h3 : R n 3 7 c 0 18446744073709551616 := h3
      refine ⟨R.resize h3 (by have := h3.size; simp; omega) h3.size.2, ?_⟩
      simp [flat]
    · rw [show topT (n + 1) (ks, cs) = ⟨n + 1, (ks, cs)⟩ from if_neg hc]
      simp only at h1 h2 hl
      refine ⟨⟨⟨?_, h2⟩, h3⟩, rfl⟩
      simp only
      omega

/-- Put and Del of whole trees. -/
def putTop (n : Nat) (t : Tr n) (k : Int) (e : Ext) : (n' : Nat) × Tr n' := topT (n + 1) (putT (n + 1) ([], [t]) k e)
def delTop (n : Nat) (t : Tr n) (k : Int) : (n' : Nat) × Tr n' := topT n (delT n t k)

theorem putTop_ok {n : Nat} {t : Tr n} {k : Int} {e : Ext} (h : Top n t) (h0 : 0 ≤ k) (h1 : k < 18446744073709551616) : Top (putTop n t k e).1 (putTop n t k e).2 ∧ flat _ (putTop n t k e).2 = putL k e (flat n t) := by
  obtain ⟨hp, hf⟩ := put_ok k e h h0 h1
  have hput : putT (n + 1) ([], [t]) k e = withT n ([], [t]) 0 (putT n t k e) := by simp [putT, hi]
  unfold putTop
  rw [hput]
  unfold withT
  by_cases hs : (keysOf n (putT n t k e)).length ≤ 7
  · rw [if_pos hs]
    simp only [topT, List.take_zero, List.nil_append, List.drop_succ_cons, List.drop_zero, List.append_nil, List.length_cons, List.length_nil]
    exact ⟨R.resize hp hp.size.1 hs, hf⟩
  · rw [if_neg hs]
    have hc : R n 8 10 (putT n t k e) 0 18446744073709551616 := R.resize hp (by omega) (by have := hp.size; omega)
    obtain ⟨_, _, h6, h7, h8⟩ := halves_ok hc
    simp only [topT, List.take_zero, List.nil_append, List.drop_succ_cons, List.drop_zero, List.append_nil, List.length_cons, List.length_nil, List.drop_nil]
    refine ⟨⟨⟨by simp, by simp⟩, h6, h7⟩, ?_⟩
    rw [← hf, ← h8]
    simp [flat]

theorem delTop_ok {n : Nat} {t : Tr n} {k : Int} (h : Top n t) (h0 : 0 ≤ k) (h1 : k < 18446744073709551616) : Top (delTop n t k).1 (delTop n t k).2 ∧ flat _ (delTop n t k).2 = delL k (flat n t) := by
  obtain ⟨hp, hf⟩ := del_ok k h (by omega) h0 h1
  obtain ⟨h2, h3⟩ := top_ok hp
  exact ⟨h2, h3.trans hf⟩
end Go.Proofs.Ytnljfhjindenpab
