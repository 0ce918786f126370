/-
  What is read is told by a right tree: plainly.
-/
import Derived.Test.YtnljfhjindenpabTreeP1
namespace Go.Proofs.Ytnljfhjindenpab
set_option linter.unusedVariables false
set_option linter.unusedSimpArgs false
set_option maxRecDepth 20000

theorem kidsG_cons (g : Nat → Nat → List Nv) : ∀ (J k : Nat), kidsG g (J + 1) k = ((k : Int) :: (kidsG (fun j => g (j + 1)) J (k + (g 0 k).length)).1, g 0 k ++ (kidsG (fun j => g (j + 1)) J (k + (g 0 k).length)).2)
  | 0, k => by simp [kidsG]
  | J + 1, k => by
    rw [kidsG, kidsG_cons g J k]
    conv => rhs; rw [kidsG]
    simp [Nat.add_assoc]

abbrev gOf {n : Nat} (cs : List (Tr n)) : Nat → Nat → List Nv := fun j k => nodesT n (cs.getD j (dflt n)) k

theorem kids_cons {n : Nat} (c : Tr n) (cs : List (Tr n)) (k : Nat) : kidsG (gOf (c :: cs)) (cs.length + 1) k = ((k : Int) :: (kidsG (gOf cs) cs.length (k + (nodesT n c k).length)).1, nodesT n c k ++ (kidsG (gOf cs) cs.length (k + (nodesT n c k).length)).2) := by
  rw [kidsG_cons]
  rfl

/-- Keys of the nodes in a part of the list lie within. -/
abbrev KIn (l : List Nv) (p s : Nat) (a b : Int) : Prop := ∀ nd ∈ (l.drop p).take s, ∀ k ∈ nd.1, a ≤ k ∧ k < b

theorem KIn.sub {l : List Nv} {p s q r : Nat} {a b : Int} (h : KIn l p s a b) (h1 : p ≤ q) (h2 : q + r ≤ p + s) : KIn l q r a b := by
  intro nd hnd
  obtain ⟨j, hj, rfl⟩ := List.mem_take_iff_getElem.1 hnd
  simp only [List.length_drop] at hj
  refine h _ (List.mem_take_iff_getElem.2 ⟨q - p + j, by simp; omega, ?_⟩)
  simp only [List.getElem_drop]
  congr 1
  omega

/-- What one reading says. -/
def Said (l : List Nv) (q : Nat) (m : Nat) (x : Rd) : Prop :=
  ∃ (n : Nat) (t : Tr n), x = ((nodesT n t q).length, (n : Int), flat n t) ∧ (∃ rest, l.drop q = nodesT n t q ++ rest) ∧ ∀ a b, KIn l q x.1 a b → R n (if n = 0 then m else max m 1) 7 t a b

theorem rdK_sound {l : List Nv} {rec : Nat → Option Rd} {ks : List Int} {p : Nat} (hrec : ∀ q x, 0 < q → rec q = some x → Said l q 3 x) :
    ∀ {kids : List Int} {i size : Nat} {deep : Int} {pairs : List Pr} {x : Rd}, rdK l rec ks p kids i size deep pairs = some x → 0 < size → -1 ≤ deep → (kids ≠ [] ∨ 0 ≤ deep) →
      ∃ (n : Nat) (cs : List (Tr n)), (0 ≤ deep → deep = n) ∧ cs.length = kids.length ∧ kids = (kidsG (gOf cs) cs.length (p + size)).1 ∧ x = (size + (kidsG (gOf cs) cs.length (p + size)).2.length, (n : Int) + 1, pairs ++ cs.flatMap (flat n)) ∧ (∃ rest, l.drop (p + size) = (kidsG (gOf cs) cs.length (p + size)).2 ++ rest) ∧
        ∀ j c, cs[j]? = some c → ∀ a b, KIn l (p + size) (x.1 - size) a b → R n 3 7 c (lft ks a (i + j)) (rgt ks b (i + j))
  | [], i, size, deep, pairs, x, h, h0, h1, h2 => by
    simp only [rdK, Option.some.injEq] at h
    have hd : 0 ≤ deep := by
      rcases h2 with h2 | h2
      · exact absurd rfl h2
      · exact h2
    refine ⟨deep.toNat, [], fun _ => by omega, rfl, rfl, ?_, ⟨l.drop (p + size), by simp [kidsG]⟩, fun j c hc => by simp at hc⟩
    rw [← h]
    simp [kidsG]
    omega
  | kid :: kids, i, size, deep, pairs, x, h, h0, h1, h2 => by
    rw [rdK] at h
    split at h
    · next hk =>
      split at h
      · cases h
      · next s d below e =>
        split at h
        · next hb =>
          obtain ⟨n, t, hx, ⟨rest, hrest⟩, hR⟩ := hrec _ _ (by omega) e
          simp only [Prod.mk.injEq] at hx
          obtain ⟨rfl, rfl, rfl⟩ := hx
          obtain ⟨n', cs, k1, k2, k3, k4, ⟨rest', k5⟩, k6⟩ := rdK_sound hrec h (by omega) (by omega) (.inr (by omega))
          have hn : n = n' := by have := k1 (by omega); omega
          subst hn
          have hps : p + (size + (nodesT n t (p + size)).length) = p + size + (nodesT n t (p + size)).length := by omega
          rw [hps] at k3 k4 k5 k6
          have hkc := kids_cons t cs (p + size)
          refine ⟨n, t :: cs, fun hd => ?_, by simp [k2], ?_, ?_, ⟨rest', ?_⟩, ?_⟩
          · by_cases h9 : (n : Int) = deep
            · exact h9.symm
            · exact absurd ⟨hd, h9⟩ hb.1
          · rw [List.length_cons, hkc, hk, ← k3]
          · rw [List.length_cons, hkc, k4]
            simp [Nat.add_assoc]
          · rw [List.length_cons, hkc]
            have h7 : l.drop (p + size + (nodesT n t (p + size)).length) = rest := by
              have h6 := congrArg (List.drop (nodesT n t (p + size)).length) hrest
              rw [List.drop_drop] at h6
              simpa using h6
            rw [h7] at k5
            rw [hrest, k5]
            simp
          · intro j c hc a b hin
            have hx1 : x.1 = size + (nodesT n t (p + size)).length + (kidsG (gOf cs) cs.length (p + size + (nodesT n t (p + size)).length)).2.length := by rw [k4]
            cases j with
            | zero =>
              have : t = c := by simpa using hc
              subst this
              have hR' := hR (lft ks a i) (rgt ks b i) (fun nd hnd k hk' => by
                have b1 := hin.sub (q := p + size) (r := (nodesT n t (p + size)).length) (Nat.le_refl _) (by omega) nd hnd k hk'
                have b2 := hb.2 nd hnd k hk'
                unfold lft rgt
                constructor
                · split
                  · next h9 =>
                    rcases Int.lt_or_le k (ks.getD (i - 1) 0) with h10 | h10
                    · exact absurd (.inl ⟨h9, h10⟩) b2
                    · exact h10
                  · exact b1.1
                · split
                  · next h9 =>
                    rcases Int.lt_or_le k (ks.getD i 0) with h10 | h10
                    · exact h10
                    · exact absurd (.inr ⟨h9, h10⟩) b2
                  · exact b1.2)
              refine R.resize hR' ?_ hR'.size.2
              have := hR'.size.1
              split at this <;> omega
            | succ j =>
              have h9 := k6 j c (by simpa using hc) a b (hin.sub (by omega) (by omega))
              rw [show i + (j + 1) = i + 1 + j by omega]
              exact h9
        · cases h
    · cases h

/-- Reading says what a tree tells. -/
theorem rd_sound {l : List Nv} : ∀ (f p : Nat) (x : Rd), rd l f p = some x → Said l p (if p = 0 then 0 else 3) x
  | 0, p, x, h => by simp [rd] at h
  | f + 1, p, x, h => by
    rw [rd] at h
    split at h
    · cases h
    · next nd e =>
      have hp := (List.getElem?_eq_some_iff.1 e).1
      have hcons : l.drop p = nd :: l.drop (p + 1) := by
        rw [List.drop_eq_getElem_cons hp]
        congr 1
        exact (List.getElem?_eq_some_iff.1 e).2
      split at h
      · next hf =>
        obtain ⟨ks, es, is⟩ := nd
        obtain ⟨f1, f2, f3, f4⟩ := hf
        simp only at f1 f2 f3 f4 h
        split at h
        · next hi =>
          simp only [Option.some.injEq] at h
          subst h
          have hi0 : is = [] := List.eq_nil_of_length_eq_zero hi
          subst hi0
          have hel : es.length = ks.length := by omega
          have m1 : (ks.zip es).map (·.1) = ks := List.map_fst_zip (by omega)
          have m2 : (ks.zip es).map (·.2) = es := List.map_snd_zip (by omega)
          have hN : nodesT 0 (ks.zip es) p = [(ks, es, [])] := by rw [nodesT, m1, m2]
          refine ⟨0, ks.zip es, by rw [hN]; rfl, ⟨l.drop (p + 1), by rw [hN, hcons]; rfl⟩, fun a b hin => ?_⟩
          refine ⟨⟨?_, ?_⟩, ?_, fun q hq => ?_⟩
          · rw [if_pos rfl, List.length_zip]
            split
            · omega
            · next h9 => simp [h9] at f2; omega
          · rw [List.length_zip]; omega
          · rw [m1]; exact f3
          · have : q.1 ∈ ks := by rw [← m1]; exact List.mem_map_of_mem hq
            exact hin (ks, es, []) (by rw [hcons]; simp) q.1 this
        · next hi =>
          obtain ⟨n, cs, k1, k2, k3, k4, ⟨rest, k5⟩, k6⟩ := rdK_sound (fun q x hq hx => by have := rd_sound f q x hx; rwa [if_neg (by omega)] at this) h (by omega) (by omega) (.inl (fun h9 => hi (by rw [h9]; rfl)))
          have hes : es = [] := List.eq_nil_of_length_eq_zero (by omega)
          subst hes
          have hN : nodesT (n + 1) ((ks, cs) : Tr (n + 1)) p = (ks, [], is) :: (kidsG (gOf cs) cs.length (p + 1)).2 := by
            rw [nodesT]
            show (ks, [], (kidsG (gOf cs) cs.length (p + 1)).1) :: _ = _
            rw [← k3]
          refine ⟨n + 1, (ks, cs), ?_, ⟨rest, ?_⟩, fun a b hin => ?_⟩
          · rw [hN, k4]
            simp [flat]
            omega
          · rw [hN, hcons, k5]
            simp
          · have hx1 : x.1 = 1 + (kidsG (gOf cs) cs.length (p + 1)).2.length := by rw [k4]
            refine ⟨⟨?_, f1⟩, bds_of (by simp only; omega) (fun j c hc => ?_)⟩
            · rw [if_neg (by omega)]
              simp only
              split
              · omega
              · next h9 => simp [h9] at f2; omega
            · have h9 := k6 j c hc a b (hin.sub (by omega) (by omega))
              rwa [Nat.zero_add] at h9
      · cases h

theorem readL_sound {l : List Nv} {ps : List Pr} (h : readL l = some ps) (hk : ∀ nd ∈ l, ∀ k ∈ nd.1, 0 ≤ k ∧ k < 18446744073709551616) : ∃ (n : Nat) (t : Tr n), Top n t ∧ nodesT n t 0 = l ∧ ps = flat n t := by
  unfold readL at h
  split at h
  · cases h
  · next x e =>
    split at h
    · next hl =>
      simp only [Option.some.injEq] at h
      obtain ⟨n, t, hx, ⟨rest, hr⟩, hR⟩ := rd_sound _ _ _ e
      rw [if_pos rfl] at hR
      have h1 := hR 0 18446744073709551616 (fun nd hnd => hk nd (by simpa using List.mem_of_mem_take hnd))
      refine ⟨n, t, R.resize h1 ?_ h1.size.2, ?_, ?_⟩
      · have := h1.size.1
        split at this <;> omega
      · have h2 : x.1 = (nodesT n t 0).length := by rw [hx]
        simp only [List.drop_zero] at hr
        have h3 := congrArg List.length hr
        rw [List.length_append] at h3
        have h4 : rest = [] := List.eq_nil_of_length_eq_zero (by omega)
        rw [hr, h4, List.append_nil]
      · rw [← h, hx]
    · cases h
end Go.Proofs.Ytnljfhjindenpab
