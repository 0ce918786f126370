/-
  What is joined is told by a tree whose nodes have their form: plainly.
-/
import Derived.Test.YtnljfhjindenpabTreeP3
namespace Go.Proofs.Ytnljfhjindenpab
set_option linter.unusedVariables false
set_option linter.unusedSimpArgs false
set_option maxRecDepth 20000

/-- A branch that is told. -/
def GB (l : List Nv) (b : Br) : Prop := (∃ rest, l.drop b.1 = nodesT b.2.1 b.2.2 b.1 ++ rest) ∧ Fmt b.2.1 (if b.1 = 0 then min b.2.1 1 else 3) b.2.2

/-- Branches that stand one behind the other, from a number on, the nearest first. -/
def Ch (l : List Nv) : Nat → List Br → Prop
  | i, [] => i = l.length
  | i, b :: bs => b.1 = i ∧ GB l b ∧ Ch l (i + (nodesT b.2.1 b.2.2 b.1).length) bs

theorem ch_kids {l : List Nv} {h : Nat} : ∀ (rb : List Br) (k : Nat) (R : List Br), (∀ b ∈ rb, b.2.1 = h) → 0 < k → Ch l k (rb ++ R) →
    ∃ cs : List (Tr h), cs = rb.map (fun b => asTr h b.2) ∧ rb.map (fun b => (b.1 : Int)) = (kidsG (gOf cs) cs.length k).1 ∧ (∃ rest, l.drop k = (kidsG (gOf cs) cs.length k).2 ++ rest) ∧ Ch l (k + (kidsG (gOf cs) cs.length k).2.length) R ∧ ∀ c ∈ cs, Fmt h 3 c
  | [], k, R, _, _, hc => ⟨[], rfl, rfl, ⟨l.drop k, by simp [kidsG]⟩, by simpa [kidsG] using hc, fun c hc => by simp at hc⟩
  | (q, ⟨h', t⟩) :: rb, k, R, hh, hk, hc => by
    have e : h' = h := hh _ List.mem_cons_self
    subst e
    obtain ⟨hq, ⟨⟨rest, hg1⟩, hg2⟩, hc⟩ := hc
    have hq' : q = k := hq
    subst hq'
    obtain ⟨cs, c1, c2, ⟨rest', c3⟩, c4, c5⟩ := ch_kids rb _ R (fun b hb => hh b (List.mem_cons_of_mem _ hb)) (by omega) hc
    have hkc := kids_cons t cs q
    refine ⟨t :: cs, ?_, ?_, ⟨rest', ?_⟩, ?_, ?_⟩
    · rw [List.map_cons, asTr_self, c1]
    · rw [List.length_cons, hkc, List.map_cons, c2]
    · rw [List.length_cons, hkc]
      have h7 : l.drop (q + (nodesT h' t q).length) = rest := by
        have h6 := congrArg (List.drop (nodesT h' t q).length) hg1
        rw [List.drop_drop] at h6
        simpa using h6
      rw [h7] at c3
      show l.drop q = (nodesT h' t q ++ _) ++ rest'
      rw [show l.drop q = nodesT h' t q ++ rest from hg1, c3]
      simp
    · rw [List.length_cons, hkc]
      simp only [List.length_append]
      rw [← Nat.add_assoc]
      exact c4
    · intro c hc'
      rcases List.mem_cons.1 hc' with rfl | hc'
      · have h9 : Fmt h' (if q = 0 then min h' 1 else 3) c := hg2
        rwa [if_neg (by omega)] at h9
      · exact c5 c hc'

theorem step_sound {l : List Nv} (hk : ∀ nd ∈ l, ∀ k ∈ nd.1, 0 ≤ k ∧ k < 18446744073709551616) {i : Nat} {st st1 : List Br} (hi : i < l.length) (h : stepJ (l.getD i ([], [], [])) i st = some st1) (hc : Ch l (i + 1) st.reverse) : Ch l i st1.reverse := by
  have hg : l.getD i ([], [], []) = l[i] := by rw [List.getD_eq_getElem?_getD, List.getElem?_eq_getElem hi]; rfl
  rw [hg] at h
  have hkeys := hk l[i] (List.getElem_mem hi)
  have hcons : l.drop i = l[i] :: l.drop (i + 1) := List.drop_eq_getElem_cons hi
  generalize l[i] = nd at *
  obtain ⟨ks, es, is⟩ := nd
  unfold stepJ at h
  split at h
  · next hf =>
    obtain ⟨⟨f1, f2, f3, f4⟩, hl⟩ := hf
    simp only at f1 f2 f3 f4 hl h hkeys
    unfold brOf at h
    split at h
    · next hok =>
      simp only [Option.map_some, Option.some.injEq] at h
      subst h
      rw [List.reverse_append, List.reverse_singleton]
      have hsplit : st.reverse = (st.drop (st.length - is.length)).reverse ++ (st.take (st.length - is.length)).reverse := by
        rw [← List.reverse_append, List.take_append_drop]
      rw [hsplit] at hc
      have hlen : (st.drop (st.length - is.length)).length = is.length := by rw [List.length_drop]; omega
      generalize st.drop (st.length - is.length) = beh at *
      generalize (st.take (st.length - is.length)).reverse = R at *
      unfold mkT
      by_cases hz : is.length = 0
      · rw [if_pos hz]
        have hb0 : beh = [] := List.eq_nil_of_length_eq_zero (by omega)
        have hi0 : is = [] := List.eq_nil_of_length_eq_zero hz
        subst hb0 hi0
        have hel : es.length = ks.length := by omega
        have m1 : (ks.zip es).map (·.1) = ks := List.map_fst_zip (by omega)
        have m2 : (ks.zip es).map (·.2) = es := List.map_snd_zip (by omega)
        have hN : nodesT 0 (ks.zip es) i = [(ks, es, [])] := by rw [nodesT, m1, m2]
        refine ⟨rfl, ⟨⟨l.drop (i + 1), ?_⟩, ?_⟩, ?_⟩
        · show l.drop i = nodesT 0 (ks.zip es) i ++ _
          rw [hN, hcons]
          rfl
        · refine ⟨⟨?_, ?_⟩, by rw [m1]; exact f3, fun q hq => ?_⟩
          · simp only [List.length_zip]
            split
            · simp
            · next h9 => simp [h9] at f2; omega
          · simp only [List.length_zip]; omega
          · have : q.1 ∈ ks := by rw [← m1]; exact List.mem_map_of_mem hq
            exact (hkeys q.1 this).2
        · show Ch l (i + (nodesT 0 (ks.zip es) i).length) R
          rw [hN]
          simpa using hc
      · rw [if_neg hz]
        have hes : es = [] := List.eq_nil_of_length_eq_zero (by omega)
        subst hes
        have hall : ∀ b ∈ beh.reverse, b.2.1 = hgt beh := fun b hb => by
          obtain ⟨j, hj, rfl⟩ := List.mem_iff_getElem.1 hb
          have h9 := (hok j (by simp at hj; simp; omega)).2
          rwa [List.getD_eq_getElem?_getD, List.getElem?_eq_getElem hj] at h9
        obtain ⟨cs, c1, c2, ⟨rest, c3⟩, c4, c5⟩ := ch_kids beh.reverse (i + 1) R hall (by omega) hc
        have hcl : cs.length = is.length := by rw [c1]; simp [hlen]
        have hkids : is = (kidsG (gOf cs) cs.length (i + 1)).1 := by
          rw [← c2]
          refine List.ext_getElem (by simp [hlen]) (fun j h1 h2 => ?_)
          have h9 := (hok j (by simpa using h1)).1
          have hj : j < beh.reverse.length := by simp at h2; simp; omega
          rw [List.getD_eq_getElem?_getD, List.getElem?_eq_getElem h1, List.getD_eq_getElem?_getD, List.getElem?_eq_getElem hj] at h9
          simpa using h9
        rw [← c1]
        generalize hgt beh = hh at *
        have hN : nodesT (hh + 1) ((ks, cs) : Tr (hh + 1)) i = (ks, [], is) :: (kidsG (gOf cs) cs.length (i + 1)).2 := by
          rw [nodesT]
          show (ks, [], (kidsG (gOf cs) cs.length (i + 1)).1) :: _ = _
          rw [← hkids]
        refine ⟨rfl, ⟨⟨rest, ?_⟩, ?_⟩, ?_⟩
        · show l.drop i = nodesT (hh + 1) ((ks, cs) : Tr (hh + 1)) i ++ _
          rw [hN, hcons, c3]
          rfl
        · refine ⟨⟨?_, f1⟩, f3, fun k hk' => (hkeys k hk').2, by simp only; omega, c5⟩
          simp only
          split
          · omega
          · next h9 => simp [h9] at f2; omega
        · show Ch l (i + (nodesT (hh + 1) ((ks, cs) : Tr (hh + 1)) i).length) R
          rw [hN, List.length_cons, show i + ((kidsG (gOf cs) cs.length (i + 1)).2.length + 1) = i + 1 + (kidsG (gOf cs) cs.length (i + 1)).2.length by omega]
          exact c4
    · simp at h
  · cases h

theorem jn_sound {l : List Nv} (hk : ∀ nd ∈ l, ∀ k ∈ nd.1, 0 ≤ k ∧ k < 18446744073709551616) : ∀ (i : Nat) (st st' : List Br), i ≤ l.length → jn l i st = some st' → Ch l i st.reverse → Ch l 0 st'.reverse
  | 0, st, st', _, h, hc => by
    simp only [jn, Option.some.injEq] at h
    subst h
    exact hc
  | i + 1, st, st', hi, h, hc => by
    rw [jn] at h
    cases hs : stepJ (l.getD i ([], [], [])) i st with
    | none => rw [hs] at h; cases h
    | some st1 =>
      rw [hs, Option.bind_some] at h
      exact jn_sound hk i st1 st' (by omega) h (step_sound hk (by omega) hs hc)

theorem joinL_sound {l : List Nv} (hk : ∀ nd ∈ l, ∀ k ∈ nd.1, 0 ≤ k ∧ k < 18446744073709551616) {b : Br} (h : joinL l = some b) : nodesT b.2.1 b.2.2 0 = l ∧ Fmt b.2.1 (min b.2.1 1) b.2.2 := by
  unfold joinL at h
  split at h
  · next b' e =>
    simp only [Option.some.injEq] at h
    subst h
    obtain ⟨h1, ⟨⟨rest, h2⟩, h3⟩, h4⟩ := jn_sound hk l.length [] [b'] (Nat.le_refl _) e rfl
    rw [h1, if_pos rfl] at h3
    rw [h1] at h2 h4
    refine ⟨?_, h3⟩
    have h5 : 0 + (nodesT b'.2.1 b'.2.2 0).length = l.length := h4
    simp only [List.drop_zero] at h2
    have h6 := congrArg List.length h2
    rw [List.length_append] at h6
    have h7 : rest = [] := List.eq_nil_of_length_eq_zero (by omega)
    rw [h2, h7, List.append_nil]
  · cases h

/-- Joined, with all keys within: just what Read takes. -/
theorem of_iff {l : List Nv} (hk : ∀ nd ∈ l, ∀ k ∈ nd.1, 0 ≤ k ∧ k < 18446744073709551616) :
    (∀ b, joinL l = some b → Wb b.2.1 b.2.2 0 0 true → Top b.2.1 b.2.2 ∧ readL l = some (flat b.2.1 b.2.2)) ∧
    (readL l ≠ none → ∃ b, joinL l = some b ∧ Wb b.2.1 b.2.2 0 0 true) := by
  constructor
  · intro b hj hw
    obtain ⟨h1, h2⟩ := joinL_sound hk hj
    have h3 : Top b.2.1 b.2.2 := r_of h2 hw
    refine ⟨h3, ?_⟩
    have := readL_tree h3
    rwa [h1] at this
  · intro hr
    cases hq : readL l with
    | none => exact absurd hq hr
    | some ps =>
      obtain ⟨n, t, h1, h2, h3⟩ := readL_sound hq hk
      refine ⟨(0, ⟨n, t⟩), ?_, ?_⟩
      · have := joinL_tree h1
        rwa [h2] at this
      · exact wb_of (e := 0) (bl := true) h1 (by decide)
end Go.Proofs.Ytnljfhjindenpab
