/-
  Read: what the fields of an image can be, and which thing they can be the image of. It names nothing of the program.
-/
import Derived.Test.YtghlilncdfiojaaThKAS
namespace Go.Proofs.Ytghlilncdfiojaa
set_option linter.unusedVariables false
set_option linter.unusedSimpArgs false
set_option maxRecDepth 20000
open Go.RowKit

theorem unpF_text {bs r : List UInt8} {f : Fld} (h : unpF 98 bs = some (f, r)) : ∃ b, f = bF b ∧ b.length ≤ 1024 := by
  unfold unpF at h
  rw [if_pos rfl] at h
  split at h
  · rename_i hk
    simp only [Option.some.injEq, Prod.mk.injEq] at h
    obtain ⟨rfl, _⟩ := h
    refine ⟨_, rfl, ?_⟩
    rw [List.length_take]
    omega
  · cases h

theorem unpL_one {c : UInt8} {s bs r : List UInt8} {fs : List Fld} (h : unpL (c :: s) bs = some (fs, r)) : ∃ f r1 gs, unpF c bs = some (f, r1) ∧ unpL s r1 = some (gs, r) ∧ fs = f :: gs := by
  simp only [unpL] at h
  cases h1 : unpF c bs with
  | none => rw [h1] at h; simp at h
  | some p =>
    obtain ⟨f, r1⟩ := p
    rw [h1] at h
    simp only at h
    cases h2 : unpL s r1 with
    | none => rw [h2] at h; simp at h
    | some p2 =>
      obtain ⟨gs, r2⟩ := p2
      rw [h2] at h
      simp only [Option.some.injEq, Prod.mk.injEq] at h
      obtain ⟨rfl, rfl⟩ := h
      exact ⟨f, r1, gs, rfl, h2, rfl⟩

theorem unpL_no {bs r : List UInt8} {fs : List Fld} (h : unpL [] bs = some (fs, r)) : fs = [] := by
  simp only [unpL, Option.some.injEq, Prod.mk.injEq] at h
  exact h.1.symm

def n8 (x : Int) : Prop := 0 ≤ x ∧ x < 18446744073709551616
def n2 (x : Int) : Prop := 0 ≤ x ∧ x < 65536
def n1 (x : Int) : Prop := 0 ≤ x ∧ x < 256

theorem one8 {bs r : List UInt8} {f : Fld} (h : unpF 56 bs = some (f, r)) : ∃ x, f = nF x ∧ n8 x := by
  obtain ⟨x, h1, h2, h3⟩ := unpF_num (k := 8) (by decide) (by decide) h
  have h4 : x.toNat < 18446744073709551616 := h3
  exact ⟨x, h1, h2, by omega⟩
theorem one2 {bs r : List UInt8} {f : Fld} (h : unpF 50 bs = some (f, r)) : ∃ x, f = nF x ∧ n2 x := by
  obtain ⟨x, h1, h2, h3⟩ := unpF_num (k := 2) (by decide) (by decide) h
  have h4 : x.toNat < 65536 := h3
  exact ⟨x, h1, h2, by omega⟩
theorem one1 {bs r : List UInt8} {f : Fld} (h : unpF 49 bs = some (f, r)) : ∃ x, f = nF x ∧ n1 x := by
  obtain ⟨x, h1, h2, h3⟩ := unpF_num (k := 1) (by decide) (by decide) h
  have h4 : x.toNat < 256 := h3
  exact ⟨x, h1, h2, by omega⟩

/-- What the fields behind the head can be. -/
def TailF (k : Int) (gs : List Fld) : Prop :=
  (k = 1 ∧ ∃ nx lk, gs = [nF nx, bF lk] ∧ n2 nx ∧ lk.length ≤ 1024) ∨
  (k = 2 ∧ ∃ cl r0 r1 r2 r3 mi bo ha, gs = [bF cl, nF r0, nF r1, nF r2, nF r3, nF mi, nF bo, nF ha] ∧ cl.length ≤ 1024 ∧ n8 r0 ∧ n8 r1 ∧ n8 r2 ∧ n8 r3 ∧ n1 mi ∧ n1 bo ∧ n1 ha) ∨
  (k = 3 ∧ ∃ cl va, gs = [bF cl, nF va] ∧ cl.length ≤ 1024 ∧ n8 va) ∨
  (k = 4 ∧ ∃ da, gs = [bF da] ∧ da.length ≤ 1024) ∨
  (k = 5 ∧ ∃ a b c d e f g h, gs = [nF a, nF b, nF c, nF d, nF e, nF f, nF g, nF h] ∧ n8 a ∧ n8 b ∧ n8 c ∧ n8 d ∧ n8 e ∧ n8 f ∧ n8 g ∧ n8 h) ∨
  (k ≠ 1 ∧ k ≠ 2 ∧ k ≠ 3 ∧ k ≠ 4 ∧ k ≠ 5 ∧ gs = [])

theorem tail_of {k : Int} {bs r : List UInt8} {gs : List Fld} (h : unpL (tailL k) bs = some (gs, r)) : TailF k gs := by
  unfold tailL at h
  by_cases k1 : k = 1
  · rw [if_pos k1] at h
    obtain ⟨f1, _, g1, p1, q1, rfl⟩ := unpL_one h
    obtain ⟨f2, _, g2, p2, q2, rfl⟩ := unpL_one q1
    obtain rfl := unpL_no q2
    obtain ⟨x, rfl, hx⟩ := one2 p1
    obtain ⟨y, rfl, hy⟩ := unpF_text p2
    exact .inl ⟨k1, x, y, rfl, hx, hy⟩
  rw [if_neg k1] at h
  by_cases k2 : k = 2
  · rw [if_pos k2] at h
    obtain ⟨f1, _, g1, p1, q1, rfl⟩ := unpL_one h
    obtain ⟨f2, _, g2, p2, q2, rfl⟩ := unpL_one q1
    obtain ⟨f3, _, g3, p3, q3, rfl⟩ := unpL_one q2
    obtain ⟨f4, _, g4, p4, q4, rfl⟩ := unpL_one q3
    obtain ⟨f5, _, g5, p5, q5, rfl⟩ := unpL_one q4
    obtain ⟨f6, _, g6, p6, q6, rfl⟩ := unpL_one q5
    obtain ⟨f7, _, g7, p7, q7, rfl⟩ := unpL_one q6
    obtain ⟨f8, _, g8, p8, q8, rfl⟩ := unpL_one q7
    obtain rfl := unpL_no q8
    obtain ⟨x1, rfl, h1⟩ := unpF_text p1
    obtain ⟨x2, rfl, h2⟩ := one8 p2
    obtain ⟨x3, rfl, h3⟩ := one8 p3
    obtain ⟨x4, rfl, h4⟩ := one8 p4
    obtain ⟨x5, rfl, h5⟩ := one8 p5
    obtain ⟨x6, rfl, h6⟩ := one1 p6
    obtain ⟨x7, rfl, h7⟩ := one1 p7
    obtain ⟨x8, rfl, h8⟩ := one1 p8
    exact .inr (.inl ⟨k2, x1, x2, x3, x4, x5, x6, x7, x8, rfl, h1, h2, h3, h4, h5, h6, h7, h8⟩)
  rw [if_neg k2] at h
  by_cases k3 : k = 3
  · rw [if_pos k3] at h
    obtain ⟨f1, _, g1, p1, q1, rfl⟩ := unpL_one h
    obtain ⟨f2, _, g2, p2, q2, rfl⟩ := unpL_one q1
    obtain rfl := unpL_no q2
    obtain ⟨x, rfl, hx⟩ := unpF_text p1
    obtain ⟨y, rfl, hy⟩ := one8 p2
    exact .inr (.inr (.inl ⟨k3, x, y, rfl, hx, hy⟩))
  rw [if_neg k3] at h
  by_cases k4 : k = 4
  · rw [if_pos k4] at h
    obtain ⟨f1, _, g1, p1, q1, rfl⟩ := unpL_one h
    obtain rfl := unpL_no q1
    obtain ⟨x, rfl, hx⟩ := unpF_text p1
    exact .inr (.inr (.inr (.inl ⟨k4, x, rfl, hx⟩)))
  rw [if_neg k4] at h
  by_cases k5 : k = 5
  · rw [if_pos k5] at h
    obtain ⟨f1, _, g1, p1, q1, rfl⟩ := unpL_one h
    obtain ⟨f2, _, g2, p2, q2, rfl⟩ := unpL_one q1
    obtain ⟨f3, _, g3, p3, q3, rfl⟩ := unpL_one q2
    obtain ⟨f4, _, g4, p4, q4, rfl⟩ := unpL_one q3
    obtain ⟨f5, _, g5, p5, q5, rfl⟩ := unpL_one q4
    obtain ⟨f6, _, g6, p6, q6, rfl⟩ := unpL_one q5
    obtain ⟨f7, _, g7, p7, q7, rfl⟩ := unpL_one q6
    obtain ⟨f8, _, g8, p8, q8, rfl⟩ := unpL_one q7
    obtain rfl := unpL_no q8
    obtain ⟨x1, rfl, h1⟩ := one8 p1
    obtain ⟨x2, rfl, h2⟩ := one8 p2
    obtain ⟨x3, rfl, h3⟩ := one8 p3
    obtain ⟨x4, rfl, h4⟩ := one8 p4
    obtain ⟨x5, rfl, h5⟩ := one8 p5
    obtain ⟨x6, rfl, h6⟩ := one8 p6
    obtain ⟨x7, rfl, h7⟩ := one8 p7
    obtain ⟨x8, rfl, h8⟩ := one8 p8
    exact .inr (.inr (.inr (.inr (.inl ⟨k5, x1, x2, x3, x4, x5, x6, x7, x8, rfl, h1, h2, h3, h4, h5, h6, h7, h8⟩))))
  rw [if_neg k5] at h
  exact .inr (.inr (.inr (.inr (.inr ⟨k1, k2, k3, k4, k5, unpL_no h⟩))))

/-- What bytes that unpack tell. -/
theorem unp_shape {k : Int} {bs : List UInt8} {fs : List Fld} (h : unpack (shL k) bs = some fs) : ∃ a kk lb q gs, fs = nF a :: nF kk :: bF lb :: nF q :: gs ∧ n8 a ∧ n1 kk ∧ lb.length ≤ 1024 ∧ n2 q ∧ TailF k gs := by
  have h := (unpack_some h).2
  have e : shL k = 56 :: 49 :: 98 :: 50 :: tailL k := rfl
  rw [e] at h
  obtain ⟨f1, _, g1, p1, q1, rfl⟩ := unpL_one h
  obtain ⟨f2, _, g2, p2, q2, rfl⟩ := unpL_one q1
  obtain ⟨f3, _, g3, p3, q3, rfl⟩ := unpL_one q2
  obtain ⟨f4, _, g4, p4, q4, rfl⟩ := unpL_one q3
  obtain ⟨x1, rfl, h1⟩ := one8 p1
  obtain ⟨x2, rfl, h2⟩ := one1 p2
  obtain ⟨x3, rfl, h3⟩ := unpF_text p3
  obtain ⟨x4, rfl, h4⟩ := one2 p4
  exact ⟨x1, x2, x3, x4, g4, rfl, h1, h2, h3, h4, tail_of q4⟩

/-- The part behind the head turns what all have into the one thing that it can be. -/
def SetP (gs : List Fld) (t t' : Th) : Prop := ∀ u, RightT u → WfT u → t = baseT u → gs = List.zipWith nrm (tailL u.kind) (partF u) → t' = u

theorem kind_base (u : Th) : (baseT u).kind = u.kind := rfl

/-- A guess that is the only one. -/
theorem guess_only {k : Int} {bs : List UInt8} {a kk q : Int} {lb : List UInt8} {gs : List Fld} (h : unpack (shL k) bs = some (nF a :: nF kk :: bF lb :: nF q :: gs)) (ha : n8 a) (hq : n2 q) (hb : ∃ h : 8 < bs.length, (bs[8].toNat : Int) = k)
    {d : Int} {xs : List Cat} (hl : ∀ d' xs', Rgt d' xs' → lb = labB d' xs' → d = d' ∧ xs = xs') {t' : Th} (hs : SetP gs { zeroT with id := a, kind := k, df := d, cats := xs, quota := q } t')
    {u : Th} (hu : RightT u) (wu : WfT u) (e : imgO u = some bs) : t' = u := by
  obtain ⟨_, h8, hk⟩ := img_kind hu wu e
  obtain ⟨_, hk2⟩ := hb
  have hkk : u.kind = k := by omega
  have f1 := unp_img e
  rw [hkk, h] at f1
  have f := Option.some.inj f1
  obtain ⟨q1, q2⟩ := quota_of hu.parts
  have i1 := hu.id
  unfold idOk at i1
  unfold n8 at ha
  unfold n2 at hq
  simp only [flds, headF, shL, List.cons_append, List.nil_append, List.zipWith_cons_cons, List.cons.injEq, nrm, nF, bF, Fld.mk.injEq, if_true, show ¬ (56 : UInt8) = 98 by decide, show ¬ (49 : UInt8) = 98 by decide, show ¬ (50 : UInt8) = 98 by decide, if_false, and_true, true_and] at f
  obtain ⟨c1, _, c3, c4, f⟩ := f
  obtain ⟨l1, l2⟩ := hl _ _ hu.rgt c3
  refine hs u hu wu ?_ (by rw [hkk]; exact f)
  have g1 : a = u.id := by omega
  have g2 : q = u.quota := by omega
  simp only [baseT, g1, g2, l1, l2, hkk]

theorem nnr {x : Int} {y : Int} (h : x.toNat = y.toNat) (hx : 0 ≤ x) (hy : 0 ≤ y) : x = y := by omega

theorem set1 {nx : Int} {lk : List UInt8} {xs : List Cat} {t : Th} (hk : t.kind = 1) (hn : n2 nx) (hb : ∀ ls, LkOk ls → ls.length ≤ 16 → lk = pairB 2 ls → xs = ls) : SetP [nF nx, bF lk] t { t with next := nx, links := xs } := by
  intro u hu wu e f
  have ku : u.kind = 1 := by rw [← kind_base u, ← e]; exact hk
  rcases hu.parts with ⟨ku', h'⟩ | ⟨ku', h'⟩ | ⟨ku', h'⟩ | ⟨ku', h'⟩ | ⟨ku', h'⟩ | ⟨ku', h'⟩ <;> try (exfalso; omega)
  have su := hu.same
  simp only [partF, tailL, ku, if_true, List.zipWith_cons_cons, List.cons.injEq, nrm, nF, bF, Fld.mk.injEq, show ¬ (50 : UInt8) = 98 by decide, if_false, and_true, true_and, List.zipWith_nil_left] at f
  obtain ⟨d1, d2⟩ := f
  have d2 := hb _ h'.lk h'.len d2
  have d1 : nx = u.next := nnr d1 hn.1 h'.next.1
  rw [su, e]
  simp only [ofK, ku, if_true, d1, d2]

theorem set2 {cl : List UInt8} {r0 r1 r2 r3 mi bo ha d : Int} {xs : List Cat} {t : Th} (hk : t.kind = 2) (h0 : n8 r0) (h1 : n8 r1) (h2 : n8 r2) (h3 : n8 r3) (h4 : n1 mi) (h5 : n1 bo) (h6 : n1 ha) (hb : ∀ d' xs', Rgt d' xs' → cl = labB d' xs' → d = d' ∧ xs = xs') :
    SetP [bF cl, nF r0, nF r1, nF r2, nF r3, nF mi, nF bo, nF ha] t { t with cdf := d, ccats := xs, r0 := r0, r1 := r1, r2 := r2, r3 := r3, minted := mi, boot := bo, halted := ha == 1 } := by
  intro u hu wu e f
  have ku : u.kind = 2 := by rw [← kind_base u, ← e]; exact hk
  rcases hu.parts with ⟨ku', h'⟩ | ⟨ku', h'⟩ | ⟨ku', h'⟩ | ⟨ku', h'⟩ | ⟨ku', h'⟩ | ⟨ku', h'⟩ <;> try (exfalso; omega)
  have su := hu.same
  simp only [partF, tailL, ku, if_true, List.zipWith_cons_cons, List.cons.injEq, nrm, nF, bF, Fld.mk.injEq, show ¬ (56 : UInt8) = 98 by decide, show ¬ (49 : UInt8) = 98 by decide, show ¬ (2 : Int) = 1 by decide, if_false, and_true, true_and, List.zipWith_nil_left] at f
  obtain ⟨d1, d2, d3, d4, d5, d6, d7, d8⟩ := f
  obtain ⟨m1, m2⟩ := hb _ _ h'.rgt d1
  have d2 : r0 = u.r0 := nnr d2 h0.1 wu.r0.1
  have d3 : r1 = u.r1 := nnr d3 h1.1 wu.r1.1
  have d4 : r2 = u.r2 := nnr d4 h2.1 wu.r2.1
  have d5 : r3 = u.r3 := nnr d5 h3.1 wu.r3.1
  have d6 : mi = u.minted := nnr d6 h4.1 h'.minted.1
  have d7 : bo = u.boot := nnr d7 h5.1 h'.boot.1
  have d8 : (ha == 1) = u.halted := by
    revert d8
    have := h6.1
    cases u.halted with
    | true => intro d8; have e9 : ha = 1 := by simp at d8; omega
              simp [e9]
    | false => intro d8; have e9 : ha = 0 := by simp at d8; omega
               simp [e9]
  rw [su, e]
  simp only [ofK, ku, if_true, show ¬ (2 : Int) = 1 by decide, if_false, d2, d3, d4, d5, d6, d7, d8, m1, m2]

theorem set3 {cl : List UInt8} {va d : Int} {xs : List Cat} {t : Th} (hk : t.kind = 3) (h0 : n8 va) (hb : ∀ d' xs', Rgt d' xs' → cl = labB d' xs' → d = d' ∧ xs = xs') : SetP [bF cl, nF va] t { t with cdf := d, ccats := xs, value := va } := by
  intro u hu wu e f
  have ku : u.kind = 3 := by rw [← kind_base u, ← e]; exact hk
  rcases hu.parts with ⟨ku', h'⟩ | ⟨ku', h'⟩ | ⟨ku', h'⟩ | ⟨ku', h'⟩ | ⟨ku', h'⟩ | ⟨ku', h'⟩ <;> try (exfalso; omega)
  have su := hu.same
  simp only [partF, tailL, ku, if_true, List.zipWith_cons_cons, List.cons.injEq, nrm, nF, bF, Fld.mk.injEq, show ¬ (56 : UInt8) = 98 by decide, show ¬ (3 : Int) = 1 by decide, show ¬ (3 : Int) = 2 by decide, if_false, and_true, true_and, List.zipWith_nil_left] at f
  obtain ⟨d1, d2⟩ := f
  obtain ⟨m1, m2⟩ := hb _ _ h'.rgt d1
  have d2 : va = u.value := nnr d2 h0.1 wu.value.1
  rw [su, e]
  simp only [ofK, ku, if_true, show ¬ (3 : Int) = 1 by decide, show ¬ (3 : Int) = 2 by decide, if_false, d2, m1, m2]

theorem set4 {da : List UInt8} {t : Th} (hk : t.kind = 4) : SetP [bF da] t { t with data := da } := by
  intro u hu wu e f
  have ku : u.kind = 4 := by rw [← kind_base u, ← e]; exact hk
  have su := hu.same
  simp only [partF, tailL, ku, if_true, List.zipWith_cons_cons, List.cons.injEq, nrm, nF, bF, Fld.mk.injEq, show ¬ (4 : Int) = 1 by decide, show ¬ (4 : Int) = 2 by decide, show ¬ (4 : Int) = 3 by decide, if_false, and_true, true_and, List.zipWith_nil_left] at f
  rw [su, e]
  simp only [ofK, ku, if_true, show ¬ (4 : Int) = 1 by decide, show ¬ (4 : Int) = 2 by decide, show ¬ (4 : Int) = 3 by decide, if_false, f]

theorem set5 {a b c d e f g h : Int} {t : Th} (hk : t.kind = 5) (ha : n8 a) (hb : n8 b) (hc : n8 c) (hd : n8 d) (he : n8 e) (hf : n8 f) (hg : n8 g) (hh : n8 h) :
    SetP [nF a, nF b, nF c, nF d, nF e, nF f, nF g, nF h] t { t with s0 := a, s1 := b, s2 := c, s3 := d, s4 := e, s5 := f, s6 := g, s7 := h } := by
  intro u hu wu ee ff
  have ku : u.kind = 5 := by rw [← kind_base u, ← ee]; exact hk
  rcases hu.parts with ⟨ku', h'⟩ | ⟨ku', h'⟩ | ⟨ku', h'⟩ | ⟨ku', h'⟩ | ⟨ku', h'⟩ | ⟨ku', h'⟩ <;> try (exfalso; omega)
  have su := hu.same
  simp only [partF, tailL, ku, if_true, List.zipWith_cons_cons, List.cons.injEq, nrm, nF, bF, Fld.mk.injEq, show ¬ (56 : UInt8) = 98 by decide, show ¬ (5 : Int) = 1 by decide, show ¬ (5 : Int) = 2 by decide, show ¬ (5 : Int) = 3 by decide, show ¬ (5 : Int) = 4 by decide, if_false, and_true, true_and, List.zipWith_nil_left] at ff
  obtain ⟨d0, d1, d2, d3, d4, d5, d6, d7⟩ := ff
  have nn : ∀ {d s : Int}, slOk d s → 0 ≤ d ∧ 0 ≤ s := fun {d s} h => by
    rcases h with ⟨h1, h2⟩ | ⟨⟨h1, _⟩, h2, _⟩ <;> constructor <;> omega
  obtain ⟨y0, y1, y2, y3⟩ := h'.slots
  have v0 := nn y0; have v1 := nn y1; have v2 := nn y2; have v3 := nn y3
  have d0 : a = u.s0 := nnr d0 ha.1 v0.1
  have d1 : b = u.s1 := nnr d1 hb.1 v0.2
  have d2 : c = u.s2 := nnr d2 hc.1 v1.1
  have d3 : d = u.s3 := nnr d3 hd.1 v1.2
  have d4 : e = u.s4 := nnr d4 he.1 v2.1
  have d5 : f = u.s5 := nnr d5 hf.1 v2.2
  have d6 : g = u.s6 := nnr d6 hg.1 v3.1
  have d7 : h = u.s7 := nnr d7 hh.1 v3.2
  rw [su, ee]
  simp only [ofK, ku, if_true, show ¬ (5 : Int) = 1 by decide, show ¬ (5 : Int) = 2 by decide, show ¬ (5 : Int) = 3 by decide, show ¬ (5 : Int) = 4 by decide, if_false, d0, d1, d2, d3, d4, d5, d6, d7]

theorem set6 {t : Th} (h1 : t.kind ≠ 1) (h2 : t.kind ≠ 2) (h3 : t.kind ≠ 3) (h4 : t.kind ≠ 4) (h5 : t.kind ≠ 5) : SetP [] t t := by
  intro u hu wu e _
  have ku : u.kind = t.kind := by rw [e]; rfl
  have su := hu.same
  rw [su, e]
  rw [← ku] at h1 h2 h3 h4 h5
  simp only [ofK, h1, h2, h3, h4, h5, if_false]
end Go.Proofs.Ytghlilncdfiojaa
