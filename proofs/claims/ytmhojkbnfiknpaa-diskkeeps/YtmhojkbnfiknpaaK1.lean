/-
  What DiskKeeps leans on: bytes behind a crash; what a round of it keeps.
-/
import Derived.Test.YtmhojkbnfiknpaaDo
namespace Go.Proofs.Ytmhojkbnfiknpaa
set_option linter.unusedVariables false
set_option linter.unusedSimpArgs false
open Go.RowKit

/-! ### Bytes behind a crash -/
theorem lay_get {old new : List UInt8} (ho : old.length = 128) (hn : new.length = 128) (n k : Nat) (hnn : n ≤ 128) : (lay old new n).getD k 0 = if k < n then new.getD k 0 else old.getD k 0 := by
  unfold lay
  rw [List.getD_eq_getElem?_getD, List.getElem?_append, List.length_take, Nat.min_eq_left (by omega)]
  split
  · rw [List.getElem?_take, if_pos (by assumption), List.getD_eq_getElem?_getD]
  · rw [List.getElem?_drop, List.getD_eq_getElem?_getD, show n + (k - n) = k by omega]

theorem crashN_sec {st : List (List UInt8)} {pd : List (Nat × List UInt8)} {sz : Nat → Nat} (h : ∀ s ∈ st, s.length = 128) (hp : ∀ p ∈ pd, p.2.length = 128) (hs : ∀ n, sz n ≤ 128) : ∀ N, ∀ i, ((crashN st pd sz N).getD i z128).length = 128 := by
  intro N
  induction N with
  | zero =>
    intro i
    rw [crashN, List.getD_eq_getElem?_getD]
    cases hq : st[i]? with
    | none => exact z128_length
    | some s => exact h s (List.mem_of_getElem? hq)
  | succ N ih =>
    intro i
    rw [crashN, List.getD_eq_getElem?_getD, List.getElem?_set]
    have hp2 : (pd.getD N (0, z128)).2.length = 128 := by
      rw [List.getD_eq_getElem?_getD]
      cases hq : pd[N]? with
      | none => exact z128_length
      | some p => exact hp p (List.mem_of_getElem? hq)
    split
    · split
      · exact lay_length (ih _) hp2 (hs N)
      · exact z128_length
    · have := ih i
      rw [List.getD_eq_getElem?_getD] at this
      exact this

theorem crash_bytes {st : List (List UInt8)} {pd : List (Nat × List UInt8)} {sz : Nat → Nat} (h : ∀ s ∈ st, s.length = 128) (hp : ∀ p ∈ pd, p.2.length = 128) (hs : ∀ n, sz n ≤ 128) (i k : Nat) (hi : i < st.length) : ∀ N, N ≤ pd.length →
    ((crashN st pd sz N).getD i z128).getD k 0 = (st.getD i z128).getD k 0 ∨ ∃ p ∈ pd, p.1 = i ∧ p.2.getD k 0 = ((crashN st pd sz N).getD i z128).getD k 0 := by
  intro N
  induction N with
  | zero => intro _; exact .inl rfl
  | succ N ih =>
    intro hN
    have hlt : N < pd.length := by omega
    have e : pd.getD N (0, z128) = pd[N] := by rw [List.getD_eq_getElem?_getD, List.getElem?_eq_getElem hlt]; rfl
    have hmem : pd[N] ∈ pd := List.getElem_mem hlt
    have hAl := crashN_length st pd sz N
    have hA := crashN_sec h hp hs N
    have key : (crashN st pd sz (N + 1)).getD i z128 = if pd[N].1 = i then lay ((crashN st pd sz N).getD i z128) pd[N].2 (sz N) else (crashN st pd sz N).getD i z128 := by
      rw [crashN, e, List.getD_eq_getElem?_getD, List.getElem?_set]
      by_cases hq : pd[N].1 = i
      · rw [if_pos hq, if_pos hq, if_pos (by omega), hq]; rfl
      · rw [if_neg hq, if_neg hq, ← List.getD_eq_getElem?_getD]
    rw [key]
    by_cases hq : pd[N].1 = i
    · rw [if_pos hq, lay_get (hA i) (hp _ hmem) _ _ (hs N)]
      by_cases hk : k < sz N
      · rw [if_pos hk]
        exact .inr ⟨pd[N], hmem, hq, rfl⟩
      · rw [if_neg hk]
        exact ih (by omega)
    · rw [if_neg hq]
      exact ih (by omega)

/-! ### What is checked of a byte -/
def pw (a : Actt) : Nat × List UInt8 := (a.place.toNat, a.data)
def bi (s : List UInt8) (k : Nat) : Int := ((s.getD k 0).toNat : Int)
/-- One write that was not flushed, held against a byte. -/
def hit (i k : Nat) (now : List UInt8) (a : Actt) : Bool := (a.place == (i : Int)) && (bi a.data k == bi now k)
def okN (i k : Nat) (now fl : List UInt8) (sn : List Actt) (j : Nat) : Bool := (bi now k == bi fl k) || (sn.take j).any (hit i k now)

theorem okN_zero (i k : Nat) (now fl : List UInt8) (sn : List Actt) : okN i k now fl sn 0 = (bi now k == bi fl k) := by simp [okN]

theorem okN_succ (i k : Nat) (now fl : List UInt8) (sn : List Actt) (j : Nat) (hj : j < sn.length) : okN i k now fl sn (j + 1) = (okN i k now fl sn j || hit i k now sn[j]) := by
  unfold okN
  rw [List.take_succ_eq_append_getElem hj, List.any_append]
  simp [Bool.or_assoc]

theorem bi_inj {s t : List UInt8} {k : Nat} (h : s.getD k 0 = t.getD k 0) : (bi s k == bi t k) = true := by unfold bi; rw [h]; simp

theorem okN_all {st : List (List UInt8)} {sn : List Actt} {sz : Nat → Nat} (h : ∀ s ∈ st, s.length = 128) (hp : ∀ a ∈ sn, a.data.length = 128 ∧ 0 ≤ a.place) (hs : ∀ n, sz n ≤ 128) (i k : Nat) (hi : i < st.length) :
    okN i k ((crashN st (sn.map pw) sz (sn.map pw).length).getD i z128) (st.getD i z128) sn sn.length = true := by
  have := crash_bytes (pd := sn.map pw) h (fun p hp' => by obtain ⟨a, ha, rfl⟩ := List.mem_map.1 hp'; exact (hp a ha).1) hs i k hi _ (Nat.le_refl _)
  unfold okN
  rw [Bool.or_eq_true]
  rcases this with h1 | ⟨p, hp1, hp2, hp3⟩
  · exact .inl (bi_inj h1)
  · refine .inr ?_
    obtain ⟨a, ha, rfl⟩ := List.mem_map.1 hp1
    rw [List.take_length, List.any_eq_true]
    refine ⟨a, ha, ?_⟩
    unfold hit
    rw [Bool.and_eq_true]
    refine ⟨?_, bi_inj hp3⟩
    have := (hp a ha).2
    have : a.place.toNat = i := hp2
    simp; omega

/-! ### What a round keeps -/
def acells (sn : List Actt) : List Value := (sn.map acell).flatten

theorem acells_length {sn : List Actt} (h : ∀ a ∈ sn, a.data.length = 128) : (acells sn).length = sn.length * 132 := by
  unfold acells
  induction sn with
  | nil => rfl
  | cons s st ih =>
    simp only [List.map_cons, List.flatten_cons, List.length_append, List.length_cons, acell_length (h s List.mem_cons_self), ih (fun t ht => h t (List.mem_cons_of_mem _ ht))]
    omega

theorem acells_get {sn : List Actt} (h : ∀ a ∈ sn, a.data.length = 128) (i : Nat) (hi : i < sn.length) (j : Nat) (hj : j < 132) : (acells sn)[i * 132 + j]? = (acell sn[i])[j]? := by
  unfold acells
  rw [flatten_get 132 _ (fun s hs => by obtain ⟨u, hu, rfl⟩ := List.mem_map.1 hs; exact acell_length (h u hu)) i j (by simpa using hi) hj]
  simp

theorem acells_snoc (sn : List Actt) (a : Actt) : acells (sn ++ [a]) = acells sn ++ acell a := by simp [acells]

structure Cx (base : Nat) (w wr : World) (b F A : Nat) (S : Nat → Prop) (E : Dk) (fl : List (List UInt8)) (sv : Value) (sn : List Actt) (p q : Int) : Prop where
  dk : DiskAt base wr b S E
  fb : wr.heap[F]? = some (.cells (flat fl).toArray 55 (0, 0))
  ab : wr.heap[A]? = some (.cells #[.int .i64 p, .int .i64 q] 54 (0, 0))
  sb : wr.ownsRow w.heap.size 36 132 sv sn.length (acells sn)
  bel : Below w.heap.size w wr
  bs : w.heap.size ≤ base
  nF : ¬ S F
  nA : ¬ S A
  nFA : F ≠ A
  nS : ∀ k, sv.ownBlock = some k → ¬ S k ∧ k ≠ F ∧ k ≠ A
  fl8 : fl.length = 8
  fsec : ∀ s ∈ fl, s.length = 128
  sok : ∀ a ∈ sn, a.Ok w.heap.size w ∧ 0 ≤ a.place ∧ a.place < 8
  wF : w.heap.size ≤ F
  wA : w.heap.size ≤ A

theorem Cx.keep {base : Nat} {w wr wr' : World} {b F A : Nat} {S : Nat → Prop} {E : Dk} {fl : List (List UInt8)} {sv : Value} {sn : List Actt} {p q : Int} (h : Cx base w wr b F A S E fl sv sn p q) (hf : Nw wr wr') : Cx base w wr' b F A S E fl sv sn p q :=
  { h with dk := h.dk.keep hf (fun _ _ => id), fb := (hf.block _ (heap_lt h.fb) id).trans h.fb, ab := (hf.block _ (heap_lt h.ab) id).trans h.ab, sb := owns_of_block h.sb (fun k e => hf.block k (h.sb.lt k e).2 id), bel := h.bel.trans (hf.below h.bel.size (fun _ => False.elim)) }

/-- Behind a method of the disk. -/
theorem Cx.done {base : Nat} {w wr wr' : World} {b F A : Nat} {S : Nat → Prop} {E E' : Dk} {fl : List (List UInt8)} {sv : Value} {sn : List Actt} {p q : Int} (h : Cx base w wr b F A S E fl sv sn p q) (hx : Done base wr b S E' wr') :
    ∃ S', Cx base w wr' b F A S' E' fl sv sn p q ∧ (∀ N, N < wr.heap.size → ¬ S N → wr'.heap[N]? = wr.heap[N]?) := by
  have hB := h.bel.trans ((hx.below h.dk).mono h.bs)
  obtain ⟨S', hd, hsz, hoth⟩ := hx.other
  have hF := hoth F (heap_lt h.fb) h.nF
  have hA := hoth A (heap_lt h.ab) h.nA
  refine ⟨S', { h with dk := hd, fb := hF.1.trans h.fb, ab := hA.1.trans h.ab, sb := owns_of_block h.sb (fun k e => (hoth k (h.sb.lt k e).2 (h.nS k e).1).1), bel := hB, nF := hF.2, nA := hA.2, nS := fun k e => ⟨(hoth k (h.sb.lt k e).2 (h.nS k e).1).2, (h.nS k e).2⟩ }, fun N hN hS => (hoth N hN hS).1⟩

/-- A write more that is not flushed. -/
theorem Cx.push {base : Nat} {w wr w1 : World} {b F A : Nat} {S : Nat → Prop} {E : Dk} {fl : List (List UInt8)} {sv v1 : Value} {sn : List Actt} {p q : Int} (h : Cx base w wr b F A S E fl sv sn p q) (a : Actt) (ha : a.Ok w.heap.size w ∧ 0 ≤ a.place ∧ a.place < 8) (o : Obj)
    (ho : w1.ownsRow w.heap.size 36 132 v1 (sn.length + 1) (acells sn ++ acell a)) (hg : (wr.alloc o).grownBy w1 sv.ownBlock) (hat : v1.ownBlock = sv.ownBlock ∨ v1.ownBlock = some (wr.alloc o).heap.size) :
    Cx base w w1 b F A S E fl v1 (sn ++ [a]) p q ∧ (∀ N, N < wr.heap.size → sv.ownBlock ≠ some N → w1.heap[N]? = wr.heap[N]?) := by
  have hblk : ∀ N, N < wr.heap.size → sv.ownBlock ≠ some N → w1.heap[N]? = wr.heap[N]? := fun N hN hne =>
    (hg.block N (by simp; omega) (fun e => hne e.symm)).trans (Below.heap_alloc wr o N hN)
  have hT : Fr (fun k => sv.ownBlock = some k) wr w1 := ((Fr.refl _ wr).alloc o).grown hg (fun k e => .inl e)
  refine ⟨{ h with dk := h.dk.keep hT (fun k hk e => (h.nS k e).1 hk), fb := (hblk F (heap_lt h.fb) (fun e => (h.nS F e).2.1 rfl)).trans h.fb, ab := (hblk A (heap_lt h.ab) (fun e => (h.nS A e).2.2 rfl)).trans h.ab, sb := ?_, bel := ?_, nS := ?_, sok := ?_ }, hblk⟩
  · rw [acells_snoc]; simpa using ho
  · exact h.bel.trans (hT.below h.bel.size (fun k e => (h.sb.lt k e).1))
  · intro k hk
    rcases hat with e | e
    · exact h.nS k (e ▸ hk)
    · rw [e] at hk
      simp at hk
      have h1 := heap_lt h.fb
      have h2 := heap_lt h.ab
      exact ⟨fun hs => by have := (h.dk.ge k hs).2; omega, by omega, by omega⟩
  · intro c hc
    rcases List.mem_append.1 hc with hc | hc
    · exact h.sok c hc
    · simp at hc; subst hc; exact ha

/-- A sector as it was flushed. -/
theorem Cx.setF {base : Nat} {w wr : World} {b F A : Nat} {S : Nat → Prop} {E : Dk} {fl : List (List UInt8)} {sv : Value} {sn : List Actt} {p q : Int} (h : Cx base w wr b F A S E fl sv sn p q) (fl' : List (List UInt8)) (hl : fl'.length = 8) (hs : ∀ s ∈ fl', s.length = 128) :
    Cx base w (wr.setRow F (flat fl').toArray) b F A S E fl' sv sn p q := by
  have hT : Fr (fun k => k = F) wr (wr.setRow F (flat fl').toArray) := (Fr.refl (fun k => k = F) wr).setRow (.inl rfl) _
  exact { h with dk := h.dk.keep hT (fun k hk e => h.nF (e ▸ hk)), fb := setRow_heap _ _ _ _ 55 _ h.fb, ab := (hT.block A (heap_lt h.ab) (fun e => h.nFA e.symm)).trans h.ab, sb := owns_of_block h.sb (fun k e => hT.block k (h.sb.lt k e).2 (h.nS k e).2.1), bel := h.bel.trans (hT.below h.bel.size (fun k e => by subst e; exact h.wF)), fl8 := hl, fsec := hs }

/-- No write any more that is not flushed. -/
theorem Cx.clear {base : Nat} {w wr : World} {b F A : Nat} {S : Nat → Prop} {E : Dk} {fl : List (List UInt8)} {sv : Value} {sn : List Actt} {p q : Int} (h : Cx base w wr b F A S E fl sv sn p q) :
    Cx base w (wr.alloc (.cells #[] 36)) b F A S E fl (.slice (some ⟨wr.heap.size, 0, none⟩) 0 0) [] p q := by
  have h' := h.keep (wr' := wr.alloc (.cells #[] 36)) ((Fr.refl _ wr).alloc _)
  have hn : ∀ k, (Value.slice (some ⟨wr.heap.size, 0, none⟩) 0 0).ownBlock = some k → ¬ S k ∧ k ≠ F ∧ k ≠ A := fun k hk => by
    simp [Value.ownBlock] at hk
    have h1 := heap_lt h.fb
    have h2 := heap_lt h.ab
    exact ⟨fun hs => by have := (h.dk.ge k hs).2; omega, by omega, by omega⟩
  have ho : ∀ a ∈ ([] : List Actt), a.Ok w.heap.size w ∧ 0 ≤ a.place ∧ a.place < 8 := fun a ha => by simp at ha
  exact { h' with sb := World.ownsRow_lit wr #[] 0 h.bel.size (by decide) rfl, nS := hn, sok := ho }

/-- Where the acts that are not flushed lie. -/
theorem Cx.get {base : Nat} {w wr : World} {b F A : Nat} {S : Nat → Prop} {E : Dk} {fl : List (List UInt8)} {sv : Value} {sn : List Actt} {p q : Int} (h : Cx base w wr b F A S E fl sv sn p q) :
    ∃ ao cap, sv = .slice ao sn.length cap ∧ sn.length ≤ cap ∧ cap ≤ 9223372036854775807 ∧ ∀ k (_ : k < sn.length), ∃ g, ao = some ⟨g, 0, none⟩ ∧ wr.rangeAt g (k * 132) (acell sn[k]) := by
  rcases h.sb.2 with ⟨hv, h0⟩ | ⟨g, cap, cur, hv, hb, hg, hn, hm, hs, ht⟩
  · refine ⟨none, 0, by rw [hv, h0], by omega, by omega, fun k hk => by omega⟩
  · refine ⟨some ⟨g, 0, none⟩, cap, hv, hn, hm, fun k hk => ⟨g, rfl, fun j v hv => ?_⟩⟩
    have hd := (h.sok sn[k] (List.getElem_mem hk)).1.d
    have hj : j < 132 := by
      have := (List.getElem?_eq_some_iff.1 hv).1
      rwa [acell_length hd] at this
    have hp := acells_get (fun a ha => (h.sok a ha).1.d) k hk j hj
    rw [hv, ← ht, List.getElem?_take] at hp
    split at hp
    · rw [cell_of_row wr g _ cur 36 _ hg]; simpa using hp
    · cases hp

/-! ### A pair of numbers by value -/
theorem Try.cells54 : Try.prog.cellsOf 54 = 2 := by kernel_rfl
theorem list2 {l : List Value} (h : l.length = 2) : ∃ a b, l = [a, b] := by
  match l, h with
  | [a, b], _ => exact ⟨a, b, rfl⟩

theorem open_pair {H : Type} {enc : TypeId × Value → H} {W : World} {b0 : Nat} {v : Value} {d : DataW H} {p : List MemPlace} (hval : Value.okWide Try.prog W .any b0 54 v) (h : DataW.Trod enc Try.prog W 0 (fun _ => true) true 54 v d p) :
    ∃ a b : Int, v = .agg #[.int .i64 a, .int .i64 b] ∧ d = .agg [.lit (.int .i64 a), .lit (.int .i64 b)] ∧ p = [] ∧ (Lit.int .i64 a).wf = true ∧ (Lit.int .i64 b).wf = true := by
  unfold Value.okWide at hval
  rw [Try.underlying54] at hval
  obtain ⟨⟨l⟩, rfl, hsz, _⟩ := hval
  rw [Try.cells54] at hsz
  obtain ⟨c0, c1, rfl⟩ := list2 (l := l) (by simpa using hsz)
  obtain ⟨fuel, hf⟩ := h
  have hf : DataW.trod enc Try.prog W 0 (fun _ => true) true fuel 54 [c0, c1] = some (d, p) := hf
  obtain ⟨xs, m, _, hx, _, hxl, hall⟩ := DataW.trod_array Try.underlying54 hf
  obtain ⟨y0, y1, rfl⟩ : ∃ y0 y1, xs = [y0, y1] := by
    match xs, hxl with
    | [y0, y1], _ => exact ⟨y0, y1, rfl⟩
  have g0 := hall 0 (by omega)
  have g1 := hall 1 (by omega)
  rw [Try.cells3] at g0 g1
  have g0 : DataW.trod enc Try.prog W 0 (fun _ => true) true m 3 [c0] = some y0 := g0
  have g1 : DataW.trod enc Try.prog W 0 (fun _ => true) true m 3 [c1] = some y1 := g1
  obtain ⟨z0, e0, f0, wf0⟩ := DataW.trod_int Try.underlying3 g0
  obtain ⟨z1, e1, f1, wf1⟩ := DataW.trod_int Try.underlying3 g1
  simp only [List.cons.injEq, and_true] at e0 e1
  subst e0
  subst e1
  subst f0
  subst f1
  simp only [Prod.mk.injEq] at hx
  exact ⟨z0, z1, rfl, by simpa using hx.1, by simpa using hx.2, wf0, wf1⟩

theorem shut_pair {H : Type} {enc : TypeId × Value → H} {W : World} {spare : Nat → Bool} {a b : Int} (ha : (Lit.int .i64 a).wf = true) (hb : (Lit.int .i64 b).wf = true) :
    DataW.Trod enc Try.prog W 0 spare true 54 (.agg #[.int .i64 a, .int .i64 b]) (.agg [.lit (.int .i64 a), .lit (.int .i64 b)]) [] := by
  refine ⟨2, ?_⟩
  show DataW.trod enc Try.prog W 0 spare true 2 54 [.int .i64 a, .int .i64 b] = _
  simp [DataW.trod, Try.underlying54, Try.underlying3, Try.cells54, Try.cells3, ha, hb, show List.range 2 = [0, 1] from rfl]

theorem info36 : ∃ i, Try.prog.info? 36 = some i ∧ i.zero = some (actv zact) ∧ i.size = 132 ∧ i.bytes = 176 := by
  have : (Try.prog.info? 36).map (fun i => (i.zero, i.size, i.bytes)) = some (some (actv zact), 132, 176) := by kernel_rfl
  cases hq : Try.prog.info? 36 with
  | none => rw [hq] at this; cases this
  | some i => rw [hq] at this; exact ⟨i, rfl, by simpa using this⟩

/-! ### The beginning -/
def flat8 : List Value := flat (List.replicate 8 z128)
def fl8v : Value := .agg flat8.toArray
set_option maxRecDepth 100000 in
theorem Try.zero55 : (Try.prog.info? 55).bind (·.zero) = some (.agg flat8.toArray) := by kernel_rfl
set_option maxRecDepth 100000 in
theorem Try.built55 : Try.prog.built 55 [] = some flat8.toArray := by kernel_rfl
theorem Try.size55 : (Try.prog.info? 55).map (·.size) = some 1024 := by kernel_rfl
theorem fl8_sec : ∀ s ∈ List.replicate 8 z128, s.length = 128 := fun s hs => by rw [(List.mem_replicate.1 hs).2]; exact z128_length
theorem fl8_length : flat8.length = 1024 := by rw [show flat8 = flat (List.replicate 8 z128) from rfl, flat_length fl8_sec, List.length_replicate]
theorem size55 : (Try.prog.info? 55).map (·.size) = some flat8.length := by rw [fl8_length]; exact Try.size55
theorem flat_oneCell (st : List (List UInt8)) : ∀ u ∈ flat st, u.oneCell' = true := by
  intro u hu
  unfold flat at hu
  obtain ⟨l, hl, hu⟩ := List.mem_flatten.1 hu
  obtain ⟨s, _, rfl⟩ := List.mem_map.1 hl
  exact bv_oneCell s u hu

theorem flat8_oneCell : ∀ u ∈ flat8, u.oneCell' = true := flat_oneCell _

theorem cx_start {w u1 u2 : World} {b : Nat} {S : Nat → Prop} {p q : Int} (hb : Below (w.heap.size + 1) (w.alloc (.cells #[.int .i64 p, .int .i64 q] 54)) u1) (hd : DiskAt u1.heap.size u2 b S (newDk 8)) (hf : Nw u1 u2) :
    Cx u1.heap.size w (((u2.alloc (.cells flat8.toArray 55)).setRow u2.heap.size flat8.toArray).alloc (.cells #[] 36)) b u2.heap.size w.heap.size S (newDk 8) (List.replicate 8 z128) (.slice (some ⟨u2.heap.size + 1, 0, none⟩) 0 0) [] p q := by
  have hsz1 : w.heap.size + 1 ≤ u1.heap.size := by have := hb.size; simpa using this
  have hsz2 := hf.size
  have hf3 : Nw u2 ((u2.alloc (.cells flat8.toArray 55)).setRow u2.heap.size flat8.toArray) := ((Fr.refl _ u2).alloc _).setRow (.inr (Nat.le_refl _)) _
  have hb3 : ((u2.alloc (.cells flat8.toArray 55)).setRow u2.heap.size flat8.toArray).heap[u2.heap.size]? = some (.cells flat8.toArray 55 (0, 0)) := setRow_heap _ _ _ _ 55 _ (heap_alloc_new u2 _)
  have hz3 : ((u2.alloc (.cells flat8.toArray 55)).setRow u2.heap.size flat8.toArray).heap.size = u2.heap.size + 1 := by simp [World.setRow]
  generalize (u2.alloc (.cells flat8.toArray 55)).setRow u2.heap.size flat8.toArray = W3 at *
  have hf4 : Nw u2 (W3.alloc (.cells #[] 36)) := hf3.alloc _
  have hbw : Below w.heap.size w u2 := (((Below.refl w.heap.size w).alloc (Nat.le_refl _) (.cells #[.int .i64 p, .int .i64 q] 54)).trans (hb.mono (by omega))).trans (hf.below (by omega) (fun _ => False.elim))
  have hA1 : u1.heap[w.heap.size]? = some (.cells #[.int .i64 p, .int .i64 q] 54 (0, 0)) := (hb.block _ (by omega)).trans (heap_alloc_new w _)
  have hA2 : u2.heap[w.heap.size]? = some (.cells #[.int .i64 p, .int .i64 q] 54 (0, 0)) := (hf.block _ (by omega) id).trans hA1
  refine ⟨hd.keep hf4 (fun _ _ => id), (Below.heap_alloc W3 _ _ (by omega)).trans hb3, (hf4.block _ (by omega) id).trans hA2, ?_, hbw.trans (hf4.below hbw.size (fun _ => False.elim)), by omega,
    fun hs => by have := (hd.ge _ hs).2; omega, fun hs => by have := (hd.ge _ hs).1; omega, by omega, fun k hk => ?_, rfl, fl8_sec, fun a ha => by simp at ha, by omega, Nat.le_refl _⟩
  · have := World.ownsRow_lit (base := w.heap.size) (e := 36) (size := 132) W3 #[] 0 (by omega) (by decide) rfl
    rw [hz3] at this
    exact this
  · simp [Value.ownBlock] at hk
    exact ⟨fun hs => by have := (hd.ge _ hs).2; omega, by omega, by omega⟩

theorem write_ok {D : Dk} {i : Int} {s : List UInt8} (h : D.werr i = 0) (h8 : D.st.length = 8) : (D.write i s).st = D.st ∧ (D.write i s).pd = D.pd ++ [(i.toNat, s)] ∧ 0 ≤ i ∧ i < 8 := by
  unfold Dk.werr at h
  unfold Dk.write
  by_cases hh : D.has i = true
  · obtain ⟨h0, h1⟩ := Dk.has_lt hh
    by_cases ho : D.out = true
    · simp [hh, ho] at h
    · have ho : D.out = false := by simpa using ho
      simp only [hh, ho, if_true, Bool.false_eq_true, if_false]
      exact ⟨(spend_st D).1, trivial, h0, by omega⟩
  · have hh : D.has i = false := by simpa using hh
    simp [hh] at h

theorem write_no {D : Dk} {i : Int} {s : List UInt8} (h : D.werr i ≠ 0) : (D.write i s).st = D.st ∧ (D.write i s).pd = D.pd := by
  unfold Dk.werr at h
  unfold Dk.write
  by_cases hh : D.has i = true
  · by_cases ho : D.out = true
    · simp only [hh, ho, if_true]
      exact spend_st D
    · have ho : D.out = false := by simpa using ho
      simp [hh, ho] at h
  · have hh : D.has i = false := by simpa using hh
    simp [hh]

theorem flush_ok {D : Dk} (h : D.ferr = 0) : D.flush.st = applied D.st D.pd ∧ D.flush.pd = [] := by
  unfold Dk.ferr at h
  unfold Dk.flush
  by_cases ho : D.out = true
  · simp [ho] at h
  · have ho : D.out = false := by simpa using ho
    simp [ho]

theorem flush_no {D : Dk} (h : D.ferr ≠ 0) : D.flush.st = D.st ∧ D.flush.pd = D.pd := by
  unfold Dk.ferr at h
  unfold Dk.flush
  by_cases ho : D.out = true
  · simp only [ho, if_true]
    exact spend_st D
  · have ho : D.out = false := by simpa using ho
    simp [ho] at h
end Go.Proofs.Ytmhojkbnfiknpaa
