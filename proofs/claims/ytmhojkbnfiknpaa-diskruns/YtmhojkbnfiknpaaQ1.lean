/-
  What DiskRuns leans on: the program's disk and the document's are the same, whatever is done.
-/
import Derived.Test.YtmhojkbnfiknpaaR7
namespace Go.Proofs.Ytmhojkbnfiknpaa
set_option linter.unusedVariables false
set_option linter.unusedSimpArgs false
open Go.RowKit

structure Same (D R : Dk) : Prop where
  st : R.st = D.st
  pd : R.pd = D.pd
  dead : R.dead = D.dead
  left : R.left = D.left ∨ (R.left < 0 ∧ D.left < 0)

theorem Same.has {D R : Dk} (h : Same D R) (i : Int) : R.has i = D.has i := by unfold Dk.has; rw [h.st]
theorem Same.get {D R : Dk} (h : Same D R) (i : Int) : R.get i = D.get i := by unfold Dk.get; rw [h.has, h.st]
theorem Same.read {D R : Dk} (h : Same D R) (i : Int) : R.read i = D.read i := by unfold Dk.read Dk.last; rw [h.has, h.st, h.pd]
theorem Same.rerr {D R : Dk} (h : Same D R) (i : Int) : R.rerr i = D.rerr i := by unfold Dk.rerr; rw [h.has]
theorem Same.out {D R : Dk} (h : Same D R) : R.out = D.out := by
  unfold Dk.out
  rw [h.dead]
  congr 1
  rcases h.left with e | ⟨e1, e2⟩
  · rw [e]
  · have h1 : (R.left == 0) = false := by simp; omega
    have h2 : (D.left == 0) = false := by simp; omega
    rw [h1, h2]

theorem Same.spend {D R : Dk} (h : Same D R) : Same D.spend R.spend := by
  refine ⟨by rw [(spend_st R).1, (spend_st D).1]; exact h.st, by rw [(spend_st R).2, (spend_st D).2]; exact h.pd, ?_, ?_⟩
  · by_cases ho : D.out = true
    · rw [Dk.spend_out ho, Dk.spend_out (h.out.trans ho)]
    · have ho : D.out = false := by simpa using ho
      rw [Dk.spend_in ho, Dk.spend_in (h.out.trans ho)]
      exact h.dead
  · by_cases ho : D.out = true
    · rw [Dk.spend_out ho, Dk.spend_out (h.out.trans ho)]
      exact h.left
    · have ho : D.out = false := by simpa using ho
      rw [Dk.spend_in ho, Dk.spend_in (h.out.trans ho)]
      show (if 0 < R.left then R.left - 1 else R.left) = (if 0 < D.left then D.left - 1 else D.left) ∨ ((if 0 < R.left then R.left - 1 else R.left) < 0 ∧ (if 0 < D.left then D.left - 1 else D.left) < 0)
      rcases h.left with e | ⟨e1, e2⟩
      · rw [e]; exact .inl rfl
      · rw [if_neg (by omega), if_neg (by omega)]; exact .inr ⟨e1, e2⟩

theorem Same.werr {D R : Dk} (h : Same D R) (i : Int) : R.werr i = D.werr i := by unfold Dk.werr; rw [h.has, h.out]
theorem Same.ferr {D R : Dk} (h : Same D R) : R.ferr = D.ferr := by unfold Dk.ferr; rw [h.out]

theorem Same.write {D R : Dk} (h : Same D R) (i : Int) (s : List UInt8) : Same (D.write i s) (R.write i s) := by
  unfold Dk.write
  rw [h.has, h.out]
  split
  · split
    · exact h.spend
    · exact ⟨h.spend.st, by show R.pd ++ _ = D.pd ++ _; rw [h.pd], h.spend.dead, h.spend.left⟩
  · exact h

theorem Same.flush {D R : Dk} (h : Same D R) : Same D.flush R.flush := by
  unfold Dk.flush
  rw [h.out]
  split
  · exact h.spend
  · exact ⟨by show applied R.st R.pd = applied D.st D.pd; rw [h.st, h.pd], rfl, h.spend.dead, h.spend.left⟩

theorem Same.crash {D R : Dk} (h : Same D R) (keep : List Bool) (torn cut : Int) : Same (D.crash keep torn cut) (R.crash keep torn cut) :=
  ⟨by show crashN R.st R.pd _ R.pd.length = crashN D.st D.pd _ D.pd.length; rw [h.st, h.pd], rfl, rfl, .inl rfl⟩

theorem Same.brk {D R : Dk} (h : Same D R) (n : Int) : Same (D.brk n) (R.rbrk n) := by
  refine ⟨h.st, h.pd, h.dead, ?_⟩
  show (if n < 0 then (-1 : Int) else n) = n ∨ ((if n < 0 then (-1 : Int) else n) < 0 ∧ n < 0)
  split
  · exact .inr ⟨by omega, by assumption⟩
  · exact .inl rfl

theorem act_pd (D : Dk) (a : Actt) (k : Nat) (h : D.pd.length ≤ k) : (D.act a).pd.length ≤ k + 1 := by
  unfold Dk.act
  split
  · have := (write_len D a.place a.data).2; omega
  · split
    · have := (flush_len D).2; omega
    · split
      · show D.pd.length ≤ _; omega
      · split
        · show (0 : Nat) ≤ _; omega
        · omega

theorem same_new (n : Int) : Same (newDk n) (newDk n) := ⟨rfl, rfl, rfl, .inl rfl⟩

/-- What a round keeps: the program's disk at b, the document's in the variable F, and variables of the round's own, in Z. -/
structure Rh (base : Nat) (w wr : World) (b F : Nat) (S Z : Nat → Prop) (D R : Dk) (vs vp : Value) : Prop where
  dk : DiskAt base wr b S D
  rb : wr.heap[F]? = some (.cells (rcells vs vp R).toArray 30 (0, 0))
  rg : RefG (fun k => ¬ S k ∧ k ≠ F ∧ ¬ Z k) wr vs vp R
  bel : Below w.heap.size w wr
  bs : w.heap.size ≤ base
  nF : ¬ S F
  wF : w.heap.size ≤ F
  nZ : ∀ k, Z k → ¬ S k ∧ k ≠ F ∧ w.heap.size ≤ k ∧ k < wr.heap.size

theorem Rh.keep {base : Nat} {w wr wr' : World} {b F : Nat} {S Z : Nat → Prop} {D R : Dk} {vs vp : Value} (h : Rh base w wr b F S Z D R vs vp) (hf : Nw wr wr') : Rh base w wr' b F S Z D R vs vp :=
  { h with dk := h.dk.keep hf (fun _ _ => id), rb := (hf.block _ (heap_lt h.rb) id).trans h.rb, rg := h.rg.nw hf, bel := h.bel.trans (hf.below h.bel.size (fun _ => False.elim)), nZ := fun k hk => ⟨(h.nZ k hk).1, (h.nZ k hk).2.1, (h.nZ k hk).2.2.1, by have := (h.nZ k hk).2.2.2; have := hf.size; omega⟩ }

/-- New variables of the round's own. -/
theorem Rh.lay {base : Nat} {w wr wr' : World} {b F : Nat} {S : Nat → Prop} {D R : Dk} {vs vp : Value} (h : Rh base w wr b F S (fun _ => False) D R vs vp) (hf : Nw wr wr') : Rh base w wr' b F S (fun k => wr.heap.size ≤ k ∧ k < wr'.heap.size) D R vs vp :=
  have h' := h.keep hf
  ⟨h'.dk, h'.rb, h.rg.keep (fun k hk hl => ⟨⟨hk.1, hk.2.1, fun hz => by omega⟩, hf.block k hl id⟩), h'.bel, h.bs, h.nF, h.wF,
    fun k hk => ⟨fun hs => by have := (h.dk.ge k hs).2; omega, fun e => by have := heap_lt h.rb; omega, by have := h.bel.size; omega, hk.2⟩⟩

theorem Rh.drop {base : Nat} {w wr : World} {b F : Nat} {S Z : Nat → Prop} {D R : Dk} {vs vp : Value} (h : Rh base w wr b F S Z D R vs vp) : Rh base w wr b F S (fun _ => False) D R vs vp :=
  ⟨h.dk, h.rb, h.rg.keep (fun k hk _ => ⟨⟨hk.1, hk.2.1, id⟩, rfl⟩), h.bel, h.bs, h.nF, h.wF, fun _ => False.elim⟩

theorem Rh.done {base : Nat} {w wr wr' : World} {b F : Nat} {S Z : Nat → Prop} {D D' R : Dk} {vs vp : Value} (h : Rh base w wr b F S Z D R vs vp) (hx : Done base wr b S D' wr') :
    ∃ S', Rh base w wr' b F S' Z D' R vs vp ∧ (∀ N, N < wr.heap.size → ¬ S N → wr'.heap[N]? = wr.heap[N]?) := by
  have hB := h.bel.trans ((hx.below h.dk).mono h.bs)
  obtain ⟨S', hd, hsz, hoth⟩ := hx.other
  have hF := hoth F (heap_lt h.rb) h.nF
  exact ⟨S', ⟨hd, hF.1.trans h.rb, h.rg.keep (fun k hk hl => ⟨⟨(hoth k hl hk.1).2, hk.2⟩, (hoth k hl hk.1).1⟩), hB, h.bs, hF.2, h.wF, fun k hk => ⟨(hoth k (h.nZ k hk).2.2.2 (h.nZ k hk).1).2, (h.nZ k hk).2.1, (h.nZ k hk).2.2.1, by have := (h.nZ k hk).2.2.2; omega⟩⟩, fun N hN hS => (hoth N hN hS).1⟩

/-- One of the round's own variables written. -/
theorem Rh.setZ {base : Nat} {w wr : World} {b F N : Nat} {S Z : Nat → Prop} {D R : Dk} {vs vp : Value} (h : Rh base w wr b F S Z D R vs vp) (hN : Z N) (cs : Array Value) : Rh base w (wr.setRow N cs) b F S Z D R vs vp := by
  obtain ⟨h1, h2, h3, h4⟩ := h.nZ N hN
  have hT : Fr (fun k => k = N) wr (wr.setRow N cs) := (Fr.refl (fun k => k = N) wr).setRow (.inl rfl) _
  exact ⟨h.dk.keep hT (fun k hk e => h1 (e ▸ hk)), by rw [setRow_other _ _ _ _ (fun e => h2 e.symm)]; exact h.rb, h.rg.keep (fun k hk hl => ⟨hk, hT.block k hl (fun e => hk.2.2 (e ▸ hN))⟩), h.bel.trans (hT.below h.bel.size (fun k e => by subst e; exact h3)), h.bs, h.nF, h.wF,
    fun k hk => ⟨(h.nZ k hk).1, (h.nZ k hk).2.1, (h.nZ k hk).2.2.1, by have := (h.nZ k hk).2.2.2; have := hT.size; omega⟩⟩

/-- The document's disk moves on. -/
theorem Rh.ref {base : Nat} {w wr wr' : World} {b F : Nat} {S Z : Nat → Prop} {D R R' : Dk} {vs vp vs' vp' : Value} (h : Rh base w wr b F S Z D R vs vp) (hf : Nw wr wr') (hG : RefG (fun k => (¬ S k ∧ k ≠ F ∧ ¬ Z k) ∨ wr.heap.size ≤ k) wr' vs' vp' R') : Rh base w (wr'.setRow F (rcells vs' vp' R').toArray) b F S Z D R' vs' vp' := by
  have h' := h.keep hf
  have hF := heap_lt h.rb
  have hT : Fr (fun k => k = F) wr' (wr'.setRow F (rcells vs' vp' R').toArray) := (Fr.refl (fun k => k = F) wr').setRow (.inl rfl) _
  have hX : ∀ k, ((¬ S k ∧ k ≠ F ∧ ¬ Z k) ∨ wr.heap.size ≤ k) → (¬ S k ∧ k ≠ F ∧ ¬ Z k) := fun k hk => by
    rcases hk with hk | hk
    · exact hk
    · exact ⟨fun hs => by have := (h.dk.ge k hs).2; omega, by omega, fun hz => by have := (h.nZ k hz).2.2.2; omega⟩
  exact ⟨h'.dk.keep hT (fun k hk e => h.nF (e ▸ hk)), setRow_heap _ _ _ _ 30 _ h'.rb, hG.keep (fun k hk hl => ⟨hX k hk, hT.block k hl (hX k hk).2.1⟩), h'.bel.trans (hT.below h'.bel.size (fun k e => by subst e; exact h.wF)), h.bs, h.nF, h.wF,
    fun k hk => ⟨(h.nZ k hk).1, (h.nZ k hk).2.1, (h.nZ k hk).2.2.1, by have := (h.nZ k hk).2.2.2; have := hT.size; have := hf.size; omega⟩⟩

theorem Rh.other {base : Nat} {w wr wr' : World} {b F N : Nat} {S Z : Nat → Prop} {D R : Dk} {vs vp : Value} (h : Rh base w wr b F S Z D R vs vp) (hf : Nw wr wr') (hN : Z N) (cs : Array Value) : (wr'.setRow F cs).heap[N]? = wr.heap[N]? := by
  rw [setRow_other _ _ _ _ (h.nZ N hN).2.1]
  exact hf.block N (h.nZ N hN).2.2.2 id
end Go.Proofs.Ytmhojkbnfiknpaa
