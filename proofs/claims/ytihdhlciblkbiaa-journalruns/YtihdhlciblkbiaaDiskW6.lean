/-
  The disk's Crash.
-/
import Derived.Test.YtihdhlciblkbiaaDiskW5
namespace Go.Proofs.Ytihdhlciblkbiaa
set_option linter.unusedVariables false
set_option linter.unusedSimpArgs false
set_option maxRecDepth 20000
open Go.RowKit

theorem Slp.keepL {X X' : Nat → Prop} {w w' : World} {v : Value} {n : Nat} {cs : List Value} (h : Slp X w v n cs) (hX : ∀ b, X b → b < w.heap.size → X' b ∧ w'.heap[b]? = w.heap[b]?) : Slp X' w' v n cs := by
  obtain ⟨ao, cap, hv, hc, hn, hcs⟩ := h
  refine ⟨ao, cap, hv, hc, hn, fun i c hi => ?_⟩
  obtain ⟨b, off, h1, h2, h3⟩ := hcs i c hi
  obtain ⟨h4, h5⟩ := hX b h2 (World.block_lt_of_cell? w ⟨b, off + i, none⟩ h3)
  exact ⟨b, off, h1, h4, by rw [World.cell?_of_block (w := w) h5]; exact h3⟩

theorem Slp.of_sl {K : Nat} {w : World} {v : Value} {n : Nat} {cs : List Value} (h : Sl K w v n cs) : Slp (fun b => b < K) w v n cs := h

theorem Slp.form {X : Nat → Prop} {w : World} {v : Value} {n : Nat} {cs : List Value} (h : Slp X w v n cs) : ∃ ao cap, v = .slice ao n cap ∧ n ≤ cap ∧ cap ≤ 9223372036854775807 := by
  obtain ⟨ao, cap, hv, hc, _⟩ := h
  exact ⟨ao, cap, hv, hc.1, hc.2⟩

theorem Slp.get {X : Nat → Prop} {w : World} {ao : Option Addr} {cap : Nat} {n : Nat} {cs : List Value} (h : Slp X w (.slice ao n cap) n cs) (i : Nat) (c : Value) (hi : cs[i]? = some c) : ∃ b off, ao = some ⟨b, off, none⟩ ∧ X b ∧ w.cell? ⟨b, off + i, none⟩ = some c := by
  obtain ⟨ao', cap', hv, hc, hn, hcs⟩ := h
  simp only [Value.slice.injEq, true_and] at hv
  obtain ⟨rfl, rfl⟩ := hv
  exact hcs i c hi

/-- How many bytes of write n a crash lets by. -/
def size1 (keep : List Bool) (torn cut : Int) (n : Nat) : Nat := if (n : Int) = torn then (clamp cut 128).toNat else if keep.getD n false then 128 else 0

theorem size1_le (keep : List Bool) (torn cut : Int) (n : Nat) : size1 keep torn cut n ≤ 128 := by
  unfold size1
  have := clamp_range cut 128 (by omega)
  split
  · omega
  · split <;> omega

def crashN (st : List (List UInt8)) (pd : List (Nat × List UInt8)) (sz : Nat → Nat) : Nat → List (List UInt8)
  | 0 => st
  | k + 1 => (crashN st pd sz k).set (pd.getD k (0, z128)).1 (lay ((crashN st pd sz k).getD (pd.getD k (0, z128)).1 z128) (pd.getD k (0, z128)).2 (sz k))

theorem crashN_length (st : List (List UInt8)) (pd : List (Nat × List UInt8)) (sz : Nat → Nat) (k : Nat) : (crashN st pd sz k).length = st.length := by
  induction k with
  | zero => rfl
  | succ k ih => rw [crashN, List.length_set, ih]

theorem crashN_succ (st : List (List UInt8)) (pd : List (Nat × List UInt8)) (sz : Nat → Nat) (k : Nat) (hk : k < pd.length) (A : List (List UInt8)) (hA : crashN st pd sz k = A) (hp : pd[k].1 < A.length) :
    crashN st pd sz (k + 1) = A.set pd[k].1 (lay A[pd[k].1] pd[k].2 (sz k)) := by
  have e : pd.getD k (0, z128) = pd[k] := by rw [List.getD_eq_getElem?_getD, List.getElem?_eq_getElem hk]; rfl
  have e2 : A.getD pd[k].1 z128 = A[pd[k].1] := by rw [List.getD_eq_getElem?_getD, List.getElem?_eq_getElem hp]; rfl
  rw [crashN, hA, e, e2]

def Dk.crash (D : Dk) (keep : List Bool) (torn cut : Int) : Dk := ⟨crashN D.st D.pd (size1 keep torn cut) D.pd.length, [], -1, false⟩

section
variable {P : Program} {w : World} {ops : Array Oper} {rest : List Oper} {o : Oper} {a : Act} {Q : Exit → Act → World → Prop}
theorem wpList_copy_set (hgd : o.guard = none) (d s : Operand) (dT sT : TypeId) (ho : o.op = .call { callee := .builtin .copy, args := #[d, s], argTypes := #[dT, sT] })
    (elem : TypeId) (hu : P.underlying dT = some (.slice elem)) (hsz : (P.info? elem).map (·.size) = some 1) (g off dLen dCap : Nat) (ad : Addr) (sLen sCap : Nat)
    (hd : a.eval d = .slice (some ⟨g, off, none⟩) dLen dCap) (hs : a.eval s = .slice (some ad) sLen sCap) (cur : List Value) (t : TypeId) (hg : w.heap[g]? = some (.cells cur.toArray t (0, 0)))
    (cs : List Value) (hn : cs.length = Nat.min sLen dLen) (hsrc : ∀ j v, cs[j]? = some v → w.cell? (ad.add j) = some v) (hfit : off + cs.length ≤ cur.length) (h1 : ∀ v ∈ cs, v.oneCell' = true)
    (h : wpList P ops Q rest (a.put o.dst (goInt cs.length)) (w.setRow g (splice cur off cs).toArray)) : wpList P ops Q (o :: rest) a w := by
  refine wpList_copy_own hgd d s dT sT ho elem hu hsz g off dLen dCap ad sLen sCap hd hs cur.toArray t hg cs hn hsrc (by simpa using hfit) h1 ?_
  simpa [splice] using h
end

/-- The disk behind the crash's last row. -/
theorem DiskG.reset {base : Nat} {w : World} {b g : Nat} {vp : Value} {D : Dk} (h : DiskG base w b g vp D) :
    DiskG base (((w.setCell ⟨b, 1, none⟩ (.slice none 0 0)).setCell ⟨b, 2, none⟩ (.int .i64 (-1))).setCell ⟨b, 3, none⟩ (.bool false)) b g (.slice none 0 0) ⟨D.st, [], -1, false⟩ :=
  ((h.clearP.write { D with pd := [], left := -1 } 2 (.int .i64 (-1)) rfl rfl rfl (by simp) (by simp)).write ⟨D.st, [], -1, false⟩ 3 (.bool false) rfl rfl rfl (by simp) (by simp))
end Go.Proofs.Ytihdhlciblkbiaa
