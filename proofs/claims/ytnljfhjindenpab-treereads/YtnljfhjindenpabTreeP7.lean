/-
  What branchOf answers, held against the plain branch.
-/
import Derived.Test.YtnljfhjindenpabTreeP6
namespace Go.Proofs.Ytnljfhjindenpab
set_option linter.unusedVariables false
set_option linter.unusedSimpArgs false
set_option maxRecDepth 20000
open Go.RowKit

/-- Branches in memory, each with its tree. -/
def BAll (w : World) : List Bx → List Br → Prop
  | [], [] => True
  | x :: xs, b :: bs => (x.1 = b.1 ∧ x.2.1 = b.2.1 ∧ NX w b.2.1 b.2.2 x.2.2) ∧ BAll w xs bs
  | _, _ => False

theorem BAll.length {w : World} : ∀ {xs : List Bx} {bs : List Br}, BAll w xs bs → xs.length = bs.length
  | [], [], _ => rfl
  | x :: xs, b :: bs, h => by simp [BAll.length h.2]
  | [], _ :: _, h => h.elim
  | _ :: _, [], h => h.elim

theorem BAll.get {w : World} : ∀ {xs : List Bx} {bs : List Br} (i : Nat), BAll w xs bs → ∀ (h1 : i < xs.length) (h2 : i < bs.length), xs[i].1 = bs[i].1 ∧ xs[i].2.1 = bs[i].2.1 ∧ NX w bs[i].2.1 bs[i].2.2 xs[i].2.2
  | x :: xs, b :: bs, 0, h, _, _ => h.1
  | x :: xs, b :: bs, i + 1, h, h1, h2 => BAll.get i h.2 (by simpa using h1) (by simpa using h2)
  | [], _, _, _, h1, _ => by simp at h1

theorem BAll.take {w : World} : ∀ {xs : List Bx} {bs : List Br} (i : Nat), BAll w xs bs → BAll w (xs.take i) (bs.take i)
  | [], [], i, _ => by simp [BAll]
  | x :: xs, b :: bs, 0, h => trivial
  | x :: xs, b :: bs, i + 1, h => ⟨h.1, BAll.take i h.2⟩

theorem BAll.drop {w : World} : ∀ {xs : List Bx} {bs : List Br} (i : Nat), BAll w xs bs → BAll w (xs.drop i) (bs.drop i)
  | [], [], i, _ => by simp [BAll]
  | x :: xs, b :: bs, 0, h => h
  | x :: xs, b :: bs, i + 1, h => BAll.drop i h.2

theorem BAll.snoc {w : World} {x : Bx} {b : Br} (hx : x.1 = b.1 ∧ x.2.1 = b.2.1 ∧ NX w b.2.1 b.2.2 x.2.2) : ∀ {xs : List Bx} {bs : List Br}, BAll w xs bs → BAll w (xs ++ [x]) (bs ++ [b])
  | [], [], _ => ⟨hx, trivial⟩
  | y :: xs, c :: bs, h => ⟨h.1, BAll.snoc hx h.2⟩

theorem BAll.stay {w w' : World} (hw : ∀ b, TX w b → b < w.heap.size → w'.heap[b]? = w.heap[b]?) : ∀ {xs : List Bx} {bs : List Br}, BAll w xs bs → BAll w' xs bs
  | [], [], _ => trivial
  | x :: xs, b :: bs, h => ⟨⟨h.1.1, h.1.2.1, NX.stay hw h.1.2.2⟩, BAll.stay hw h.2⟩

theorem okJ_iff {w : World} {is : List Int} {xs : List Bx} {beh : List Br} (h : BAll w xs beh) (hl : xs.length = is.length) {j : Nat} (hj : j < is.length) : okJ is beh j ↔ okX is xs j := by
  have hlen := h.length
  have hm : xs.length - 1 - j < xs.length := by omega
  obtain ⟨g1, g2, _⟩ := h.get (xs.length - 1 - j) hm (by omega)
  obtain ⟨_, k2, _⟩ := h.get 0 (by omega) (by omega)
  have e1 : beh.reverse.getD j (0, ⟨0, []⟩) = beh[xs.length - 1 - j]'(by omega) := by
    rw [List.getD_eq_getElem?_getD, List.getElem?_eq_getElem (by simp; omega), Option.getD_some, List.getElem_reverse]
    congr 1
    omega
  have e2 : hgt beh = xs[0].2.1 := by
    unfold hgt
    rw [List.head?_eq_getElem?, List.getElem?_eq_getElem (by omega), k2]
    rfl
  have e3 : xs.getD (xs.length - 1 - j) (0, 0, 0) = xs[xs.length - 1 - j] := by rw [List.getD_eq_getElem?_getD, List.getElem?_eq_getElem hm]; rfl
  have e4 : xs.getD 0 (0, 0, 0) = xs[0] := by rw [List.getD_eq_getElem?_getD, List.getElem?_eq_getElem (by omega)]; rfl
  unfold okJ okX
  rw [e1, e2, e3, e4, g1, g2]

theorem okAll_iff {w : World} {is : List Int} {xs : List Bx} {beh : List Br} (h : BAll w xs beh) (hl : xs.length = is.length) : okAll is beh is.length ↔ ∀ j, j < is.length → okX is xs j :=
  ⟨fun ho j hj => (okJ_iff h hl hj).1 (ho j (List.mem_range.2 hj)), fun ho j hj => (okJ_iff h hl (List.mem_range.1 hj)).2 (ho j (List.mem_range.1 hj))⟩

theorem nx_as {w : World} {b : Br} {h q : Nat} (hn : NX w b.2.1 b.2.2 q) (hh : b.2.1 = h) : NX w h (asTr h b.2) q := by
  obtain ⟨p, n, t⟩ := b
  simp only at hh hn
  subst hh
  rw [asTr_self]
  exact hn

theorem kids_of {w : World} {h : Nat} : ∀ {xs : List Bx} {bs : List Br}, BAll w xs bs → (∀ b ∈ bs, b.2.1 = h) → Kids (NX w h) (bs.map (fun b => asTr h b.2)) (xs.map (·.2.2))
  | [], [], _, _ => trivial
  | x :: xs, b :: bs, hb, hh => ⟨nx_as hb.1.2.2 (hh b List.mem_cons_self), kids_of hb.2 (fun c hc => hh c (List.mem_cons_of_mem _ hc))⟩

theorem BAll.rev {w : World} : ∀ {xs : List Bx} {bs : List Br}, BAll w xs bs → BAll w xs.reverse bs.reverse
  | [], [], _ => trivial
  | x :: xs, b :: bs, h => by
    rw [List.reverse_cons, List.reverse_cons]
    exact BAll.snoc h.1 (BAll.rev h.2)

/-- The node that branchOf makes is the plain branch's. -/
theorem nx_mk {w : World} {ks : List Int} {es : List Ext} {is : List Int} {xs : List Bx} {beh : List Br} {root : Bool} {g : Nat} {kv vv sv : Value} (hf : Form (ks, es, is) root) (h : BAll w xs beh) (hl : xs.length = is.length) (ho : okAll is beh is.length)
    (h1 : Nd w g kv vv sv) (h2 : Slp (TX w) w kv ks.length (ks.map kcell)) (h3 : Slp (TX w) w vv es.length (ecells es)) (h4 : Slp (TX w) w sv (xs.reverse.map (·.2.2)).length ((xs.reverse.map (·.2.2)).map pcell)) :
    NX w (mkT (ks, es, is) beh).1 (mkT (ks, es, is) beh).2 g ∧ (((mkT (ks, es, is) beh).1 : Nat) : Int) = hX xs is.length := by
  obtain ⟨f1, f2, f3, f4⟩ := hf
  simp only at f1 f2 f3 f4
  have hlen := h.length
  by_cases hz : is.length = 0
  · have hx0 : xs = [] := List.eq_nil_of_length_eq_zero (by omega)
    have hm : mkT (ks, es, is) beh = ⟨0, ks.zip es⟩ := by unfold mkT; rw [if_pos hz]
    rw [hm]
    have m1 : (ks.zip es).map (·.1) = ks := List.map_fst_zip (by omega)
    have m2 : (ks.zip es).map (·.2) = es := List.map_snd_zip (by omega)
    subst hx0
    refine ⟨⟨kv, vv, sv, h1, ?_, ?_, h4⟩, ?_⟩
    · rw [m1]; exact h2
    · rw [m2]; exact h3
    · rw [hX, if_pos hz]; rfl
  · have hm : mkT (ks, es, is) beh = ⟨hgt beh + 1, (ks, beh.reverse.map (fun x => asTr (hgt beh) x.2))⟩ := by unfold mkT; rw [if_neg hz]
    rw [hm]
    have he0 : es = [] := List.eq_nil_of_length_eq_zero (by omega)
    subst he0
    have hall : ∀ b ∈ beh.reverse, b.2.1 = hgt beh := fun b hb => by
      obtain ⟨j, hj, rfl⟩ := List.mem_iff_getElem.1 hb
      have h9 := (ho j (by simp at hj; simp; omega)).2
      rwa [List.getD_eq_getElem?_getD, List.getElem?_eq_getElem hj] at h9
    refine ⟨⟨kv, vv, sv, xs.reverse.map (·.2.2), h1, h2, h3, h4, kids_of h.rev hall⟩, ?_⟩
    obtain ⟨_, k2, _⟩ := h.get 0 (by omega) (by omega)
    rw [hX, if_neg hz, List.getD_eq_getElem?_getD, List.getElem?_eq_getElem (by omega), Option.getD_some, k2]
    unfold hgt
    rw [List.head?_eq_getElem?, List.getElem?_eq_getElem (by omega)]
    rfl
end Go.Proofs.Ytnljfhjindenpab
