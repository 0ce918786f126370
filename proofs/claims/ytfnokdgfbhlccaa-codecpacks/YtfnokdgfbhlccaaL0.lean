/-
  Both answers in one form, for the laws.
-/
import Derived.Test.YtfnokdgfbhlccaaRows
import Derived.Test.YtfnokdgfbhlccaaA1
import Derived.Test.YtfnokdgfbhlccaaC2
import Derived.Test.YtfnokdgfbhlccaaR3
import Derived.Test.YtfnokdgfbhlccaaOpen
import Derived.Test.YtfnokdgfbhlccaaPlain2
namespace Go.Proofs.Ytfnokdgfbhlccaa
set_option linter.unusedVariables false
set_option linter.unusedSimpArgs false
open Go.RowKit

def errN {α : Type} : Option α → Int
  | some _ => 0
  | none => 21

theorem Packed.one {s : List UInt8} {fs : List Fld} {w w' : World} {e : Ending} (h : Packed s fs w e w') :
    ∃ v, e = .returned (.tuple #[v, .int .i64 (errN (pack s fs))]) ∧ Sl w'.heap.size w' v ((pack s fs).getD []).length (((pack s fs).getD []).map bv) ∧ Below w.heap.size w w' := by
  obtain ⟨hb, ⟨ys, v, hy, he, hs⟩ | ⟨hy, he⟩⟩ := h
  · rw [hy]; exact ⟨v, he, hs, hb⟩
  · rw [hy]; exact ⟨_, he, Sl.nil _ _, hb⟩

theorem FieldsAt.nil (K : Nat) (w : World) : FieldsAt K w (.slice none 0 0) [] := ⟨none, 0, rfl, Nat.le_refl _, fun _ => rfl, fun i f h => by simp at h⟩

theorem Unpacked.one {s xs : List UInt8} {w w' : World} {e : Ending} (h : Unpacked s xs w e w') :
    ∃ v, e = .returned (.tuple #[v, .int .i64 (errN (unpack s xs))]) ∧ FieldsAt w'.heap.size w' v ((unpack s xs).getD []) ∧ Below w.heap.size w w' := by
  obtain ⟨hb, ⟨ys, v, hy, he, hs⟩ | ⟨hy, he⟩⟩ := h
  · rw [hy]; exact ⟨v, he, hs, hb⟩
  · rw [hy]; exact ⟨_, he, FieldsAt.nil _ _, hb⟩

theorem c_packN (sh : ByteArray) (K : Nat) (v : Value) (fs : List Fld) (w : World) (hs : sh.size ≤ maxLen) (hl : fs.length ≤ maxLen) (hf : FieldsAt K w v fs) (hK : K ≤ w.heap.size) :
    Calls Try.prog 9 #[.string sh, v] w fun e w' => ∃ v, e = .returned (.tuple #[v, .int .i64 (errN (pack sh.data.toList fs))]) ∧ Sl w'.heap.size w' v ((pack sh.data.toList fs).getD []).length (((pack sh.data.toList fs).getD []).map bv) ∧ Below w.heap.size w w' :=
  (c_pack sh K v fs w hs hl hf hK).mono fun _ _ h => h.one

theorem c_refpackN (sh : ByteArray) (K : Nat) (v : Value) (fs : List Fld) (w : World) (hs : sh.size ≤ maxLen) (hl : fs.length ≤ maxLen) (hf : FieldsAt K w v fs) (hK : K ≤ w.heap.size) :
    Calls Try.prog 13 #[.string sh, v] w fun e w' => ∃ v, e = .returned (.tuple #[v, .int .i64 (errN (pack sh.data.toList fs))]) ∧ Sl w'.heap.size w' v ((pack sh.data.toList fs).getD []).length (((pack sh.data.toList fs).getD []).map bv) ∧ Below w.heap.size w w' :=
  (c_refpack sh K v fs w hs hl hf hK).mono fun _ _ h => h.one

theorem c_unpackN (sh : ByteArray) (K : Nat) (v : Value) (xs : List UInt8) (w : World) (hsh : sh.size ≤ maxLen) (hx : Sl K w v xs.length (xs.map bv)) (hK : K ≤ w.heap.size) :
    Calls Try.prog 10 #[.string sh, v] w fun e w' => ∃ v, e = .returned (.tuple #[v, .int .i64 (errN (unpack sh.data.toList xs))]) ∧ FieldsAt w'.heap.size w' v ((unpack sh.data.toList xs).getD []) ∧ Below w.heap.size w w' :=
  (c_unpack sh K v xs w hsh hx hK).mono fun _ _ h => h.one

theorem c_refunpackN (sh : ByteArray) (K : Nat) (v : Value) (xs : List UInt8) (w : World) (hsh : sh.size ≤ maxLen) (hx : Sl K w v xs.length (xs.map bv)) (hK : K ≤ w.heap.size) :
    Calls Try.prog 15 #[.string sh, v] w fun e w' => ∃ v, e = .returned (.tuple #[v, .int .i64 (errN (unpack sh.data.toList xs))]) ∧ FieldsAt w'.heap.size w' v ((unpack sh.data.toList xs).getD []) ∧ Below w.heap.size w w' :=
  (c_refunpack sh K v xs w hsh hx hK).mono fun _ _ h => h.one

theorem unpack_length {s xs : List UInt8} {fs : List Fld} (h : unpack s xs = some fs) : fs.length ≤ 200 := by
  unfold unpack at h
  split at h
  · cases hu : unpL s xs with
    | none => rw [hu] at h; simp at h
    | some q =>
      obtain ⟨gs, r⟩ := q
      have := unpL_length hu
      rw [hu] at h
      cases r with
      | nil => simp at h; subst h; omega
      | cons a r => simp at h
  · cases h

theorem unpack_len (s xs : List UInt8) : ((unpack s xs).getD []).length ≤ 200 := by
  cases h : unpack s xs with
  | none => simp
  | some fs => simpa using unpack_length h

theorem sl_take {K : Nat} {w : World} {ao : Option Addr} {cap : Nat} {xs : List UInt8} (h : Sl K w (.slice ao xs.length cap) xs.length (xs.map bv)) (k : Nat) (hk : k ≤ xs.length) : Sl K w (.slice ao k cap) k ((xs.take k).map bv) := by
  obtain ⟨ao', cap', hv, hc, hn, hcs⟩ := h
  simp only [Value.slice.injEq, true_and] at hv
  obtain ⟨rfl, rfl⟩ := hv
  refine ⟨ao, cap, rfl, ⟨by omega, hc.2⟩, hn, fun i c hi => hcs i c ?_⟩
  rw [List.map_take, List.getElem?_take] at hi
  split at hi
  · exact hi
  · cases hi

theorem packL_length : ∀ {l : List (UInt8 × Fld)} {y : List UInt8}, packL l = some y → y.length ≤ l.length * 1026
  | [], y, h => by simp [packL] at h; subst h; simp
  | p :: l, y, h => by
    simp only [packL] at h
    cases h1 : packF p.1 p.2 with
    | none => rw [h1] at h; simp at h
    | some a =>
      rw [h1] at h
      simp only at h
      cases h2 : packL l with
      | none => rw [h2] at h; simp at h
      | some b =>
        rw [h2] at h
        simp only [Option.some.injEq] at h
        subst h
        have e1 := packF_length h1
        have e2 := packL_length h2
        rw [List.length_append, List.length_cons]
        omega

theorem pack_length {s : List UInt8} {fs : List Fld} {y : List UInt8} (h : pack s fs = some y) : y.length ≤ 205200 := by
  obtain ⟨h1, h2, h3⟩ := pack_some h
  have := packL_length h3
  rw [List.length_zip] at this
  omega

theorem i64_of_wf {z : Int} (h : (Lit.int .i64 z).wf = true) : -9223372036854775808 ≤ z ∧ z ≤ 9223372036854775807 := by
  have e1 : IntKind.i64.min = -9223372036854775808 := rfl
  have e2 : IntKind.i64.max = 9223372036854775807 := rfl
  simp only [Lit.wf, Bool.and_eq_true, decide_eq_true_eq, e1, e2] at h
  exact h

theorem below_cut {w w1 w2 : World} (h1 : Below w.heap.size w w1) (h2 : Below w1.heap.size w1 w2) : Below w.heap.size w w2 := h1.trans (h2.mono h1.size)
end Go.Proofs.Ytfnokdgfbhlccaa
