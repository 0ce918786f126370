/-
  The document's answer: Pack.
-/
import Derived.Test.YtpkefojkehahlaaRows
import Derived.Test.YtpkefojkehahlaaCodecR1
namespace Go.Proofs.Ytpkefojkehahlaa
set_option linter.unusedVariables false
set_option linter.unusedSimpArgs false
open Go.RowKit

theorem owns_keep {W w1 : World} {base e size n : Nat} {v : Value} {xs : List Value} (h : W.ownsRow base e size v n xs) (hb : Below W.heap.size W w1) : w1.ownsRow base e size v n xs := by
  refine ⟨h.1, ?_⟩
  rcases h.2 with h2 | ⟨g, cap, cur, hv, hg, hh, r⟩
  · exact .inl h2
  · exact .inr ⟨g, cap, cur, hv, hg, (hb.block g (Array.getElem?_eq_some_iff.1 hh).1).trans hh, r⟩

theorem owns_ne {w : World} {base e size n : Nat} {v : Value} {xs : List Value} (h : w.ownsRow base e size v n xs) (F : Nat) (hF : w.heap.size ≤ F) : some F ≠ v.ownBlock := by
  intro e
  have := (h.lt F e.symm).2
  omega

theorem ba_len (sh : ByteArray) : sh.data.toList.length = sh.size := Array.length_toList

/-- What both ways of packing come to. -/
def Packed (s : List UInt8) (fs : List Fld) (w : World) (e : Ending) (w' : World) : Prop :=
  Below w.heap.size w w' ∧ ((∃ ys v, pack s fs = some ys ∧ e = .returned (.tuple #[v, .int .i64 0]) ∧ Sl w'.heap.size w' v ys.length (ys.map bv)) ∨
    (pack s fs = none ∧ e = .returned (.tuple #[.slice none 0 0, .int .i64 21])))

theorem c_pack (sh : ByteArray) (K : Nat) (v : Value) (fs : List Fld) (w : World) (hs : sh.size ≤ maxLen) (hl : fs.length ≤ maxLen) (hf : FieldsAt K w v fs) (hK : K ≤ w.heap.size) :
    Calls Try.prog 24 #[.string sh, v] w fun e w' => Packed sh.data.toList fs w e w' := by
  obtain ⟨ao, cap, rfl, h1⟩ := hf
  have hf : FieldsAt K w (.slice ao fs.length cap) fs := ⟨ao, cap, rfl, h1⟩
  have hsz : sh.data.toList.length = sh.size := ba_len sh
  by_cases h : sh.size ≤ 200 ∧ fs.length = sh.size
  · refine (c_pack_run sh K ao cap fs w h.1 h.2 hf hK).mono ?_
    rintro e w' ⟨hb, h2⟩
    refine ⟨hb, ?_⟩
    unfold pack
    rw [hsz, if_pos h]
    exact h2
  · refine (c_pack_refused sh ao fs.length cap w hs hl h).mono ?_
    rintro e w' ⟨he, hb⟩
    exact ⟨hb, .inr ⟨by unfold pack; rw [hsz, if_neg h], he⟩⟩

end Go.Proofs.Ytpkefojkehahlaa
