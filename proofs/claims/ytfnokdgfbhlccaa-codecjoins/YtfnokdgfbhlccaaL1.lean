/-
  Strings and fields cut in two.
-/
import Derived.Test.YtfnokdgfbhlccaaRows
import Derived.Test.YtfnokdgfbhlccaaL0
import Derived.Lib.IndexBytes
namespace Go.Proofs.Ytfnokdgfbhlccaa
set_option linter.unusedVariables false
set_option linter.unusedSimpArgs false
open Go.RowKit

theorem str_pre (a : ByteArray) (k : Nat) (hk : k ≤ a.size) (hm : a.size ≤ maxLen) :
    ∃ b : ByteArray, b.data.toList = a.data.toList.take k ∧ b.size ≤ maxLen ∧ ∀ (kh : IntKind) (r : Int) (w : World), r = (k : Int) → (Instr.sliceAt 9 (.string a) none (some (.int kh r)) none).run Try.prog w = .ok (.string b) w := by
  have hd : (a.extract 0 k).data.toList = a.data.toList.take k := by rw [Lib.extract_data]; simp
  refine ⟨a.extract 0 k, hd, ?_, ?_⟩
  · have h1 := ba_len (a.extract 0 k)
    rw [hd, List.length_take, ba_len] at h1
    omega
  · intro kh r w hr
    subst hr
    rw [run_sliceAt_string w 9 _ _ _ _ Try.underlying9, run_slice_string_h w 9 a Try.underlying9 kh _ (by omega) (by omega)]
    simp

theorem str_suf (a : ByteArray) (k : Nat) (hk : k ≤ a.size) (hm : a.size ≤ maxLen) :
    ∃ b : ByteArray, b.data.toList = a.data.toList.drop k ∧ b.size ≤ maxLen ∧ ∀ (kl : IntKind) (l : Int) (w : World), l = (k : Int) → (Instr.sliceAt 9 (.string a) (some (.int kl l)) none none).run Try.prog w = .ok (.string b) w := by
  have hd : (a.extract k a.size).data.toList = a.data.toList.drop k := Lib.extract_to_end a k
  refine ⟨a.extract k a.size, hd, ?_, ?_⟩
  · have h1 := ba_len (a.extract k a.size)
    rw [hd, List.length_drop, ba_len] at h1
    omega
  · intro kl l w hl
    subst hl
    rw [run_sliceAt_string w 9 _ _ _ _ Try.underlying9, run_slice_string_l w 9 a Try.underlying9 kl _ (by omega) (by omega)]
    simp

theorem elem26 : Try.prog.elem 26 = 40 := by simp [Program.elem, Try.underlying26]

theorem FieldsAt.pre {K : Nat} {w : World} {ao : Option Addr} {cap : Nat} {fs : List Fld} (h : FieldsAt K w (.slice ao fs.length cap) fs) (k : Nat) (hk : k ≤ fs.length) : FieldsAt K w (.slice ao k cap) (fs.take k) := by
  obtain ⟨ao', cap', hv, hc, hn, hcs⟩ := h
  simp only [Value.slice.injEq, true_and] at hv
  obtain ⟨rfl, rfl⟩ := hv
  refine ⟨ao, cap, by rw [List.length_take]; congr 1; omega, by rw [List.length_take]; omega, hn, fun i f hi => hcs i f ?_⟩
  rw [List.getElem?_take] at hi
  split at hi
  · exact hi
  · cases hi

theorem FieldsAt.suf {K : Nat} {w : World} {ao : Option Addr} {cap : Nat} {fs : List Fld} (h : FieldsAt K w (.slice ao fs.length cap) fs) (k : Nat) (hk : k ≤ fs.length) : FieldsAt K w (sliced ao k fs.length cap 2) (fs.drop k) := by
  obtain ⟨ao', cap', hv, hc, hn, hcs⟩ := h
  simp only [Value.slice.injEq, true_and] at hv
  obtain ⟨rfl, rfl⟩ := hv
  refine ⟨if cap = k then ao else ao.map (·.add (k * 2)), cap - k, by rw [List.length_drop]; rfl, by rw [List.length_drop]; omega, ?_, fun i f hi => ?_⟩
  · intro h0
    split at h0
    · omega
    · have : ao = none := by simpa using h0
      have := hn this
      omega
  · rw [List.getElem?_drop] at hi
    obtain ⟨b, off, bvv, ha, hbk, h1, h2, h3⟩ := hcs _ _ hi
    have hlt : k + i < fs.length := (List.getElem?_eq_some_iff.1 hi).1
    refine ⟨b, off + k * 2, bvv, ?_, hbk, ?_, ?_, h3⟩
    · rw [if_neg (by omega), ha]; simp [add_plain]
    · rw [show off + k * 2 + i * 2 = off + (k + i) * 2 by omega]; exact h1
    · rw [show off + k * 2 + i * 2 + 1 = off + (k + i) * 2 + 1 by omega]; exact h2

theorem fld_pre {K : Nat} {w : World} {ao : Option Addr} {cap : Nat} {fs : List Fld} (h : FieldsAt K w (.slice ao fs.length cap) fs) (k : Nat) (hk : k ≤ fs.length) :
    ∃ sv, FieldsAt K w sv (fs.take k) ∧ ∀ (kh : IntKind) (r : Int) (w : World), r = (k : Int) → (Instr.sliceAt 26 (.slice ao fs.length cap) none (some (.int kh r)) none).run Try.prog w = .ok sv w := by
  refine ⟨_, h.pre k hk, ?_⟩
  intro kh r w hr
  subst hr
  obtain ⟨i4, hi, _, hi1, _⟩ := info_parts Try.info40
  obtain ⟨_, _, hv, hc, _⟩ := h
  simp only [Value.slice.injEq, true_and] at hv
  obtain ⟨rfl, rfl⟩ := hv
  rw [run_sliceAt_slice w 26 _ _ _ _ (by rw [elem26]; exact Try.underlying26), run_slice_h w 26 ao fs.length cap (by rw [elem26]; exact Try.underlying26) kh _ (by omega) (by omega), elem26]
  simp [sizeOf, typeInfo, hi, hi1, Result.andThen, sliced]
  by_cases hc0 : cap = 0
  · simp [hc0]
  · simp [hc0]
    cases ao <;> simp [Addr.add]

theorem fld_suf {K : Nat} {w : World} {ao : Option Addr} {cap : Nat} {fs : List Fld} (h : FieldsAt K w (.slice ao fs.length cap) fs) (k : Nat) (hk : k ≤ fs.length) :
    ∃ sv, FieldsAt K w sv (fs.drop k) ∧ ∀ (kl : IntKind) (l : Int) (w : World), l = (k : Int) → (Instr.sliceAt 26 (.slice ao fs.length cap) (some (.int kl l)) none none).run Try.prog w = .ok sv w := by
  refine ⟨_, h.suf k hk, ?_⟩
  intro kl l w hl
  subst hl
  obtain ⟨i4, hi, _, hi1, _⟩ := info_parts Try.info40
  rw [run_sliceAt_slice w 26 _ _ _ _ (by rw [elem26]; exact Try.underlying26), run_slice_l w 26 ao fs.length cap (by rw [elem26]; exact Try.underlying26) kl _ (by omega) (by omega), elem26]
  simp [sizeOf, typeInfo, hi, hi1, Result.andThen]
end Go.Proofs.Ytfnokdgfbhlccaa
