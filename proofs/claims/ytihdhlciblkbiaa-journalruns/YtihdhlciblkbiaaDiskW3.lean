/-
  The disk's New and Write.
-/
import Derived.Test.YtihdhlciblkbiaaDiskW2
import Derived.Test.YtihdhlciblkbiaaLibLex
namespace Go.Proofs.Ytihdhlciblkbiaa
set_option linter.unusedVariables false
set_option linter.unusedSimpArgs false
set_option maxRecDepth 20000
open Go.RowKit

theorem Try.info55 : (Try.prog.info? 55).map (fun i => (i.zero, i.size, i.bytes)) = some (some (sec z128), 128, 128) := by kernel_rfl
theorem Try.info86 : (Try.prog.info? 86).map (fun i => (i.zero, i.size, i.bytes)) = some (some (wrv (0, z128)), 129, 136) := by kernel_rfl
set_option maxRecDepth 100000 in
theorem Try.built86 (parts : List (Nat × Value)) : Try.prog.built 86 parts = Instr.fill (fun i => #[(0, 1), (1, 128)][i]?) (wcell (0, z128)).toArray parts := by kernel_rfl
theorem Try.size86 : (Try.prog.info? 86).map (·.size) = some 129 := by kernel_rfl
theorem Try.isz72 : ((Try.prog.info? 86).bind (·.zero)).isSome = true := by kernel_rfl
theorem Try.row86 : (Try.prog.underlying 86).map TypeDesc.isRow = some true := by kernel_rfl

theorem built86 (i : Nat) (s : List UInt8) (hs : s.length = 128) : Try.prog.built 86 [(0, .int .i64 (i : Int)), (1, sec s)] = some (wcell (i, s)).toArray := by
  rw [Try.built86, fill_cons _ _ 0 _ [.int .i64 (i : Int)] 0 _ rfl rfl (by simp [wcell]), fill_cons _ _ 1 _ (s.map bv) 1 _ (by simp [hs]) rfl (by simp [wcell, splice, hs, z128_length]), Instr.fill]
  congr 2
  simp [splice, wcell, hs, z128_length]

/-- A new disk. -/
def newDk (n : Int) : Dk := ⟨List.replicate (clamp n 1024).toNat z128, [], -1, false⟩

theorem newDk_ok (n : Int) : (newDk n).Ok := by
  have := clamp_range n 1024 (by omega)
  refine ⟨fun s hs => ?_, fun p hp => by simp [newDk] at hp, ?_, by simp [newDk], by simp [newDk]⟩
  · rw [newDk] at hs
    rw [(List.mem_replicate.1 hs).2]; exact z128_length
  · simp [newDk]; omega

theorem made_flat (k : Nat) : madeCells (sec z128).cells (k * 128) = (flat (List.replicate k z128)).toArray := by
  have h1 : flat (List.replicate k z128) = List.replicate (k * 128) (bv 0) := by
    unfold flat z128
    rw [List.map_replicate, List.map_replicate, List.flatten_replicate_replicate]
  rw [h1]
  apply Array.ext
  · simp [size_madeCells]
  · intro j h2 h3
    have hs : (sec z128).cells = Array.replicate 128 (bv 0) := by
      unfold sec z128 Value.cells
      rw [List.map_replicate, List.toArray_replicate]
    simp only [madeCells, Array.getElem_map, Array.getElem_range, hs, Array.size_replicate]
    rw [getElem!_pos _ _ (by simp; omega)]
    simp

set_option maxHeartbeats 400000 in
theorem c_new (n : Int) (w : World) : Calls Try.prog 9 #[.int .i64 n] w fun e w' => ∃ b S, e = .returned (.pointer (some ⟨b, 0, none⟩)) ∧ DiskAt w.heap.size w' b S (newDk n) ∧ Nw w w' := by
  obtain ⟨i0, hi, hi1⟩ : ∃ i, Try.prog.info? 55 = some i ∧ (i.zero, i.size, i.bytes) = (some (sec z128), 128, 128) := by
    have := Try.info55
    cases hq : Try.prog.info? 55 with
    | none => rw [hq] at this; cases this
    | some i => rw [hq] at this; exact ⟨i, rfl, by simpa using this⟩
  simp only [Prod.mk.injEq] at hi1
  obtain ⟨hiz, his, hib⟩ := hi1
  obtain ⟨k, hk, hkl⟩ : ∃ k : Nat, clamp n 1024 = (k : Int) ∧ k ≤ 1024 := ⟨(clamp n 1024).toNat, by have := clamp_range n 1024 (by omega); omega, by have := clamp_range n 1024 (by omega); omega⟩
  have hst : (newDk n).st = List.replicate k z128 := by simp [newDk, hk]
  have hfin0 : ∃ b S, (Ending.returned (.pointer (some ⟨w.heap.size + 1, 0, none⟩)) = Ending.returned (.pointer (some ⟨b, 0, none⟩))) ∧
      DiskAt w.heap.size ((w.alloc (.cells (flat (List.replicate k z128)).toArray 55)).alloc (.cells #[.slice (some ⟨w.heap.size, 0, none⟩) k k, .slice none 0 0, .int .i64 (-1), .bool false] 67)) b S (newDk n) ∧
      Nw w ((w.alloc (.cells (flat (List.replicate k z128)).toArray 55)).alloc (.cells #[.slice (some ⟨w.heap.size, 0, none⟩) k k, .slice none 0 0, .int .i64 (-1), .bool false] 67)) := by
    refine ⟨w.heap.size + 1, _, rfl, diskAt_of (g := w.heap.size) (vp := .slice none 0 0) ⟨?_, ?_, ?_, by omega, by simp [Value.ownBlock], by simp [Value.ownBlock], by omega, Nat.le_refl _, newDk_ok n⟩, ((Fr.refl _ w).alloc _).alloc _⟩
    · have := heap_alloc2_new w (.cells (flat (List.replicate k z128)).toArray 55) (.cells #[.slice (some ⟨w.heap.size, 0, none⟩) k k, .slice none 0 0, .int .i64 (-1), .bool false] 67)
      rw [this, hst]
      simp [newDk]
    · rw [heap_alloc2_old, hst]
    · exact World.ownsRow_nil _ _ _ _
  have hfin := (show Hid _ from hfin0)
  clear hfin0
  have hmk : ∀ w : World, (Instr.makeSlice 27 (.int .i64 (k : Int)) (.int .i64 (k : Int))).run Try.prog w = .ok (.slice (some ⟨w.heap.size, 0, none⟩) k k) (w.alloc (.cells (flat (List.replicate k z128)).toArray 55)) := fun w => by
    have hr := run_make (P := Try.prog) w 27 55 i0 (sec z128) Try.underlying27 hi hiz .i64 .i64 (k : Int) (k : Int) (by omega) (by omega) (by rw [hib]; omega) (by omega)
    rw [his, Int.toNat_natCast, made_flat] at hr
    exact hr
  clear hst hi hiz his hib
  generalize (flat (List.replicate k z128)).toArray = C at *
  go_enter Try.func9, Try.ntmps9
  go_wp2_with (go_at_call 25; refine (c_between n 1024 _).mono ?_; rw [hk]; rintro e w' ⟨rfl, rfl⟩)
  go_ret
  exact hfin.out

/-! ### Write -/
def Dk.write (D : Dk) (i : Int) (s : List UInt8) : Dk := if D.has i then (if D.out then D.spend else { D.spend with pd := D.pd ++ [(i.toNat, s)] }) else D
def Dk.werr (D : Dk) (i : Int) : Int := if D.has i then (if D.out then 42 else 0) else 41

theorem spend_st (D : Dk) : D.spend.st = D.st ∧ D.spend.pd = D.pd := by unfold Dk.spend; split <;> exact ⟨rfl, rfl⟩

theorem DiskG.push {base : Nat} {w w1 : World} {b g : Nat} {vp v1 : Value} {D : Dk} (h : DiskG base w b g vp D) (hf : Fr (Own b g vp) w w1) (i : Nat) (s : List UInt8) (hi : i < D.st.length) (hs : s.length = 128)
    (hb : w1.heap[b]? = w.heap[b]?) (hg : w1.heap[g]? = w.heap[g]?) (ho : w1.ownsRow base 86 129 v1 (D.pd.length + 1) (pcells D.pd ++ wcell (i, s))) (hat : v1.ownBlock = vp.ownBlock ∨ ∃ k, v1.ownBlock = some k ∧ w.heap.size ≤ k) :
    Done base w b (Own b g vp) { D with pd := D.pd ++ [(i, s)] } (w1.setCell ⟨b, 1, none⟩ v1) := by
  have hbl := heap_lt h.obj
  have hgl := heap_lt h.st
  have hob := hb.trans h.obj
  have hn1 : v1.ownBlock ≠ some b := by
    rcases hat with e | ⟨k, e, hk⟩
    · rw [e]; exact h.nb
    · rw [e]; intro e'; simp at e'; omega
  have hn2 : v1.ownBlock ≠ some g := by
    rcases hat with e | ⟨k, e, hk⟩
    · rw [e]; exact h.ng
    · rw [e]; intro e'; simp at e'; omega
  have hf2 : Fr (fun k => k = b) w1 (w1.setCell ⟨b, 1, none⟩ v1) := (Fr.refl (fun k => k = b) w1).setCell (p := ⟨b, 1, none⟩) (.inl rfl) v1
  refine ⟨Own b g v1, diskAt_of ⟨?_, ?_, ?_, h.nbg, hn1, hn2, h.bb, h.bg, ⟨h.ok.sec, ?_, h.ok.n, h.ok.lo, h.ok.hi⟩⟩, hf.trans hf2 (fun k hk => .inl (.inl hk)), ?_⟩
  · rw [blk_setCell hob]; rfl
  · rw [hf2.block g (by have := hf.size; omega) (fun e => h.nbg e.symm)]; exact hg.trans h.st
  · have := owns_of_block ho (w' := w1.setCell ⟨b, 1, none⟩ v1) (fun k e => hf2.block k (ho.lt k e).2 (fun e' => by subst e'; exact hn1 e))
    rw [← pcells_snoc] at this
    simpa using this
  · intro p hp
    rcases List.mem_append.1 hp with hp | hp
    · exact h.ok.wr p hp
    · simp at hp; subst hp; exact ⟨hi, hs⟩
  · rintro k (rfl | rfl | hk)
    · exact .inl (.inl rfl)
    · exact .inl (.inr (.inl rfl))
    · rcases hat with e | ⟨k', e, hk'⟩
      · exact .inl (.inr (.inr (e ▸ hk)))
      · rw [e] at hk; simp at hk; subst hk; exact .inr hk'
end Go.Proofs.Ytihdhlciblkbiaa
