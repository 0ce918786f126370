/-
  Add where the power may go.
-/
import Derived.Test.YtihdhlciblkbiaaJourF1
import Derived.Test.YtihdhlciblkbiaaLibOpen2
namespace Go.Proofs.Ytihdhlciblkbiaa
set_option linter.unusedVariables false
set_option linter.unusedSimpArgs false
set_option maxRecDepth 20000
open Go.RowKit

/-- A journal in its generation, as long as the power is there. -/
structure JK (base : Nat) (w : World) (b : Nat) (S : Nat → Prop) (D : Dk) (j f gen : Nat) (l : List (List UInt8)) : Prop where
  d : DiskAt base w b S D
  jr : JrAt w j b f gen l.length
  n : ¬ S j
  r : Rest D
  g : Gen D f gen gen l

theorem JK.fr {base : Nat} {w w' : World} {b : Nat} {S : Nat → Prop} {D : Dk} {j f gen : Nat} {l : List (List UInt8)} (h : JK base w b S D j f gen l) {T : Nat → Prop} (hf : Fr T w w') (hS : ∀ k, S k → ¬ T k) (hj : ¬ T j) : JK base w' b S D j f gen l :=
  ⟨h.d.keep hf hS, h.jr.fr hf hj, h.n, h.r, h.g⟩

theorem JK.nw {base : Nat} {w w' : World} {b : Nat} {S : Nat → Prop} {D : Dk} {j f gen : Nat} {l : List (List UInt8)} (h : JK base w b S D j f gen l) (hn : Nw w w') : JK base w' b S D j f gen l := h.fr hn (fun _ _ => id) id

/-- What an Add leaves there. -/
def KeepAdded (base : Nat) (w : World) (b : Nat) (S : Nat → Prop) (j f gen : Nat) (l : List (List UInt8)) (xs : List UInt8) (e : Ending) (w' : World) : Prop :=
  ∃ S' D' z, e = .returned (.int .i64 z) ∧ DiskAt base w' b S' D' ∧ Fr (fun k => S k ∨ k = j) w w' ∧ (∀ k, S' k → S k ∨ w.heap.size ≤ k) ∧
    ((z = 63 ∧ 384 < xs.length ∧ JK base w' b S' D' j f gen l) ∨ (z = 62 ∧ xs.length ≤ 384 ∧ l.length = 4 ∧ JK base w' b S' D' j f gen l) ∨ (z = 0 ∧ xs.length ≤ 384 ∧ l.length < 4 ∧ JK base w' b S' D' j f gen (l ++ [xs])) ∨
      (z = 42 ∧ D'.st.length ≤ 1024 ∧ After D' f gen l (some xs)))

theorem c_keep {base b : Nat} {S : Nat → Prop} {D : Dk} {j f gen : Nat} {l : List (List UInt8)} {xs : List UInt8} {v : Value} (w : World) (h : JK base w b S D j f gen l) (hg : gen < 256)
    (hs : Slp (fun k => ¬ S k) w v xs.length (xs.map bv)) (hx : xs.length ≤ 140737488355328) :
    Calls Try.prog 13 #[.pointer (some ⟨j, 0, none⟩), v] w fun e w' => KeepAdded base w b S j f gen l xs e w' := by
  refine (c_jadd w h.d h.jr h.n hs hx (by rw [h.r.pd]; simp)).mono ?_
  rintro e w' ⟨rfl, S', hD', hJ', hf, hS⟩
  have hj := heap_lt h.jr.blk
  have hle := h.g.le
  have hlen := h.g.len
  have hn' : ¬ S' j := fun hh => (hS j hh).elim h.n (by omega)
  by_cases h384 : 384 < xs.length
  · have e1 : D.add f gen l.length xs = (D, 63) := by unfold Dk.add; rw [if_pos h384]
    rw [e1] at hD' hJ' ⊢
    exact ⟨S', D, 63, rfl, hD', hf, hS, .inl ⟨rfl, h384, hD', hJ', hn', h.r, h.g⟩⟩
  · by_cases h4 : 4 ≤ l.length
    · have e1 : D.add f gen l.length xs = (D, 62) := by unfold Dk.add; rw [if_neg h384, if_pos h4]
      rw [e1] at hD' hJ' ⊢
      exact ⟨S', D, 62, rfl, hD', hf, hS, .inr (.inl ⟨rfl, by omega, by omega, hD', hJ', hn', h.r, h.g⟩)⟩
    · have e1 : D.add f gen l.length xs = D.addP f gen l.length xs := by unfold Dk.add; rw [if_neg h384, if_neg h4]
      rw [e1] at hD' hJ' ⊢
      have hE := add_end (gen := gen) (xs := xs) h.r.pd h.r.dead (by omega) (by omega : l.length < 4) hlen
      have hcut : (D.addP f gen l.length xs).2 = 42 → ∃ S' D' z, Ending.returned (.int .i64 (D.addP f gen l.length xs).2) = .returned (.int .i64 z) ∧ DiskAt base w' b S' D' ∧ Fr (fun k => S k ∨ k = j) w w' ∧ (∀ k, S' k → S k ∨ w.heap.size ≤ k) ∧
          ((z = 63 ∧ 384 < xs.length ∧ JK base w' b S' D' j f gen l) ∨ (z = 62 ∧ xs.length ≤ 384 ∧ l.length = 4 ∧ JK base w' b S' D' j f gen l) ∨ (z = 0 ∧ xs.length ≤ 384 ∧ l.length < 4 ∧ JK base w' b S' D' j f gen (l ++ [xs])) ∨
            (z = 42 ∧ D'.st.length ≤ 1024 ∧ After D' f gen l (some xs))) := fun he =>
        ⟨S', _, 42, by rw [he], hD', hf, hS, .inr (.inr (.inr ⟨rfl, hD'.ok.n, after_cut h.g hg (by omega) (by omega) hD'.ok (by rw [he]; decide) hE⟩))⟩
      rcases hE with ⟨h0, hst, hp, hd, -⟩ | ⟨h0, -, -, -⟩ | ⟨h0, -, -, -⟩ | ⟨h0, -, -, -⟩
      · refine ⟨S', _, 0, by rw [h0], hD', hf, hS, .inr (.inr (.inl ⟨rfl, by omega, by omega, hD', ?_, hn', ⟨hD'.ok, hp, hd⟩, h.g.push (by omega) (by omega) hst⟩))⟩
        rw [h0] at hJ'
        rw [List.length_append]
        exact hJ'
      · exact hcut h0
      · exact hcut h0
      · exact hcut h0

/-- A block beside all of that. -/
structure Pin (wr : World) (S : Nat → Prop) (j : Nat) (v : Value) (q : Nat) (o : Obj) : Prop where
  blk : wr.heap[q]? = some o
  ns : ¬ S q
  nj : q ≠ j
  nv : v.ownBlock ≠ some q

theorem Pin.keep {wr w' : World} {S : Nat → Prop} {j : Nat} {v : Value} {q : Nat} {o : Obj} (h : Pin wr S j v q o) (hn : Nw wr w') : Pin w' S j v q o :=
  ⟨(hn.block q (heap_lt h.blk) id).trans h.blk, h.ns, h.nj, h.nv⟩

theorem Pin.add {wr w' : World} {S S' : Nat → Prop} {j : Nat} {v : Value} {q : Nat} {o : Obj} (h : Pin wr S j v q o) (hf : Fr (fun k => S k ∨ k = j) wr w') (hS' : ∀ k, S' k → S k ∨ wr.heap.size ≤ k) : Pin w' S' j v q o :=
  ⟨(hf.block q (heap_lt h.blk) (fun e => e.elim h.ns h.nj)).trans h.blk, fun e => (hS' q e).elim h.ns (fun e => by have := heap_lt h.blk; omega), h.nj, h.nv⟩

theorem Pin.push {wr W3 : World} {S : Nat → Prop} {j : Nat} {v v3 : Value} {q : Nat} {o : Obj} (h : Pin wr S j v q o) (hf : Fr (fun k => v.ownBlock = some k) wr W3) (hv : v3.ownBlock = v.ownBlock ∨ ∃ k, v3.ownBlock = some k ∧ wr.heap.size ≤ k) : Pin W3 S j v3 q o := by
  refine ⟨(hf.block q (heap_lt h.blk) h.nv).trans h.blk, h.ns, h.nj, fun e => ?_⟩
  rcases hv with h1 | ⟨k, h1, h2⟩
  · exact h.nv (h1.symm.trans e)
  · rw [h1] at e
    simp only [Option.some.injEq] at e
    have := heap_lt h.blk
    omega

theorem JK.start {base : Nat} {w w' : World} {b : Nat} {S : Nat → Prop} {D : Dk} {j f gen : Nat} (hd : Done base w b S D w') (hj : JrAt w j b f gen 0) (hn : ¬ S j) (hr : Rest D) (hh : Heads D f gen) : ∃ S', JK base w' b S' D j f gen [] ∧ Fr S w w' ∧ ∀ k, S' k → S k ∨ w.heap.size ≤ k := by
  obtain ⟨S', hD, hf, hS⟩ := hd
  have := heap_lt hj.blk
  exact ⟨S', ⟨hD, hj.fr hf hn, fun h => (hS j h).elim hn (by omega), hr, hh.gen gen⟩, hf, hS⟩

theorem info_bool : ∃ i, Try.prog.info? 4 = some i ∧ i.zero = some (.bool false) ∧ i.size = 1 ∧ i.bytes = 1 := by
  have h : (Try.prog.info? 4).map (fun i => (i.zero, i.size, i.bytes)) = some (some (.bool false), 1, 1) := by kernel_rfl
  cases hq : Try.prog.info? 4 with
  | none => rw [hq] at h; cases h
  | some i =>
    rw [hq] at h
    simp only [Option.map_some, Option.some.injEq, Prod.mk.injEq] at h
    exact ⟨i, rfl, h.1, h.2.1, h.2.2⟩

theorem copy_slpB {W2 : World} {v : Value} {ks : List Bool} {B : Nat} {S : Nat → Prop} (ho : W2.ownsRow B 4 1 v ks.length (ks.map Value.bool)) (hS : ∀ k, S k → k < B) : Slp (fun k => ¬ S k) W2 v ks.length (ks.map Value.bool) :=
  (slp_of_owns ho).keep (fun b hb => ⟨fun h => by have := hS b h; have := (ho.lt b hb).1; omega, rfl⟩)

theorem bool_oneCell (ks : List Bool) : ∀ u ∈ ks.map Value.bool, u.oneCell' = true := by
  intro u hu
  obtain ⟨x, _, rfl⟩ := List.mem_map.1 hu
  rfl

theorem Try.zeroP : (Try.prog.info? 60).bind (·.zero) = some (.agg (pairC (0, 0)).toArray) := by kernel_rfl

theorem Try.rowP : (Try.prog.underlying 60).map TypeDesc.isRow = some true := by kernel_rfl

theorem Try.sizeP (p : Int × Int) : (Try.prog.info? 60).map (·.size) = some (pairC p).length := by
  have : (Try.prog.info? 60).map (·.size) = some 2 := by kernel_rfl
  rw [this]
  rfl

theorem pair_oneCell (p : Int × Int) : ∀ v ∈ pairC p, v.oneCell' = true := by
  intro v hv
  simp only [pairC, List.mem_cons, List.not_mem_nil, or_false] at hv
  rcases hv with rfl | rfl <;> rfl

/-- A slice of records cut at its end. -/
theorem run_upto2 (ao : Option Addr) (n cap h : Nat) (hh : h ≤ cap) (w : World) : (Instr.sliceAt 51 (.slice ao n cap) none (some (.int .i64 (h : Int))) none).run Try.prog w = .ok (.slice ao h cap) w := by
  have he : Try.prog.elem 51 = 37 := by kernel_rfl
  have hu : Try.prog.underlying 51 = some (.slice (Try.prog.elem 51)) := by rw [he]; exact Try.underlying51
  have h5 : (sizeOf 37).run Try.prog w = .ok 1 w := by
    obtain ⟨i, hq, -, this, -⟩ := info_bytes
    simp [sizeOf, typeInfo, hq, this]
  rw [run_sliceAt_slice w _ _ _ _ _ hu, run_slice_h w _ _ _ _ hu .i64 (h : Int) (by omega) (by omega), he, h5]
  simp only [Result.andThen, sliced, Int.toNat_natCast, Nat.zero_mul, Nat.sub_zero]
  congr 2
  split
  · rfl
  · cases ao with
    | none => rfl
    | some a => simp [Addr.add]

theorem Parts.front {K : Nat} {w : World} {ao : Option Addr} {cap : Nat} {l : List (List UInt8)} {x : List UInt8} (h : Parts K w (.slice ao (l ++ [x]).length cap) (l ++ [x])) : Parts K w (.slice ao l.length cap) l := by
  obtain ⟨ao', cap', hv, hc, hcs⟩ := h
  simp only [Value.slice.injEq, true_and] at hv
  obtain ⟨rfl, rfl⟩ := hv
  rw [List.length_append] at hc
  exact ⟨ao, cap, rfl, by omega, fun i y hi => hcs i y (by rw [List.getElem?_append_left (get_lt hi)]; exact hi)⟩

theorem Parts.final {K : Nat} {w : World} {ao : Option Addr} {cap : Nat} {l : List (List UInt8)} {x : List UInt8} (h : Parts K w (.slice ao (l ++ [x]).length cap) (l ++ [x])) :
    l.length + 1 ≤ cap ∧ ∃ b off u, ao = some ⟨b, off, none⟩ ∧ b < K ∧ w.cell? ⟨b, off + l.length, none⟩ = some u ∧ Sl K w u x.length (x.map bv) := by
  obtain ⟨ao', cap', hv, hc, hcs⟩ := h
  simp only [Value.slice.injEq, true_and] at hv
  obtain ⟨rfl, rfl⟩ := hv
  rw [List.length_append] at hc
  obtain ⟨b, off, u, h1, h2, h3, h4, -⟩ := hcs l.length x (by simp)
  exact ⟨by simpa using hc, b, off, u, h1, h2, h3, h4⟩
end Go.Proofs.Ytihdhlciblkbiaa
