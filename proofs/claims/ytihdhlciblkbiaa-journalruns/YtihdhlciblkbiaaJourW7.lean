/-
  Package journal: Scan.
-/
import Derived.Test.YtihdhlciblkbiaaJourW6
namespace Go.Proofs.Ytihdhlciblkbiaa
set_option linter.unusedVariables false
set_option linter.unusedSimpArgs false
set_option maxRecDepth 20000
open Go.RowKit

/-- The cells cs are slices that hold the records ps, in blocks of X. -/
def RecX (X : Nat → Prop) (w : World) (ps : List (List UInt8)) (cs : List Value) : Prop :=
  cs.length = ps.length ∧ ∀ (i : Nat) (x : List UInt8), ps[i]? = some x → ∃ u, cs[i]? = some u ∧ Slp X w u x.length (x.map bv) ∧ x.length ≤ 140737488355328

theorem RecX.nil (X : Nat → Prop) (w : World) : RecX X w [] [] := ⟨rfl, fun i x h => by simp at h⟩

theorem RecX.keep {X X' : Nat → Prop} {w w' : World} {ps : List (List UInt8)} {cs : List Value} (h : RecX X w ps cs) (hX : ∀ b, X b → b < w.heap.size → X' b ∧ w'.heap[b]? = w.heap[b]?) : RecX X' w' ps cs :=
  ⟨h.1, fun i x hi => by
    obtain ⟨u, hu, hs, hl⟩ := h.2 i x hi
    exact ⟨u, hu, hs.keepL hX, hl⟩⟩

theorem RecX.push {X : Nat → Prop} {w : World} {ps : List (List UInt8)} {cs : List Value} (h : RecX X w ps cs) {x : List UInt8} {u : Value} (hs : Slp X w u x.length (x.map bv)) (hl : x.length ≤ 140737488355328) : RecX X w (ps ++ [x]) (cs ++ [u]) := by
  refine ⟨by simp [h.1], fun i y hi => ?_⟩
  by_cases hlt : i < ps.length
  · rw [List.getElem?_append_left hlt] at hi
    rw [List.getElem?_append_left (by rw [h.1]; exact hlt)]
    exact h.2 i y hi
  · rw [List.getElem?_append_right (by omega)] at hi
    rw [List.getElem?_append_right (by rw [h.1]; omega), h.1]
    have h0 : i - ps.length = 0 := by
      have := (List.getElem?_eq_some_iff.1 hi).1
      simp at this
      omega
    rw [h0] at hi ⊢
    obtain rfl : x = y := by simpa using hi
    exact ⟨u, rfl, hs, hl⟩

theorem parts_of_own {X : Nat → Prop} {w : World} {base : Nat} {v : Value} {ps : List (List UInt8)} {cs : List Value} (ho : w.ownsRow base 37 1 v ps.length cs) (h : RecX X w ps cs) : Parts w.heap.size w v ps := by
  obtain ⟨ao, cap, rfl, hc, -, hcs⟩ := sl_of_owns ho
  refine ⟨ao, cap, rfl, hc.1, fun i x hi => ?_⟩
  obtain ⟨u, hu, hs, hl⟩ := h.2 i x hi
  obtain ⟨b, off, rfl, hb, hcell⟩ := hcs i u hu
  exact ⟨b, off, u, rfl, hb, hcell, hs.slw, hl⟩

theorem Parts.mono {K K' : Nat} {w : World} {v : Value} {ps : List (List UInt8)} (h : Parts K w v ps) (hK : K ≤ K') : Parts K' w v ps := by
  obtain ⟨ao, cap, rfl, hc, hcs⟩ := h
  refine ⟨ao, cap, rfl, hc, fun i x hi => ?_⟩
  obtain ⟨b, off, u, h1, h2, h3, h4, h5⟩ := hcs i x hi
  exact ⟨b, off, u, h1, by omega, h3, h4.mono hK, h5⟩

/-- What a round of Scan keeps. -/
structure ScAt (w wr : World) (b f gen : Nat) (v : Value) (l : List (List UInt8)) (cs : List Value) : Prop where
  jr : JrAt wr w.heap.size b f gen l.length
  own : wr.ownsRow (w.heap.size + 1) 37 1 v l.length cs
  rcs : RecX (fun q => w.heap.size + 1 ≤ q ∧ v.ownBlock ≠ some q) wr l cs
  nw : Nw w wr

theorem ScAt.step {w wr W2 W3 : World} {b f gen : Nat} {v v3 u : Value} {l : List (List UInt8)} {cs : List Value} {x : List UInt8} {o : Obj} (h : ScAt w wr b f gen v l cs) (hn : Nw wr W2) (hf : Fresh wr W2 u x) (hx : x.length ≤ 384)
    (ho : W3.ownsRow (w.heap.size + 1) 37 1 v3 (l.length + 1) (cs ++ [u])) (hg : (W2.alloc o).grownBy W3 v.ownBlock) (hv : v3.ownBlock = v.ownBlock ∨ v3.ownBlock = some (W2.alloc o).heap.size) (hlt : l.length < 4) :
    JrAt W3 w.heap.size b f gen l.length ∧ ScAt w (W3.setCell ⟨w.heap.size, 3, none⟩ (.int .i64 ((l.length : Int) + 1))) b f gen v3 (l ++ [x]) (cs ++ [u]) := by
  have hjl := heap_lt h.jr.blk
  have hs2 : wr.heap.size ≤ W2.heap.size := hn.size
  have hal : (W2.alloc o).heap.size = W2.heap.size + 1 := by simp
  have hgb : ∀ q, q < W2.heap.size → v.ownBlock ≠ some q → W3.heap[q]? = W2.heap[q]? := fun q hq hne => by
    rw [hg.block q (by omega) (fun e => hne e.symm)]
    exact Below.heap_alloc _ _ _ hq
  have hvj : v.ownBlock ≠ some w.heap.size := fun e => by have := (h.own.lt _ e).1; omega
  have hj3 : JrAt W3 w.heap.size b f gen l.length :=
    ⟨(hgb _ (by omega) hvj).trans ((hn.block _ hjl id).trans h.jr.blk), h.jr.fl, h.jr.gl, h.jr.cl⟩
  have hset : ∀ q, q ≠ w.heap.size → (W3.setCell ⟨w.heap.size, 3, none⟩ (.int .i64 ((l.length : Int) + 1))).heap[q]? = W3.heap[q]? := fun q hq => Below.heap_setCell _ _ _ _ hq
  refine ⟨hj3, ?_, ?_, ?_, ?_⟩
  · have := hj3.next hlt
    rw [List.length_append]
    exact this
  · rw [List.length_append]
    exact owns_of_block ho (fun k hk => hset k (fun e => by have := (ho.lt k hk).1; omega))
  · refine RecX.push ?_ ?_ (by omega)
    · refine h.rcs.keep (fun q hq hql => ⟨⟨hq.1, fun e => ?_⟩, ?_⟩)
      · rcases hv with h1 | h1
        · exact hq.2 (h1.symm.trans e)
        · rw [h1] at e; simp only [Option.some.injEq] at e; omega
      · rw [hset q (by omega), hgb q (by omega) hq.2]
        exact hn.block q hql id
    · refine Slp.keep hf (fun q hq => ⟨⟨by omega, fun e => ?_⟩, ?_⟩)
      · rcases hv with h1 | h1
        · have := (h.own.lt q (h1.symm.trans e)).2; omega
        · rw [h1] at e; simp only [Option.some.injEq] at e; omega
      · rw [hset q (by omega), hgb q hq.2 (fun e => by have := (h.own.lt q e).2; omega)]
  · refine Fr.setCell ?_ (.inr (Nat.le_refl _)) _
    refine Fr.grown (Fr.alloc (h.nw.trans hn) o) hg (fun k hk => .inr ?_)
    have := (h.own.lt k hk).1
    omega

def slN : Value → Nat
  | .slice _ n _ => n
  | _ => 0

theorem info_bytes : ∃ i, Try.prog.info? 37 = some i ∧ i.zero = some (.slice none 0 0) ∧ i.size = 1 ∧ i.bytes = 24 := by
  have h : (Try.prog.info? 37).map (fun i => (i.zero, i.size, i.bytes)) = some (some (.slice none 0 0), 1, 24) := by kernel_rfl
  cases hq : Try.prog.info? 37 with
  | none => rw [hq] at h; cases h
  | some i =>
    rw [hq] at h
    simp only [Option.map_some, Option.some.injEq, Prod.mk.injEq] at h
    exact ⟨i, rfl, h.1, h.2.1, h.2.2⟩

set_option maxHeartbeats 3200000 in
theorem c_scan {base b : Nat} {S : Nat → Prop} {D : Dk} {f gen : Nat} (w : World) (hD : DiskAt base w b S D) (hf : f ≤ 2000) (hg : gen < 281474976710656) (hr : f + 16 ≤ D.st.length) :
    Calls Try.prog 21 #[.pointer (some ⟨b, 0, none⟩), .int .i64 (f : Int), .int .u64 (gen : Int)] w fun e w' => ∃ v, e = .returned v ∧ Parts w'.heap.size w' v (D.scan f gen) ∧ Nw w w' := by
  obtain ⟨i0, hi, hz0, hz1, hz2⟩ := info_bytes
  go_enter Try.func21, Try.ntmps21
  go_wp2_with (go_at_call 12; refine stop_here ?_)
  unfold Hid
  refine (c_start _ hf hg).mono ?_
  rintro e W0 ⟨rfl, hj0, hn0⟩
  have hw0 : w.heap.size + 1 ≤ W0.heap.size := heap_lt hj0.blk
  go_wp2
  go_loopw [7] (fun v wr => ∃ l cs, ScAt w wr b f gen v l cs ∧ ∀ (i : Nat) (x : List UInt8), l[i]? = some x → D.recAt f gen i = some x) (fun v _ => 4 - slN v)
  case atStart => exact ⟨[], [], ⟨hj0, World.ownsRow_nil _ _ _ _, RecX.nil _ _, hn0⟩, fun i x h => by simp at h⟩
  case round =>
    obtain ⟨l, cs, hat, hrec⟩ := hrel
    have hcl := hat.jr.cl
    have hrec : Hid (∀ (i : Nat) (x : List UInt8), l[i]? = some x → D.recAt f gen i = some x) := hrec
    obtain ⟨ao, cap, rfl⟩ := owns_form hat.own
    obtain ⟨-, -, -, c3, z3⟩ := hat.jr.cells
    by_cases hlt : l.length < 4
    case neg =>
      have HS : Hid (Parts wr.heap.size wr (.slice ao l.length cap) (D.scan f gen)) := by
        unfold Hid
        rw [scan_stop hcl hrec.out (.inl (by omega))]
        exact parts_of_own hat.own hat.rcs
      have hnw := hat.nw
      have hd : decide ((l.length : Int) < 4) = false := decide_eq_false (by omega)
      clear hat hrec hD hj0 hn0
      generalize l.length = ll at *
      go_wp2
      go_ret
      exact ⟨_, rfl, HS.out, hnw⟩
    have hd : decide ((l.length : Int) < 4) = true := decide_eq_true (by omega)
    obtain ⟨ll, hll⟩ : ∃ ll, Hid (l.length = ll) := ⟨_, rfl⟩
    rw [hll.out] at hd c3 hlt hcl hat ⊢
    go_wp2_with (go_at_call 37; refine stop_here ?_)
    unfold Hid
    refine (c_readRecord _ (hD.keep hat.nw (fun _ _ => id)) hat.jr (by rw [hll.out]; unfold headN; omega)).mono ?_
    rintro e W2 ⟨hn2, ⟨u, x, hxr, rfl, hfr, hxl⟩ | ⟨hxr, rfl⟩⟩
    case inr =>
      have HS : Hid (Parts W2.heap.size W2 (.slice ao ll cap) (D.scan f gen)) := by
        unfold Hid
        rw [scan_stop (by rw [hll.out]; omega) hrec.out (.inr hxr)]
        have := parts_of_own hat.own hat.rcs
        exact (this.keep (below_of_nw hn2)).mono hn2.size
      have hnw := hat.nw.trans hn2
      clear hat hrec hD hj0 hn0 hn2 hxr c3 z3
      go_wp2
      go_ret
      exact ⟨_, rfl, HS.out, hnw⟩
    have hsv : Sl W2.heap.size W2 u x.length (x.map bv) := Slp.slw hfr
    obtain ⟨ao2, cap2, rfl⟩ := sl_form hsv
    have hown2 := (owns_keep hat.own (below_of_nw hn2)).alloc (.cells #[.slice ao2 x.length cap2] 37)
    have hlit := sl_lit W2 #[.slice ao2 x.length cap2] 37 1 (by omega)
    have hsz : w.heap.size + 1 ≤ (W2.alloc (.cells #[.slice ao2 x.length cap2] 37)).heap.size := by
      have := heap_lt hat.jr.blk
      have := hn2.size
      simp
      omega
    have hstep := fun (W3 : World) (v3 : Value) (ho : W3.ownsRow (w.heap.size + 1) 37 1 v3 (l.length + 1) (cs ++ [.slice ao2 x.length cap2])) hg hv => hat.step (W3 := W3) (v3 := v3) (o := .cells #[.slice ao2 x.length cap2] 37) hn2 hfr hxl ho hg hv (by rw [hll.out]; exact hlt)
    have hstep : Hid _ := hstep
    have HR : Hid (∀ (i : Nat) (y : List UInt8), (l ++ [x])[i]? = some y → D.recAt f gen i = some y) := by
      intro i y hi
      by_cases hil : i < l.length
      · rw [List.getElem?_append_left hil] at hi
        exact hrec.out i y hi
      · rw [List.getElem?_append_right (by omega)] at hi
        have h0 : i - l.length = 0 := by
          have := (List.getElem?_eq_some_iff.1 hi).1
          simp at this
          omega
        rw [h0] at hi
        obtain rfl : x = y := by simpa using hi
        rw [show i = l.length by omega]
        exact hxr
    rw [hll.out] at hown2
    clear hat hrec hD hj0 hn0 hsv hxr
    go_wp2_with (at_builtin; refine wpList_append_sl _ rfl _ _ 51 rfl (w.heap.size + 1) 37 i0 (.slice none 0 0) 1 24 Try.underlying51 hi hz0 hz1 hz2 rfl (by decide) _ ll _ rfl hown2 _ _ 1 _ rfl hlit (by simp) (by simp [Value.oneCell']) (by unfold maxLen; omega) (by omega) hsz ?_; intro v3 W3 ho3 hg3 hv3; refine stop_here ?_)
    unfold Hid
    obtain ⟨hj3, hat3⟩ := hstep.out W3 v3 (by rw [hll.out]; exact ho3) hg3 hv3
    obtain ⟨ao3, cap3, rfl⟩ := owns_form ho3
    rw [hll.out] at hj3 hat3
    obtain ⟨-, -, -, d3, y3⟩ := hj3.cells
    clear hstep ho3 hg3 hv3 hown2 hlit hj3 c3 z3
    go_wp2
    go_roundw
    case rel => exact ⟨_, _, hat3, HR.out⟩
    case measure => simp [slN]; omega
end Go.Proofs.Ytihdhlciblkbiaa
