/-
  Package extent: Commit, Alloc, All.
-/
import Derived.Test.YtelobmdlnkkbkaaExtW3
namespace Go.Proofs.Ytelobmdlnkkbkaa
set_option linter.unusedVariables false
set_option linter.unusedSimpArgs false
set_option maxRecDepth 20000
open Go.RowKit

theorem layAll_snoc (xs : List UInt8) (es : List Ext) (k : Nat) (hk : k < es.length) (v : UInt8) : layAll xs (es.take (k + 1)) v = layx (layAll xs (es.take k) v) es[k].1 es[k].2 v := by
  unfold layAll
  rw [List.take_succ_eq_append_getElem hk, List.foldl_append]
  rfl

theorem layAll_length (xs : List UInt8) (es : List Ext) (v : UInt8) : (layAll xs es v).length = xs.length := (layAll_get v 0 es xs).1

set_option maxHeartbeats 1600000 in
theorem c_commit {b g : Nat} {xs : List UInt8} (w : World) (h : MapAt w b g xs) :
    Calls Try.prog 23 #[.pointer (some ⟨b, 0, none⟩)] w fun e w' => e = .returned (.tuple #[]) ∧ MapAt w' b g (commitX xs) ∧ Fr (fun k => k = g) w w' := by
  have hgl := h.lt.2
  have hn := h.n
  have hlen := runs_length 2 xs
  have hmem := runs_mem 2 xs
  have hfinal := layAll_commit xs
  go_enter Try.func23, Try.ntmps23
  go_wp2_with (go_at_call 28; refine (c_waiting _ h).mono ?_; rintro e w1 ⟨v, rfl, hr, hw⟩; refine stop_here ?_)
  unfold Hid
  obtain ⟨ao, cap, rfl⟩ := owns_form hr
  have hfinalH : Hid (layAll xs (runs 2 xs) 0 = commitX xs) := hfinal
  clear hfinal
  have hwH : Hid (Nw w w1) := hw
  have hmemH : Hid (∀ e ∈ runs 2 xs, 1 ≤ e.2 ∧ e.1 + e.2 ≤ xs.length ∧ ∀ i, Ins e i → xs[i]? = some 2) := hmem
  clear hmem
  generalize hes : runs 2 xs = es at *
  have hesH : Hid (runs 2 xs = es) := hes
  clear hes
  have hm1 := h.nw hw
  have hE1 := hr.esl
  have hcap : es.length ≤ cap ∧ cap ≤ 9223372036854775807 := by
    obtain ⟨a', c', e1, e2, e3⟩ := hE1.form
    simp only [Value.slice.injEq] at e1
    obtain ⟨rfl, _, rfl⟩ := e1
    exact ⟨e2, e3⟩
  obtain ⟨hcap1, hcap2⟩ := hcap
  clear hr
  go_wp2
  go_loopw [7] (fun i wr => ∃ k : Nat, k ≤ es.length ∧ i = .int .i64 k ∧ MapAt wr b g (layAll xs (es.take k) 0) ∧ Fr (fun q => q = g) w1 wr) (fun i _ => es.length - (intOf i).toNat)
  case atStart => exact ⟨0, Nat.zero_le _, rfl, hm1, Fr.refl _ _⟩
  case round =>
    obtain ⟨k, hk, rfl, hm, hf⟩ := hrel
    by_cases hlt : k < es.length
    · have hE : ESl (fun q => w.heap.size ≤ q) wr (.slice ao es.length cap) es := hE1.keep hf (fun q hq e => by omega) (fun _ hb _ => hb)
      obtain ⟨q, off, rfl, hXq, d0, d1⟩ := hE.get k hlt
      have hmk := hmemH.out es[k] (List.getElem_mem hlt)
      have hst := layAll_snoc xs es k hlt 0
      have hle := layAll_length xs (es.take k) 0
      have hm2 := hm.nw ((Fr.refl _ wr).alloc (.cells #[.int .i64 (es[k].1 : Int), .int .i64 (es[k].2 : Int)] 34))
      have hc := c_lay _ hm2 es[k].1 es[k].2 0 (by omega)
      rw [← hst] at hc
      clear hst hE hmk hle
      generalize es[k] = ek at *
      unfold ext at hc
      go_wp2_with (go_at_call 31; refine hc.mono ?_; rintro e w3 ⟨rfl, hm3, hf3⟩)
      have hf4 : Fr (fun q => q = g) w1 w3 := (hf.alloc _).trans hf3 (fun i hi => .inl hi)
      go_roundw
      case rel => exact ⟨k + 1, by omega, by go_num, hm3, hf4⟩
      case measure => simp [intOf]; omega
    · go_wp2
      go_end0
      rw [List.take_of_length_le (by omega), hfinalH.out] at hm
      exact ⟨rfl, hm, Fr.trans (hwH.out.mono (fun _ => False.elim)) hf (fun i hi => .inl hi)⟩

/-! ### Alloc -/
def allocE (xs : List UInt8) (n : Int) : Int := if n < 1 then 72 else if xs.count 0 = 0 then 73 else 0
def allocV (xs : List UInt8) (n : Int) : Ext := if n < 1 then (0, 0) else pick xs n.toNat
def allocM (xs : List UInt8) (n : Int) : List UInt8 := if n < 1 then xs else allocX xs n.toNat

/-- The result's variable. -/
structure ResE (w wr : World) : Prop where
  var : wr.heap[w.heap.size]? = some (.cells #[.int .i64 0, .int .i64 0] 34 (0, 0))

theorem ResE.ret {w wr : World} {g : Nat} (h : ResE w wr) (hf : Fr (fun k => k = g) w wr) (x y : Int) :
    ((wr.setCell ⟨w.heap.size, 0, none⟩ (.int .i64 x)).setCell ⟨w.heap.size, 1, none⟩ (.int .i64 y)).heap[w.heap.size]? = some (.cells #[.int .i64 x, .int .i64 y] 34 (0, 0)) ∧
    Fr (fun k => k = g) w ((wr.setCell ⟨w.heap.size, 0, none⟩ (.int .i64 x)).setCell ⟨w.heap.size, 1, none⟩ (.int .i64 y)) ∧
    ∀ b xs, g < w.heap.size → b < w.heap.size → MapAt wr b g xs → MapAt ((wr.setCell ⟨w.heap.size, 0, none⟩ (.int .i64 x)).setCell ⟨w.heap.size, 1, none⟩ (.int .i64 y)) b g xs := by
  refine ⟨?_, (hf.setCell (p := ⟨w.heap.size, 0, none⟩) (.inr (Nat.le_refl _)) _).setCell (p := ⟨w.heap.size, 1, none⟩) (.inr (Nat.le_refl _)) _, fun b xs hg hb hm => ?_⟩
  · rw [blk_setCell (blk_setCell h.var)]
    rfl
  · have f1 : Fr (fun k => k = w.heap.size) wr ((wr.setCell ⟨w.heap.size, 0, none⟩ (.int .i64 x)).setCell ⟨w.heap.size, 1, none⟩ (.int .i64 y)) :=
      ((Fr.refl (fun k => k = w.heap.size) wr).setCell (p := ⟨w.heap.size, 0, none⟩) (.inl rfl) _).setCell (p := ⟨w.heap.size, 1, none⟩) (.inl rfl) _
    exact hm.keep f1 (by omega) (by omega)

theorem runs_small {c : UInt8} {xs : List UInt8} (hn : xs.length ≤ 1024) : ∀ e ∈ runs c xs, e.1 ≤ 1024 ∧ e.2 ≤ 1024 := fun e he => by
  have := runs_mem c xs e he
  omega

set_option maxHeartbeats 1600000 in
theorem c_alloc {b g : Nat} {xs : List UInt8} (w : World) (h : MapAt w b g xs) (n : Int) (hn2 : n ≤ 9223372036854775807) :
    Calls Try.prog 13 #[.pointer (some ⟨b, 0, none⟩), .int .i64 n] w fun e w' => e = .returned (.tuple #[ext (allocV xs n).1 (allocV xs n).2, .int .i64 (allocE xs n)]) ∧ MapAt w' b g (allocM xs n) ∧ Fr (fun k => k = g) w w' := by
  obtain ⟨hbl, hgl⟩ := h.lt
  have hn := h.n
  have hR0 : ResE w (w.alloc (.cells #[.int .i64 0, .int .i64 0] 34)) := ⟨heap_alloc_new w _⟩
  have hm0 := h.nw ((Fr.refl _ w).alloc (.cells #[.int .i64 0, .int .i64 0] 34))
  have hf0 : Fr (fun k => k = g) w (w.alloc (.cells #[.int .i64 0, .int .i64 0] 34)) := (Fr.refl _ w).alloc _
  by_cases hn1 : n < 1
  · have e1 : allocE xs n = 72 := by unfold allocE; rw [if_pos hn1]
    have e2 : allocV xs n = (0, 0) := by unfold allocV; rw [if_pos hn1]
    have e3 : allocM xs n = xs := by unfold allocM; rw [if_pos hn1]
    rw [e1, e2, e3]
    clear e1 e2 e3
    go_enter Try.func13, Try.ntmps13
    go_wp2
    refine bodyPost_ret (results_cell2 rfl _ w.heap.size _ _ rfl rfl (range_all hR0.var) Try.rowE (sizeE 0 0)) rfl ?_
    exact ⟨rfl, hm0, hf0⟩
  · obtain ⟨n, rfl⟩ : ∃ n' : Nat, n = (n' : Int) := ⟨n.toNat, by omega⟩
    have hn1' : 1 ≤ n := by omega
    have e2 : allocV xs n = pick xs n := by unfold allocV; rw [if_neg hn1]; simp
    have e3 : allocM xs n = layx xs (pick xs n).1 (pick xs n).2 1 := by unfold allocM; rw [if_neg hn1]; simp [allocX]
    rw [e2, e3]
    clear e2 e3
    have hsm := runs_small (c := 0) hn
    have hrl := runs_length 0 xs
    have hsz0 : (w.alloc (.cells #[.int .i64 0, .int .i64 0] 34)).heap.size = w.heap.size + 1 := by simp
    by_cases hc0 : xs.count 0 = 0
    · have e1 : allocE xs n = 73 := by unfold allocE; rw [if_neg hn1, if_pos hc0]
      have e2 := pick_none n hc0
      rw [e1, e2]
      have e2H : Hid (choose n (runs 0 xs) (0, 0) = (0, 0)) := e2
      clear e1 e2 hc0
      go_enter Try.func13, Try.ntmps13
      go_wp2_with (first
        | (go_at_call 11; refine (c_list _ hm0).mono ?_; rintro e w1 ⟨v, rfl, hr, hw1⟩)
        | (go_at_call 30; refine (c_choose _ hr.esl hn1' (by omega) hsm (by omega)).mono ?_; rw [e2H.out]; rintro e w2 ⟨rfl, hw2⟩; unfold ext; refine stop_here ?_))
      unfold Hid
      have hR2 : ResE w w2 := ⟨((nw_trans hw1 hw2).block _ (heap_lt hR0.var) id).trans hR0.var⟩
      have hf2 : Fr (fun k => k = g) w w2 := hf0.trans ((nw_trans hw1 hw2).mono (fun _ => False.elim)) (fun i hi => .inl hi)
      have hm2 := hm0.nw (nw_trans hw1 hw2)
      have hlt := heap_lt hR2.var
      have a0 : w2.cell? ⟨w.heap.size, 0, none⟩ = some (.int .i64 0) := cell_blk hR2.var rfl
      have a1 : w2.cell? ⟨w.heap.size, 1, none⟩ = some (.int .i64 0) := cell_blk hR2.var rfl
      have af : ∀ i, w2.frozen? ⟨w.heap.size, i, none⟩ = false := fun i => free_blk hR2.var
      obtain ⟨r1, r2, r3⟩ := hR2.ret hf2 0 0
      have r3 := r3 b xs hgl hbl hm2
      clear hw1 hw2 hR0 hm0 hf0 hr
      go_wp2
      refine bodyPost_ret (results_cell2 rfl _ w.heap.size _ _ rfl rfl (range_all ((Below.heap_alloc _ _ _ (heap_lt r1)).trans r1)) Try.rowE (sizeE 0 0)) rfl ?_
      exact ⟨rfl, r3.nw ((Fr.refl _ _).alloc _), r2.alloc _⟩
    · have e1 : allocE xs n = 0 := by unfold allocE; rw [if_neg hn1, if_neg hc0]
      rw [e1]
      obtain ⟨p1, p2, p3, p4⟩ := pick_some hn1' (by omega : 0 < xs.count 0)
      clear e1 hc0 p4
      have e2H : Hid (choose n (runs 0 xs) (0, 0) = pick xs n) := rfl
      generalize pick xs n = p at *
      have hp0 : (((p.2 : Int) == 0) : Bool) = false := by simp; omega
      go_enter Try.func13, Try.ntmps13
      go_wp2_with (first
        | (go_at_call 11; refine (c_list _ hm0).mono ?_; rintro e w1 ⟨v, rfl, hr, hw1⟩)
        | (go_at_call 30; refine (c_choose _ hr.esl hn1' (by omega) hsm (by omega)).mono ?_; rw [e2H.out]; rintro e w2 ⟨rfl, hw2⟩; unfold ext; refine stop_here ?_))
      unfold Hid
      have hR2 : ResE w w2 := ⟨((nw_trans hw1 hw2).block _ (heap_lt hR0.var) id).trans hR0.var⟩
      have hf2 : Fr (fun k => k = g) w w2 := hf0.trans ((nw_trans hw1 hw2).mono (fun _ => False.elim)) (fun i hi => .inl hi)
      have hm2 := hm0.nw (nw_trans hw1 hw2)
      have hlt := heap_lt hR2.var
      have hm3 := hm2.nw ((Fr.refl _ w2).alloc (.cells #[.int .i64 (p.1 : Int), .int .i64 (p.2 : Int)] 34))
      have hlay := c_lay _ hm3 p.1 p.2 1 p3
      unfold ext at hlay
      clear hw1 hw2 hR0 hm0 hf0 hr
      go_wp2_with (go_at_call 31; refine hlay.mono ?_; rintro e w3 ⟨rfl, hm4, hf4⟩; refine stop_here ?_)
      unfold Hid
      have hb2 : w3.heap[w2.heap.size]? = some (.cells #[.int .i64 (p.1 : Int), .int .i64 (p.2 : Int)] 34 (0, 0)) := (hf4.block _ (by simp) (by omega)).trans (heap_alloc_new w2 _)
      have hR4 : ResE w w3 := ⟨(hf4.block _ (by simp; omega) (by omega)).trans ((Below.heap_alloc _ _ _ hlt).trans hR2.var)⟩
      have hf5 : Fr (fun k => k = g) w w3 := (hf2.alloc _).trans hf4 (fun i hi => .inl hi)
      have b0 : w3.cell? ⟨w2.heap.size, 0, none⟩ = some (.int .i64 (p.1 : Int)) := cell_blk hb2 rfl
      have b1 : w3.cell? ⟨w2.heap.size, 1, none⟩ = some (.int .i64 (p.2 : Int)) := cell_blk hb2 rfl
      have a0 : w3.cell? ⟨w.heap.size, 0, none⟩ = some (.int .i64 0) := cell_blk hR4.var rfl
      have a1 : w3.cell? ⟨w.heap.size, 1, none⟩ = some (.int .i64 0) := cell_blk hR4.var rfl
      have af : ∀ i, w3.frozen? ⟨w.heap.size, i, none⟩ = false := fun i => free_blk hR4.var
      obtain ⟨r1, r2, r3⟩ := hR4.ret hf5 (p.1 : Int) (p.2 : Int)
      have r3 := r3 b _ hgl hbl hm4
      clear hf4 hm4 hR4 hf5 hb2 hlay hm3
      go_wp2
      refine bodyPost_ret (results_cell2 rfl _ w.heap.size _ _ rfl rfl (range_all r1) Try.rowE (sizeE _ _)) rfl ?_
      exact ⟨rfl, r3, r2⟩

/-! ### All -/
def allE (xs : List UInt8) (n : Int) : Int := if (xs.count 0 : Int) < n then 73 else 0
def allV (xs : List UInt8) (n : Int) : List Ext := if (xs.count 0 : Int) < n then [] else (allX xs n.toNat).1
def allM (xs : List UInt8) (n : Int) : List UInt8 := if (xs.count 0 : Int) < n then xs else (allX xs n.toNat).2

/-- How far All has come. -/
structure AllAt (xs : List UInt8) (n0 : Nat) (ys : List UInt8) (got : List Ext) (n : Nat) : Prop where
  go : ∃ f, n ≤ f ∧ (allX xs n0).1 = got ++ (allF f ys n).1 ∧ (allX xs n0).2 = (allF f ys n).2
  cnt : n ≤ ys.count 0
  len : ys.length = xs.length
  sum : total got + n = n0
  pos : ∀ e ∈ got, 1 ≤ e.2

theorem allAt_start (xs : List UInt8) (n : Nat) (h : n ≤ xs.count 0) : AllAt xs n xs [] n := ⟨⟨n, Nat.le_refl _, rfl, rfl⟩, h, rfl, by simp [total], by simp⟩

theorem AllAt.step {xs ys : List UInt8} {n0 n : Nat} {got : List Ext} (h : AllAt xs n0 ys got n) (hn : 1 ≤ n) : AllAt xs n0 (allocX ys n) (got ++ [pick ys n]) (n - (pick ys n).2) := by
  obtain ⟨f, hf, h1, h2⟩ := h.go
  obtain ⟨g, rfl, hg, e⟩ := allF_step f ys n hn hf h.cnt
  have hc := h.cnt
  obtain ⟨p1, p2, p3, p4⟩ := pick_some hn (by omega : 0 < ys.count 0)
  obtain ⟨c1, c2, c3⟩ := allocX_count hn (by omega : 0 < ys.count 0)
  refine ⟨⟨g, hg, by rw [h1, e]; simp, by rw [h2, e]⟩, by omega, by rw [allocX_length, h.len], ?_, ?_⟩
  · rw [total_append, total_one]; have := h.sum; omega
  · intro x hx
    rcases List.mem_append.1 hx with hx | hx
    · exact h.pos x hx
    · simp at hx; subst hx; exact p1

theorem AllAt.done {xs ys : List UInt8} {n0 : Nat} {got : List Ext} (h : AllAt xs n0 ys got 0) : (allX xs n0).1 = got ∧ (allX xs n0).2 = ys := by
  obtain ⟨f, hf, h1, h2⟩ := h.go
  rw [allF_zero] at h1 h2
  exact ⟨by simpa using h1, h2⟩

theorem AllAt.small {xs ys : List UInt8} {n0 n : Nat} {got : List Ext} (h : AllAt xs n0 ys got n) (h0 : n0 ≤ xs.length) : got.length ≤ xs.length := by
  have := length_le_total got h.pos
  have := h.sum
  omega

set_option maxHeartbeats 1600000 in
theorem c_all {b g : Nat} {xs : List UInt8} (w : World) (h : MapAt w b g xs) (n : Int) (hn2 : n ≤ 9223372036854775807) :
    Calls Try.prog 15 #[.pointer (some ⟨b, 0, none⟩), .int .i64 n] w fun e w' => ∃ v, e = .returned (.tuple #[v, .int .i64 (allE xs n)]) ∧ Row w.heap.size w' v (allV xs n) ∧ MapAt w' b g (allM xs n) ∧ Fr (fun k => k = g) w w' := by
  obtain ⟨i0, hj, hj0, hj1, hj2⟩ := info_parts3 Try.infoE
  obtain ⟨hbl, hgl⟩ := h.lt
  have hxl := h.n
  have hcl : xs.count 0 ≤ xs.length := List.count_le_length
  obtain ⟨q, hq⟩ : ∃ q : Nat, Hid (xs.count 0 = q) := ⟨_, rfl⟩
  have hq' := hq.out
  by_cases hgt : (xs.count 0 : Int) < n
  · have e1 : allE xs n = 73 := by unfold allE; rw [if_pos hgt]
    have e2 : allV xs n = [] := by unfold allV; rw [if_pos hgt]
    have e3 : allM xs n = xs := by unfold allM; rw [if_pos hgt]
    rw [e1, e2, e3]
    rw [hq'] at hgt
    clear e1 e2 e3 hq' hcl
    go_enter Try.func15, Try.ntmps15
    go_wp2_with (go_at_call 10; refine (c_count _ h).mono ?_; rw [hq.out]; rintro e w' ⟨rfl, rfl⟩)
    go_ret2
    exact ⟨_, rfl, Row.nil _ _, h, Fr.refl _ _⟩
  · have e1 : allE xs n = 0 := by unfold allE; rw [if_neg hgt]
    have e2 : allV xs n = (allX xs n.toNat).1 := by unfold allV; rw [if_neg hgt]
    have e3 : allM xs n = (allX xs n.toNat).2 := by unfold allM; rw [if_neg hgt]
    rw [e1, e2, e3]
    have hst := allAt_start xs n.toNat (by omega)
    have hn0 : n.toNat ≤ xs.length := by omega
    rw [hq'] at hgt
    have hqx : q ≤ 1024 := by omega
    clear e1 e2 e3 hq'
    generalize hm : n.toNat = m at *
    have hmH : Hid (n.toNat = m) := hm
    clear hm
    go_enter Try.func15, Try.ntmps15
    go_wp2_with (go_at_call 10; refine (c_count _ h).mono ?_; rw [hq.out]; rintro e w' ⟨rfl, rfl⟩)
    go_loopw [1, 6] (fun t o wr => ∃ (k : Int) (ys : List UInt8) (got : List Ext), t = .int .i64 k ∧ k ≤ 1024 ∧ Row w.heap.size wr o got ∧ MapAt wr b g ys ∧ Fr (fun q => q = g) w wr ∧ AllAt xs m ys got k.toNat) (fun t _ _ => (intOf t).toNat)
    case atStart => exact ⟨n, xs, [], rfl, by omega, Row.nil _ _, h, Fr.refl _ _, by rw [hmH.out]; exact hst⟩
    case round =>
      clear hst
      obtain ⟨k, ys, got, rfl, hk, hr, hmp, hfr, hat⟩ := hrel
      by_cases hk0 : 0 < k
      · obtain ⟨k, rfl⟩ : ∃ k' : Nat, k = (k' : Int) := ⟨k.toNat, by omega⟩
        simp only [Int.toNat_natCast] at hat
        have hk1 : 1 ≤ k := by omega
        have hgl2 := hat.small hn0
        obtain ⟨p1, p2, p3, p4⟩ := pick_some hk1 (by have := hat.cnt; omega : 0 < ys.count 0)
        have hst := hat.step hk1
        have hal := c_alloc wr hmp k (by omega)
        have e2 : allocV ys k = pick ys k := by unfold allocV; rw [if_neg (by omega)]; simp
        have e3 : allocM ys k = allocX ys k := by unfold allocM; rw [if_neg (by omega)]; simp
        rw [e2, e3] at hal
        obtain ⟨ec, hec⟩ : ∃ ec, Hid (allocE ys k = ec) := ⟨_, rfl⟩
        rw [hec.out] at hal
        clear e2 e3 p4 hat hec
        generalize pick ys k = p at *
        unfold ext at hal
        go_wp2_with (go_at_call 13; refine hal.mono ?_; rintro e w3 ⟨rfl, hm3, hf3⟩; refine stop_here ?_)
        unfold Hid
        have hr3 := (hr.keep hf3 (fun q hq _ e => by omega)).keep (T := fun _ => False) ((Fr.refl _ w3).alloc (.cells #[.int .i64 (p.1 : Int), .int .i64 (p.2 : Int)] 34)) (fun _ _ _ => id)
        have hr4 := World.ownsRow.alloc hr3 (.cells #[.int .i64 (p.1 : Int), .int .i64 (p.2 : Int)] 34)
        have hfz := hfr.trans hf3 (fun i hi => .inl hi)
        have hsz := hfz.size
        have hml := hm3.lt
        have hb3 : ((w3.alloc (.cells #[.int .i64 (p.1 : Int), .int .i64 (p.2 : Int)] 34)).alloc (.cells #[.int .i64 (p.1 : Int), .int .i64 (p.2 : Int)] 34)).heap[w3.heap.size]? = some (.cells #[.int .i64 (p.1 : Int), .int .i64 (p.2 : Int)] 34 (0, 0)) := heap_alloc2_old w3 _ _
        obtain ⟨ao, cap, rfl⟩ := owns_form hr
        have hfin : ∀ v9 w9, w9.ownsRow w.heap.size 34 2 v9 (got.length + 1) (ecells got ++ [.int .i64 (p.1 : Int), .int .i64 (p.2 : Int)]) → ((w3.alloc (.cells #[.int .i64 (p.1 : Int), .int .i64 (p.2 : Int)] 34)).alloc (.cells #[.int .i64 (p.1 : Int), .int .i64 (p.2 : Int)] 34)).grownBy w9 (Value.ownBlock (.slice ao got.length cap)) →
            Row w.heap.size w9 v9 (got ++ [p]) ∧ MapAt w9 b g (allocX ys k) ∧ Fr (fun q => q = g) w w9 ∧ w9.cell? ⟨w3.heap.size, 1, none⟩ = some (.int .i64 (p.2 : Int)) := by
          intro v9 w9 h1 h2
          have hlr : ∀ q, Value.ownBlock (.slice ao got.length cap) = some q → w.heap.size ≤ q ∧ q < wr.heap.size := fun q hq => hr.lt q hq
          have hwr3 := hf3.size
          refine ⟨?_, ?_, ((hfz.alloc _).alloc _).grown h2 (fun q hq => .inr (hlr q hq).1), ?_⟩
          · unfold Row
            rw [ecells_append, ecells_one]
            simpa [ecell] using h1
          · have hm4 := (hm3.nw ((Fr.refl _ w3).alloc (.cells #[.int .i64 (p.1 : Int), .int .i64 (p.2 : Int)] 34))).nw ((Fr.refl _ _).alloc (.cells #[.int .i64 (p.1 : Int), .int .i64 (p.2 : Int)] 34))
            have hb1 : some b ≠ Value.ownBlock (.slice ao got.length cap) := fun e => by have := hlr b e.symm; omega
            have hg1 : some g ≠ Value.ownBlock (.slice ao got.length cap) := fun e => by have := hlr g e.symm; omega
            exact ⟨(h2.block b (by simp; omega) hb1).trans hm4.obj, (h2.block g (by simp; omega) hg1).trans hm4.st, hm4.n⟩
          · exact cell_blk ((h2.block w3.heap.size (by simp; omega) (fun e => by have := hlr _ e.symm; omega)).trans hb3) rfl
        have hfinH : Hid _ := hfin
        clear hfin hr hr3 hf3 hal hmp hfr hfz hb3 hm3 hml
        generalize ecells got = cs at *
        generalize hgl : got.length = len at *
        have hgl : Hid (got.length = len) := hgl
        go_wp2_with (at_builtin; refine wpList_append_sl _ rfl _ _ 26 rfl w.heap.size 34 i0 _ 2 16 Try.underlying26 hj hj0 hj1 hj2 rfl (by decide) _ _ _ rfl hr4 _ _ 1 _ rfl (sl_litN (w3.alloc (.cells #[.int .i64 (p.1 : Int), .int .i64 (p.2 : Int)] 34)) _ 34 1 (w3.heap.size + 1) (by simp) (by omega)) rfl ?d1 ?d2 ?d3 ?d4 ?_)
        case d1 => first | (intro u hu; simp at hu; rcases hu with rfl | rfl <;> rfl) | simp [Value.oneCell']
        case d2 => unfold maxLen; omega
        case d3 => omega
        case d4 => simp; omega
        intro v9 w9 hown9 hgrow9 hat9
        obtain ⟨f1, f2, f3, f4⟩ := hfinH.out v9 w9 hown9 hgrow9
        clear hfinH hown9 hgrow9 hat9
        go_wp2
        go_roundw
        case rel => exact ⟨(k : Int) - (p.2 : Int), _, _, rfl, by omega, f1, f2, f3, by rw [show ((k : Int) - (p.2 : Int)).toNat = k - p.2 by omega]; exact hst⟩
        case measure => simp [intOf]; omega
      · have hz : k.toNat = 0 := by omega
        rw [hz] at hat
        clear hz
        go_wp2
        go_ret2
        obtain ⟨z1, z2⟩ := hat.done
        rw [z1, z2]
        exact ⟨_, rfl, hr, hmp, hfr⟩
end Go.Proofs.Ytelobmdlnkkbkaa
