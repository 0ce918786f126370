/-
  Package label: walk, for either of the closures that are handed to it.
-/
import Derived.Test.YtimgelekpghklaaLabD4
namespace Go.Proofs.Ytimgelekpghklaa
set_option linter.unusedVariables false
set_option linter.unusedSimpArgs false
set_option maxRecDepth 20000
open Go.RowKit

def lenV : Value → Nat
  | .slice _ n _ => n
  | _ => 0

theorem CSl.len {X : Nat → Prop} {w : World} {v : Value} {es : List Cat} (h : CSl X w v es) : lenV v = es.length := by
  obtain ⟨ao, cap, rfl, _⟩ := h.form
  rfl

set_option maxHeartbeats 3200000 in
theorem c_walkH {X : Nat → Prop} {va vb : Value} {xa xb : List Cat} (I : Nat → List Vs → World → Prop) (p1 p2 V : Nat) (da db : Int) (w : World) (ha : CSl X w va xa) (hb : CSl X w vb xb) (hX : ∀ b, X b → b ≠ V) (hV : V < w.heap.size) (la : xa.length ≤ 8796093022208) (lb : xb.length ≤ 8796093022208)
    (hI0 : ∀ w', Nw w w' → I w'.heap.size [] w') (hIn : ∀ S D w1 w2, I S D w1 → Nw w1 w2 → I S D w2)
    (hv : ∀ S D id x y w1, I S D w1 → w.heap.size ≤ S → S ≤ w1.heap.size → D.length < xa.length + xb.length → Calls Try.prog 54 #[.int .u64 id, .int .i64 x, .int .i64 y, .pointer (some ⟨p1, 0, none⟩), .pointer (some ⟨p2, 0, none⟩)] w1 fun e w2 => e = .returned (.tuple #[]) ∧ I S (D ++ [(id, x, y)]) w2 ∧ Fr (fun k => k = V ∨ S ≤ k) w1 w2) :
    Calls Try.prog 50 #[labV da va, labV db vb, .func (.func 54) #[] #[.pointer (some ⟨p1, 0, none⟩), .pointer (some ⟨p2, 0, none⟩)]] w fun e w' => e = .returned (.tuple #[]) ∧ ∃ S D, w.heap.size ≤ S ∧ S ≤ w'.heap.size ∧ I S D w' ∧ Vis da db (lev da xa) (lev db xb) D ∧ D.length ≤ xa.length + xb.length ∧ Fr (fun k => k = V ∨ w.heap.size ≤ k) w w' := by
  unfold labV
  replace hI0 : Hid _ := hI0
  replace hIn : Hid _ := hIn
  replace hv : Hid _ := hv
  obtain ⟨aa, ac, rfl, ha1, ha2⟩ := ha.form
  obtain ⟨ba, bc, rfl, hb1, hb2⟩ := hb.form
  have hB1 : ((w.alloc (.cells #[.int .i64 da, .slice aa xa.length ac] 24)).alloc (.cells #[.int .i64 db, .slice ba xb.length bc] 24)).heap[w.heap.size]? = some (.cells #[.int .i64 da, .slice aa xa.length ac] 24 (0, 0)) := heap_alloc2_old w _ _
  have hB2 : ((w.alloc (.cells #[.int .i64 da, .slice aa xa.length ac] 24)).alloc (.cells #[.int .i64 db, .slice ba xb.length bc] 24)).heap[w.heap.size + 1]? = some (.cells #[.int .i64 db, .slice ba xb.length bc] 24 (0, 0)) := heap_alloc2_new w _ _
  have hnw : Nw w ((w.alloc (.cells #[.int .i64 da, .slice aa xa.length ac] 24)).alloc (.cells #[.int .i64 db, .slice ba xb.length bc] 24)) := nw_alloc (nw_alloc (nw_refl w) _) _
  have haW := ha.nw hnw
  have hbW := hb.nw hnw
  go_enter Try.func50, Try.ntmps50
  go_upto_region 1 with fail
  generalize (w.alloc (.cells #[.int .i64 da, .slice aa xa.length ac] 24)).alloc (.cells #[.int .i64 db, .slice ba xb.length bc] 24) = W at *
  have hS : (fun w' : World => w'.heap[w.heap.size]? = some (.cells #[.int .i64 da, .slice aa xa.length ac] 24 (0, 0)) ∧ w'.heap[w.heap.size + 1]? = some (.cells #[.int .i64 db, .slice ba xb.length bc] 24 (0, 0))) W.drew := ⟨hB1, hB2⟩
  refine wp_region_ord [] 4 [(0, true), (2, true), (1, false), (3, false)] (fun w' : World => w'.heap[w.heap.size]? = some (.cells #[.int .i64 da, .slice aa xa.length ac] 24 (0, 0)) ∧ w'.heap[w.heap.size + 1]? = some (.cells #[.int .i64 db, .slice ba xb.length bc] 24 (0, 0))) (by kernel_rfl) (by kernel_rfl) ?_
  refine ord_quietL _ ?_ rfl hS rfl ?_ ?_
  rotate_left
  · rintro w' ⟨q1, q2⟩
    have c0 : w'.cell? ⟨w.heap.size, 0, none⟩ = some (.int .i64 da) := cell_blk q1 rfl
    have c1 : w'.cell? ⟨w.heap.size, 1, none⟩ = some (.slice aa xa.length ac) := cell_blk q1 rfl
    go_simp; rfl
  simp only [Act.put, List.setIfInBounds_toArray, List.set_cons_zero, List.set_cons_succ]
  refine ord_quietL _ ?_ rfl hS rfl ?_ ?_
  rotate_left
  · rintro w' ⟨q1, q2⟩
    have c0 : w'.cell? ⟨w.heap.size + 1, 0, none⟩ = some (.int .i64 db) := cell_blk q2 rfl
    have c1 : w'.cell? ⟨w.heap.size + 1, 1, none⟩ = some (.slice ba xb.length bc) := cell_blk q2 rfl
    go_simp; rfl
  simp only [Act.put, List.setIfInBounds_toArray, List.set_cons_zero, List.set_cons_succ]
  refine ord_actL _ rfl (fun K1 hK1 => ?_)
  have hnwd : Nw w W.drew := Fr.drew hnw
  have hcon : Hid _ := c_formed da W.drew (haW.nw (Fr.drew (Fr.refl _ W))) la
  have hWsz := hnw.size
  go_wp2_with (go_at_call 59; refine Calls.mono hcon.out ?_; rintro e W1 ⟨u1, fa, rfl, hfaS, hfa, hfaL, hfaN, hn1⟩)
  clear hcon
  have hB1a := (hn1.block _ (heap_lt hB1) (fun h => h)).trans hB1
  have hB2a := (hn1.block _ (heap_lt hB2) (fun h => h)).trans hB2
  refine hK1 _ _ ⟨hB1a, hB2a⟩ ?_
  clear hK1 K1
  refine ord_actL _ rfl (fun K1 hK1 => ?_)
  have hbW1 := hbW.nw (nw_drew hn1)
  have hcon : Hid _ := c_formed db W1 hbW1 lb
  go_wp2_with (go_at_call 59; refine Calls.mono hcon.out ?_; rintro e W2 ⟨u2, fb, rfl, hfbS, hfb, hfbL, hfbN, hn2⟩)
  clear hcon
  have hB1b := (hn2.block _ (heap_lt hB1a) (fun h => h)).trans hB1a
  have hB2b := (hn2.block _ (heap_lt hB2a) (fun h => h)).trans hB2a
  refine hK1 _ _ ⟨hB1b, hB2b⟩ ?_
  clear hK1 K1
  refine ord_tail ?_
  simp only [List.drop_succ_cons, List.drop_zero]
  have hnw2 : Nw w W2 := nw_trans (nw_trans hnwd hn1) hn2
  have hsz1 := Nat.le_trans hWsz (nw_drew hn1).size
  have hls : CSl (fun b => b ≠ V ∧ b < W2.heap.size) W2 u1 fa := (hfaS.nw hn2).mono (fun b hb hlt => ⟨by rcases hb with hb | hb; exact hX b hb; simp at hb; omega, hlt⟩)
  have hrs : CSl (fun b => b ≠ V ∧ b < W2.heap.size) W2 u2 fb := hfbS.mono (fun b hb hlt => ⟨by rcases hb with hb | hb; exact hX b hb; omega, hlt⟩)
  have hI := hI0.out W2 hnw2
  have hS0 := hnw2.size
  have hfr : Fr (fun k => k = V ∨ w.heap.size ≤ k) w W2 := fr_of_nw hnw2
  replace hfa : Hid _ := hfa
  replace hfb : Hid _ := hfb
  have hla : Hid _ := hfaN
  have hlb : Hid _ := hfbN
  have hvis : Hid (∀ D, Wk da db fa fb D [] [] → Vis da db (lev da xa) (lev db xb) D) := fun D h => by
    have h1 := h.vis
    have e1 : lev da fa = lev da xa := funext hfaL
    have e2 : lev db fb = lev db xb := funext hfbL
    rwa [e1, e2] at h1
  have hwk0 : Hid _ := Wk.start da db fa fb
  generalize hS0' : W2.heap.size = S0 at hls hrs hI hS0
  replace hS0' : Hid _ := hS0'
  clear hfaN hfbN hfaL hfbL hn1 hn2 hB1 hB2 hB1a hB2a hbW1 hbW haW hfaS hfbS ha hb hnw hnwd hI0 hS hWsz hsz1 hX hnw2
  have hle2 : S0 ≤ W2.heap.size := by rw [hS0'.out]; exact Nat.le_refl _
  have hlt0 : Hid (w.heap.size + 1 < S0) := by unfold Hid; rw [← hS0'.out]; exact heap_lt hB2b
  clear hS0'
  obtain ⟨xa1, xc1, rfl, _, _⟩ := hls.form
  obtain ⟨xa2, xc2, rfl, _, _⟩ := hrs.form
  go_wp2
  go_loopw [6, 7] (fun l r wr => ∃ (D : List Vs) (xs ys : List Cat), CSl (fun b => b ≠ V ∧ b < S0) wr l xs ∧ CSl (fun b => b ≠ V ∧ b < S0) wr r ys ∧ Hid (Wk da db fa fb D xs ys) ∧ I S0 D wr ∧ Fr (fun k => k = V ∨ w.heap.size ≤ k) w wr ∧ wr.heap[w.heap.size]? = some (.cells #[.int .i64 da, .slice aa xa.length ac] 24 (0, 0)) ∧ wr.heap[w.heap.size + 1]? = some (.cells #[.int .i64 db, .slice ba xb.length bc] 24 (0, 0)) ∧ S0 ≤ wr.heap.size) (fun l r _ => lenV l + lenV r)
  case atStart => exact ⟨[], fa, fb, hls, hrs, hwk0, hI, hfr, hB1b, hB2b, hle2⟩
  case round =>
    clear hls hrs hwk0 hI hfr hle2
    have hBs : w.heap.size + 1 < S0 := hlt0.out
    obtain ⟨D, xs, ys, hxs, hys, hwk, hI, hfr, hB1, hB2, hsz⟩ := hrel
    clear hB1b hB2b
    by_cases hx0 : 0 < xs.length
    · as_aux_lemma =>
        have hA := c_leastID wr hxs hys (by omega)
        have hlid : Hid _ := hA
        obtain ⟨la, lc, rfl, hl1, hl2⟩ := hxs.form
        obtain ⟨ra, rc, rfl, hr1, hr2⟩ := hys.form
        have hstep : Hid _ := hwk.out.step hfa.out.rs hfb.out.rs (by omega)
        have hless : Hid _ := hwk.out.less hfa.out.rs hfb.out.rs (by omega)
        have hDl : D.length < xa.length + xb.length := by have := hwk.out.len; have := hla.out; have := hlb.out; omega
        generalize lid xs ys = id at *
        clear hA
        go_wp2_with (go_at_call 60; refine Calls.mono hlid.out ?_; rintro e w1 ⟨rfl, hn1⟩; refine stop_here ?_)
        unfold Hid
        have hxs1 := hxs.nw hn1
        have hys1 := hys.nw hn1
        have hI1 := hIn.out _ _ _ _ hI hn1
        have hfr1 := fr_nw hfr hn1
        have hB1' := (hn1.block _ (heap_lt hB1) (fun h => h)).trans hB1
        have hB2' := (hn1.block _ (heap_lt hB2) (fun h => h)).trans hB2
        have hsz1 := Nat.le_trans hsz hn1.size
        clear hlid hn1 hxs hys hI hfr hB1 hB2 hsz
        have b1 : w1.cell? ⟨w.heap.size, 0, none⟩ = some (.int .i64 da) := cell_blk hB1' rfl
        have hcon : Hid _ := c_ahead da id w1 hxs1
        go_wp2_with (go_at_call 61; refine Calls.mono hcon.out ?_; rintro e w2 ⟨u2, rfl, hxs2, hn2⟩; refine stop_here ?_)
        unfold Hid
        clear b1 hcon hxs1
        have hys2 := hys1.nw hn2
        have hI2 := hIn.out _ _ _ _ hI1 hn2
        have hfr2 := fr_nw hfr1 hn2
        have hB1 := (hn2.block _ (heap_lt hB1') (fun h => h)).trans hB1'
        have hB2 := (hn2.block _ (heap_lt hB2') (fun h => h)).trans hB2'
        have hsz2 := Nat.le_trans hsz1 hn2.size
        clear hn2 hys1 hI1 hfr1 hB1' hB2' hsz1
        obtain ⟨ua, uc, rfl, _, _⟩ := hxs2.form
        have b2 : w2.cell? ⟨w.heap.size + 1, 0, none⟩ = some (.int .i64 db) := cell_blk hB2 rfl
        have hcon : Hid _ := c_ahead db id w2 hys2
        generalize hx : laV da xs id = x at *
        replace hx : Hid _ := hx
        go_wp2_with (go_at_call 61; refine Calls.mono hcon.out ?_; rintro e w3 ⟨u3, rfl, hys3, hn3⟩; refine stop_here ?_)
        unfold Hid
        clear b2 hcon hys2
        have hxs3 := hxs2.nw hn3
        have hI3 := hIn.out _ _ _ _ hI2 hn3
        have hfr3 := fr_nw hfr2 hn3
        have hB1' := (hn3.block _ (heap_lt hB1) (fun h => h)).trans hB1
        have hB2' := (hn3.block _ (heap_lt hB2) (fun h => h)).trans hB2
        have hsz3 := Nat.le_trans hsz2 hn3.size
        clear hn3 hxs2 hI2 hfr2 hB1 hB2 hsz2
        obtain ⟨va, vc, rfl, _, _⟩ := hys3.form
        generalize hy : laV db ys id = y at *
        replace hy : Hid _ := hy
        have hcon : Hid _ := hv.out S0 D id x y w3 hI3 hS0 hsz3 hDl
        go_wp2_with (go_at_call 54; refine Calls.mono hcon.out ?_; rintro e w4 ⟨rfl, hI4, hf4⟩; refine stop_here ?_)
        unfold Hid
        clear hcon hI3
        have hxs4 := hxs3.keep (X' := fun b => b ≠ V ∧ b < S0) hf4 (fun b hb _ h => by rcases h with h | h <;> omega) (fun b hb _ => hb)
        have hys4 := hys3.keep (X' := fun b => b ≠ V ∧ b < S0) hf4 (fun b hb _ h => by rcases h with h | h <;> omega) (fun b hb _ => hb)
        have hB1 := (hf4.block _ (heap_lt hB1') (by omega)).trans hB1'
        have hB2 := (hf4.block _ (heap_lt hB2') (by omega)).trans hB2'
        have hfr4 := hfr3.trans hf4 (fun k hk => hk.elim (fun h => .inl (.inl h)) (fun h => .inr (by omega)))
        have hsz4 := Nat.le_trans hsz3 hf4.size
        clear hf4 hxs3 hys3 hB1' hB2' hfr3 hsz3
        go_wp2
        go_roundw
        case rel => exact ⟨_, _, _, hxs4, hys4, hstep, hI4, hfr4, hB1, hB2, hsz4⟩
        case measure => exact hless.out
    · by_cases hy0 : 0 < ys.length
      · as_aux_lemma =>
          have hA := c_leastID wr hxs hys (by omega)
          have hlid : Hid _ := hA
          obtain ⟨la, lc, rfl, hl1, hl2⟩ := hxs.form
          obtain ⟨ra, rc, rfl, hr1, hr2⟩ := hys.form
          have hstep : Hid _ := hwk.out.step hfa.out.rs hfb.out.rs (by omega)
          have hless : Hid _ := hwk.out.less hfa.out.rs hfb.out.rs (by omega)
          have hDl : D.length < xa.length + xb.length := by have := hwk.out.len; have := hla.out; have := hlb.out; omega
          generalize lid xs ys = id at *
          clear hA
          go_wp2_with (go_at_call 60; refine Calls.mono hlid.out ?_; rintro e w1 ⟨rfl, hn1⟩; refine stop_here ?_)
          unfold Hid
          have hxs1 := hxs.nw hn1
          have hys1 := hys.nw hn1
          have hI1 := hIn.out _ _ _ _ hI hn1
          have hfr1 := fr_nw hfr hn1
          have hB1' := (hn1.block _ (heap_lt hB1) (fun h => h)).trans hB1
          have hB2' := (hn1.block _ (heap_lt hB2) (fun h => h)).trans hB2
          have hsz1 := Nat.le_trans hsz hn1.size
          clear hlid hn1 hxs hys hI hfr hB1 hB2 hsz
          have b1 : w1.cell? ⟨w.heap.size, 0, none⟩ = some (.int .i64 da) := cell_blk hB1' rfl
          have hcon : Hid _ := c_ahead da id w1 hxs1
          go_wp2_with (go_at_call 61; refine Calls.mono hcon.out ?_; rintro e w2 ⟨u2, rfl, hxs2, hn2⟩; refine stop_here ?_)
          unfold Hid
          clear b1 hcon hxs1
          have hys2 := hys1.nw hn2
          have hI2 := hIn.out _ _ _ _ hI1 hn2
          have hfr2 := fr_nw hfr1 hn2
          have hB1 := (hn2.block _ (heap_lt hB1') (fun h => h)).trans hB1'
          have hB2 := (hn2.block _ (heap_lt hB2') (fun h => h)).trans hB2'
          have hsz2 := Nat.le_trans hsz1 hn2.size
          clear hn2 hys1 hI1 hfr1 hB1' hB2' hsz1
          obtain ⟨ua, uc, rfl, _, _⟩ := hxs2.form
          have b2 : w2.cell? ⟨w.heap.size + 1, 0, none⟩ = some (.int .i64 db) := cell_blk hB2 rfl
          have hcon : Hid _ := c_ahead db id w2 hys2
          generalize hx : laV da xs id = x at *
          replace hx : Hid _ := hx
          go_wp2_with (go_at_call 61; refine Calls.mono hcon.out ?_; rintro e w3 ⟨u3, rfl, hys3, hn3⟩; refine stop_here ?_)
          unfold Hid
          clear b2 hcon hys2
          have hxs3 := hxs2.nw hn3
          have hI3 := hIn.out _ _ _ _ hI2 hn3
          have hfr3 := fr_nw hfr2 hn3
          have hB1' := (hn3.block _ (heap_lt hB1) (fun h => h)).trans hB1
          have hB2' := (hn3.block _ (heap_lt hB2) (fun h => h)).trans hB2
          have hsz3 := Nat.le_trans hsz2 hn3.size
          clear hn3 hxs2 hI2 hfr2 hB1 hB2 hsz2
          obtain ⟨va, vc, rfl, _, _⟩ := hys3.form
          generalize hy : laV db ys id = y at *
          replace hy : Hid _ := hy
          have hcon : Hid _ := hv.out S0 D id x y w3 hI3 hS0 hsz3 hDl
          go_wp2_with (go_at_call 54; refine Calls.mono hcon.out ?_; rintro e w4 ⟨rfl, hI4, hf4⟩; refine stop_here ?_)
          unfold Hid
          clear hcon hI3
          have hxs4 := hxs3.keep (X' := fun b => b ≠ V ∧ b < S0) hf4 (fun b hb _ h => by rcases h with h | h <;> omega) (fun b hb _ => hb)
          have hys4 := hys3.keep (X' := fun b => b ≠ V ∧ b < S0) hf4 (fun b hb _ h => by rcases h with h | h <;> omega) (fun b hb _ => hb)
          have hB1 := (hf4.block _ (heap_lt hB1') (by omega)).trans hB1'
          have hB2 := (hf4.block _ (heap_lt hB2') (by omega)).trans hB2'
          have hfr4 := hfr3.trans hf4 (fun k hk => hk.elim (fun h => .inl (.inl h)) (fun h => .inr (by omega)))
          have hsz4 := Nat.le_trans hsz3 hf4.size
          clear hf4 hxs3 hys3 hB1' hB2' hfr3 hsz3
          go_wp2
          go_roundw
          case rel => exact ⟨_, _, _, hxs4, hys4, hstep, hI4, hfr4, hB1, hB2, hsz4⟩
          case measure => exact hless.out
      · have ex : xs = [] := List.eq_nil_of_length_eq_zero (by omega)
        have ey : ys = [] := List.eq_nil_of_length_eq_zero (by omega)
        subst ex
        subst ey
        obtain ⟨la, lc, rfl, hl1, hl2⟩ := hxs.form
        obtain ⟨ra, rc, rfl, hr1, hr2⟩ := hys.form
        have hans : Hid (∃ S D, w.heap.size ≤ S ∧ S ≤ wr.heap.size ∧ I S D wr ∧ Vis da db (lev da xa) (lev db xb) D ∧ D.length ≤ xa.length + xb.length ∧ Fr (fun k => k = V ∨ w.heap.size ≤ k) w wr) := ⟨S0, D, hS0, hsz, hI, hvis.out D hwk.out, by have := hwk.out.len; have := hla.out; have := hlb.out; simp at *; omega, hfr⟩
        clear hxs hys hwk hI hfr hB1 hB2
        go_wp2
        go_end0
        exact ⟨rfl, hans.out⟩

set_option maxHeartbeats 3200000 in
theorem c_walkC {X : Nat → Prop} {va vb : Value} {xa xb : List Cat} (I : Nat → List Vs → World → Prop) (p1 p2 V : Nat) (da db : Int) (w : World) (ha : CSl X w va xa) (hb : CSl X w vb xb) (hX : ∀ b, X b → b ≠ V) (hV : V < w.heap.size) (la : xa.length ≤ 8796093022208) (lb : xb.length ≤ 8796093022208)
    (hI0 : ∀ w', Nw w w' → I w'.heap.size [] w') (hIn : ∀ S D w1 w2, I S D w1 → Nw w1 w2 → I S D w2)
    (hv : ∀ S D id x y w1, I S D w1 → w.heap.size ≤ S → S ≤ w1.heap.size → D.length < xa.length + xb.length → Calls Try.prog 51 #[.int .u64 id, .int .i64 x, .int .i64 y, .pointer (some ⟨p1, 0, none⟩), .pointer (some ⟨p2, 0, none⟩)] w1 fun e w2 => e = .returned (.tuple #[]) ∧ I S (D ++ [(id, x, y)]) w2 ∧ Fr (fun k => k = V ∨ S ≤ k) w1 w2) :
    Calls Try.prog 50 #[labV da va, labV db vb, .func (.func 51) #[] #[.pointer (some ⟨p1, 0, none⟩), .pointer (some ⟨p2, 0, none⟩)]] w fun e w' => e = .returned (.tuple #[]) ∧ ∃ S D, w.heap.size ≤ S ∧ S ≤ w'.heap.size ∧ I S D w' ∧ Vis da db (lev da xa) (lev db xb) D ∧ D.length ≤ xa.length + xb.length ∧ Fr (fun k => k = V ∨ w.heap.size ≤ k) w w' := by
  unfold labV
  replace hI0 : Hid _ := hI0
  replace hIn : Hid _ := hIn
  replace hv : Hid _ := hv
  obtain ⟨aa, ac, rfl, ha1, ha2⟩ := ha.form
  obtain ⟨ba, bc, rfl, hb1, hb2⟩ := hb.form
  have hB1 : ((w.alloc (.cells #[.int .i64 da, .slice aa xa.length ac] 24)).alloc (.cells #[.int .i64 db, .slice ba xb.length bc] 24)).heap[w.heap.size]? = some (.cells #[.int .i64 da, .slice aa xa.length ac] 24 (0, 0)) := heap_alloc2_old w _ _
  have hB2 : ((w.alloc (.cells #[.int .i64 da, .slice aa xa.length ac] 24)).alloc (.cells #[.int .i64 db, .slice ba xb.length bc] 24)).heap[w.heap.size + 1]? = some (.cells #[.int .i64 db, .slice ba xb.length bc] 24 (0, 0)) := heap_alloc2_new w _ _
  have hnw : Nw w ((w.alloc (.cells #[.int .i64 da, .slice aa xa.length ac] 24)).alloc (.cells #[.int .i64 db, .slice ba xb.length bc] 24)) := nw_alloc (nw_alloc (nw_refl w) _) _
  have haW := ha.nw hnw
  have hbW := hb.nw hnw
  go_enter Try.func50, Try.ntmps50
  go_upto_region 1 with fail
  generalize (w.alloc (.cells #[.int .i64 da, .slice aa xa.length ac] 24)).alloc (.cells #[.int .i64 db, .slice ba xb.length bc] 24) = W at *
  have hS : (fun w' : World => w'.heap[w.heap.size]? = some (.cells #[.int .i64 da, .slice aa xa.length ac] 24 (0, 0)) ∧ w'.heap[w.heap.size + 1]? = some (.cells #[.int .i64 db, .slice ba xb.length bc] 24 (0, 0))) W.drew := ⟨hB1, hB2⟩
  refine wp_region_ord [] 4 [(0, true), (2, true), (1, false), (3, false)] (fun w' : World => w'.heap[w.heap.size]? = some (.cells #[.int .i64 da, .slice aa xa.length ac] 24 (0, 0)) ∧ w'.heap[w.heap.size + 1]? = some (.cells #[.int .i64 db, .slice ba xb.length bc] 24 (0, 0))) (by kernel_rfl) (by kernel_rfl) ?_
  refine ord_quietL _ ?_ rfl hS rfl ?_ ?_
  rotate_left
  · rintro w' ⟨q1, q2⟩
    have c0 : w'.cell? ⟨w.heap.size, 0, none⟩ = some (.int .i64 da) := cell_blk q1 rfl
    have c1 : w'.cell? ⟨w.heap.size, 1, none⟩ = some (.slice aa xa.length ac) := cell_blk q1 rfl
    go_simp; rfl
  simp only [Act.put, List.setIfInBounds_toArray, List.set_cons_zero, List.set_cons_succ]
  refine ord_quietL _ ?_ rfl hS rfl ?_ ?_
  rotate_left
  · rintro w' ⟨q1, q2⟩
    have c0 : w'.cell? ⟨w.heap.size + 1, 0, none⟩ = some (.int .i64 db) := cell_blk q2 rfl
    have c1 : w'.cell? ⟨w.heap.size + 1, 1, none⟩ = some (.slice ba xb.length bc) := cell_blk q2 rfl
    go_simp; rfl
  simp only [Act.put, List.setIfInBounds_toArray, List.set_cons_zero, List.set_cons_succ]
  refine ord_actL _ rfl (fun K1 hK1 => ?_)
  have hnwd : Nw w W.drew := Fr.drew hnw
  have hcon : Hid _ := c_formed da W.drew (haW.nw (Fr.drew (Fr.refl _ W))) la
  have hWsz := hnw.size
  go_wp2_with (go_at_call 59; refine Calls.mono hcon.out ?_; rintro e W1 ⟨u1, fa, rfl, hfaS, hfa, hfaL, hfaN, hn1⟩)
  clear hcon
  have hB1a := (hn1.block _ (heap_lt hB1) (fun h => h)).trans hB1
  have hB2a := (hn1.block _ (heap_lt hB2) (fun h => h)).trans hB2
  refine hK1 _ _ ⟨hB1a, hB2a⟩ ?_
  clear hK1 K1
  refine ord_actL _ rfl (fun K1 hK1 => ?_)
  have hbW1 := hbW.nw (nw_drew hn1)
  have hcon : Hid _ := c_formed db W1 hbW1 lb
  go_wp2_with (go_at_call 59; refine Calls.mono hcon.out ?_; rintro e W2 ⟨u2, fb, rfl, hfbS, hfb, hfbL, hfbN, hn2⟩)
  clear hcon
  have hB1b := (hn2.block _ (heap_lt hB1a) (fun h => h)).trans hB1a
  have hB2b := (hn2.block _ (heap_lt hB2a) (fun h => h)).trans hB2a
  refine hK1 _ _ ⟨hB1b, hB2b⟩ ?_
  clear hK1 K1
  refine ord_tail ?_
  simp only [List.drop_succ_cons, List.drop_zero]
  have hnw2 : Nw w W2 := nw_trans (nw_trans hnwd hn1) hn2
  have hsz1 := Nat.le_trans hWsz (nw_drew hn1).size
  have hls : CSl (fun b => b ≠ V ∧ b < W2.heap.size) W2 u1 fa := (hfaS.nw hn2).mono (fun b hb hlt => ⟨by rcases hb with hb | hb; exact hX b hb; simp at hb; omega, hlt⟩)
  have hrs : CSl (fun b => b ≠ V ∧ b < W2.heap.size) W2 u2 fb := hfbS.mono (fun b hb hlt => ⟨by rcases hb with hb | hb; exact hX b hb; omega, hlt⟩)
  have hI := hI0.out W2 hnw2
  have hS0 := hnw2.size
  have hfr : Fr (fun k => k = V ∨ w.heap.size ≤ k) w W2 := fr_of_nw hnw2
  replace hfa : Hid _ := hfa
  replace hfb : Hid _ := hfb
  have hla : Hid _ := hfaN
  have hlb : Hid _ := hfbN
  have hvis : Hid (∀ D, Wk da db fa fb D [] [] → Vis da db (lev da xa) (lev db xb) D) := fun D h => by
    have h1 := h.vis
    have e1 : lev da fa = lev da xa := funext hfaL
    have e2 : lev db fb = lev db xb := funext hfbL
    rwa [e1, e2] at h1
  have hwk0 : Hid _ := Wk.start da db fa fb
  generalize hS0' : W2.heap.size = S0 at hls hrs hI hS0
  replace hS0' : Hid _ := hS0'
  clear hfaN hfbN hfaL hfbL hn1 hn2 hB1 hB2 hB1a hB2a hbW1 hbW haW hfaS hfbS ha hb hnw hnwd hI0 hS hWsz hsz1 hX hnw2
  have hle2 : S0 ≤ W2.heap.size := by rw [hS0'.out]; exact Nat.le_refl _
  have hlt0 : Hid (w.heap.size + 1 < S0) := by unfold Hid; rw [← hS0'.out]; exact heap_lt hB2b
  clear hS0'
  obtain ⟨xa1, xc1, rfl, _, _⟩ := hls.form
  obtain ⟨xa2, xc2, rfl, _, _⟩ := hrs.form
  go_wp2
  go_loopw [6, 7] (fun l r wr => ∃ (D : List Vs) (xs ys : List Cat), CSl (fun b => b ≠ V ∧ b < S0) wr l xs ∧ CSl (fun b => b ≠ V ∧ b < S0) wr r ys ∧ Hid (Wk da db fa fb D xs ys) ∧ I S0 D wr ∧ Fr (fun k => k = V ∨ w.heap.size ≤ k) w wr ∧ wr.heap[w.heap.size]? = some (.cells #[.int .i64 da, .slice aa xa.length ac] 24 (0, 0)) ∧ wr.heap[w.heap.size + 1]? = some (.cells #[.int .i64 db, .slice ba xb.length bc] 24 (0, 0)) ∧ S0 ≤ wr.heap.size) (fun l r _ => lenV l + lenV r)
  case atStart => exact ⟨[], fa, fb, hls, hrs, hwk0, hI, hfr, hB1b, hB2b, hle2⟩
  case round =>
    clear hls hrs hwk0 hI hfr hle2
    have hBs : w.heap.size + 1 < S0 := hlt0.out
    obtain ⟨D, xs, ys, hxs, hys, hwk, hI, hfr, hB1, hB2, hsz⟩ := hrel
    clear hB1b hB2b
    by_cases hx0 : 0 < xs.length
    · as_aux_lemma =>
        have hA := c_leastID wr hxs hys (by omega)
        have hlid : Hid _ := hA
        obtain ⟨la, lc, rfl, hl1, hl2⟩ := hxs.form
        obtain ⟨ra, rc, rfl, hr1, hr2⟩ := hys.form
        have hstep : Hid _ := hwk.out.step hfa.out.rs hfb.out.rs (by omega)
        have hless : Hid _ := hwk.out.less hfa.out.rs hfb.out.rs (by omega)
        have hDl : D.length < xa.length + xb.length := by have := hwk.out.len; have := hla.out; have := hlb.out; omega
        generalize lid xs ys = id at *
        clear hA
        go_wp2_with (go_at_call 60; refine Calls.mono hlid.out ?_; rintro e w1 ⟨rfl, hn1⟩; refine stop_here ?_)
        unfold Hid
        have hxs1 := hxs.nw hn1
        have hys1 := hys.nw hn1
        have hI1 := hIn.out _ _ _ _ hI hn1
        have hfr1 := fr_nw hfr hn1
        have hB1' := (hn1.block _ (heap_lt hB1) (fun h => h)).trans hB1
        have hB2' := (hn1.block _ (heap_lt hB2) (fun h => h)).trans hB2
        have hsz1 := Nat.le_trans hsz hn1.size
        clear hlid hn1 hxs hys hI hfr hB1 hB2 hsz
        have b1 : w1.cell? ⟨w.heap.size, 0, none⟩ = some (.int .i64 da) := cell_blk hB1' rfl
        have hcon : Hid _ := c_ahead da id w1 hxs1
        go_wp2_with (go_at_call 61; refine Calls.mono hcon.out ?_; rintro e w2 ⟨u2, rfl, hxs2, hn2⟩; refine stop_here ?_)
        unfold Hid
        clear b1 hcon hxs1
        have hys2 := hys1.nw hn2
        have hI2 := hIn.out _ _ _ _ hI1 hn2
        have hfr2 := fr_nw hfr1 hn2
        have hB1 := (hn2.block _ (heap_lt hB1') (fun h => h)).trans hB1'
        have hB2 := (hn2.block _ (heap_lt hB2') (fun h => h)).trans hB2'
        have hsz2 := Nat.le_trans hsz1 hn2.size
        clear hn2 hys1 hI1 hfr1 hB1' hB2' hsz1
        obtain ⟨ua, uc, rfl, _, _⟩ := hxs2.form
        have b2 : w2.cell? ⟨w.heap.size + 1, 0, none⟩ = some (.int .i64 db) := cell_blk hB2 rfl
        have hcon : Hid _ := c_ahead db id w2 hys2
        generalize hx : laV da xs id = x at *
        replace hx : Hid _ := hx
        go_wp2_with (go_at_call 61; refine Calls.mono hcon.out ?_; rintro e w3 ⟨u3, rfl, hys3, hn3⟩; refine stop_here ?_)
        unfold Hid
        clear b2 hcon hys2
        have hxs3 := hxs2.nw hn3
        have hI3 := hIn.out _ _ _ _ hI2 hn3
        have hfr3 := fr_nw hfr2 hn3
        have hB1' := (hn3.block _ (heap_lt hB1) (fun h => h)).trans hB1
        have hB2' := (hn3.block _ (heap_lt hB2) (fun h => h)).trans hB2
        have hsz3 := Nat.le_trans hsz2 hn3.size
        clear hn3 hxs2 hI2 hfr2 hB1 hB2 hsz2
        obtain ⟨va, vc, rfl, _, _⟩ := hys3.form
        generalize hy : laV db ys id = y at *
        replace hy : Hid _ := hy
        have hcon : Hid _ := hv.out S0 D id x y w3 hI3 hS0 hsz3 hDl
        go_wp2_with (go_at_call 51; refine Calls.mono hcon.out ?_; rintro e w4 ⟨rfl, hI4, hf4⟩; refine stop_here ?_)
        unfold Hid
        clear hcon hI3
        have hxs4 := hxs3.keep (X' := fun b => b ≠ V ∧ b < S0) hf4 (fun b hb _ h => by rcases h with h | h <;> omega) (fun b hb _ => hb)
        have hys4 := hys3.keep (X' := fun b => b ≠ V ∧ b < S0) hf4 (fun b hb _ h => by rcases h with h | h <;> omega) (fun b hb _ => hb)
        have hB1 := (hf4.block _ (heap_lt hB1') (by omega)).trans hB1'
        have hB2 := (hf4.block _ (heap_lt hB2') (by omega)).trans hB2'
        have hfr4 := hfr3.trans hf4 (fun k hk => hk.elim (fun h => .inl (.inl h)) (fun h => .inr (by omega)))
        have hsz4 := Nat.le_trans hsz3 hf4.size
        clear hf4 hxs3 hys3 hB1' hB2' hfr3 hsz3
        go_wp2
        go_roundw
        case rel => exact ⟨_, _, _, hxs4, hys4, hstep, hI4, hfr4, hB1, hB2, hsz4⟩
        case measure => exact hless.out
    · by_cases hy0 : 0 < ys.length
      · as_aux_lemma =>
          have hA := c_leastID wr hxs hys (by omega)
          have hlid : Hid _ := hA
          obtain ⟨la, lc, rfl, hl1, hl2⟩ := hxs.form
          obtain ⟨ra, rc, rfl, hr1, hr2⟩ := hys.form
          have hstep : Hid _ := hwk.out.step hfa.out.rs hfb.out.rs (by omega)
          have hless : Hid _ := hwk.out.less hfa.out.rs hfb.out.rs (by omega)
          have hDl : D.length < xa.length + xb.length := by have := hwk.out.len; have := hla.out; have := hlb.out; omega
          generalize lid xs ys = id at *
          clear hA
          go_wp2_with (go_at_call 60; refine Calls.mono hlid.out ?_; rintro e w1 ⟨rfl, hn1⟩; refine stop_here ?_)
          unfold Hid
          have hxs1 := hxs.nw hn1
          have hys1 := hys.nw hn1
          have hI1 := hIn.out _ _ _ _ hI hn1
          have hfr1 := fr_nw hfr hn1
          have hB1' := (hn1.block _ (heap_lt hB1) (fun h => h)).trans hB1
          have hB2' := (hn1.block _ (heap_lt hB2) (fun h => h)).trans hB2
          have hsz1 := Nat.le_trans hsz hn1.size
          clear hlid hn1 hxs hys hI hfr hB1 hB2 hsz
          have b1 : w1.cell? ⟨w.heap.size, 0, none⟩ = some (.int .i64 da) := cell_blk hB1' rfl
          have hcon : Hid _ := c_ahead da id w1 hxs1
          go_wp2_with (go_at_call 61; refine Calls.mono hcon.out ?_; rintro e w2 ⟨u2, rfl, hxs2, hn2⟩; refine stop_here ?_)
          unfold Hid
          clear b1 hcon hxs1
          have hys2 := hys1.nw hn2
          have hI2 := hIn.out _ _ _ _ hI1 hn2
          have hfr2 := fr_nw hfr1 hn2
          have hB1 := (hn2.block _ (heap_lt hB1') (fun h => h)).trans hB1'
          have hB2 := (hn2.block _ (heap_lt hB2') (fun h => h)).trans hB2'
          have hsz2 := Nat.le_trans hsz1 hn2.size
          clear hn2 hys1 hI1 hfr1 hB1' hB2' hsz1
          obtain ⟨ua, uc, rfl, _, _⟩ := hxs2.form
          have b2 : w2.cell? ⟨w.heap.size + 1, 0, none⟩ = some (.int .i64 db) := cell_blk hB2 rfl
          have hcon : Hid _ := c_ahead db id w2 hys2
          generalize hx : laV da xs id = x at *
          replace hx : Hid _ := hx
          go_wp2_with (go_at_call 61; refine Calls.mono hcon.out ?_; rintro e w3 ⟨u3, rfl, hys3, hn3⟩; refine stop_here ?_)
          unfold Hid
          clear b2 hcon hys2
          have hxs3 := hxs2.nw hn3
          have hI3 := hIn.out _ _ _ _ hI2 hn3
          have hfr3 := fr_nw hfr2 hn3
          have hB1' := (hn3.block _ (heap_lt hB1) (fun h => h)).trans hB1
          have hB2' := (hn3.block _ (heap_lt hB2) (fun h => h)).trans hB2
          have hsz3 := Nat.le_trans hsz2 hn3.size
          clear hn3 hxs2 hI2 hfr2 hB1 hB2 hsz2
          obtain ⟨va, vc, rfl, _, _⟩ := hys3.form
          generalize hy : laV db ys id = y at *
          replace hy : Hid _ := hy
          have hcon : Hid _ := hv.out S0 D id x y w3 hI3 hS0 hsz3 hDl
          go_wp2_with (go_at_call 51; refine Calls.mono hcon.out ?_; rintro e w4 ⟨rfl, hI4, hf4⟩; refine stop_here ?_)
          unfold Hid
          clear hcon hI3
          have hxs4 := hxs3.keep (X' := fun b => b ≠ V ∧ b < S0) hf4 (fun b hb _ h => by rcases h with h | h <;> omega) (fun b hb _ => hb)
          have hys4 := hys3.keep (X' := fun b => b ≠ V ∧ b < S0) hf4 (fun b hb _ h => by rcases h with h | h <;> omega) (fun b hb _ => hb)
          have hB1 := (hf4.block _ (heap_lt hB1') (by omega)).trans hB1'
          have hB2 := (hf4.block _ (heap_lt hB2') (by omega)).trans hB2'
          have hfr4 := hfr3.trans hf4 (fun k hk => hk.elim (fun h => .inl (.inl h)) (fun h => .inr (by omega)))
          have hsz4 := Nat.le_trans hsz3 hf4.size
          clear hf4 hxs3 hys3 hB1' hB2' hfr3 hsz3
          go_wp2
          go_roundw
          case rel => exact ⟨_, _, _, hxs4, hys4, hstep, hI4, hfr4, hB1, hB2, hsz4⟩
          case measure => exact hless.out
      · have ex : xs = [] := List.eq_nil_of_length_eq_zero (by omega)
        have ey : ys = [] := List.eq_nil_of_length_eq_zero (by omega)
        subst ex
        subst ey
        obtain ⟨la, lc, rfl, hl1, hl2⟩ := hxs.form
        obtain ⟨ra, rc, rfl, hr1, hr2⟩ := hys.form
        have hans : Hid (∃ S D, w.heap.size ≤ S ∧ S ≤ wr.heap.size ∧ I S D wr ∧ Vis da db (lev da xa) (lev db xb) D ∧ D.length ≤ xa.length + xb.length ∧ Fr (fun k => k = V ∨ w.heap.size ≤ k) w wr) := ⟨S0, D, hS0, hsz, hI, hvis.out D hwk.out, by have := hwk.out.len; have := hla.out; have := hlb.out; simp at *; omega, hfr⟩
        clear hxs hys hwk hI hfr hB1 hB2
        go_wp2
        go_end0
        exact ⟨rfl, hans.out⟩
end Go.Proofs.Ytimgelekpghklaa
