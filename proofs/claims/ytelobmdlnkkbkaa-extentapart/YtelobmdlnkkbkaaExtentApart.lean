/-
  ExtentApart returns true for every total and every list of acts: extents that are had and not given back never meet, nor meet what is free or will be; and with these they are all sectors, each once.
  Conditions: none; the statement is the given one, for every input.
-/
import Derived.Test.YtelobmdlnkkbkaaRows
import Derived.Test.YtelobmdlnkkbkaaExtF3
import Derived.Test.YtelobmdlnkkbkaaExtOpen
import Derived.Deep.CutBlock
import Derived.Deep.CutRange
import Derived.Deep.DeepCutAuto
import Derived.WalkKit
import Derived.ProofKit
import Derived.OpenShut
import Derived.ShutString
import Derived.ChangeOld
import Derived.Below
import Derived.SizedLaws
namespace Go.Proofs.Ytelobmdlnkkbkaa.extentApart
open Go.ChangeShapes Go.WideShapes Go.ChangeAt Go.RowKit
open Go.ChangeMaps (open_string shut_string)
set_option linter.unusedVariables false
set_option linter.unusedSimpArgs false

theorem own : ownKnob Try.prog.godebug = none := by kernel_rfl
theorem laidOut : laidOutB Try.prog = true := by kernel_rfl

theorem Try.zeroC : (Try.prog.info? 29).bind (·.zero) = some (.agg ((cnts []).map bv).toArray) := by rw [cnts_nil, List.map_replicate]; kernel_rfl
theorem Try.sizeC : (Try.prog.info? 29).map (·.size) = some 1024 := by kernel_rfl
theorem Try.builtC : Try.prog.built 29 [] = some ((cnts []).map bv).toArray := by rw [cnts_nil, List.map_replicate]; kernel_rfl
theorem sizeC (es : List Ext) : (Try.prog.info? 29).map (·.size) = some ((cnts es).map bv).length := by rw [List.length_map, cnts_length]; exact Try.sizeC

theorem allocM_fail {xs : List UInt8} {n : Int} (h : allocE xs n ≠ 0) : allocM xs n = xs := by
  unfold allocE at h
  unfold allocM
  by_cases hn : n < 1
  · rw [if_pos hn]
  · rw [if_neg hn] at h ⊢
    by_cases hc : xs.count 0 = 0
    · unfold allocX; rw [pick_none _ hc]; rfl
    · rw [if_neg hc] at h; exact absurd rfl h

theorem alloc_held {had : List Ext} {xs : List UInt8} {n : Int} (hH : Held had xs) (h : allocE xs n = 0) : Held (had ++ [allocV xs n]) (allocM xs n) := by
  unfold allocE at h
  unfold allocV allocM
  by_cases hn : n < 1
  · rw [if_pos hn] at h; simp at h
  · rw [if_neg hn] at h
    rw [if_neg hn, if_neg hn]
    by_cases hc : xs.count 0 = 0
    · rw [if_pos hc] at h; simp at h
    · exact hH.alloc (by omega) (by omega)

theorem allocM_length (xs : List UInt8) (n : Int) : (allocM xs n).length = xs.length := by
  unfold allocM; split
  · rfl
  · exact allocX_length ..

/-- A row, one longer. -/
theorem row_more {base : Nat} {w w9 : World} {vh v9 : Value} {had : List Ext} {p : List Ext} {b g : Nat} {xs : List UInt8} {w0 : World} (hr : Row base w vh had) (hm : MapAt w b g xs) (hnw : Nw w0 w) (hw0 : w0.heap.size ≤ base) (hb : b < base) (hg : g < base)
    (h1 : w9.ownsRow base 34 2 v9 (had.length + p.length) (ecells had ++ ecells p)) (h2 : w.grownBy w9 vh.ownBlock) : Row base w9 v9 (had ++ p) ∧ MapAt w9 b g xs ∧ Nw w0 w9 := by
  have hlr : ∀ q, vh.ownBlock = some q → base ≤ q ∧ q < w.heap.size := fun q hq => hr.lt q hq
  have hbl := hm.lt
  refine ⟨?_, ?_, Fr.grown hnw h2 (fun q hq => .inr (by have := (hlr q hq).1; omega))⟩
  · unfold Row
    rw [ecells_append, List.length_append]
    exact h1
  · exact ⟨(h2.block b hbl.1 (fun e => by have := hlr b e.symm; omega)).trans hm.obj, (h2.block g hbl.2 (fun e => by have := hlr g e.symm; omega)).trans hm.st, hm.n⟩

theorem own_litN (w : World) (base N : Nat) (hN : N = w.heap.size) (hb : base ≤ w.heap.size) : Row base (w.alloc (.cells #[] 34)) (.slice (some ⟨N, 0, none⟩) 0 0) [] := by
  subst hN; exact World.ownsRow_lit w #[] 0 hb (by decide) rfl

def cutE (ao : Option Addr) (n cap : Nat) : Value := sliced ao 1 n cap 2

theorem cutE_form (ao : Option Addr) (n cap : Nat) : ∃ ao', cutE ao n cap = .slice ao' (n - 1) (cap - 1) := ⟨_, rfl⟩

theorem run_fromE (ao : Option Addr) (n cap : Nat) (hl : 1 ≤ n) (w : World) : (Instr.sliceAt 26 (.slice ao n cap) (some (.int .i64 1)) none none).run Try.prog w = .ok (cutE ao n cap) w := by
  have he : Try.prog.elem 26 = 34 := by kernel_rfl
  have hu : Try.prog.underlying 26 = some (.slice (Try.prog.elem 26)) := by rw [he]; exact Try.underlying26
  have h5 : (sizeOf 34).run Try.prog w = .ok 2 w := by
    have := Try.sizeE
    cases hq : Try.prog.info? 34 with
    | none => rw [hq] at this; cases this
    | some i =>
      rw [hq] at this
      simp only [Option.map_some, Option.some.injEq] at this
      simp [sizeOf, typeInfo, hq, this]
  rw [run_sliceAt_slice w _ _ _ _ _ hu, run_slice_l w _ _ _ _ hu .i64 1 (by omega) (by omega), he, h5]
  simp [Result.andThen, cutE]

theorem cutE_sl {K : Nat} {w : World} {ao : Option Addr} {cap : Nat} {e : Ext} {es : List Ext} {n : Nat} (hn : (e :: es).length = n) (h : Sl K w (.slice ao n cap) n (ecells (e :: es))) : Sl K w (cutE ao n cap) es.length (ecells es) := by
  subst hn
  have := h.cut 2 1 (e :: es).length (by decide) (ecells_length _) (by simp) (Nat.le_refl _)
  have e1 : (e :: es).length - 1 = es.length := by simp
  have e2 : ((ecells (e :: es)).drop (1 * 2)).take (((e :: es).length - 1) * 2) = ecells es := by
    rw [show e :: es = [e] ++ es from rfl, ecells_append, ecells_one]
    simp [ecell]
    rw [List.take_of_length_le (by rw [ecells_length]; omega)]
  rw [e1] at this e2
  rw [e2] at this
  exact this

set_option maxRecDepth 100000 in
set_option maxHeartbeats 6400000 in
/-- The law's own walk. -/
theorem walk (w : World) (a0 : Int) (w0 : (Lit.int .i64 a0).wf = true) (v1 : Value) (x1 : List EAct) (w1 : EActsAt w.heap.size w v1 x1) (l1 : x1.length ≤ 140737488351232) :
    Calls Try.prog 5 #[.int .i64 a0, v1] w fun e w' => e = .returned (.bool true) ∧ Below w.heap.size w w' := by
  have hA0 := i64_of_wf w0
  obtain ⟨i0, hj, hj0, hj1, hj2⟩ := info_parts3 Try.infoE
  obtain ⟨ao, cap, rfl, hac, hac2, hacs0⟩ := w1
  have hacs : EActsAt w.heap.size w (.slice ao x1.length cap) x1 := ⟨ao, cap, rfl, hac, hac2, hacs0⟩
  clear hacs0
  unfold maxLen at hac2
  go_enter Try.func5, Try.ntmps5
  go_wp2_with (go_at_call 8; refine (c_alive _).mono ?_; rintro e W1 ⟨rfl, hn1⟩; refine stop_here ?_)
  unfold Hid
  go_wp2_with (go_at_call 9; refine (c_new a0 _).mono ?_; rintro e W2 ⟨b, g, rfl, h2, hn2, hb, hg⟩; refine stop_here ?_)
  unfold Hid
  have hnw2 := nw_trans hn1 hn2
  have hsz1 := hn1.size
  have hsz2 := hn2.size
  have hT : ∀ k, k = g → w.heap.size ≤ k := fun k e => by omega
  clear hn1 hn2
  obtain ⟨n, hn⟩ : ∃ n, Hid (x1.length = n) := ⟨_, rfl⟩
  rw [hn.out] at hac l1 ⊢
  by_cases hbad : 100 < n ∨ a0 < 0 ∨ 1024 < a0
  · as_aux_lemma =>
    have hfin := below_of_nw hnw2
    rcases hbad with hbad | hbad | hbad
    · have hd : decide (100 < (n : Int)) = true := decide_eq_true (by omega)
      go_wp2
      go_ret
      exact ⟨rfl, hfin⟩
    · by_cases h100 : 100 < n
      · have hd : decide (100 < (n : Int)) = true := decide_eq_true (by omega)
        go_wp2
        go_ret
        exact ⟨rfl, hfin⟩
      · have hd : decide (100 < (n : Int)) = false := decide_eq_false (by omega)
        have hd1 : decide (a0 < 0) = true := decide_eq_true hbad
        go_wp2
        go_ret
        exact ⟨rfl, hfin⟩
    · by_cases h100 : 100 < n
      · have hd : decide (100 < (n : Int)) = true := decide_eq_true (by omega)
        go_wp2
        go_ret
        exact ⟨rfl, hfin⟩
      · have hd : decide (100 < (n : Int)) = false := decide_eq_false (by omega)
        have hd1 : decide (a0 < 0) = false := decide_eq_false (by omega)
        have hd2 : decide (1024 < a0) = true := decide_eq_true hbad
        go_wp2
        go_ret
        exact ⟨rfl, hfin⟩
  have h100 : n ≤ 100 := by omega
  have hd : decide (100 < (n : Int)) = false := decide_eq_false (by omega)
  obtain ⟨T, rfl⟩ : ∃ T : Nat, a0 = (T : Int) := ⟨a0.toNat, by omega⟩
  have hT1024 : T ≤ 1024 := by omega
  have hd2 : decide (1024 < (T : Int)) = false := decide_eq_false (by omega)
  have hnT : (newX (T : Int)).length = T := by unfold newX; rw [List.length_replicate]; omega
  have hH0 := held_new (T : Int)
  have hr0 : Row W2.heap.size (W2.alloc (.cells #[] 34)) (.slice (some ⟨W2.heap.size, 0, none⟩) 0 0) [] := World.ownsRow_lit W2 #[] 0 (Nat.le_refl _) (by decide) rfl
  have hm0 := h2.nw ((Fr.refl _ W2).alloc (.cells #[] 34))
  have hnw0 := Fr.alloc hnw2 (.cells #[] 34)
  have hbl := h2.lt
  have hB0 : W2.heap.size ≤ (W2.alloc (.cells #[] 34)).heap.size := by simp
  have hwB : w.heap.size ≤ W2.heap.size := by omega
  have hbB : b < W2.heap.size := hbl.1
  have hgB : g < W2.heap.size := hbl.2
  clear hbad h2 hnw2 hbl
  go_wp2
  generalize hB : W2.heap.size = B at *
  clear hB
  go_loopw [6, 48] (fun vh i wr => ∃ (k : Nat) (xs : List UInt8) (had : List Ext), k ≤ n ∧ i = .int .i64 k ∧ MapAt wr b g xs ∧ Nw w wr ∧ Row B wr vh had ∧ Held had xs ∧ xs.length = T ∧ B ≤ wr.heap.size) (fun _ i _ => n - (intOf i).toNat)
  case atStart => exact ⟨0, _, [], Nat.zero_le _, rfl, hm0, hnw0, hr0, hH0, hnT, hB0⟩
  case round =>
    clear hH0 hr0 hm0 hnw0 hnT hB0
    obtain ⟨k, xs, had, hk, rfl, hm, hnw, hr, hH, hxl, hwz⟩ := hrel
    obtain ⟨ho, hcp, rfl⟩ := owns_form hr
    have hxlH : Hid (xs.length = T) := hxl
    have hhl : had.length ≤ 1024 := by have := hH.small; omega
    clear hxl
    by_cases hlt : k < n
    case neg =>
      have hfin := below_of_nw hnw
      clear hacs hn hr hH hm
      go_wp2
      go_ret
      exact ⟨rfl, hfin⟩
    have hkx : k < x1.length := by rw [hn.out]; exact hlt
    obtain ⟨q, off, rfl, hqK, hcell, hok⟩ := hacs.get k hkx
    obtain ⟨c0, c1, c2, c3⟩ := hcell wr (below_of_nw hnw)
    obtain ⟨okk, okn, oks, okl⟩ := hok
    clear hcell hacs
    generalize x1[k] = act at *
    clear hkx hn
    obtain ⟨ak, an, ps, pl⟩ := act
    simp only at c0 c1 c2 c3 okk okn oks okl
    have hmM := hm.nw ((Fr.refl _ wr).alloc (.cells #[.int .i64 ak, .int .i64 an, .int .i64 ps, .int .i64 pl] 36))
    have hnwM := Fr.alloc hnw (.cells #[.int .i64 ak, .int .i64 an, .int .i64 ps, .int .i64 pl] 36)
    have hrM : Row B (wr.alloc (.cells #[.int .i64 ak, .int .i64 an, .int .i64 ps, .int .i64 pl] 36)) (.slice ho had.length hcp) had := World.ownsRow.alloc hr _
    have hbM : (wr.alloc (.cells #[.int .i64 ak, .int .i64 an, .int .i64 ps, .int .i64 pl] 36)).heap[wr.heap.size]? = some (.cells #[.int .i64 ak, .int .i64 an, .int .i64 ps, .int .i64 pl] 36 (0, 0)) := heap_alloc_new wr _
    have hBM : B ≤ (wr.alloc (.cells #[.int .i64 ak, .int .i64 an, .int .i64 ps, .int .i64 pl] 36)).heap.size := by have := hwz; simp; omega
    have hMg : wr.heap.size ≠ g := by have := hm.lt; omega
    obtain ⟨hl, hhlH⟩ : ∃ hl, Hid (had.length = hl) := ⟨_, rfl⟩
    rw [hhlH.out] at hrM hhl ⊢
    go_upto_block 2 with fail
    generalize hWM : wr.alloc (.cells #[.int .i64 ak, .int .i64 an, .int .i64 ps, .int .i64 pl] 36) = WM at *
    clear hWM
    generalize wr.heap.size = M at *
    have m0 : WM.cell? ⟨M, 0, none⟩ = some (.int .i64 ak) := cell_blk hbM rfl
    have m1 : WM.cell? ⟨M, 1, none⟩ = some (.int .i64 an) := cell_blk hbM rfl
    clear c0 c1 c2 c3 hm hnw hr
    go_cut [6, 10, 11, 12, 13] (fun vh x10 x11 x12 x13 wc => ∃ (xs' : List UInt8) (had' : List Ext), MapAt wc b g xs' ∧ Nw w wc ∧ Row B wc vh had' ∧ Held had' xs' ∧ xs'.length = T ∧ B ≤ wc.heap.size)
    case first =>
      by_cases hk0 : ak = 0
      · subst hk0
        as_aux_lemma =>
          have hal := c_alloc _ hmM an (by omega)
          have hpp := allocV_le xs an hmM.n
          have hMl := allocM_length xs an
          rw [hxlH.out] at hMl
          by_cases he : allocE xs an = 0
          · have hH2 := alloc_held hH he
            rw [he] at hal
            clear he
            generalize allocM xs an = xs1 at *
            generalize allocV xs an = p at *
            unfold ext at hal
            go_wp2_with (go_at_call 13; refine hal.mono ?_; rintro e W3 ⟨rfl, hm3, hf3⟩; refine stop_here ?_)
            unfold Hid
            have hnw3 := Fr.new hnwM hf3 hT
            have hr3 := hrM.keep hf3 (fun q hq _ e => by omega)
            have hm4 := hm3.nw (((Fr.refl (fun _ => False) W3).alloc (.cells #[.int .i64 (p.1 : Int), .int .i64 (p.2 : Int)] 34)).alloc (.cells #[.int .i64 (p.1 : Int), .int .i64 (p.2 : Int)] 34))
            have hnw4 : Nw w ((W3.alloc (.cells #[.int .i64 (p.1 : Int), .int .i64 (p.2 : Int)] 34)).alloc (.cells #[.int .i64 (p.1 : Int), .int .i64 (p.2 : Int)] 34)) := Fr.alloc (Fr.alloc hnw3 _) _
            have hr4 : Row B ((W3.alloc (.cells #[.int .i64 (p.1 : Int), .int .i64 (p.2 : Int)] 34)).alloc (.cells #[.int .i64 (p.1 : Int), .int .i64 (p.2 : Int)] 34)) (.slice ho hl hcp) had := World.ownsRow.alloc (World.ownsRow.alloc hr3 _) _
            have hz3 : B ≤ W3.heap.size := by have := hf3.size; omega
            clear hal hm3 hf3 hr3 hrM hmM hnwM m0 m1
            go_wp2_with (at_builtin; refine wpList_append_sl _ rfl _ _ 26 rfl B 34 i0 _ 2 16 Try.underlying26 hj hj0 hj1 hj2 rfl (by decide) _ _ _ rfl hr4 _ _ 1 _ rfl (sl_litN (W3.alloc (.cells #[.int .i64 (p.1 : Int), .int .i64 (p.2 : Int)] 34)) _ 34 1 (W3.heap.size + 1) (by simp) (by omega)) rfl ?d1 ?d2 ?d3 ?d4 ?_)
            case d1 => first | (intro u hu; simp at hu; rcases hu with rfl | rfl <;> rfl) | simp [Value.oneCell']
            case d2 => unfold maxLen; have := hhlH.out; omega
            case d3 => have := hhlH.out; omega
            case d4 => simp; omega
            intro v9 w9 hown9 hgrow9 hat9
            have hz9 : B ≤ w9.heap.size := by have := hgrow9.size; simp at this; omega
            obtain ⟨f1, f2, f3⟩ := row_more (p := [p]) hr4 hm4 hnw4 hwB hbB hgB (by rw [ecells_one]; exact hown9) hgrow9
            clear hown9 hgrow9 hat9 hr4 hm4 hnw4
            go_wp2
            go_meet
            case rel => exact ⟨_, _, f2, f3, f1, hH2, hMl, hz9⟩
          · have hMx := allocM_fail he
            rw [hMx] at hal
            have he1 : (allocE xs an == 0) = false := by simpa using he
            clear he hMx hMl
            generalize allocV xs an = p at *
            generalize allocE xs an = ec at *
            unfold ext at hal
            go_wp2_with (go_at_call 13; refine hal.mono ?_; rintro e W3 ⟨rfl, hm3, hf3⟩; refine stop_here ?_)
            unfold Hid
            have hnw3 := Fr.alloc (Fr.new hnwM hf3 hT) (.cells #[.int .i64 (p.1 : Int), .int .i64 (p.2 : Int)] 34)
            have hr3 : Row B (W3.alloc (.cells #[.int .i64 (p.1 : Int), .int .i64 (p.2 : Int)] 34)) (.slice ho hl hcp) had := World.ownsRow.alloc (hrM.keep hf3 (fun q hq _ e => by omega)) _
            have hm4 := hm3.nw ((Fr.refl (fun _ => False) W3).alloc (.cells #[.int .i64 (p.1 : Int), .int .i64 (p.2 : Int)] 34))
            have hz3 : B ≤ W3.heap.size := by have := hf3.size; omega
            clear hal hm3 hf3 hrM hmM hnwM m0 m1
            go_wp2
            go_meet
            case rel => exact ⟨_, _, hm4, hnw3, hr3, hH, hxlH.out, by simp; omega⟩

      by_cases hk2 : ak = 2
      · subst hk2
        as_aux_lemma =>
          have hal := c_alloc _ hmM an (by omega)
          have hpp := allocV_le xs an hmM.n
          have hMl := allocM_length xs an
          rw [hxlH.out] at hMl
          by_cases he : allocE xs an = 0
          · have hH2 := alloc_held hH he
            rw [he] at hal
            clear he
            generalize allocM xs an = xs1 at *
            generalize allocV xs an = p at *
            unfold ext at hal
            go_wp2_with (go_at_call 13; refine hal.mono ?_; rintro e W3 ⟨rfl, hm3, hf3⟩; refine stop_here ?_)
            unfold Hid
            have hnw3 := Fr.new hnwM hf3 hT
            have hr3 := hrM.keep hf3 (fun q hq _ e => by omega)
            have hm4 := hm3.nw (((Fr.refl (fun _ => False) W3).alloc (.cells #[.int .i64 (p.1 : Int), .int .i64 (p.2 : Int)] 34)).alloc (.cells #[.int .i64 (p.1 : Int), .int .i64 (p.2 : Int)] 34))
            have hnw4 : Nw w ((W3.alloc (.cells #[.int .i64 (p.1 : Int), .int .i64 (p.2 : Int)] 34)).alloc (.cells #[.int .i64 (p.1 : Int), .int .i64 (p.2 : Int)] 34)) := Fr.alloc (Fr.alloc hnw3 _) _
            have hr4 : Row B ((W3.alloc (.cells #[.int .i64 (p.1 : Int), .int .i64 (p.2 : Int)] 34)).alloc (.cells #[.int .i64 (p.1 : Int), .int .i64 (p.2 : Int)] 34)) (.slice ho hl hcp) had := World.ownsRow.alloc (World.ownsRow.alloc hr3 _) _
            have hz3 : B ≤ W3.heap.size := by have := hf3.size; omega
            clear hal hm3 hf3 hr3 hrM hmM hnwM m0 m1
            go_wp2_with (at_builtin; refine wpList_append_sl _ rfl _ _ 26 rfl B 34 i0 _ 2 16 Try.underlying26 hj hj0 hj1 hj2 rfl (by decide) _ _ _ rfl hr4 _ _ 1 _ rfl (sl_litN (W3.alloc (.cells #[.int .i64 (p.1 : Int), .int .i64 (p.2 : Int)] 34)) _ 34 1 (W3.heap.size + 1) (by simp) (by omega)) rfl ?d1 ?d2 ?d3 ?d4 ?_)
            case d1 => first | (intro u hu; simp at hu; rcases hu with rfl | rfl <;> rfl) | simp [Value.oneCell']
            case d2 => unfold maxLen; have := hhlH.out; omega
            case d3 => have := hhlH.out; omega
            case d4 => simp; omega
            intro v9 w9 hown9 hgrow9 hat9
            have hz9 : B ≤ w9.heap.size := by have := hgrow9.size; simp at this; omega
            obtain ⟨f1, f2, f3⟩ := row_more (p := [p]) hr4 hm4 hnw4 hwB hbB hgB (by rw [ecells_one]; exact hown9) hgrow9
            clear hown9 hgrow9 hat9 hr4 hm4 hnw4
            go_wp2
            go_meet
            case rel => exact ⟨_, _, f2, f3, f1, hH2, hMl, hz9⟩
          · have hMx := allocM_fail he
            rw [hMx] at hal
            have he1 : (allocE xs an == 0) = false := by simpa using he
            clear he hMx hMl
            generalize allocV xs an = p at *
            generalize allocE xs an = ec at *
            unfold ext at hal
            go_wp2_with (go_at_call 13; refine hal.mono ?_; rintro e W3 ⟨rfl, hm3, hf3⟩; refine stop_here ?_)
            unfold Hid
            have hnw3 := Fr.alloc (Fr.new hnwM hf3 hT) (.cells #[.int .i64 (p.1 : Int), .int .i64 (p.2 : Int)] 34)
            have hr3 : Row B (W3.alloc (.cells #[.int .i64 (p.1 : Int), .int .i64 (p.2 : Int)] 34)) (.slice ho hl hcp) had := World.ownsRow.alloc (hrM.keep hf3 (fun q hq _ e => by omega)) _
            have hm4 := hm3.nw ((Fr.refl (fun _ => False) W3).alloc (.cells #[.int .i64 (p.1 : Int), .int .i64 (p.2 : Int)] 34))
            have hz3 : B ≤ W3.heap.size := by have := hf3.size; omega
            clear hal hm3 hf3 hrM hmM hnwM m0 m1
            go_wp2
            go_meet
            case rel => exact ⟨_, _, hm4, hnw3, hr3, hH, hxlH.out, by simp; omega⟩

      by_cases hk1 : ak = 1
      · subst hk1
        as_aux_lemma =>
          have hall := c_all _ hmM an (by omega)
          have hH2 := hH.all an
          have hMl := allM_length xs an (by omega)
          rw [hxlH.out] at hMl
          have hsum : allE xs an = 0 → total (allV xs an) = an.toNat := fun h => by
            have : ¬ (xs.count 0 : Int) < an := fun h' => by unfold allE at h; rw [if_pos h'] at h; simp at h
            exact (allM_count xs an this).1
          have hsm : total (allV xs an) ≤ 1024 ∧ (allV xs an).length ≤ 1024 := by
            by_cases h : (xs.count 0 : Int) < an
            · unfold allV; rw [if_pos h]; simp [total]
            · obtain ⟨t1, t2, t3, t4⟩ := allM_count xs an h
              have h1 := length_le_total _ (fun e he => (t4 e he).1)
              have h2 : xs.count 0 ≤ xs.length := List.count_le_length
              have h3 := hmM.n
              omega
          have hsmall : ∀ e ∈ allV xs an, e.2 ≤ 1024 := by
            intro e he
            by_cases h : (xs.count 0 : Int) < an
            · unfold allV at he; rw [if_pos h] at he; simp at he
            · obtain ⟨t1, t2, t3, t4⟩ := allM_count xs an h
              have := t4 e he
              have h3 := hmM.n
              omega
          have hec : allE xs an = 0 ∨ allE xs an = 73 := by unfold allE; split <;> simp
          generalize allM xs an = xs1 at *
          generalize allV xs an = es at *
          generalize allE xs an = ec at *
          go_wp2_with (go_at_call 15; refine hall.mono ?_; rintro e W3 ⟨v, rfl, hrl, hm3, hf3⟩; refine stop_here ?_)
          unfold Hid
          have hnw3 := Fr.new hnwM hf3 hT
          have hr3 := hrM.keep hf3 (fun q hq _ e => by omega)
          have hb3 := (hf3.block M (heap_lt hbM) hMg).trans hbM
          have hE := hrl.esl
          obtain ⟨vo, vc, rfl, hvc1, hvc2⟩ := hE.form
          obtain ⟨hs1, hs2⟩ := hsm
          have hf3z : B ≤ W3.heap.size := by have := hf3.size; have := hBM; omega
          clear hall hrl hf3 hrM hmM hnwM m0 m1 hbM
          go_wp2
          go_loopw [13, 81] (fun s i W => ∃ j : Nat, j ≤ es.length ∧ i = .int .i64 j ∧ s = .int .i64 (total (es.take j) : Nat) ∧ Nw W3 W) (fun _ i _ => es.length - (intOf i).toNat)
          case atStart => exact ⟨0, Nat.zero_le _, rfl, rfl, nw_refl _⟩
          case round =>
            obtain ⟨j, hjl, rfl, rfl, hnwj⟩ := hrel
            have htl := total_take_le es j
            by_cases hlt2 : j < es.length
            · have hEj := hE.keep (X' := fun _ => True) hnwj (fun _ _ => id) (fun _ _ _ => trivial)
              obtain ⟨q2, off2, rfl, _, d0, d1⟩ := hEj.get j hlt2
              have hsum2 : Hid (total (es.take (j + 1)) = total (es.take j) + es[j].2) := total_take_succ es j hlt2
              have hb2 : es[j].2 ≤ 1024 := hsmall es[j] (List.getElem_mem hlt2)
              clear hEj hE hsum hsmall
              generalize es[j] = ej at *
              generalize hgt' : total (es.take j) = tj at *
              clear hgt'
              have hnwn := Fr.alloc hnwj (.cells #[.int .i64 (ej.1 : Int), .int .i64 (ej.2 : Int)] 34)
              go_wp2
              go_roundw
              case rel => exact ⟨j + 1, by omega, by go_num, by rw [hsum2.out]; go_num, hnwn⟩
              case measure => simp [intOf]; omega
            · rw [List.take_of_length_le (by omega)] at htl ⊢
              have hEj : ESl (fun _ => True) wr (.slice vo es.length vc) es := hE.keep hnwj (fun _ _ => id) (fun _ _ _ => trivial)
              have hr4 : Row B wr (.slice ho hl hcp) had := hr3.keep hnwj (fun _ _ _ => id)
              have hm4 := hm3.nw hnwj
              have hnw4 := nw_trans hnw3 hnwj
              have hb4 := (hnwj.block M (heap_lt hb3) id).trans hb3
              have m1 : wr.cell? ⟨M, 1, none⟩ = some (.int .i64 an) := cell_blk hb4 rfl
              have hbase : B ≤ wr.heap.size := by have := hnwj.size; omega
              obtain ⟨mx, hmxH⟩ : ∃ mx : Int, Hid (mx = max 0 an) := ⟨_, rfl⟩
              have hmax : ∀ (w : World) (ts : Array TypeId) (t : TypeId), (Builtin.max_ ts t #[.int .i64 0, .int .i64 an]).run Try.prog w = .ok (.int .i64 mx) w := fun w ts t => by
                rw [run_max_int2 w ts t .i64 .i64 0 an, hmxH.out]; congr 2; split <;> omega
              have hfin : ∀ v9 w9, w9.ownsRow B 34 2 v9 (had.length + es.length) (ecells had ++ ecells es) → wr.grownBy w9 (Value.ownBlock (.slice ho hl hcp)) → Row B w9 v9 (had ++ es) ∧ MapAt w9 b g xs1 ∧ Nw w w9 := fun v9 w9 h1 h2 => row_more (p := es) hr4 hm4 hnw4 hwB hbB hgB h1 h2
              have hfinH : Hid _ := hfin
              clear hfin hE hr3 hm3 hnw3 hm4 hnw4 hb3 hb4 hnwj
              have hlen9 := ecells_length es
              have hone := ecells_oneCell es
              have hEs := hEj.sl
              clear hEj
              rcases hec with rfl | rfl
              · have hne : (((total es : Nat) : Int) != mx) = false := by have := hsum rfl; have := hmxH.out; simp; omega
                clear hsum hmxH
                generalize total es = tt at *
                generalize hce : ecells es = ce at *
                clear hce
                go_wp2_with (at_builtin; refine wpList_append_sl _ rfl _ _ 26 rfl B 34 i0 _ 2 16 Try.underlying26 hj hj0 hj1 hj2 rfl (by decide) _ _ _ rfl hr4 _ _ es.length _ rfl hEs hlen9 hone ?d2 ?d3 ?d4 ?_)
                case d2 => unfold maxLen; have := hhlH.out; omega
                case d3 => have := hhlH.out; omega
                case d4 => exact hbase
                intro v9 w9 hown9 hgrow9 hat9
                have hz9 : B ≤ w9.heap.size := by have := hgrow9.size; omega
                obtain ⟨f1, f2, f3⟩ := hfinH.out v9 w9 hown9 hgrow9
                clear hown9 hgrow9 hat9 hr4 hfinH hEs
                go_wp2
                go_meet
                case rel => exact ⟨_, _, f2, f3, f1, hH2, hMl, hz9⟩
              · clear hsum hmxH
                generalize total es = tt at *
                generalize hce : ecells es = ce at *
                clear hce
                go_wp2_with (at_builtin; refine wpList_append_sl _ rfl _ _ 26 rfl B 34 i0 _ 2 16 Try.underlying26 hj hj0 hj1 hj2 rfl (by decide) _ _ _ rfl hr4 _ _ es.length _ rfl hEs hlen9 hone ?d2 ?d3 ?d4 ?_)
                case d2 => unfold maxLen; have := hhlH.out; omega
                case d3 => have := hhlH.out; omega
                case d4 => exact hbase
                intro v9 w9 hown9 hgrow9 hat9
                have hz9 : B ≤ w9.heap.size := by have := hgrow9.size; omega
                obtain ⟨f1, f2, f3⟩ := hfinH.out v9 w9 hown9 hgrow9
                clear hown9 hgrow9 hat9 hr4 hfinH hEs
                go_wp2
                go_meet
                case rel => exact ⟨_, _, f2, f3, f1, hH2, hMl, hz9⟩

      by_cases hk3 : ak = 3
      · subst hk3
        as_aux_lemma =>
          cases had with
          | nil =>
            obtain rfl : hl = 0 := hhlH.out.symm
            clear hbM m1 m0 hhlH
            go_wp2
            go_roundw
            case rel => exact ⟨k + 1, xs, [], by omega, by go_num, hmM, hnwM, hrM, hH, hxlH.out, hBM⟩
            case measure => simp [intOf]; omega
          | cons e0 had =>
            obtain ⟨hcan, hH2⟩ := hH.head 0 (by decide)
            have hMl := turnX_length xs e0.1 e0.2 1 0
            rw [hxlH.out] at hMl
            have hmem := hH.mem e0 List.mem_cons_self
            have hxn := hmM.n
            have hE := hrM.esl
            have hEsl := hE.sl
            obtain ⟨q0, off0, rfl, hXq, d0, d1⟩ := hE.get 0 (by simp)
            simp only [List.getElem_cons_zero, Nat.zero_mul, Nat.add_zero] at d0 d1
            have hl1 : hl = had.length + 1 := by rw [← hhlH.out]; simp
            have hl0 : (((hl : Int) == 0) : Bool) = false := by simp; omega
            have hl2 : 0 < hl := by omega
            rw [hhlH.out] at hEsl
            have hcutS := cutE_sl hhlH.out hEsl
            have hcutR := fun w => run_fromE (some ⟨q0, off0, none⟩) hl hcp (by omega) w
            obtain ⟨co, hco⟩ := cutE_form (some ⟨q0, off0, none⟩) hl hcp
            rw [hco] at hcutS
            simp only [hco] at hcutR
            have hnwA : Nw WM ((WM.alloc (.cells #[.int .i64 (e0.1 : Int), .int .i64 (e0.2 : Int)] 34)).alloc (.cells #[] 34)) := Fr.alloc (Fr.alloc (Fr.refl _ WM) _) _
            have hcutA := hcutS.keep (below_of_nw hnwA)
            have hlitA := own_litN (WM.alloc (.cells #[.int .i64 (e0.1 : Int), .int .i64 (e0.2 : Int)] 34)) B (WM.heap.size + 1) (by simp) (by simp; omega)
            have hmA := hmM.nw hnwA
            have hnwA2 := nw_trans hnwM hnwA
            have hbA := (hnwA.block M (heap_lt hbM) id).trans hbM
            have hxA : ((WM.alloc (.cells #[.int .i64 (e0.1 : Int), .int .i64 (e0.2 : Int)] 34)).alloc (.cells #[] 34)).heap[WM.heap.size]? = some (.cells #[.int .i64 (e0.1 : Int), .int .i64 (e0.2 : Int)] 34 (0, 0)) := heap_alloc2_old WM _ _
            have hszA : ((WM.alloc (.cells #[.int .i64 (e0.1 : Int), .int .i64 (e0.2 : Int)] 34)).alloc (.cells #[] 34)).heap.size = WM.heap.size + 2 := by simp
            have hMlt := heap_lt hbM
            have hhl2 : had.length ≤ 1024 := by omega
            clear hE hEsl hcutS hrM hco hl1 hH hhlH m1
            go_wp2_with (at_builtin; refine wpList_append_sl _ rfl _ _ 26 rfl B 34 i0 _ 2 16 Try.underlying26 hj hj0 hj1 hj2 rfl (by decide) _ _ _ rfl hlitA _ _ had.length _ rfl hcutA (ecells_length had) (ecells_oneCell had) ?d2 ?d3 ?d4 ?_)
            case d2 => unfold maxLen; simp; omega
            case d3 => simp; omega
            case d4 => simp; omega
            intro v9 w9 hown9 hgrow9 hat9
            have hblk : ∀ q, q < WM.heap.size + 1 → w9.heap[q]? = ((WM.alloc (.cells #[.int .i64 (e0.1 : Int), .int .i64 (e0.2 : Int)] 34)).alloc (.cells #[] 34)).heap[q]? := fun q hq => hgrow9.block q (by simp; omega) (by simp [Value.ownBlock]; omega)
            have hz9 : B ≤ w9.heap.size := by have := hgrow9.size; rw [hszA] at this; omega
            have hm9 : MapAt w9 b g xs := ⟨(hblk b (by have := hmM.lt; omega)).trans hmA.obj, (hblk g (by have := hmM.lt; omega)).trans hmA.st, hmA.n⟩
            have hnw9 : Nw w w9 := Fr.grown hnwA2 hgrow9 (fun q hq => .inr (by simp only [Act.eval, Value.ownBlock] at hq; simp at hq; omega))
            have hb9 := (hblk M (by omega)).trans hbA
            have hx9 := (hblk WM.heap.size (by omega)).trans hxA
            have hr9 : Row B w9 v9 had := by unfold Row; rw [ecells_nil, List.nil_append] at hown9; simpa using hown9
            have m0 : w9.cell? ⟨M, 0, none⟩ = some (.int .i64 3) := cell_blk hb9 rfl
            have e0c : w9.cell? ⟨WM.heap.size, 0, none⟩ = some (.int .i64 (e0.1 : Int)) := cell_blk hx9 rfl
            have e1c : w9.cell? ⟨WM.heap.size, 1, none⟩ = some (.int .i64 (e0.2 : Int)) := cell_blk hx9 rfl
            have hfr := c_free _ hm9 (e0.1 : Int) (e0.2 : Int) (by omega)
            have hte : turnE xs (e0.1 : Int) (e0.2 : Int) 1 = 0 := by unfold turnE; rw [hcan]; rfl
            rw [hte] at hfr
            unfold ext at hfr
            clear hown9 hgrow9 hat9 hblk hcutA hlitA hmA hnwA hnwA2 hbA hxA hcutR hmM hnwM hx9 hte hcan hszA
            go_wp2_with (go_at_call 19; refine hfr.mono ?_; rintro e WB ⟨rfl, hmB, hfB⟩; refine stop_here ?_)
            unfold Hid
            have hbB := (hfB.block M (heap_lt hb9) hMg).trans hb9
            have m0 : WB.cell? ⟨M, 0, none⟩ = some (.int .i64 3) := cell_blk hbB rfl
            go_wp2
            have hnwB := Fr.new hnw9 hfB hT
            have hrB := hr9.keep hfB (fun q hq _ e => by omega)
            go_meet
            case rel => exact ⟨_, _, hmB, hnwB, hrB, hH2, hMl, by have := hfB.size; omega⟩

      by_cases hk4 : ak = 4
      · subst hk4
        as_aux_lemma =>
          cases had with
          | nil =>
            obtain rfl : hl = 0 := hhlH.out.symm
            clear hbM m1 m0 hhlH
            go_wp2
            go_roundw
            case rel => exact ⟨k + 1, xs, [], by omega, by go_num, hmM, hnwM, hrM, hH, hxlH.out, hBM⟩
            case measure => simp [intOf]; omega
          | cons e0 had =>
            obtain ⟨hcan, hH2⟩ := hH.head 2 (by decide)
            have hMl := turnX_length xs e0.1 e0.2 1 2
            rw [hxlH.out] at hMl
            have hmem := hH.mem e0 List.mem_cons_self
            have hxn := hmM.n
            have hE := hrM.esl
            have hEsl := hE.sl
            obtain ⟨q0, off0, rfl, hXq, d0, d1⟩ := hE.get 0 (by simp)
            simp only [List.getElem_cons_zero, Nat.zero_mul, Nat.add_zero] at d0 d1
            have hl1 : hl = had.length + 1 := by rw [← hhlH.out]; simp
            have hl0 : (((hl : Int) == 0) : Bool) = false := by simp; omega
            have hl2 : 0 < hl := by omega
            rw [hhlH.out] at hEsl
            have hcutS := cutE_sl hhlH.out hEsl
            have hcutR := fun w => run_fromE (some ⟨q0, off0, none⟩) hl hcp (by omega) w
            obtain ⟨co, hco⟩ := cutE_form (some ⟨q0, off0, none⟩) hl hcp
            rw [hco] at hcutS
            simp only [hco] at hcutR
            have hnwA : Nw WM ((WM.alloc (.cells #[.int .i64 (e0.1 : Int), .int .i64 (e0.2 : Int)] 34)).alloc (.cells #[] 34)) := Fr.alloc (Fr.alloc (Fr.refl _ WM) _) _
            have hcutA := hcutS.keep (below_of_nw hnwA)
            have hlitA := own_litN (WM.alloc (.cells #[.int .i64 (e0.1 : Int), .int .i64 (e0.2 : Int)] 34)) B (WM.heap.size + 1) (by simp) (by simp; omega)
            have hmA := hmM.nw hnwA
            have hnwA2 := nw_trans hnwM hnwA
            have hbA := (hnwA.block M (heap_lt hbM) id).trans hbM
            have hxA : ((WM.alloc (.cells #[.int .i64 (e0.1 : Int), .int .i64 (e0.2 : Int)] 34)).alloc (.cells #[] 34)).heap[WM.heap.size]? = some (.cells #[.int .i64 (e0.1 : Int), .int .i64 (e0.2 : Int)] 34 (0, 0)) := heap_alloc2_old WM _ _
            have hszA : ((WM.alloc (.cells #[.int .i64 (e0.1 : Int), .int .i64 (e0.2 : Int)] 34)).alloc (.cells #[] 34)).heap.size = WM.heap.size + 2 := by simp
            have hMlt := heap_lt hbM
            have hhl2 : had.length ≤ 1024 := by omega
            clear hE hEsl hcutS hrM hco hl1 hH hhlH m1
            go_wp2_with (at_builtin; refine wpList_append_sl _ rfl _ _ 26 rfl B 34 i0 _ 2 16 Try.underlying26 hj hj0 hj1 hj2 rfl (by decide) _ _ _ rfl hlitA _ _ had.length _ rfl hcutA (ecells_length had) (ecells_oneCell had) ?d2 ?d3 ?d4 ?_)
            case d2 => unfold maxLen; simp; omega
            case d3 => simp; omega
            case d4 => simp; omega
            intro v9 w9 hown9 hgrow9 hat9
            have hblk : ∀ q, q < WM.heap.size + 1 → w9.heap[q]? = ((WM.alloc (.cells #[.int .i64 (e0.1 : Int), .int .i64 (e0.2 : Int)] 34)).alloc (.cells #[] 34)).heap[q]? := fun q hq => hgrow9.block q (by simp; omega) (by simp [Value.ownBlock]; omega)
            have hz9 : B ≤ w9.heap.size := by have := hgrow9.size; rw [hszA] at this; omega
            have hm9 : MapAt w9 b g xs := ⟨(hblk b (by have := hmM.lt; omega)).trans hmA.obj, (hblk g (by have := hmM.lt; omega)).trans hmA.st, hmA.n⟩
            have hnw9 : Nw w w9 := Fr.grown hnwA2 hgrow9 (fun q hq => .inr (by simp only [Act.eval, Value.ownBlock] at hq; simp at hq; omega))
            have hb9 := (hblk M (by omega)).trans hbA
            have hx9 := (hblk WM.heap.size (by omega)).trans hxA
            have hr9 : Row B w9 v9 had := by unfold Row; rw [ecells_nil, List.nil_append] at hown9; simpa using hown9
            have m0 : w9.cell? ⟨M, 0, none⟩ = some (.int .i64 4) := cell_blk hb9 rfl
            have e0c : w9.cell? ⟨WM.heap.size, 0, none⟩ = some (.int .i64 (e0.1 : Int)) := cell_blk hx9 rfl
            have e1c : w9.cell? ⟨WM.heap.size, 1, none⟩ = some (.int .i64 (e0.2 : Int)) := cell_blk hx9 rfl
            have hfr := c_later _ hm9 (e0.1 : Int) (e0.2 : Int) (by omega)
            have hte : turnE xs (e0.1 : Int) (e0.2 : Int) 1 = 0 := by unfold turnE; rw [hcan]; rfl
            rw [hte] at hfr
            unfold ext at hfr
            clear hown9 hgrow9 hat9 hblk hcutA hlitA hmA hnwA hnwA2 hbA hxA hcutR hmM hnwM hx9 hte hcan hszA
            go_wp2_with (go_at_call 21; refine hfr.mono ?_; rintro e WB ⟨rfl, hmB, hfB⟩; refine stop_here ?_)
            unfold Hid
            have hbB := (hfB.block M (heap_lt hb9) hMg).trans hb9
            have m0 : WB.cell? ⟨M, 0, none⟩ = some (.int .i64 4) := cell_blk hbB rfl
            go_wp2
            have hnwB := Fr.new hnw9 hfB hT
            have hrB := hr9.keep hfB (fun q hq _ e => by omega)
            go_meet
            case rel => exact ⟨_, _, hmB, hnwB, hrB, hH2, hMl, by have := hfB.size; omega⟩

      by_cases hk5 : ak = 5
      · subst hk5
        have hcm := c_commit _ hmM
        have hH2 := hH.commit
        have hMl := commitX_length xs
        rw [hxlH.out] at hMl
        go_wp2_with (go_at_call 23; refine hcm.mono ?_; rintro e W3 ⟨rfl, hm3, hf3⟩)
        have hnw3 := Fr.new hnwM hf3 hT
        have hr3 := hrM.keep hf3 (fun q hq _ e => by omega)
        go_meet
        case rel => exact ⟨_, _, hm3, hnw3, hr3, hH2, hMl, by have := hf3.size; omega⟩
      have b0 : (ak == 0) = false := by simpa using hk0
      have b1 : (ak == 1) = false := by simpa using hk1
      have b2 : (ak == 2) = false := by simpa using hk2
      have b3 : (ak == 3) = false := by simpa using hk3
      have b4 : (ak == 4) = false := by simpa using hk4
      have b5 : (ak == 5) = false := by simpa using hk5
      clear hk0 hk1 hk2 hk3 hk4 hk5
      go_wp2
      go_meet
      case rel => exact ⟨_, _, hmM, hnwM, hrM, hH, hxlH.out, hBM⟩
    case rest =>
      clear hmM hnwM hrM hH hxlH hBM hbM m0 m1 hMg hhlH okk okn oks okl
      obtain ⟨xs, had, hm, hnw, hr, hH, hxl, hwz⟩ := hcut
      obtain ⟨hw1, hw2, hw3⟩ := hH.whole
      have hrl0 := runs_length 0 xs
      have hrl2 := runs_length 2 xs
      have hal : (allOf had xs).length ≤ 1024 := by
        have h1 := length_le_total _ (fun e he => (hw3 e he).1)
        omega
      have hhl : had.length ≤ 1024 := by have := hH.small; omega
      rw [hxl] at hw1 hw2 hw3 hrl0 hrl2
      have hxlH : Hid (xs.length = T) := hxl
      have hw2H : Hid (total (allOf had xs) = T) := hw2
      have hbl := hm.lt
      clear hxl hw2
      obtain ⟨ho2, hcp2, rfl⟩ := owns_form hr
      have hnC : Nw wc ((wc.alloc (.cells ((cnts []).map bv).toArray 29)).setRow wc.heap.size ((cnts []).map bv).toArray) := Fr.setRow (Fr.alloc (Fr.refl _ wc) _) (.inr (Nat.le_refl _)) _
      have hbC : ((wc.alloc (.cells ((cnts []).map bv).toArray 29)).setRow wc.heap.size ((cnts []).map bv).toArray).heap[wc.heap.size]? = some (.cells ((cnts []).map bv).toArray 29 (0, 0)) := setRow_heap _ _ _ _ 29 _ (heap_alloc_new wc _)
      generalize hWC : (wc.alloc (.cells ((cnts []).map bv).toArray 29)).setRow wc.heap.size ((cnts []).map bv).toArray = WC at *
      have hWCH : Hid ((wc.alloc (.cells ((cnts []).map bv).toArray 29)).setRow wc.heap.size ((cnts []).map bv).toArray = WC) := hWC
      clear hWC
      have hmC := hm.nw hnC
      have hEC : ESl (fun _ => True) WC (.slice ho2 had.length hcp2) had := hr.esl.keep hnC (fun _ _ => id) (fun _ _ _ => trivial)
      have hE1 := (hEC.keep (X' := fun _ => True) ((Fr.refl (fun _ => False) WC).alloc (.cells #[] 34)) (fun _ _ => id) (fun _ _ _ => trivial)).sl
      have hlit1 := own_litN WC WC.heap.size WC.heap.size rfl (Nat.le_refl _)
      have hszC := hnC.size
      have hcbl := heap_lt hbC
      clear hEC
      go_wp2_with (first
        | (refine wpList_build_as rfl 29 _ rfl (.agg ((cnts []).map bv).toArray) _ rfl Try.builtC ?_)
        | (refine wpList_alloc_agg rfl 29 rfl _ Try.zeroC ?_)
        | (refine wpList_store_all rfl 29 _ _ rfl wc.heap.size rfl (.agg ((cnts []).map bv).toArray) rfl _ rfl _ 29 (heap_alloc_new wc _) rfl (bv_oneCell _) (sizeC _) ?_; rw [hWCH.out])
        | (at_builtin; refine wpList_append_sl _ rfl _ _ 26 rfl WC.heap.size 34 i0 _ 2 16 Try.underlying26 hj hj0 hj1 hj2 rfl (by decide) (.slice (some ⟨WC.heap.size, 0, none⟩) 0 0) 0 [] rfl hlit1 _ _ had.length _ rfl hE1 (ecells_length had) (ecells_oneCell had) (by unfold maxLen; omega) (by omega) (by simp) ?_; intro v5 W5 ho5 hg5 hv5; refine stop_here ?_))
      unfold Hid
      obtain ⟨hr5, hm5, hn5⟩ := row_more (p := had) hlit1 (hmC.nw ((Fr.refl _ WC).alloc _)) (Fr.alloc (Fr.refl (fun _ => False) WC) _) (Nat.le_refl _) (by omega) (by omega) (by rw [ecells_nil]; simpa using ho5) hg5
      rw [List.nil_append] at hr5
      have hls5 := c_list _ hm5
      obtain ⟨vo5, vc5, rfl⟩ := owns_form hr5
      clear hWCH hE1 hlit1 ho5 hg5 hv5
      go_wp2_with (go_at_call 11; refine hls5.mono ?_; rintro e W6 ⟨v6, rfl, hr6, hn6⟩; refine stop_here ?_)
      unfold Hid
      have hE6 := hr6.esl.sl
      have hr56 : Row WC.heap.size W6 (.slice vo5 had.length vc5) had := hr5.keep hn6 (fun _ _ _ => id)
      have hm6 := hm5.nw hn6
      have hn6C := nw_trans hn5 hn6
      obtain ⟨vo6, vc6, rfl⟩ := owns_form hr6
      clear hls5 hr6 hr5 hm5 hn5 hn6
      go_wp2_with (at_builtin; refine wpList_append_sl _ rfl _ _ 26 rfl WC.heap.size 34 i0 _ 2 16 Try.underlying26 hj hj0 hj1 hj2 rfl (by decide) (.slice vo5 had.length vc5) _ _ rfl hr56 _ _ (runs 0 xs).length _ rfl hE6 (ecells_length _) (ecells_oneCell _) (by unfold maxLen; omega) (by omega) hn6C.size ?_; intro v7 W7 ho7 hg7 hv7; refine stop_here ?_)
      unfold Hid
      obtain ⟨hr7, hm7, hn7⟩ := row_more (p := runs 0 xs) hr56 hm6 hn6C (Nat.le_refl _) (by omega) (by omega) ho7 hg7
      have hwt7 := c_waiting _ hm7
      have hl7 : (had ++ runs 0 xs).length ≤ 2048 := by rw [List.length_append]; omega
      obtain ⟨vo7, vc7, rfl⟩ := owns_form hr7
      generalize hp : had ++ runs 0 xs = pp at *
      have hpH : Hid (had ++ runs 0 xs = pp) := hp
      clear hp hr56 hm6 hn6C ho7 hg7 hv7 hE6
      go_wp2_with (go_at_call 28; refine hwt7.mono ?_; rintro e W8 ⟨v8, rfl, hr8, hn8⟩; refine stop_here ?_)
      unfold Hid
      have hE8 := hr8.esl.sl
      have hr78 : Row WC.heap.size W8 (.slice vo7 pp.length vc7) pp := hr7.keep hn8 (fun _ _ _ => id)
      have hm8 := hm7.nw hn8
      have hn8C := nw_trans hn7 hn8
      obtain ⟨vo8, vc8, rfl⟩ := owns_form hr8
      clear hwt7 hr8 hr7 hm7 hn7 hn8
      go_wp2_with (at_builtin; refine wpList_append_sl _ rfl _ _ 26 rfl WC.heap.size 34 i0 _ 2 16 Try.underlying26 hj hj0 hj1 hj2 rfl (by decide) (.slice vo7 pp.length vc7) _ _ rfl hr78 _ _ (runs 2 xs).length _ rfl hE8 (ecells_length _) (ecells_oneCell _) (by unfold maxLen; omega) (by omega) hn8C.size ?_; intro v9 W9 ho9 hg9 hv9; refine stop_here ?_)
      unfold Hid
      obtain ⟨hr9, hm9, hn9⟩ := row_more (p := runs 2 xs) hr78 hm8 hn8C (Nat.le_refl _) (by omega) (by omega) ho9 hg9
      have heq : Hid (pp ++ runs 2 xs = allOf had xs) := by unfold Hid allOf; rw [hpH.out]
      rw [heq.out] at hr9
      have hE9 : ESl (fun q => WC.heap.size ≤ q) W9 v9 (allOf had xs) := hr9.esl
      obtain ⟨vo9, vc9, rfl, hvc1, hvc2⟩ := hE9.form
      have hbC9 := (hn9.block _ hcbl id).trans hbC
      clear heq hpH hr9 hr78 hm8 hn8C ho9 hg9 hv9 hE8
      obtain ⟨cb, hcb⟩ : ∃ cb, Hid (wc.heap.size = cb) := ⟨_, rfl⟩
      obtain ⟨CB, hCB⟩ : ∃ CB, Hid (WC.heap.size = CB) := ⟨_, rfl⟩
      have hcCB : cb < CB := by rw [← hcb.out, ← hCB.out]; exact hcbl
      have hwcb : wc.heap.size ≤ cb := by rw [← hcb.out]; exact Nat.le_refl _
      rw [hcb.out] at hbC9 ⊢
      rw [hCB.out] at hE9
      generalize allOf had xs = es at *
      clear hbC hcbl
      go_wp2
      go_loopw [19, 153] (fun s i W => ∃ j : Nat, j ≤ es.length ∧ i = .int .i64 j ∧ s = .int .i64 (total (es.take j) : Nat) ∧ W.heap[cb]? = some (.cells ((cnts (es.take j)).map bv).toArray 29 (0, 0)) ∧ Fr (fun q => q = cb) W9 W) (fun _ i _ => es.length - (intOf i).toNat)
      case atStart => exact ⟨0, Nat.zero_le _, rfl, rfl, hbC9, Fr.refl _ _⟩
      case round =>
        clear hbC9
        obtain ⟨j, hjl, rfl, rfl, hbj, hfj⟩ := hrel
        have htl := total_take_le es j
        rw [hw2H.out] at htl
        by_cases hlt2 : j < es.length
        · have hEj : ESl (fun _ => True) wr (.slice vo9 es.length vc9) es := hE9.keep hfj (fun q hq e => by omega) (fun _ _ _ => trivial)
          obtain ⟨q2, off2, rfl, _, d0, d1⟩ := hEj.get j hlt2
          have hsum2 : Hid (total (es.take (j + 1)) = total (es.take j) + es[j].2) := total_take_succ es j hlt2
          have hmj := hw3 es[j] (List.getElem_mem hlt2)
          have hsplit : es.take j ++ es[j] :: es.drop (j + 1) = es := by simp
          have hzero : ∀ i, Ins es[j] i → hits (es.take j) i = 0 := fun i hi => by
            have h1 := hw1 i (by unfold Ins at hi; omega)
            rw [← hsplit] at h1
            exact hits_none_of h1 hi
          have hnx : Hid (cnts (es.take (j + 1)) = cnts (es.take j ++ [es[j]])) := by unfold Hid; rw [List.take_succ_eq_append_getElem hlt2]
          have hlj := heap_lt hbj
          clear hEj hsplit
          generalize es[j] = ej at *
          generalize hgt : total (es.take j) = tj at *
          generalize es.take j = pre at *
          clear hgt
          obtain ⟨es1, es2⟩ := ej
          simp only at hmj hsum2 d0 d1 hzero
          have hbV := (Below.heap_alloc wr (.cells #[.int .i64 (es1 : Int), .int .i64 (es2 : Int)] 34) cb hlj).trans hbj
          have heV : (wr.alloc (.cells #[.int .i64 (es1 : Int), .int .i64 (es2 : Int)] 34)).heap[wr.heap.size]? = some (.cells #[.int .i64 (es1 : Int), .int .i64 (es2 : Int)] 34 (0, 0)) := heap_alloc_new wr _
          have hfV := hfj.alloc (.cells #[.int .i64 (es1 : Int), .int .i64 (es2 : Int)] 34)
          have hevne : wr.heap.size ≠ cb := by omega
          have g1 : decide ((es2 : Int) < 1) = false := decide_eq_false (by omega)
          have g2 : decide ((es1 : Int) < 0) = false := decide_eq_false (by omega)
          have g3 : decide ((T : Int) - (es2 : Int) < (es1 : Int)) = false := decide_eq_false (by omega)
          go_wp2
          generalize hWV : wr.alloc (.cells #[.int .i64 (es1 : Int), .int .i64 (es2 : Int)] 34) = WV at *
          clear hWV
          generalize wr.heap.size = ev at *
          go_loopw [19, 22] (fun s i V => ∃ r : Nat, r ≤ es2 ∧ i = .int .i64 ((es1 + r : Nat) : Int) ∧ s = .int .i64 ((tj + r : Nat) : Int) ∧ V.heap[cb]? = some (.cells ((cnts (pre ++ [(es1, r)])).map bv).toArray 29 (0, 0)) ∧ V.heap[ev]? = some (.cells #[.int .i64 (es1 : Int), .int .i64 (es2 : Int)] 34 (0, 0)) ∧ Fr (fun q => q = cb) W9 V) (fun _ i _ => es1 + es2 - (intOf i).toNat)
          case atStart => exact ⟨0, Nat.zero_le _, by go_num, by go_num, by rw [cnts_zero_ext]; exact hbV, heV, hfV⟩
          case round =>
            clear hbV heV hfV
            obtain ⟨r, hrl, rfl, rfl, hbV, heV, hfV⟩ := hrel
            have v0 : wr.cell? ⟨ev, 0, none⟩ = some (.int .i64 (es1 : Int)) := cell_blk heV rfl
            have v1 : wr.cell? ⟨ev, 1, none⟩ = some (.int .i64 (es2 : Int)) := cell_blk heV rfl
            by_cases hlt3 : r < es2
            · have hz := hzero (es1 + r) (by unfold Ins; simp only; omega)
              have hc0 : wr.cell? ⟨cb, es1 + r, none⟩ = some (.int .u8 0) := cell_blk hbV (by
                have := cnts_zero [] pre es1 0 r hz (by omega)
                simp [this, bv])
              have hcf : wr.frozen? ⟨cb, es1 + r, none⟩ = false := free_blk hbV
              have hst : (wr.setCell ⟨cb, es1 + r, none⟩ (.int .u8 1)).heap[cb]? = some (.cells ((cnts (pre ++ [(es1, r + 1)])).map bv).toArray 29 (0, 0)) := by
                rw [blk_setCell hbV, ← cnts_step pre es1 r hz (by omega), List.map_set]
                simp [bv]
              have hff : Fr (fun q => q = cb) wr (wr.setCell ⟨cb, es1 + r, none⟩ (.int .u8 1)) := (Fr.refl (fun q => q = cb) wr).setCell (p := ⟨cb, es1 + r, none⟩) (.inl rfl) _
              have he2 := (hff.block ev (heap_lt heV) hevne).trans heV
              have hf2 := hfV.trans hff (fun q hq => .inl hq)
              clear hbV heV hfV hff hz hzero
              generalize hri : es1 + r = ri at *
              have hriH : Hid (es1 + r = ri) := hri
              generalize htr : tj + r = tr at *
              have htrH : Hid (tj + r = tr) := htr
              clear hri htr
              have hr1 : ri < es1 + es2 := by have := hriH.out; omega
              have hr2 : ri < 1024 := by omega
              have hr3 : tr ≤ 2048 := by have := htrH.out; omega
              go_wp2
              go_roundw
              case rel => exact ⟨r + 1, by omega, by rw [← Nat.add_assoc, hriH.out]; go_num, by rw [← Nat.add_assoc, htrH.out]; go_num, hst, he2, hf2⟩
              case measure => simp [intOf]; omega
            · obtain rfl : r = es2 := by omega
              clear hzero
              rw [← hnx.out] at hbV
              rw [← hsum2.out]
              go_wp2
              go_roundw
              case rel => exact ⟨j + 1, by omega, by go_num, rfl, hbV, hfV⟩
              case measure => simp [intOf]; omega
        · rw [List.take_of_length_le (by omega), hw2H.out]
          rw [List.take_of_length_le (by omega)] at hbj
          clear hE9 htl
          go_wp2
          go_loop [23] (fun i => ∃ r : Nat, r ≤ T ∧ i = .int .i64 r) (fun i => T - (intOf i).toNat)
          case atStart => exact ⟨0, Nat.zero_le _, rfl⟩
          case round =>
            obtain ⟨r, hrl, rfl⟩ := hrel
            by_cases hlt3 : r < T
            · have hc0 : wr.cell? ⟨cb, r, none⟩ = some (.int .u8 1) := cell_blk hbj (by
                have h1 := cnts_get es r (by omega)
                rw [hw1 r hlt3] at h1
                simp [h1, bv])
              go_wp2
              go_round
              case rel => exact ⟨r + 1, by omega, by go_num⟩
              case measure => simp [intOf]; omega
            · have hnwE : Nw wc wr := Fr.new (nw_trans hnC hn9) hfj (fun q hq => by omega)
              have hmE := hm.nw hnwE
              have hrE := hr.keep hnwE (fun _ _ _ => id)
              have hnE := nw_trans hnw hnwE
              have hzE : B ≤ wr.heap.size := by have := hnwE.size; omega
              clear hbj hfj hw1 hw3 hm9 hmC hm hr hnw
              go_wp2
              go_roundw
              case rel => exact ⟨k + 1, xs, had, by omega, by go_num, hmE, hnE, hrE, hH, hxlH.out, hzE⟩
              case measure => simp [intOf]; omega

set_option maxRecDepth 100000 in
theorem lifted (os : Os) (started : os.Started) (H : Type) (enc : TypeId × Value → H) :
    ReturnsInHanded {} Try.checked os 5 .any (Rows.extentApartSpec.pre6 enc Try.prog Try.f5 Rows.extentApartRow.domain false) (Rows.extentApartSpec.post enc Try.prog Try.f5 false true false false) := by
  refine returnsInHanded_of_change_sized (C := Try.checked) own started (by kernel_rfl) Try.func5
    (ChangeSpec.witness6 (enc := enc) (C := Try.checked) false ⟨#[], #[.int .i64 0, .slice none 0 0], []⟩ 8 (by kernel_rfl) (by kernel_rfl) (by kernel_rfl) (by kernel_rfl)) ?_
  intro W base args ds gs before hval0 hW hcnd hsz0 _
  have hval : ∀ (j : Nat) t v, Try.f5.params[j]? = some t → args[j]? = some v → Value.okWide Try.prog W .any base t v := hval0
  have hsz : (DataW.weightsEach Try.prog (Try.f5.params.toList ++ Rows.extentApartSpec.plain.varTypes Try.prog) (ds ++ gs)).all (· ≤ reachBytes) = true := hsz0
  have hW' := hW
  obtain ⟨p, q, hA0, hV, rfl, hfz, hnd⟩ := hW
  have hA : DataW.TrodAll enc Try.prog W 0 (fun _ => true) true Try.f5.params.toList args.toList ds p := hA0
  rw [Try.params5] at hA hval hsz
  obtain ⟨v0, vs0, d0, ds0, p0, q0, hargs, rfl, rfl, h0, r0⟩ := trodAll_cons hA
  obtain ⟨v1, vs1, d1, ds1, p1, q1, rfl, rfl, rfl, h1, r1⟩ := trodAll_cons r0
  obtain ⟨rfl, rfl, rfl⟩ := trodAll_nil r1
  obtain rfl : args = #[v0, v1] := by cases args; simp_all
  obtain ⟨rfl, rfl⟩ := trodVars_none hV
  obtain ⟨a0, rfl, rfl, rfl, w0⟩ := open_int Try.underlying3 (hval 0 3 v0 rfl rfl) h0
  obtain ⟨a1, len1, cap1, rfl⟩ := okWide_slice Try.underlying28 (hval 1 28 v1 rfl rfl)
  have k1 := h1
  have lt1 : ∀ x ∈ p1, x.block < W.heap.size := by obtain ⟨m, hm⟩ := k1; exact DataW.trod_lt m _ _ _ hm
  obtain ⟨x1, w1, l1⟩ : ∃ xs : List EAct, EActsAt W.heap.size W (.slice a1 len1 cap1) xs ∧ xs.length ≤ 140737488351232 := by
    obtain ⟨fuel, hf⟩ := h1
    exact open_eacts (v := .slice a1 len1 cap1) hf (fun n hn => by have := List.all_eq_true.1 hsz n (DataW.weights_mem_each (j := 1) (t := 28) rfl rfl n hn); simpa using this)
  clear hA0 hval0
  refine (walk W a0 w0 _ x1 w1 l1).mono fun e W' ⟨he, bel⟩ => ?_
  subst he
  exact ⟨_, rfl, _, _, _, [], _, [], hW', trodAll_mk1 (shut_bool Try.underlying4 _), (trodAll_cons_mk (shut_int Try.underlying3 w0) (trodAll_cons_mk (Below.trod laidOut (by kernel_rfl) (of_decide_eq_true (by kernel_rfl)) k1 bel lt1) trodAll_mk0)), rfl, bel.frame _, fun h => by cases h⟩

theorem over : Rows.extentApartRow.holds Try.pinned (OpenSpec.ofChange Rows.extentApartSpec) :=
  OpenClaim.holds_of_wide 5 Try.f5 rfl rfl rfl rfl rfl rfl rfl ⟨rfl, rfl, rfl, rfl, rfl⟩ rfl rfl rfl rfl rfl (by kernel_rfl) Try.func5 (by kernel_rfl)
    (of_decide_eq_true (by kernel_rfl)) (by unfold Func.isWrapper; first | (rw [if_pos (by decide +kernel)]; kernel_rfl) | (rw [if_neg (by decide +kernel)]; exact ⟨rfl, rfl⟩))
    (fun os started H enc _ => lifted os started H enc)
end Go.Proofs.Ytelobmdlnkkbkaa.extentApart
namespace Go.Proofs.Ytelobmdlnkkbkaa
/-- The given statement. -/
theorem extentApart_holds : Rows.ExtentApartSaid := extentApart.over
end Go.Proofs.Ytelobmdlnkkbkaa
