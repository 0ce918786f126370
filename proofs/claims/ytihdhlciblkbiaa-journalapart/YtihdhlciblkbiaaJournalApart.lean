/-
  JournalApart returns true for every list of texts and every record: what a generation left isn't found by another one, and its first record there leaves nothing of the elder behind it.
  Conditions: none; the statement is the given one, for every input.
-/
import Derived.Test.YtihdhlciblkbiaaRows
import Derived.Test.YtihdhlciblkbiaaJourF1
import Derived.Test.YtihdhlciblkbiaaLibOpen2
import Derived.WalkKit
import Derived.ProofKit
import Derived.OpenShut
import Derived.ShutString
import Derived.ChangeOld
import Derived.Below
import Derived.SizedLaws
namespace Go.Proofs.Ytihdhlciblkbiaa.journalApart
open Go.ChangeShapes Go.WideShapes Go.ChangeAt Go.RowKit
open Go.ChangeMaps (open_string shut_string)
set_option linter.unusedVariables false
set_option linter.unusedSimpArgs false

theorem own : ownKnob Try.prog.godebug = none := by kernel_rfl
theorem laidOut : laidOutB Try.prog = true := by kernel_rfl

theorem mark_ne {g h : Nat} (hg : g < 256) (hh : h < 256) (hne : g ≠ h) : be 8 (hdMark g 0) ≠ be 8 (hdMark h 0) := fun e => by
  have := be_inj (by unfold hdMark; omega) (by unfold hdMark; omega) e
  unfold hdMark at this
  omega

theorem elder_ne {D : Dk} {l : List (List UInt8)} (h : Gen D 0 8 1 l) {g : Nat} (hg : g < 256) (h1 : 1 ≤ g) (h8 : g ≠ 8) : (D.at (headN 0 0)).drop 120 ≠ be 8 (hdMark g 0) := by
  cases l with
  | nil => exact tail_ne (h.rest 0 (by simp) (by omega)) h1 hg (by omega)
  | cons x l =>
    rw [(h.has 0 x rfl).2.1, hdSec_eq, seal_drop (hd_ok 8 0 x).2]
    exact mark_ne (by omega) hg (fun e => h8 e.symm)

theorem first_ne {D : Dk} {x : List UInt8} (h : Gen D 0 9 9 [x]) : (D.at (headN 0 0)).drop 120 ≠ be 8 (hdMark 8 0) := by
  rw [(h.has 0 x rfl).2.1, hdSec_eq, seal_drop (hd_ok 9 0 x).2]
  exact mark_ne (by omega) (by omega) (by omega)

set_option maxRecDepth 20000 in
set_option maxHeartbeats 3200000 in
/-- The law's own walk. -/
theorem walk (w : World) (v0 : Value) (x0 : List (List UInt8)) (w0 : Parts w.heap.size w v0 x0) (l0 : x0.length ≤ 140737488351232) (v1 : Value) (x1 : List UInt8) (w1 : Sl w.heap.size w v1 x1.length (x1.map bv)) (l1 : x1.length ≤ 140737488351232) :
    Calls Try.prog 6 #[v0, v1] w fun e w' => e = .returned (.bool true) ∧ Below w.heap.size w w' := by
  obtain ⟨i5, hi5, hz50, hz51, hz52⟩ := info5
  obtain ⟨ao, cap, rfl, hac, hacs⟩ := w0
  obtain ⟨bo, bc, rfl⟩ := sl_form w1
  go_enter Try.func6, Try.ntmps6
  go_wp2_with (go_at_call 8; refine stop_here ?_)
  unfold Hid
  refine (c_jalive _).mono ?_
  rintro e W1 ⟨rfl, hb1⟩
  by_cases h6 : 6 < x0.length
  · have hd : decide (6 < (x0.length : Int)) = true := decide_eq_true (by omega)
    clear hacs w1
    generalize x0.length = n at *
    go_wp2
    go_ret
    exact ⟨rfl, hb1⟩
  have hd : decide (6 < (x0.length : Int)) = false := decide_eq_false (by omega)
  obtain ⟨n, hn⟩ : ∃ n, Hid (x0.length = n) := ⟨_, rfl⟩
  rw [hn.out] at hd h6 hac l0 ⊢
  by_cases h384 : 384 < x1.length
  · have hd2 : decide (384 < (x1.length : Int)) = true := decide_eq_true (by omega)
    clear hacs w1
    generalize x1.length = m at *
    go_wp2
    go_ret
    exact ⟨rfl, hb1⟩
  have hd2 : decide (384 < (x1.length : Int)) = false := decide_eq_false (by omega)
  go_wp2_with (go_at_call 9; refine stop_here ?_)
  unfold Hid
  refine (c_new 16 _).mono ?_
  rintro e W2 ⟨b, S, rfl, hD, hn2⟩
  go_wp2_with (go_at_call 12; refine stop_here ?_)
  unfold Hid
  refine (c_start (f := 0) (gen := 8) _ (by decide) (by decide)).mono ?_
  rintro e W3 ⟨rfl, hj3, hn3⟩
  have hJC := JC.start hD hj3 hn3 (Nat.le_refl _) (new_calm 16) (new_heads (f := 0) (t := 1) (by decide) (by decide) (by decide))
  have hw1 : w.heap.size ≤ W1.heap.size := hb1.size
  have hw2 : W1.heap.size ≤ W2.heap.size := hn2.size
  have hnw : Nw w W3 := ((nw_of_below hb1).trans hn2).trans hn3
  clear hD hj3 hn3 hn2
  go_wp2
  go_loopw [25] (fun i wr => ∃ (k : Nat) (l : List (List UInt8)) (S : Nat → Prop) (D : Dk), k ≤ n ∧ i = .int .i64 k ∧ JC W1.heap.size wr b S D W2.heap.size 0 8 1 l ∧ Nw w wr) (fun i _ => n - (intOf i).toNat)
  case atStart => exact ⟨0, [], S, _, Nat.zero_le _, rfl, hJC, hnw⟩
  case round =>
    clear hJC hnw
    obtain ⟨k, l, S, D, hk, rfl, hJC, hnw⟩ := hrel
    by_cases hlt : k < n
    case pos =>
      have hkx : k < x0.length := by rw [hn.out]; exact hlt
      obtain ⟨ab, aoff, u, rfl, hab, hac0, hus, hul⟩ := hacs k x0[k] (List.getElem?_eq_getElem hkx)
      clear hacs
      generalize x0[k] = x at *
      clear hkx
      have hac0 := cell_nw hac0 hnw
      obtain ⟨uo, uc, rfl⟩ := sl_form hus
      have hcp : Sl w.heap.size (wr.alloc (.cells #[] 5)) (.slice uo x.length uc) x.length (x.map bv) := hus.keep (below_of_nw (Fr.alloc hnw _))
      go_wp2_with (at_builtin; refine wpList_append_sl _ rfl _ _ 37 rfl wr.heap.size 5 i5 (.int .u8 0) 1 1 Try.underlying37 hi5 hz50 hz51 hz52 rfl (by decide) _ 0 [] rfl (World.ownsRow_lit wr #[] 0 (Nat.le_refl _) (by decide) rfl) w.heap.size _ x.length (x.map bv) rfl hcp (by simp) (bv_oneCell _) (by unfold maxLen; omega) (by omega) (by simp) ?_; intro v2 A2 ho2 hg2 hv2; refine stop_here ?_)
      unfold Hid
      have hn2 : Nw wr A2 := Fr.grown ((Fr.refl _ wr).alloc _) hg2 (fun q hq => .inr (by simp only [Act.eval, Value.ownBlock] at hq; simp at hq; omega))
      have ho2 : A2.ownsRow wr.heap.size 5 1 v2 x.length (x.map bv) := by simpa using ho2
      have hs2 := copy_slp (w := w) ho2 (S := S) (fun q hq => (hJC.d.ge q hq).2)
      have hJC2 := hJC.nw hn2
      have hnw2 := hnw.trans hn2
      obtain ⟨vo2, vc2, rfl⟩ := owns_form ho2
      clear hcp hg2 hv2 ho2 hJC hn2
      go_wp2_with (go_at_call 13; refine stop_here ?_)
      unfold Hid
      refine (c_calm _ hJC2 hs2 hul).mono ?_
      rintro e A3 ⟨S3, D3, l3, z3, rfl, hJC3, hf3, hS3, -⟩
      have hnw3 := nw_over hnw2 hJC2.d hw1 (by omega) hf3
      clear hs2 hf3 hS3 hJC2 hus hnw2
      generalize x.length = xl at *
      go_wp2
      go_roundw
      case rel => exact ⟨k + 1, _, _, _, by omega, by go_num, hJC3, hnw3⟩
      case measure => simp [intOf]; omega
    obtain rfl : k = n := by omega
    have hR := hJC.c.rest
    have hsc9 := heads_scan hR (hJC.g.heads (by decide) (by decide)) (by decide)
    have hsc7 := scan_other hR hJC.g.len (elder_ne hJC.g (g := 7) (by decide) (by decide) (by decide))
    have hH9 := hJC.g.heads (by decide) (by decide)
    have hlen := hJC.g.len
    have hC := hJC.c
    have hD := hJC.d
    have hw1s := w1.keep (below_of_nw hnw)
    clear hacs hJC
    go_wp2_with (go_at_call 21; refine stop_here ?_)
    unfold Hid
    refine (c_scan (f := 0) (gen := 9) _ hD (by decide) (by decide) hlen).mono ?_
    rintro e B1 ⟨u1, rfl, hp1, hn1⟩
    rw [show D.scan 0 9 = [] from hsc9] at hp1
    obtain ⟨o1, c1, rfl, -, -⟩ := hp1
    simp only [List.length_nil]
    have hD1 := hD.keep hn1 (fun _ _ => id)
    have hnw1 := hnw.trans hn1
    clear hD hn1 hnw hsc9
    go_wp2_with (go_at_call 21; refine stop_here ?_)
    unfold Hid
    refine (c_scan (f := 0) (gen := 7) _ hD1 (by decide) (by decide) hlen).mono ?_
    rintro e B2 ⟨u2, rfl, hp2, hn2⟩
    rw [hsc7] at hp2
    obtain ⟨o2, c2, rfl, -, -⟩ := hp2
    simp only [List.length_nil]
    have hD2 := hD1.keep hn2 (fun _ _ => id)
    have hnw2 := hnw1.trans hn2
    clear hD1 hn2 hnw1 hsc7
    go_wp2_with (go_at_call 12; refine stop_here ?_)
    unfold Hid
    refine (c_start (f := 0) (gen := 9) _ (by decide) (by decide)).mono ?_
    rintro e B3 ⟨rfl, hj3, hn3⟩
    have hJC := JC.start hD2 hj3 hn3 (Nat.le_refl _) hC hH9
    have hnw3 := hnw2.trans hn3
    have hwB2 : w.heap.size ≤ B2.heap.size := hnw2.size
    clear hD2 hj3 hn3 hC hH9 hR hnw2 hw1s
    have hcp : Sl w.heap.size (B3.alloc (.cells #[] 5)) (.slice bo x1.length bc) x1.length (x1.map bv) := w1.keep (below_of_nw (Fr.alloc hnw3 _))
    go_wp2_with (at_builtin; refine wpList_append_sl _ rfl _ _ 37 rfl B3.heap.size 5 i5 (.int .u8 0) 1 1 Try.underlying37 hi5 hz50 hz51 hz52 rfl (by decide) _ 0 [] rfl (World.ownsRow_lit B3 #[] 0 (Nat.le_refl _) (by decide) rfl) w.heap.size _ x1.length (x1.map bv) rfl hcp (by simp) (bv_oneCell _) (by unfold maxLen; omega) (by omega) (by simp) ?_; intro v2 A2 ho2 hg2 hv2; refine stop_here ?_)
    unfold Hid
    have hn2 : Nw B3 A2 := Fr.grown ((Fr.refl _ B3).alloc _) hg2 (fun q hq => .inr (by simp only [Act.eval, Value.ownBlock] at hq; simp at hq; omega))
    have ho2 : A2.ownsRow B3.heap.size 5 1 v2 x1.length (x1.map bv) := by simpa using ho2
    have hs2 := copy_slp (w := w) ho2 (S := S) (fun q hq => (hJC.d.ge q hq).2)
    have hJC2 := hJC.nw hn2
    have hnw4 := hnw3.trans hn2
    obtain ⟨vo2, vc2, rfl⟩ := owns_form ho2
    clear hcp hg2 hv2 ho2 hJC hn2 hnw3
    go_wp2_with (go_at_call 13; refine stop_here ?_)
    unfold Hid
    refine (c_calm _ hJC2 hs2 (by omega)).mono ?_
    rintro e A3 ⟨S3, D3, l3, z3, rfl, hJC3, hf3, hS3, hz3⟩
    obtain ⟨rfl, rfl⟩ : z3 = 0 ∧ l3 = [x1] := by
      rcases hz3 with ⟨h, -, -⟩ | ⟨-, h, -, -⟩ | ⟨-, -, h1, h2⟩
      · exact absurd h h384
      · exact absurd h (by decide)
      · exact ⟨h1, h2⟩
    have hnw5 := nw_over hnw4 hJC2.d hw1 (by omega) hf3
    have hR3 := hJC3.c.rest
    have hsc := hJC3.g.scan hR3.pd hR3.ok (Nat.le_refl _) (by decide)
    have hsc8 := scan_other hR3 hJC3.g.len (first_ne hJC3.g)
    have hlen3 := hJC3.g.len
    have hD3 := hJC3.d
    have hw1s := w1.keep (below_of_nw hnw5)
    clear hs2 hf3 hS3 hz3 hJC2 hnw4 hR3 hJC3
    go_wp2_with (go_at_call 21; refine stop_here ?_)
    unfold Hid
    refine (c_scan (f := 0) (gen := 9) _ hD3 (by decide) (by decide) hlen3).mono ?_
    rintro e B4 ⟨u4, rfl, hp4, hn4⟩
    rw [hsc] at hp4
    obtain ⟨o4, c4, rfl, -, -⟩ := id hp4
    have hD4 := hD3.keep hn4 (fun _ _ => id)
    have hnw6 := hnw5.trans hn4
    have hw1s4 := w1.keep (below_of_nw hnw6)
    have hpt := parts_one (n := B4.heap.size) 37 hw1s4 hnw6.size (by omega) rfl
    have hbP : Below B4.heap.size B4 (B4.alloc (.cells #[.slice bo x1.length bc] 37)) := (Below.refl _ _).alloc (Nat.le_refl _) _
    have hp5 := (hp4.keep hbP).mono (show B4.heap.size ≤ B4.heap.size + 1 by omega)
    have hs5 : B4.heap.size + 1 ≤ (B4.alloc (.cells #[.slice bo x1.length bc] 37)).heap.size := by simp
    have hD5 := hD4.keep (nw_of_below hbP) (fun _ _ => id)
    have hnw7 := hnw6.trans (nw_of_below hbP)
    simp only [List.length_cons, List.length_nil, Nat.zero_add] at hp5 ⊢
    clear hp4 hn4 hD3 hnw5 hw1s hw1s4 hbP hD4 hnw6 hsc
    go_wp2_with (go_at_call 20; refine stop_here ?_)
    unfold Hid
    generalize B4.alloc (.cells #[.slice bo x1.length bc] 37) = B5 at *
    refine (c_same _ _ _ _ _ _ hp5 hpt hs5 (by simp) (by simp)).mono ?_
    rintro e B6 ⟨rfl, hn6⟩
    rw [decide_eq_true rfl]
    have hD6 := hD5.keep hn6 (fun _ _ => id)
    have hnw8 := hnw7.trans hn6
    clear hp5 hpt hD5 hnw7 hn6
    go_wp2_with (go_at_call 21; refine stop_here ?_)
    unfold Hid
    refine (c_scan (f := 0) (gen := 8) _ hD6 (by decide) (by decide) hlen3).mono ?_
    rintro e B7 ⟨u7, rfl, hp7, hn7⟩
    rw [hsc8] at hp7
    obtain ⟨o7, c7, rfl, -, -⟩ := hp7
    simp only [List.length_nil]
    have hbE : Hid (Below w.heap.size w B7) := below_of_nw (hnw8.trans hn7)
    clear hn7 hD6 hnw8 hsc8
    go_wp2
    go_ret
    exact ⟨rfl, hbE.out⟩

set_option maxRecDepth 100000 in
theorem lifted (os : Os) (started : os.Started) (H : Type) (enc : TypeId × Value → H) :
    ReturnsInHanded {} Try.checked os 6 .any (Rows.journalApartSpec.pre6 enc Try.prog Try.f6 Rows.journalApartRow.domain false) (Rows.journalApartSpec.post enc Try.prog Try.f6 false true false false) := by
  refine returnsInHanded_of_change_sized (C := Try.checked) own started (by kernel_rfl) Try.func6
    (ChangeSpec.witness6 (enc := enc) (C := Try.checked) false ⟨#[], #[.slice none 0 0, .slice none 0 0], []⟩ 8 (by kernel_rfl) (by kernel_rfl) (by kernel_rfl) (by kernel_rfl)) ?_
  intro W base args ds gs before hval0 hW hcnd hsz0 _
  have hval : ∀ (j : Nat) t v, Try.f6.params[j]? = some t → args[j]? = some v → Value.okWide Try.prog W .any base t v := hval0
  have hsz : (DataW.weightsEach Try.prog (Try.f6.params.toList ++ Rows.journalApartSpec.plain.varTypes Try.prog) (ds ++ gs)).all (· ≤ reachBytes) = true := hsz0
  have hW' := hW
  obtain ⟨p, q, hA0, hV, rfl, hfz, hnd⟩ := hW
  have hA : DataW.TrodAll enc Try.prog W 0 (fun _ => true) true Try.f6.params.toList args.toList ds p := hA0
  rw [Try.params6] at hA hval hsz
  obtain ⟨v0, vs0, d0, ds0, p0, q0, hargs, rfl, rfl, h0, r0⟩ := trodAll_cons hA
  obtain ⟨v1, vs1, d1, ds1, p1, q1, rfl, rfl, rfl, h1, r1⟩ := trodAll_cons r0
  obtain ⟨rfl, rfl, rfl⟩ := trodAll_nil r1
  obtain rfl : args = #[v0, v1] := by cases args; simp_all
  obtain ⟨rfl, rfl⟩ := trodVars_none hV
  obtain ⟨a0, len0, cap0, rfl⟩ := okWide_slice Try.underlying51 (hval 0 51 v0 rfl rfl)
  have k0 := h0
  have lt0 : ∀ x ∈ p0, x.block < W.heap.size := by obtain ⟨m, hm⟩ := k0; exact DataW.trod_lt m _ _ _ hm
  obtain ⟨x0, w0, l0, m0⟩ : ∃ xs : List (List UInt8), Parts W.heap.size W (.slice a0 len0 cap0) xs ∧ xs.length ≤ 140737488351232 ∧ xs.flatten.length ≤ Rows.uptoBulk d0 := by
    obtain ⟨fuel, hf⟩ := h0
    exact open_parts (v := .slice a0 len0 cap0) hf (fun n hn => by have := List.all_eq_true.1 hsz n (DataW.weights_mem_each (j := 0) (t := 51) rfl rfl n hn); simpa using this)
  obtain ⟨a1, len1, cap1, rfl⟩ := okWide_slice Try.underlying37 (hval 1 37 v1 rfl rfl)
  have k1 := h1
  have lt1 : ∀ x ∈ p1, x.block < W.heap.size := by obtain ⟨m, hm⟩ := k1; exact DataW.trod_lt m _ _ _ hm
  obtain ⟨x1, w1, l1, m1⟩ : ∃ xs : List UInt8, Sl W.heap.size W (.slice a1 len1 cap1) xs.length (xs.map bv) ∧ xs.length ≤ 140737488351232 ∧ xs.length + 1 ≤ Rows.uptoBulk d1 := by
    obtain ⟨fuel, hf⟩ := h1
    exact open_bytes (v := .slice a1 len1 cap1) hf (fun n hn => by have := List.all_eq_true.1 hsz n (DataW.weights_mem_each (j := 1) (t := 37) rfl rfl n hn); simpa using this)
  clear hA0 hval0
  refine (walk W _ x0 w0 l0 _ x1 w1 l1).mono fun e W' ⟨he, bel⟩ => ?_
  subst he
  exact ⟨_, rfl, _, _, _, [], _, [], hW', trodAll_mk1 (shut_bool Try.underlying4 _), (trodAll_cons_mk (Below.trod laidOut (by kernel_rfl) (of_decide_eq_true (by kernel_rfl)) k0 bel lt0) (trodAll_cons_mk (Below.trod laidOut (by kernel_rfl) (of_decide_eq_true (by kernel_rfl)) k1 bel lt1) trodAll_mk0)), rfl, bel.frame _, fun h => by cases h⟩

theorem over : Rows.journalApartRow.holds Try.pinned (OpenSpec.ofChange Rows.journalApartSpec) :=
  OpenClaim.holds_of_wide 6 Try.f6 rfl rfl rfl rfl rfl rfl rfl ⟨rfl, rfl, rfl, rfl, rfl⟩ rfl rfl rfl rfl rfl (by kernel_rfl) Try.func6 (by kernel_rfl)
    (of_decide_eq_true (by kernel_rfl)) (by unfold Func.isWrapper; first | (rw [if_pos (by decide +kernel)]; kernel_rfl) | (rw [if_neg (by decide +kernel)]; exact ⟨rfl, rfl⟩))
    (fun os started H enc _ => lifted os started H enc)
end Go.Proofs.Ytihdhlciblkbiaa.journalApart
namespace Go.Proofs.Ytihdhlciblkbiaa
/-- The given statement. -/
theorem journalApart_holds : Rows.JournalApartSaid := journalApart.over
end Go.Proofs.Ytihdhlciblkbiaa
