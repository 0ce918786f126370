/-
  JournalFull returns true for every list of texts: four records have room, whatever they are, and no fifth, and what doesn't fit leaves what is there.
  Conditions: none; the statement is the given one, for every input.
-/
import Derived.Test.YtihdhlciblkbiaaRows
import Derived.Test.YtihdhlciblkbiaaJourF1
import Derived.Test.YtihdhlciblkbiaaLibOpen2
import Derived.WalkKit
import Derived.ProofKit
import Derived.OpenShut
import Derived.ShutString
import Derived.ChangeOld
import Derived.Below
import Derived.SizedLaws
namespace Go.Proofs.Ytihdhlciblkbiaa.journalFull
open Go.ChangeShapes Go.WideShapes Go.ChangeAt Go.RowKit
open Go.ChangeMaps (open_string shut_string)
set_option linter.unusedVariables false
set_option linter.unusedSimpArgs false

theorem own : ownKnob Try.prog.godebug = none := by kernel_rfl
theorem laidOut : laidOutB Try.prog = true := by kernel_rfl

set_option maxRecDepth 20000 in
set_option maxHeartbeats 3200000 in
/-- The law's own walk. -/
theorem walk (w : World) (v0 : Value) (x0 : List (List UInt8)) (w0 : Parts w.heap.size w v0 x0) (l0 : x0.length ≤ 140737488351232) :
    Calls Try.prog 7 #[v0] w fun e w' => e = .returned (.bool true) ∧ Below w.heap.size w w' := by
  obtain ⟨i5, hi5, hz50, hz51, hz52⟩ := info5
  obtain ⟨ib, hib, hzb0, hzb1, hzb2⟩ := info_bytes
  obtain ⟨ao, cap, rfl, hac, hacs⟩ := w0
  go_enter Try.func7, Try.ntmps7
  go_wp2_with (go_at_call 8; refine stop_here ?_)
  unfold Hid
  refine (c_jalive _).mono ?_
  rintro e W1 ⟨rfl, hb1⟩
  by_cases h20 : 20 < x0.length
  · have hd : decide (20 < (x0.length : Int)) = true := decide_eq_true (by omega)
    clear hacs
    generalize x0.length = n at *
    go_wp2
    go_ret
    exact ⟨rfl, hb1⟩
  have hd : decide (20 < (x0.length : Int)) = false := decide_eq_false (by omega)
  obtain ⟨n, hn⟩ : ∃ n, Hid (x0.length = n) := ⟨_, rfl⟩
  rw [hn.out] at hd h20 hac l0 ⊢
  go_wp2_with (go_at_call 9; refine stop_here ?_)
  unfold Hid
  refine (c_new 16 _).mono ?_
  rintro e W2 ⟨b, S, rfl, hD, hn2⟩
  go_wp2_with (go_at_call 12; refine stop_here ?_)
  unfold Hid
  refine (c_start (f := 0) (gen := 1) _ (by decide) (by decide)).mono ?_
  rintro e W3 ⟨rfl, hj3, hn3⟩
  have hjl3 := heap_lt hj3.blk
  have hJC := JC.start hD hj3 hn3 (Nat.le_refl _) (new_calm 16) (new_heads (f := 0) (t := 1) (by decide) (by decide) (by decide))
  have hw1 : w.heap.size ≤ W1.heap.size := hb1.size
  have hw2 : W1.heap.size ≤ W2.heap.size := hn2.size
  have hnw3 : Nw w W3 := ((nw_of_below hb1).trans hn2).trans hn3
  have hWA : WantAt w (W3.alloc (.cells #[] 37)) S W2.heap.size (.slice (some ⟨W3.heap.size, 0, none⟩) 0 0) [] [] := by
    refine ⟨World.ownsRow_lit W3 #[] 0 hnw3.size (by decide) rfl, RecX.nil _ _, fun q hq => ?_, Fr.alloc hnw3 _⟩
    simp only [Value.ownBlock, Option.some.injEq] at hq
    subst hq
    exact ⟨fun h => by have := (hJC.d.ge _ h).2; omega, by omega⟩
  have hJC := hJC.nw ((Fr.refl (fun _ => False) W3).alloc (.cells #[] 37))
  clear hD hj3 hn3 hn2 hnw3
  go_wp2
  go_loopw [5, 20] (fun v i wr => ∃ (k : Nat) (l : List (List UInt8)) (cs : List Value) (S : Nat → Prop) (D : Dk), k ≤ n ∧ i = .int .i64 k ∧ JC W1.heap.size wr b S D W2.heap.size 0 1 1 l ∧ WantAt w wr S W2.heap.size v l cs) (fun _ i _ => n - (intOf i).toNat)
  case atStart => exact ⟨0, [], [], S, _, Nat.zero_le _, rfl, hJC, hWA⟩
  case round =>
    clear hJC hWA hjl3
    obtain ⟨k, l, cs, S, D, hk, rfl, hJC, hWA⟩ := hrel
    obtain ⟨vo, vc, rfl⟩ := owns_form hWA.own
    have hl4 := hJC.g.le
    obtain ⟨ll, hll⟩ : ∃ ll, Hid (l.length = ll) := ⟨_, rfl⟩
    rw [hll.out] at hWA hl4 ⊢
    by_cases hlt : k < n
    case neg =>
      have hbE : Hid (Below w.heap.size w wr) := below_of_nw hWA.nw
      clear hacs hJC hWA
      obtain rfl : k = n := by omega
      go_wp2
      go_ret
      exact ⟨rfl, hbE.out⟩
    have hkx : k < x0.length := by rw [hn.out]; exact hlt
    obtain ⟨ab, aoff, u, rfl, hab, hac0, hus, hul⟩ := hacs k x0[k] (List.getElem?_eq_getElem hkx)
    clear hacs
    generalize x0[k] = x at *
    clear hkx
    have hac0 := cell_nw hac0 hWA.nw
    obtain ⟨uo, uc, rfl⟩ := sl_form hus
    have hcp : Sl w.heap.size (wr.alloc (.cells #[] 5)) (.slice uo x.length uc) x.length (x.map bv) := hus.keep (below_of_nw (Fr.alloc hWA.nw _))
    go_wp2_with (at_builtin; refine wpList_append_sl _ rfl _ _ 37 rfl wr.heap.size 5 i5 (.int .u8 0) 1 1 Try.underlying37 hi5 hz50 hz51 hz52 rfl (by decide) _ 0 [] rfl (World.ownsRow_lit wr #[] 0 (Nat.le_refl _) (by decide) rfl) w.heap.size _ x.length (x.map bv) rfl hcp (by simp) (bv_oneCell _) (by unfold maxLen; omega) (by omega) (by simp) ?_; intro v2 A2 ho2 hg2 hv2; refine stop_here ?_)
    unfold Hid
    have hn2 : Nw wr A2 := Fr.grown ((Fr.refl _ wr).alloc _) hg2 (fun q hq => .inr (by simp only [Act.eval, Value.ownBlock] at hq; simp at hq; omega))
    have ho2 : A2.ownsRow wr.heap.size 5 1 v2 x.length (x.map bv) := by simpa using ho2
    have hs2 := copy_slp (w := w) ho2 (S := S) (fun q hq => (hJC.d.ge q hq).2)
    have hJC2 := hJC.nw hn2
    have hWA2 := hWA.keep hn2
    obtain ⟨vo2, vc2, rfl⟩ := owns_form ho2
    clear hcp hg2 hv2 ho2 hJC hWA hn2
    go_wp2_with (go_at_call 13; refine stop_here ?_)
    unfold Hid
    refine (c_calm _ hJC2 hs2 hul).mono ?_
    rintro e A3 ⟨S3, D3, l3, z3, rfl, hJC3, hf3, hS3, hz3⟩
    have hWA3 := hWA2.add hf3 hS3 (fun q hq => Nat.le_trans hw1 (hJC2.d.ge q hq).1) (by omega)
    have hus3 := hus.keep (below_of_nw hWA3.nw)
    clear hs2 hf3 hS3 hWA2 hJC2 hus
    rcases hz3 with ⟨h384, rfl, rfl⟩ | ⟨h384, h4, rfl, rfl⟩ | ⟨h384, h4, rfl, rfl⟩
    · have hd3 : decide (384 < (x.length : Int)) = true := decide_eq_true (by omega)
      clear hus3
      generalize x.length = xl at *
      go_wp2_with (go_at_call 19; refine stop_here ?_)
      unfold Hid
      refine (c_jlen _ hJC3.jr).mono ?_
      rintro e w' ⟨rfl, rfl⟩
      rw [hll.out]
      go_wp2_with (go_at_call 21; refine stop_here ?_)
      unfold Hid
      refine (c_scan (f := 0) (gen := 1) _ hJC3.d (by decide) (by decide) hJC3.g.len).mono ?_
      rintro e B1 ⟨u1, rfl, hp1, hnB1⟩
      rw [hJC3.g.scan hJC3.c.rest.pd hJC3.c.rest.ok (Nat.le_refl _) (by decide)] at hp1
      have hpw := (hWA3.parts.keep (below_of_nw hnB1)).mono hnB1.size
      have hl4 := hJC3.g.le
      obtain ⟨so, sc, rfl, -, -⟩ := id hp1
      rw [hll.out] at hp1 ⊢
      go_wp2_with (go_at_call 20; refine stop_here ?_)
      unfold Hid
      refine (c_same _ _ _ _ _ _ hp1 hpw (Nat.le_refl _) (by omega) (by omega)).mono ?_
      rintro e B2 ⟨rfl, hnB2⟩
      rw [decide_eq_true rfl]
      have hJCe := hJC3.nw (hnB1.trans hnB2)
      have hWAe := hWA3.keep (hnB1.trans hnB2)
      clear hJC3 hWA3 hp1 hpw hnB1 hnB2 hl4
      go_wp2
      go_roundw
      case rel => exact ⟨k + 1, _, _, _, _, by omega, by go_num, hJCe, hWAe⟩
      case measure => simp [intOf]; omega
    · have hd3 : decide (384 < (x.length : Int)) = false := decide_eq_false (by omega)
      obtain rfl : ll = 4 := hll.out.symm.trans h4
      clear hus3 h4
      generalize x.length = xl at *
      go_wp2_with (go_at_call 19; refine stop_here ?_)
      unfold Hid
      refine (c_jlen _ hJC3.jr).mono ?_
      rintro e w' ⟨rfl, rfl⟩
      rw [hll.out]
      go_wp2_with (go_at_call 21; refine stop_here ?_)
      unfold Hid
      refine (c_scan (f := 0) (gen := 1) _ hJC3.d (by decide) (by decide) hJC3.g.len).mono ?_
      rintro e B1 ⟨u1, rfl, hp1, hnB1⟩
      rw [hJC3.g.scan hJC3.c.rest.pd hJC3.c.rest.ok (Nat.le_refl _) (by decide)] at hp1
      have hpw := (hWA3.parts.keep (below_of_nw hnB1)).mono hnB1.size
      have hl4 := hJC3.g.le
      obtain ⟨so, sc, rfl, -, -⟩ := id hp1
      rw [hll.out] at hp1 ⊢
      go_wp2_with (go_at_call 20; refine stop_here ?_)
      unfold Hid
      refine (c_same _ _ _ _ _ _ hp1 hpw (Nat.le_refl _) (by omega) (by omega)).mono ?_
      rintro e B2 ⟨rfl, hnB2⟩
      rw [decide_eq_true rfl]
      have hJCe := hJC3.nw (hnB1.trans hnB2)
      have hWAe := hWA3.keep (hnB1.trans hnB2)
      clear hJC3 hWA3 hp1 hpw hnB1 hnB2 hl4
      go_wp2
      go_roundw
      case rel => exact ⟨k + 1, _, _, _, _, by omega, by go_num, hJCe, hWAe⟩
      case measure => simp [intOf]; omega
    · have hd3 : decide (384 < (x.length : Int)) = false := decide_eq_false (by omega)
      rw [hll.out] at h4
      have hd4 : ((ll : Int) == 4) = false := by rw [beq_eq_false_iff_ne]; omega
      have hl5 : Hid ((l ++ [x]).length = ll + 1) := by unfold Hid; rw [List.length_append, hll.out]; rfl
      have hown4 := hWA3.own.alloc (.cells #[.slice uo x.length uc] 37)
      rw [hll.out] at hown4
      have hlit := sl_lit A3 #[.slice uo x.length uc] 37 1 (by omega)
      have hsz : w.heap.size ≤ (A3.alloc (.cells #[.slice uo x.length uc] 37)).heap.size := by have := hWA3.nw.size; simp; omega
      go_wp2_with (at_builtin; refine wpList_append_sl _ rfl _ _ 51 rfl w.heap.size 37 ib (.slice none 0 0) 1 24 Try.underlying51 hib hzb0 hzb1 hzb2 rfl (by decide) _ ll _ rfl hown4 _ _ 1 _ rfl hlit (by simp) (by simp [Value.oneCell']) (by unfold maxLen; omega) (by omega) hsz ?_; intro v5 A5 ho5 hg5 hv5; refine stop_here ?_)
      unfold Hid
      obtain ⟨hWA5, hfr5⟩ := hWA3.push hus3 hul (by rw [hll.out]; exact ho5) hg5 hv5 (fun q hq => (hJC3.d.ge q hq).2) (heap_lt hJC3.jr.blk)
      have hJC5 := hJC3.fr hfr5 (fun q hq e => (hWA3.ns q e).1 hq) (fun e => (hWA3.ns _ e).2 rfl)
      obtain ⟨vo5, vc5, rfl⟩ := owns_form ho5
      clear ho5 hg5 hv5 hfr5 hown4 hlit hsz hWA3 hJC3 hus3
      generalize x.length = xl at *
      go_wp2_with (go_at_call 19; refine stop_here ?_)
      unfold Hid
      refine (c_jlen _ hJC5.jr).mono ?_
      rintro e w' ⟨rfl, rfl⟩
      rw [hl5.out]
      go_wp2_with (go_at_call 21; refine stop_here ?_)
      unfold Hid
      refine (c_scan (f := 0) (gen := 1) _ hJC5.d (by decide) (by decide) hJC5.g.len).mono ?_
      rintro e B1 ⟨u1, rfl, hp1, hnB1⟩
      rw [hJC5.g.scan hJC5.c.rest.pd hJC5.c.rest.ok (Nat.le_refl _) (by decide)] at hp1
      have hpw := (hWA5.parts.keep (below_of_nw hnB1)).mono hnB1.size
      have hl4 := hJC5.g.le
      obtain ⟨so, sc, rfl, -, -⟩ := id hp1
      rw [hl5.out] at hp1 ⊢
      go_wp2_with (go_at_call 20; refine stop_here ?_)
      unfold Hid
      refine (c_same _ _ _ _ _ _ hp1 hpw (Nat.le_refl _) (by omega) (by omega)).mono ?_
      rintro e B2 ⟨rfl, hnB2⟩
      rw [decide_eq_true rfl]
      have hJCe := hJC5.nw (hnB1.trans hnB2)
      have hWAe := hWA5.keep (hnB1.trans hnB2)
      clear hJC5 hWA5 hp1 hpw hnB1 hnB2 hl4
      go_wp2
      go_roundw
      case rel => exact ⟨k + 1, _, _, _, _, by omega, by go_num, hJCe, hWAe⟩
      case measure => simp [intOf]; omega

set_option maxRecDepth 100000 in
theorem lifted (os : Os) (started : os.Started) (H : Type) (enc : TypeId × Value → H) :
    ReturnsInHanded {} Try.checked os 7 .any (Rows.journalFullSpec.pre6 enc Try.prog Try.f7 Rows.journalFullRow.domain false) (Rows.journalFullSpec.post enc Try.prog Try.f7 false true false false) := by
  refine returnsInHanded_of_change_sized (C := Try.checked) own started (by kernel_rfl) Try.func7
    (ChangeSpec.witness6 (enc := enc) (C := Try.checked) false ⟨#[], #[.slice none 0 0], []⟩ 8 (by kernel_rfl) (by kernel_rfl) (by kernel_rfl) (by kernel_rfl)) ?_
  intro W base args ds gs before hval0 hW hcnd hsz0 _
  have hval : ∀ (j : Nat) t v, Try.f7.params[j]? = some t → args[j]? = some v → Value.okWide Try.prog W .any base t v := hval0
  have hsz : (DataW.weightsEach Try.prog (Try.f7.params.toList ++ Rows.journalFullSpec.plain.varTypes Try.prog) (ds ++ gs)).all (· ≤ reachBytes) = true := hsz0
  have hW' := hW
  obtain ⟨p, q, hA0, hV, rfl, hfz, hnd⟩ := hW
  have hA : DataW.TrodAll enc Try.prog W 0 (fun _ => true) true Try.f7.params.toList args.toList ds p := hA0
  rw [Try.params7] at hA hval hsz
  obtain ⟨v0, vs0, d0, ds0, p0, q0, hargs, rfl, rfl, h0, r0⟩ := trodAll_cons hA
  obtain ⟨rfl, rfl, rfl⟩ := trodAll_nil r0
  obtain rfl : args = #[v0] := by cases args; simp_all
  obtain ⟨rfl, rfl⟩ := trodVars_none hV
  obtain ⟨a0, len0, cap0, rfl⟩ := okWide_slice Try.underlying51 (hval 0 51 v0 rfl rfl)
  have k0 := h0
  have lt0 : ∀ x ∈ p0, x.block < W.heap.size := by obtain ⟨m, hm⟩ := k0; exact DataW.trod_lt m _ _ _ hm
  obtain ⟨x0, w0, l0, m0⟩ : ∃ xs : List (List UInt8), Parts W.heap.size W (.slice a0 len0 cap0) xs ∧ xs.length ≤ 140737488351232 ∧ xs.flatten.length ≤ Rows.uptoBulk d0 := by
    obtain ⟨fuel, hf⟩ := h0
    exact open_parts (v := .slice a0 len0 cap0) hf (fun n hn => by have := List.all_eq_true.1 hsz n (DataW.weights_mem_each (j := 0) (t := 51) rfl rfl n hn); simpa using this)
  clear hA0 hval0
  refine (walk W _ x0 w0 l0).mono fun e W' ⟨he, bel⟩ => ?_
  subst he
  exact ⟨_, rfl, _, _, _, [], _, [], hW', trodAll_mk1 (shut_bool Try.underlying4 _), (trodAll_cons_mk (Below.trod laidOut (by kernel_rfl) (of_decide_eq_true (by kernel_rfl)) k0 bel lt0) trodAll_mk0), rfl, bel.frame _, fun h => by cases h⟩

theorem over : Rows.journalFullRow.holds Try.pinned (OpenSpec.ofChange Rows.journalFullSpec) :=
  OpenClaim.holds_of_wide 7 Try.f7 rfl rfl rfl rfl rfl rfl rfl ⟨rfl, rfl, rfl, rfl, rfl⟩ rfl rfl rfl rfl rfl (by kernel_rfl) Try.func7 (by kernel_rfl)
    (of_decide_eq_true (by kernel_rfl)) (by unfold Func.isWrapper; first | (rw [if_pos (by decide +kernel)]; kernel_rfl) | (rw [if_neg (by decide +kernel)]; exact ⟨rfl, rfl⟩))
    (fun os started H enc _ => lifted os started H enc)
end Go.Proofs.Ytihdhlciblkbiaa.journalFull
namespace Go.Proofs.Ytihdhlciblkbiaa
/-- The given statement. -/
theorem journalFull_holds : Rows.JournalFullSaid := journalFull.over
end Go.Proofs.Ytihdhlciblkbiaa
