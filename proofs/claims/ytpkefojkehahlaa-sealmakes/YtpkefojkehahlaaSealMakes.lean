/-
  SealMakes returns true for every mark and body: Make answers what the document's Make answers, and leaves the body as it was.
  Conditions: none; the statement is the given one, for every input.
-/
import Derived.Test.YtpkefojkehahlaaRows
import Derived.Test.YtpkefojkehahlaaSealR1
import Derived.Test.YtpkefojkehahlaaLibOpen
import Derived.WalkKit
import Derived.ProofKit
import Derived.OpenShut
import Derived.ShutString
import Derived.ChangeOld
import Derived.Below
import Derived.SizedLaws
namespace Go.Proofs.Ytpkefojkehahlaa.sealMakes
open Go.ChangeShapes Go.WideShapes Go.ChangeAt Go.RowKit
open Go.ChangeMaps (open_string shut_string)
set_option linter.unusedVariables false
set_option linter.unusedSimpArgs false

theorem own : ownKnob Try.prog.godebug = none := by kernel_rfl
theorem laidOut : laidOutB Try.prog = true := by kernel_rfl

/-- The law's own walk. -/
theorem walk (w : World) (a0 : Nat) (w0 : a0 < 18446744073709551616) (v1 : Value) (x1 : List UInt8) (w1 : Sl w.heap.size w v1 x1.length (x1.map bv)) (l1 : x1.length ≤ 140737488351232) :
    Calls Try.prog 4 #[.int .u64 (a0 : Int), v1] w fun e w' => e = .returned (.bool true) ∧ Below w.heap.size w w' := by
  obtain ⟨i0, hi, hz0, hz1, hz2⟩ := info_parts Try.info5
  obtain ⟨ao1, cap1, rfl⟩ := sl_form w1
  go_enter Try.func4, Try.ntmps4
  go_wp2_with (at_builtin; refine wpList_append_sl _ rfl _ _ 23 rfl w.heap.size 5 i0 (.int .u8 0) 1 1 Try.underlying23 hi hz0 hz1 hz2 rfl (by decide) _ 0 [] rfl (World.ownsRow_lit w #[] 0 (Nat.le_refl _) (by decide) rfl) w.heap.size _ x1.length (x1.map bv) rfl ?c0 (by simp) (bv_oneCell _) ?c1 ?c2 ?c3 ?_)
  case c0 => exact w1.keep ((Below.refl _ _).alloc (Nat.le_refl _) _)
  case c1 => unfold maxLen; omega
  case c2 => omega
  try (case c3 => simp)
  intro v2 W2 ho2 hg2 _
  have hb2 : Below w.heap.size w W2 := ((Below.refl _ _).alloc (Nat.le_refl _) _).grown hg2 (by simp) (by intro k hk; simp [Value.ownBlock] at hk; omega)
  have ho2 : W2.ownsRow w.heap.size 5 1 v2 x1.length (x1.map bv) := by simpa using ho2
  have hs2 := sl_of_owns ho2
  have hq2 := w1.keep hb2
  obtain ⟨ao2, cap2, rfl⟩ := owns_form ho2
  clear hg2 ho2 w1
  go_wp2_with (go_at_call 10; refine stop_here ?_)
  unfold Hid
  refine (c_make a0 _ x1 _ _ w0 hs2 (Nat.le_refl _) (by omega)).mono ?_
  rintro e W3 ⟨rfl, hb3⟩
  have hs3 := (hs2.keep hb3).mono hb3.size
  have hq3 := hq2.keep (hb3.mono hb2.size)
  have hbA := hb2.trans (hb3.mono hb2.size)
  have hlen := mkS_length a0 x1
  have hmd := made W3
  have hblk := putS_blk W3 (mkS a0 x1)
  have hb4 := putS_below W3 (mkS a0 x1)
  have hs4 := (hs3.keep hb4).mono hb4.size
  have hq4 := hq3.keep (hb4.mono hbA.size)
  have hbB := hbA.trans (hb4.mono hbA.size)
  have hW4 : Hid ((W3.alloc (.cells (z128.map bv).toArray 27)).setRow W3.heap.size ((mkS a0 x1).map bv).toArray = putS W3 (mkS a0 x1)) := rfl
  clear hs2 hq2 hb2 hb3 hs3 hq3 hb4 hbA
  generalize putS W3 (mkS a0 x1) = W4 at *
  obtain ⟨L, hL⟩ : ∃ L, Hid (L = mkS a0 x1) := ⟨_, rfl⟩
  obtain ⟨E, hE⟩ : ∃ E, Hid (E = mkE a0 x1) := ⟨_, rfl⟩
  have hE5 : -9223372036854775808 ≤ E ∧ E ≤ 9223372036854775807 := by rw [hE.out]; unfold mkE; split <;> omega
  rw [← hL.out] at hlen hblk hW4 ⊢
  rw [← hE.out]
  go_wp2_with (first
    | (refine wpList_alloc_agg rfl 27 rfl _ Try.zeroS ?_)
    | (refine wpList_store_all rfl 27 _ _ rfl W3.heap.size rfl (sec L) rfl _ rfl _ 27 hmd.new (sec_fit hlen) (bv_oneCell _) (sizeS hlen) ?_; rw [hW4.out])
    | (go_at_call 12; refine stop_here ?_))
  unfold Hid
  refine (c_rmake a0 _ x1 _ _ w0 hq4 hbB.size (by omega)).mono ?_
  rw [← hL.out, ← hE.out]
  rintro e W5 ⟨rfl, hb5⟩
  have hs5 := (hs4.keep hb5).mono hb5.size
  have hq5 := hq4.keep (hb5.mono hbB.size)
  have hbC := hbB.trans (hb5.mono hbB.size)
  have hblk5 := keep_blk hblk hb5
  have hmd5 := made W5
  have hblk6 := putS_blk W5 L
  have hb6 := putS_below W5 L
  have hs6 := (hs5.keep hb6).mono hb6.size
  have hq6 := hq5.keep (hb6.mono hbC.size)
  have hbD := hbC.trans (hb6.mono hbC.size)
  have hblk7 := keep_blk hblk5 hb6
  have hW6 : Hid ((W5.alloc (.cells (z128.map bv).toArray 27)).setRow W5.heap.size (L.map bv).toArray = putS W5 L) := rfl
  clear hs4 hq4 hb5 hs5 hq5 hb6 hbB hbC hblk hblk5 hmd hW4
  generalize putS W5 L = W6 at *
  go_wp2_with (first
    | (refine wpList_alloc_agg rfl 27 rfl _ Try.zeroS ?_)
    | (refine wpList_store_all rfl 27 _ _ rfl W5.heap.size rfl (sec L) rfl _ rfl _ 27 hmd5.new (sec_fit hlen) (bv_oneCell _) (sizeS hlen) ?_; rw [hW6.out])
    | (go_at_call 11; refine stop_here ?_))
  unfold Hid
  refine (c_alive _).mono ?_
  rintro e W7 ⟨rfl, hb7⟩
  have hr1 := range_all (keep_blk hblk7 hb7)
  have hr2 := range_all (keep_blk hblk6 hb7)
  have hbE := hbD.trans (hb7.mono hbD.size)
  have hc1 := run_string_sl 23 5 9 Try.underlying23 Try.underlying5 Try.underlying9 (hs6.keep hb7)
  have hc2 := run_string_sl 23 5 9 Try.underlying23 Try.underlying5 Try.underlying9 (hq6.keep (hb7.mono hbD.size))
  have hq := eqlS L L hlen hlen
  rw [BEq.rfl] at hq
  have hg := guardS
  have hbE : Hid (Below w.heap.size w W7) := hbE
  clear hs6 hq6 hbD hblk7 hblk6 hb7 hW6 hmd5 hL hE
  generalize (⟨x1.toArray⟩ : ByteArray) = S1 at *
  go_wp2_with (first
    | (refine wpList_load_as rfl 27 (.tmp 6) rfl W3.heap.size 0 rfl (sec L) _ rfl hr1 Try.rowS (sizeS hlen) ?_)
    | (refine wpList_load_as rfl 27 (.tmp 8) rfl W5.heap.size 0 rfl (sec L) _ rfl hr2 Try.rowS (sizeS hlen) ?_))
  go_ret
  exact ⟨rfl, hbE.out⟩

set_option maxRecDepth 100000 in
theorem lifted (os : Os) (started : os.Started) (H : Type) (enc : TypeId × Value → H) :
    ReturnsInHanded {} Try.checked os 4 .any (Rows.sealMakesSpec.pre6 enc Try.prog Try.f4 Rows.sealMakesRow.domain false) (Rows.sealMakesSpec.post enc Try.prog Try.f4 false true false false) := by
  refine returnsInHanded_of_change_sized (C := Try.checked) own started (by kernel_rfl) Try.func4
    (ChangeSpec.witness6 (enc := enc) (C := Try.checked) false ⟨#[], #[.int .u64 0, .slice none 0 0], []⟩ 8 (by kernel_rfl) (by kernel_rfl) (by kernel_rfl) (by kernel_rfl)) ?_
  intro W base args ds gs before hval0 hW hcnd hsz0 _
  have hval : ∀ (j : Nat) t v, Try.f4.params[j]? = some t → args[j]? = some v → Value.okWide Try.prog W .any base t v := hval0
  have hsz : (DataW.weightsEach Try.prog (Try.f4.params.toList ++ Rows.sealMakesSpec.plain.varTypes Try.prog) (ds ++ gs)).all (· ≤ reachBytes) = true := hsz0
  have hW' := hW
  obtain ⟨p, q, hA0, hV, rfl, hfz, hnd⟩ := hW
  have hA : DataW.TrodAll enc Try.prog W 0 (fun _ => true) true Try.f4.params.toList args.toList ds p := hA0
  rw [Try.params4] at hA hval hsz
  obtain ⟨v0, vs0, d0, ds0, p0, q0, hargs, rfl, rfl, h0, r0⟩ := trodAll_cons hA
  obtain ⟨v1, vs1, d1, ds1, p1, q1, rfl, rfl, rfl, h1, r1⟩ := trodAll_cons r0
  obtain ⟨rfl, rfl, rfl⟩ := trodAll_nil r1
  obtain rfl : args = #[v0, v1] := by cases args; simp_all
  obtain ⟨rfl, rfl⟩ := trodVars_none hV
  have k0 := h0
  have lt0 : ∀ x ∈ p0, x.block < W.heap.size := by obtain ⟨m, hm⟩ := k0; exact DataW.trod_lt m _ _ _ hm
  obtain ⟨z0, e0, -, -, f0⟩ := open_int Try.underlying22 (hval 0 22 v0 rfl rfl) h0
  obtain ⟨a0, rfl, w0⟩ : ∃ a : Nat, v0 = .int .u64 (a : Int) ∧ a < 18446744073709551616 := ⟨z0.toNat, by rw [(u64_of_wf f0).1]; exact e0, (u64_of_wf f0).2⟩
  obtain ⟨a1, len1, cap1, rfl⟩ := okWide_slice Try.underlying23 (hval 1 23 v1 rfl rfl)
  have k1 := h1
  have lt1 : ∀ x ∈ p1, x.block < W.heap.size := by obtain ⟨m, hm⟩ := k1; exact DataW.trod_lt m _ _ _ hm
  obtain ⟨x1, w1, l1, m1⟩ : ∃ xs : List UInt8, Sl W.heap.size W (.slice a1 len1 cap1) xs.length (xs.map bv) ∧ xs.length ≤ 140737488351232 ∧ xs.length + 1 ≤ Rows.uptoBulk d1 := by
    obtain ⟨fuel, hf⟩ := h1
    exact open_bytes (v := .slice a1 len1 cap1) hf (fun n hn => by have := List.all_eq_true.1 hsz n (DataW.weights_mem_each (j := 1) (t := 23) rfl rfl n hn); simpa using this)
  clear hA0 hval0
  refine (walk W a0 w0 _ x1 w1 l1).mono fun e W' ⟨he, bel⟩ => ?_
  subst he
  exact ⟨_, rfl, _, _, _, [], _, [], hW', trodAll_mk1 (shut_bool Try.underlying4 _), (trodAll_cons_mk (Below.trod laidOut (by kernel_rfl) (of_decide_eq_true (by kernel_rfl)) k0 bel lt0) (trodAll_cons_mk (Below.trod laidOut (by kernel_rfl) (of_decide_eq_true (by kernel_rfl)) k1 bel lt1) trodAll_mk0)), rfl, bel.frame _, fun h => by cases h⟩

theorem over : Rows.sealMakesRow.holds Try.pinned (OpenSpec.ofChange Rows.sealMakesSpec) :=
  OpenClaim.holds_of_wide 4 Try.f4 rfl rfl rfl rfl rfl rfl rfl ⟨rfl, rfl, rfl, rfl, rfl⟩ rfl rfl rfl rfl rfl (by kernel_rfl) Try.func4 (by kernel_rfl)
    (of_decide_eq_true (by kernel_rfl)) (by unfold Func.isWrapper; first | (rw [if_pos (by decide +kernel)]; kernel_rfl) | (rw [if_neg (by decide +kernel)]; exact ⟨rfl, rfl⟩))
    (fun os started H enc _ => lifted os started H enc)
end Go.Proofs.Ytpkefojkehahlaa.sealMakes
namespace Go.Proofs.Ytpkefojkehahlaa
/-- The given statement. -/
theorem sealMakes_holds : Rows.SealMakesSaid := sealMakes.over
end Go.Proofs.Ytpkefojkehahlaa
