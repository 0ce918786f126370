/-
  The reader: numbers, counted bytes, fields.
-/
import Derived.Test.YtihdhlciblkbiaaRows
import Derived.Test.YtihdhlciblkbiaaCodecC1
namespace Go.Proofs.Ytihdhlciblkbiaa
set_option linter.unusedVariables false
set_option linter.unusedSimpArgs false
set_option maxRecDepth 20000
open Go.RowKit

/-- The reader at block R has the bytes xs left, in blocks below K. -/
structure RdAt (K R : Nat) (w : World) (xs : List UInt8) (ao : Option Addr) (cap : Nat) : Prop where
  blk : w.heap[R]? = some (.cells #[.slice ao xs.length cap] 120 (0, 0))
  sl : Sl K w (.slice ao xs.length cap) xs.length (xs.map bv)
  le : K ≤ R
  lec : xs.length ≤ cap
  max : cap ≤ maxLen

theorem grown_setCell (w : World) (R : Nat) (v : Value) : w.grownBy (w.setCell ⟨R, 0, none⟩ v) (some R) :=
  ⟨rfl, rfl, rfl, by simp [World.setCell], fun k _ hk => Below.heap_setCell _ _ _ _ (fun e => hk (by simp [e]))⟩

theorem grown_trans {w w1 w2 : World} {row : Option Nat} (h : w.grownBy w1 row) (g : w1.grownBy w2 row) : w.grownBy w2 row :=
  ⟨g.os.trans h.os, g.tape.trans h.tape, g.output.trans h.output, Nat.le_trans h.size g.size, fun k hk hne => (g.block k (Nat.lt_of_lt_of_le hk h.size) hne).trans (h.block k hk hne)⟩

theorem grown_of_below {w w1 : World} {row : Option Nat} (h : Below w.heap.size w w1) : w.grownBy w1 row :=
  ⟨h.os, h.tape, h.output, h.size, fun k hk _ => h.block k hk⟩

theorem below_of_grown {w w1 : World} {R K : Nat} (h : w.grownBy w1 (some R)) (hK : K ≤ R) (hR : K ≤ w.heap.size) : Below K w w1 :=
  ⟨h.os, h.tape, h.output, h.size, fun k hk => h.block k (by omega) (fun e => by simp at e; omega)⟩

/-- The reader behind a cut. -/
theorem rdAt_cut {K R n : Nat} {w : World} {xs : List UInt8} {ao : Option Addr} {cap : Nat} (h : RdAt K R w xs ao cap) (hn : n ≤ xs.length) :
    ∃ ao', cut1 ao n xs.length cap = .slice ao' (xs.drop n).length (cap - n) ∧ RdAt K R (w.setCell ⟨R, 0, none⟩ (cut1 ao n xs.length cap)) (xs.drop n) ao' (cap - n) := by
  obtain ⟨ao', he⟩ := cut1_form ao n xs.length cap
  have hl : (xs.drop n).length = xs.length - n := List.length_drop
  have hc := h.lec
  have hsl := h.sl.cut1 n xs.length hn (Nat.le_refl _)
  rw [List.take_of_length_le (by rw [hl]; exact Nat.le_refl _)] at hsl
  refine ⟨ao', by rw [hl]; exact he, ?_⟩
  rw [he] at hsl ⊢
  refine ⟨?_, ?_, h.le, by rw [hl]; omega, by have := h.max; omega⟩
  · rw [hl]; exact one_setCell h.blk
  · rw [hl]
    exact hsl.keep ((Below.refl _ _).setCell h.le _)

theorem rdAt_keep {K R : Nat} {w w1 : World} {xs : List UInt8} {ao : Option Addr} {cap : Nat} (h : RdAt K R w xs ao cap) (hb : Below w.heap.size w w1) : RdAt K R w1 xs ao cap := by
  have hlt := lt_of_block h.blk
  have := h.le
  exact ⟨(hb.block R hlt).trans h.blk, h.sl.keep (hb.mono (by omega)), h.le, h.lec, h.max⟩

theorem c_number {K R n : Nat} {w : World} {xs : List UInt8} {ao : Option Addr} {cap : Nat} (h : RdAt K R w xs ao cap) (hn : n ≤ xs.length) (h8 : n ≤ 8) :
    Calls Try.prog 70 #[.pointer (some ⟨R, 0, none⟩), .int .i64 n] w fun e w' => e = .returned (.int .u64 (val (xs.take n) : Nat)) ∧ (∃ ao', RdAt K R w' (xs.drop n) ao' (cap - n)) ∧ w.grownBy w' (some R) := by
  refine (c_number_yes K R n cap ao xs w (cell_of_one h.blk) (free_of_one h.blk) h.sl h.le hn h8 h.lec h.max).mono ?_
  rintro e w' ⟨he, rfl⟩
  obtain ⟨ao', _, hr⟩ := rdAt_cut h hn
  exact ⟨he, ⟨ao', hr⟩, grown_setCell _ _ _⟩

theorem c_take {K R n : Nat} {w : World} {xs : List UInt8} {ao : Option Addr} {cap : Nat} (h : RdAt K R w xs ao cap) (hn : n ≤ xs.length) :
    Calls Try.prog 71 #[.pointer (some ⟨R, 0, none⟩), .int .i64 n] w fun e w' => e = .returned (.slice ao n cap) ∧ Sl K w' (.slice ao n cap) n ((xs.take n).map bv) ∧ (∃ ao', RdAt K R w' (xs.drop n) ao' (cap - n)) ∧ w.grownBy w' (some R) := by
  refine (c_take_yes R n xs.length cap ao w (cell_of_one h.blk) (free_of_one h.blk) hn h.lec h.max).mono ?_
  rintro e w' ⟨he, rfl⟩
  obtain ⟨ao', _, hr⟩ := rdAt_cut h hn
  refine ⟨he, ?_, ⟨ao', hr⟩, grown_setCell _ _ _⟩
  have hs := h.sl.cut1 0 n (Nat.zero_le _) hn
  simp only [Nat.sub_zero, List.drop_zero] at hs
  have e : cut1 ao 0 n cap = .slice ao n cap := by
    unfold cut1 sliced
    by_cases hc : cap = 0
    · simp [hc]
    · simp only [Nat.zero_mul, Nat.sub_zero, if_neg hc]
      congr 1
      cases ao <;> simp [Addr.add]
  rw [e] at hs
  exact hs.keep ((Below.refl _ _).setCell h.le _)

/-- New memory, behind w. -/
def Fresh (w w' : World) (v : Value) (bs : List UInt8) : Prop := Slp (fun b => w.heap.size ≤ b ∧ b < w'.heap.size) w' v bs.length (bs.map bv)

theorem fresh_of_owns {w w' : World} {v : Value} {bs : List UInt8} (h : w'.ownsRow w.heap.size 5 1 v bs.length (bs.map bv)) : Fresh w w' v bs :=
  (slp_of_owns h).keep fun b hb => ⟨h.lt b hb, rfl⟩

theorem fresh_nil (w w' : World) : Fresh w w' (.slice none 0 0) [] := ⟨none, 0, rfl, ⟨Nat.le_refl _, Nat.zero_le _⟩, fun _ => rfl, fun i c h => by simp at h⟩

theorem Fresh.later {w w1 w' : World} {v : Value} {bs : List UInt8} (h : Fresh w1 w' v bs) (hs : w.heap.size ≤ w1.heap.size) : Fresh w w' v bs :=
  Slp.keep h fun b hb => ⟨⟨Nat.le_trans hs hb.1, hb.2⟩, rfl⟩

set_option maxHeartbeats 800000 in
theorem c_cloneX (K n : Nat) (ao : Option Addr) (cap : Nat) (bs : List UInt8) (w : World) (hs : Sl K w (.slice ao n cap) n (bs.map bv)) (hn : bs.length = n) (hK : K ≤ w.heap.size) (hl : n ≤ 1000000000) :
    Calls Try.prog 62 #[.slice ao n cap] w fun e w' => ∃ v', e = .returned v' ∧ Fresh w w' v' bs ∧ Below w.heap.size w w' := by
  subst hn
  obtain ⟨i0, hi, hz0, hz1, hz2⟩ := info_parts Try.info5
  have q22 : ∀ (w : World) (a : Option Addr) (n c n' c' : Nat), (binOp .eql 37 (.slice a n c) (.slice none n' c')).run Try.prog w = .ok (.bool a.isNone) w := fun w a n c n' c' => Lib.run_eql_slice_nil w _ _ a n c n' c' Try.underlying37
  cases ao with
  | none =>
    obtain ⟨ao', cap', hv, hcap, hnil, hcs⟩ := hs
    simp only [Value.slice.injEq, true_and] at hv
    obtain ⟨rfl, rfl⟩ := hv
    have hc0 := hnil rfl
    have hb0 : bs = [] := List.eq_nil_of_length_eq_zero (by omega)
    subst hb0
    go_enter Try.func62, Try.ntmps62
    go_wp2
    go_ret
    exact ⟨_, rfl, fresh_nil _ _, Below.refl _ _⟩
  | some ad =>
    go_enter Try.func62, Try.ntmps62
    go_wp2_with (at_builtin; refine wpList_append_sl _ rfl _ _ 37 rfl w.heap.size 5 i0 (.int .u8 0) 1 1 Try.underlying37 hi hz0 hz1 hz2 rfl (by decide) _ 0 [] rfl (World.ownsRow_lit w #[] 0 (Nat.le_refl _) (by decide) rfl) K _ bs.length (bs.map bv) rfl ?c0 (by simp) (bv_oneCell _) ?c1 ?c2 ?c3 ?_)
    case c0 => exact hs.keep ((Below.refl _ _).alloc hK _)
    case c1 => unfold maxLen; omega
    case c2 => omega
    case c3 => simp
    intro v' w2 hown2 hgrow _
    have hb2 : Below w.heap.size w w2 := ((Below.refl _ _).alloc (Nat.le_refl _) _).grown hgrow (by simp) (by intro k hk; simp [Value.ownBlock] at hk; omega)
    have hown3 : w2.ownsRow w.heap.size 5 1 v' bs.length (bs.map bv) := by simpa using hown2
    clear hown2 hgrow
    go_wp2
    go_ret
    exact ⟨_, rfl, fresh_of_owns hown3, hb2⟩

/-- The bytes of a b. -/
def cntB (xs : List UInt8) : List UInt8 := (xs.drop 2).take (val (xs.take 2))
def cntR (xs : List UInt8) : List UInt8 := (xs.drop 2).drop (val (xs.take 2))

set_option maxHeartbeats 800000 in
theorem c_counted {K R : Nat} {w : World} {xs : List UInt8} {ao : Option Addr} {cap : Nat} (h : RdAt K R w xs ao cap) (h2 : 2 ≤ xs.length) (h1 : val (xs.take 2) ≤ 1024) (h3 : val (xs.take 2) ≤ (xs.drop 2).length) :
    Calls Try.prog 69 #[.pointer (some ⟨R, 0, none⟩)] w fun e w' => ∃ v', e = .returned v' ∧ Fresh w w' v' (cntB xs) ∧ (∃ ao' cap', RdAt K R w' (cntR xs) ao' cap') ∧ w.grownBy w' (some R) := by
  unfold cntB cntR
  have hd : decide (((val (xs.take 2) : Nat) : Int) ≤ 1024) = true := decide_eq_true (by omega)
  have hlt := lt_of_block h.blk
  have hle := h.le
  generalize hn : val (xs.take 2) = n at *
  have hn' : Hid (val (xs.take 2) = n) := hn
  clear hn
  go_enter Try.func69, Try.ntmps69
  go_wp2_with fail
  refine (c_number (n := 2) h h2 (by omega)).mono ?_
  rintro e w1 ⟨rfl, ⟨ao1, hr1⟩, hg1⟩
  rw [hn'.out]
  go_wp2_with (first
    | (go_at_call 58; refine (c_must_yes _).mono ?_; rintro e w' ⟨rfl, rfl⟩)
    | (go_at_call 71; refine (c_take (n := n) hr1 h3).mono ?_; rintro e w2 ⟨rfl, hs2, ⟨ao2, hr2⟩, hg2⟩))
  have hsz : w.heap.size ≤ w2.heap.size := Nat.le_trans hg1.size hg2.size
  refine (c_cloneX K n ao1 (cap - 2) ((xs.drop 2).take n) w2 hs2 (by rw [List.length_take]; omega) (by omega) (by omega)).mono ?_
  rintro e w3 ⟨v3, rfl, hf3, hb3⟩
  have hr3 := rdAt_keep hr2 hb3
  have hg3 := grown_trans (grown_trans hg1 hg2) (grown_of_below hb3)
  clear hr2 hs2 hr1
  go_wp2
  go_ret
  exact ⟨_, rfl, hf3.later hsz, ⟨ao2, _, hr3⟩, hg3⟩

theorem c_counted_short {K R : Nat} {w : World} {xs : List UInt8} {ao : Option Addr} {cap : Nat} (h : RdAt K R w xs ao cap) (h2 : ¬ 2 ≤ xs.length) :
    Calls Try.prog 69 #[.pointer (some ⟨R, 0, none⟩)] w fun e w' => e = .panicked [err21] ∧ w.grownBy w' (some R) := by
  go_enter Try.func69, Try.ntmps69
  go_wp2_with fail
  refine (c_number_no R 2 xs.length cap ao w (cell_of_one h.blk) (by omega) h.lec h.max).mono ?_
  rintro e w1 ⟨rfl, rfl⟩
  exact ⟨rfl, rfl, World.grownBy.refl _ _⟩

theorem c_counted_long {K R : Nat} {w : World} {xs : List UInt8} {ao : Option Addr} {cap : Nat} (h : RdAt K R w xs ao cap) (h2 : 2 ≤ xs.length) (h1 : ¬ val (xs.take 2) ≤ 1024) :
    Calls Try.prog 69 #[.pointer (some ⟨R, 0, none⟩)] w fun e w' => e = .panicked [err21] ∧ w.grownBy w' (some R) := by
  have hd : decide (((val (xs.take 2) : Nat) : Int) ≤ 1024) = false := decide_eq_false (by omega)
  generalize hn : val (xs.take 2) = n at *
  have hn' : Hid (val (xs.take 2) = n) := hn
  clear hn
  go_enter Try.func69, Try.ntmps69
  go_wp2_with fail
  refine (c_number (n := 2) h h2 (by omega)).mono ?_
  rintro e w1 ⟨rfl, ⟨ao1, hr1⟩, hg1⟩
  rw [hn'.out]
  clear hr1
  go_wp2_with (first
    | (go_at_call 58; refine (c_must_no _).mono ?_; rintro e w' ⟨rfl, rfl⟩))
  exact ⟨rfl, rfl, hg1⟩

theorem c_counted_cut {K R : Nat} {w : World} {xs : List UInt8} {ao : Option Addr} {cap : Nat} (h : RdAt K R w xs ao cap) (h2 : 2 ≤ xs.length) (h1 : val (xs.take 2) ≤ 1024) (h3 : ¬ val (xs.take 2) ≤ (xs.drop 2).length) :
    Calls Try.prog 69 #[.pointer (some ⟨R, 0, none⟩)] w fun e w' => e = .panicked [err21] ∧ w.grownBy w' (some R) := by
  have hd : decide (((val (xs.take 2) : Nat) : Int) ≤ 1024) = true := decide_eq_true (by omega)
  generalize hn : val (xs.take 2) = n at *
  have hn' : Hid (val (xs.take 2) = n) := hn
  clear hn
  go_enter Try.func69, Try.ntmps69
  go_wp2_with fail
  refine (c_number (n := 2) h h2 (by omega)).mono ?_
  rintro e w1 ⟨rfl, ⟨ao1, hr1⟩, hg1⟩
  rw [hn'.out]
  go_wp2_with (first
    | (go_at_call 58; refine (c_must_yes _).mono ?_; rintro e w' ⟨rfl, rfl⟩)
    | (go_at_call 71; refine (c_take_no R n _ _ ao1 _ (cell_of_one hr1.blk) (by omega) hr1.lec hr1.max).mono ?_; rintro e w2 ⟨rfl, rfl⟩))
  exact ⟨rfl, rfl, hg1⟩
end Go.Proofs.Ytihdhlciblkbiaa
