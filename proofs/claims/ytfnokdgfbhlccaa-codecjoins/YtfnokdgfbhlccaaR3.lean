/-
  The document's answer: Unpack.
-/
import Derived.Test.YtfnokdgfbhlccaaRows
import Derived.Test.YtfnokdgfbhlccaaU4
namespace Go.Proofs.Ytfnokdgfbhlccaa
set_option linter.unusedVariables false
set_option linter.unusedSimpArgs false
open Go.RowKit

theorem refunpack_refused (sh : ByteArray) (v : Value) (w : World) (hs : sh.size ≤ maxLen) (h : ¬ sh.size ≤ 200) :
    Calls Try.prog 15 #[.string sh, v] w fun e w' => e = .returned (.tuple #[.slice none 0 0, .int .i64 21]) ∧ w = w' := by
  unfold maxLen at hs
  have hd1 : decide ((200 : Int) < (sh.size : Int)) = true := decide_eq_true (by omega)
  go_enter Try.func15, Try.ntmps15
  go_wp2
  go_ret2
  exact ⟨rfl, rfl⟩

theorem c_refnumberN (K n cap : Nat) (ao : Option Addr) (ys : List UInt8) (w : World) (hs : Sl K w (.slice ao n cap) n (ys.map bv)) (hy : ys.length = n) (h8 : n ≤ 8) :
    Calls Try.prog 23 #[.slice ao n cap] w fun e w' => e = .returned (.int .u64 (val ys : Nat)) ∧ w = w' := by
  subst hy
  exact c_refnumber K cap ao ys w hs h8

theorem sl_mid {K : Nat} {w : World} {ao : Option Addr} {cap : Nat} {xs : List UInt8} (h : Sl K w (.slice ao xs.length cap) xs.length (xs.map bv)) (p n : Nat) (hpn : p + n ≤ xs.length) :
    Sl K w (.slice (if cap = p then ao else ao.map (fun x => x.add p)) n (cap - p)) n (((xs.drop p).take n).map bv) := by
  have := h.cut1 p (p + n) (by omega) hpn
  rw [show p + n - p = n by omega] at this
  simpa [cut1, sliced] using this

theorem sl_mid' {K : Nat} {w : World} {ao : Option Addr} {cap : Nat} {xs : List UInt8} (h : Sl K w (.slice ao xs.length cap) xs.length (xs.map bv)) (p n : Nat) (hpn : p + n ≤ xs.length) (hne : ¬ cap = p) :
    Sl K w (.slice (ao.map (fun x => x.add p)) n (cap - p)) n (((xs.drop p).take n).map bv) := by
  have := sl_mid h p n hpn
  rw [if_neg hne] at this
  exact this

/-- A cut under a name of its own. -/
theorem cut_named {K : Nat} {w : World} {ao : Option Addr} {cap : Nat} {xs : List UInt8} (h : Sl K w (.slice ao xs.length cap) xs.length (xs.map bv)) (p n : Nat) (hpn : p + n ≤ xs.length) :
    ∃ sv, sv = cut1 ao p (p + n) cap ∧ Sl K w sv n (((xs.drop p).take n).map bv) := by
  have := h.cut1 p (p + n) (by omega) hpn
  rw [show p + n - p = n by omega] at this
  exact ⟨_, rfl, this⟩

/-- The operation that makes it. -/
theorem run_cut {P : Program} (t e : TypeId) (ht : P.underlying t = some (.slice e)) {z : Value} {by_ : Nat} (hi : (P.info? e).map (fun i => (i.zero, i.size, i.bytes)) = some (some z, 1, by_)) {ao : Option Addr} {len cap p n : Nat} (sv : Value) (hsv : sv = cut1 ao p (p + n) cap) (hpn : p + n ≤ len) (hlc : len ≤ cap) :
    ∀ (kl kh : IntKind) (l r : Int) (w : World), l = (p : Int) → r = ((p + n : Nat) : Int) → (Instr.sliceAt t (.slice ao len cap) (some (.int kl l)) (some (.int kh r)) none).run P w = .ok sv w := by
  intro kl kh l r w hl hr
  subst hl hr
  obtain ⟨i0, hi, _, hi1, _⟩ := info_parts hi
  have he : P.elem t = e := by simp [Program.elem, ht]
  rw [run_sliceAt_slice w t _ _ _ _ (by rw [he]; exact ht), run_slice_lh w t ao len cap (by rw [he]; exact ht) kl kh _ _ (by omega) (by omega) (by omega), he]
  have e2 : ((p : Int) + (n : Int)).toNat = p + n := by omega
  simp [sizeOf, typeInfo, hi, hi1, Result.andThen, hsv, cut1, e2]

theorem unpF_b (xs : List UInt8) (h : 2 ≤ xs.length) (h1 : val (xs.take 2) ≤ 1024) (h3 : val (xs.take 2) ≤ (xs.drop 2).length) : unpF 98 xs = some (⟨0, cntB xs⟩, cntR xs) := by
  simp only [unpF, if_true]; rw [if_pos ⟨h, h1, h3⟩]; rfl

theorem unpF_b_none (xs : List UInt8) (h : ¬ (2 ≤ xs.length ∧ val (xs.take 2) ≤ 1024 ∧ val (xs.take 2) ≤ (xs.drop 2).length)) : unpF 98 xs = none := by
  simp only [unpF, if_true]; rw [if_neg h]

theorem unpack_of_stop {sh : ByteArray} {xs : List UInt8} (h : unpL sh.data.toList xs = none) : unpack sh.data.toList xs = none := by
  unfold unpack
  rw [h]
  simp

set_option maxRecDepth 100000 in
set_option maxHeartbeats 3200000 in
theorem refunpack_run (sh : ByteArray) (K : Nat) (ao : Option Addr) (cap : Nat) (xs : List UInt8) (w : World) (hs : sh.size ≤ 200) (hx : Sl K w (.slice ao xs.length cap) xs.length (xs.map bv)) (hK : K ≤ w.heap.size) (hc : xs.length ≤ cap) (hm : cap ≤ maxLen) :
    Calls Try.prog 15 #[.string sh, .slice ao xs.length cap] w fun e w' => Unpacked sh.data.toList xs w e w' := by
  obtain ⟨i0, hi, hi0, hi1, hi2⟩ := info_parts Try.info5
  obtain ⟨i4, hj, hj0, hj1, hj2⟩ := info_parts Try.info40
  have hd1 : decide ((200 : Int) < (sh.size : Int)) = false := decide_eq_false (by omega)
  unfold maxLen at hm
  go_enter Try.func15, Try.ntmps15
  go_wp2
  go_loopw [6, 7, 8] (fun o p i wr => ∃ (k at_ : Nat) (fs : List Fld) (cs : List Value), k ≤ sh.size ∧ at_ ≤ xs.length ∧ p = .int .i64 at_ ∧ i = .int .i64 k ∧ Hid (unpL (sh.data.toList.take k) xs = some (fs, xs.drop at_)) ∧ CopyAt w wr o fs cs) (fun _ _ i _ => sh.size - (intOf i).toNat)
  case atStart => exact ⟨0, 0, [], [], Nat.zero_le _, Nat.zero_le _, rfl, rfl, rfl, copyAt_start w⟩
  case round =>
    obtain ⟨k, p, fs, cs, hk, hp, rfl, rfl, hacc, hat⟩ := hrel
    have hsz := hat.bel.size
    have hfl : fs.length ≤ 200 := by
      have := unpL_length hacc.out
      rw [this, List.length_take, ba_len]; omega
    by_cases hlt : k < sh.size
    · have hks' : (k : Int) < (sh.size : Int) := by omega
      have hk0 : (0 : Int) ≤ (k : Int) := by omega
      by_cases h98 : sh[k] = 98
      · have hc98 : (((sh[k].toNat : Nat) : Int) = 98 ∧ (0 : Int) = 0) := ⟨by rw [h98]; rfl, rfl⟩
        by_cases h2 : 2 ≤ (xs.drop p).length
        · have hl2 : p + 2 ≤ xs.length := by rw [List.length_drop] at h2; omega
          go_wp2_with (first | (go_at_call 21; refine (c_width_yes _ 0 (by omega) _).mono ?_; rintro e w' ⟨rfl, rfl⟩))
          have hxr := hx.keep (hat.bel.mono hK)
          refine (c_refnumberN K 2 _ _ ((xs.drop p).take 2) _ (sl_mid' hxr p 2 hl2 (by omega)) (by rw [List.length_take]; omega) (by omega)).mono ?_
          rintro e w' ⟨rfl, rfl⟩
          generalize hq : val ((xs.drop p).take 2) = q
          have Hq : Hid (val ((xs.drop p).take 2) = q) := hq
          clear hq
          by_cases hq1 : q ≤ 1024
          · by_cases hq2 : p + 2 + q ≤ xs.length
            · have hb3 : Below wr.heap.size wr (wr.alloc (.cells #[] 5)) := (Below.refl _ _).alloc (Nat.le_refl _) _
              have hlit : (wr.alloc (.cells #[] 5)).ownsRow wr.heap.size 5 1 (.slice (some ⟨wr.heap.size, 0, none⟩) 0 0) 0 [] := World.ownsRow_lit wr #[] 0 (Nat.le_refl _) (by decide) rfl
              obtain ⟨sv, hsv, hsb3⟩ := cut_named (hxr.keep (hb3.mono (by omega))) (p + 2) q hq2
              have hsl := run_cut 22 5 Try.underlying22 Try.info5 sv hsv (by omega) (by omega)
              clear hsv
              have hf : unpF sh[k] (xs.drop p) = some (⟨0, (xs.drop (p + 2)).take q⟩, xs.drop (p + 2 + q)) := by
                rw [h98, unpF_b _ h2 (by rw [Hq.out]; exact hq1) (by rw [Hq.out]; simp only [List.length_drop]; omega)]
                unfold cntB cntR
                rw [Hq.out, List.drop_drop, List.drop_drop]
              have hbl : ((xs.drop (p + 2)).take q).length = q := by rw [List.length_take, List.length_drop]; omega
              have hacc1 : Hid (unpL (sh.data.toList.take (k + 1)) xs = some (fs ++ [⟨0, (xs.drop (p + 2)).take q⟩], xs.drop (p + 2 + q))) := unpL_round hlt hacc.out hf
              clear hf
              go_wp2_with (at_builtin; refine wpList_append_sl _ rfl _ _ 22 rfl wr.heap.size 5 i0 (.int .u8 0) 1 1 Try.underlying22 hi hi0 hi1 hi2 rfl (by decide) _ _ _ rfl hlit K _ q _ rfl hsb3 (by rw [List.length_map, hbl, Nat.mul_one]) (bv_oneCell _) ?c1 ?c2 ?c3 ?_)
              case c1 => unfold maxLen; omega
              case c2 => omega
              case c3 => simp
              intro v6 w6 hown6 hgrow6 hat6
              have hg3 := hgrow6.size
              have hb6 : Below wr.heap.size wr w6 := hb3.grown hgrow6 (by simp) (owns_ge hlit)
              have hown6 : w6.ownsRow wr.heap.size 5 1 v6 ((xs.drop (p + 2)).take q).length (((xs.drop (p + 2)).take q).map bv) := by rw [hbl]; simpa using hown6
              obtain ⟨a6, c6, rfl⟩ : ∃ a6 c6, v6 = .slice a6 ((xs.drop (p + 2)).take q).length c6 := owns_form hown6
              have hs6 := slp_of_owns hown6
              have h6 := hown6.lt
              have hown8 := (owns_keep hat.own hb6).alloc (.cells #[.int .u64 0, .slice a6 ((xs.drop (p + 2)).take q).length c6] 40)
              have hsz6 := hb6.size
              have hlq : ((xs.drop (p + 2)).take q).length ≤ 140737488355328 := by omega
              clear hgrow6 hat6 hlit hsb3 hb3 hsl hown6 hxr
              rw [hbl] at hs6 h6 hown8 ⊢
              go_wp2_with (at_builtin; refine wpList_append_sl _ rfl _ _ 26 rfl w.heap.size 40 i4 _ 2 32 Try.underlying26 hj hj0 hj1 hj2 rfl (by decide) _ _ _ rfl hown8 _ _ 1 _ rfl (sl_lit w6 _ 40 1 (by omega)) rfl ?d1 ?d2 ?d3 ?d4 ?_)
              case d1 => first | (intro u hu; simp at hu; rcases hu with rfl | rfl <;> rfl) | simp [Value.oneCell']
              case d2 => unfold maxLen; omega
              case d3 => first | omega | (simp; omega)
              case d4 => first | omega | (simp; omega)
              intro v9 w9 hown9 hgrow9 hat9
              have hown9 : w9.ownsRow w.heap.size 40 2 v9 (fs ++ [(⟨0, (xs.drop (p + 2)).take q⟩ : Fld)]).length (cs ++ [.int .u64 ((0 : Nat) : Int), .slice a6 q c6]) := by simpa using hown9
              have hnew := copyAt_step (⟨0, (xs.drop (p + 2)).take q⟩ : Fld) hat hb6 (by show Slp _ w6 _ ((xs.drop (p + 2)).take q).length _; rw [hbl]; exact hs6) h6 (by show (0 : Nat) < _; omega) hlq _ hown9 hgrow9 hat9
              clear hat hb6 hs6 h6 hown9 hgrow9 hat9 hown8 hbl hlq
              generalize fs ++ [(⟨0, (xs.drop (p + 2)).take q⟩ : Fld)] = fs1 at *
              generalize cs ++ [.int .u64 ((0 : Nat) : Int), .slice a6 q c6] = cs1 at *
              go_wp2
              go_roundw
              case rel => exact ⟨k + 1, p + 2 + q, _, _, by omega, by omega, by go_num, by go_num, hacc1, hnew⟩
              case measure => simp [intOf]; omega
            · have hnone := unpack_of_stop (unpL_stop hlt hacc.out (by rw [h98]; exact unpF_b_none _ (by rw [Hq.out]; simp only [List.length_drop]; omega)))
              go_wp2
              go_ret2
              exact ⟨hat.bel, .inr ⟨hnone, rfl⟩⟩
          · have hnone := unpack_of_stop (unpL_stop hlt hacc.out (by rw [h98]; exact unpF_b_none _ (by rw [Hq.out]; omega)))
            go_wp2
            go_ret2
            exact ⟨hat.bel, .inr ⟨hnone, rfl⟩⟩
        · have hl2 : xs.length < p + 2 := by rw [List.length_drop] at h2; omega
          have hnone := unpack_of_stop (unpL_stop hlt hacc.out (by rw [h98]; exact unpF_b_none _ (fun h => h2 h.1)))
          go_wp2_with (first | (go_at_call 21; refine (c_width_yes _ 0 (by omega) _).mono ?_; rintro e w' ⟨rfl, rfl⟩))
          go_ret2
          exact ⟨hat.bel, .inr ⟨hnone, rfl⟩⟩
      · cases hw : wdt sh[k] with
        | none =>
          obtain ⟨h1, h2, h3, h4⟩ := wdt_none hw
          have h5 := byte_ne h98 98 rfl
          have hnone := unpack_of_stop (unpL_stop hlt hacc.out (by simp [unpF, h98, hw]))
          clear hw
          go_wp2_with (first | (go_at_call 21; refine (c_width_no _ h1 h2 h3 h4 h5 _).mono ?_; rintro e w' ⟨rfl, rfl⟩))
          go_ret2
          exact ⟨hat.bel, .inr ⟨hnone, rfl⟩⟩
        | some q =>
          have hq := wdt_int hw
          have hq0 : decide ((q : Int) < 0) = false := decide_eq_false (by omega)
          have hq1 : ((q : Int) == 0) = false := beq_eq_false_iff_ne.2 (by omega)
          have hq2 : decide ((0 : Int) < (q : Int)) = true := decide_eq_true (by omega)
          have hq8 : q ≤ 8 := by omega
          have hq9 : 1 ≤ q := by omega
          have hq' : Hid ((((sh[k].toNat : Nat) : Int) = 49 ∧ (q : Int) = 1) ∨ (((sh[k].toNat : Nat) : Int) = 50 ∧ (q : Int) = 2) ∨ (((sh[k].toNat : Nat) : Int) = 52 ∧ (q : Int) = 4) ∨ (((sh[k].toNat : Nat) : Int) = 56 ∧ (q : Int) = 8)) := hq
          clear hq
          have hw' : Hid (wdt sh[k] = some q) := hw
          clear hw
          by_cases hl : p + q ≤ xs.length
          · have hf : unpF sh[k] (xs.drop p) = some (⟨val ((xs.drop p).take q), []⟩, xs.drop (p + q)) := by
              simp only [unpF, if_neg h98, hw'.out]
              rw [if_pos (by rw [List.length_drop]; omega), List.drop_drop]
            have hacc1 : Hid (unpL (sh.data.toList.take (k + 1)) xs = some (fs ++ [⟨val ((xs.drop p).take q), []⟩], xs.drop (p + q))) := unpL_round hlt hacc.out hf
            clear hf
            have hxr := hx.keep (hat.bel.mono hK)
            obtain ⟨sv, hsv, hsb3⟩ := cut_named hxr p q hl
            have hsl := run_cut 22 5 Try.underlying22 Try.info5 sv hsv hl (by omega)
            clear hsv
            have hvl : val ((xs.drop p).take q) < 18446744073709551616 := by
              have h1 := val_lt ((xs.drop p).take q)
              have h2 : ((xs.drop p).take q).length ≤ 8 := by rw [List.length_take]; omega
              have h3 : 256 ^ ((xs.drop p).take q).length ≤ 256 ^ 8 := Nat.pow_le_pow_right (by decide) h2
              omega
            have hyl : ((xs.drop p).take q).length = q := by rw [List.length_take, List.length_drop]; omega
            obtain ⟨sa, sc, rfl⟩ : ∃ sa sc, sv = .slice sa q sc := sl_form hsb3
            go_wp2_with (first
              | (go_at_call 21; refine (c_width_yes _ q (by have := hq'.out; omega) _).mono ?_; rintro e w' ⟨rfl, rfl⟩)
              | (go_at_call 23; refine (c_refnumberN K q _ _ ((xs.drop p).take q) _ hsb3 hyl hq8).mono ?_; rintro e w' ⟨rfl, rfl⟩)
              | (at_builtin; refine wpList_append_sl _ rfl _ _ 26 rfl w.heap.size 40 i4 _ 2 32 Try.underlying26 hj hj0 hj1 hj2 rfl (by decide) _ _ _ rfl (hat.own.alloc _) _ _ 1 _ rfl (sl_lit wr _ 40 1 (by omega)) rfl ?f1 ?f2 ?f3 ?f4 ?_))
            case f1 => first | (intro u hu; simp at hu; rcases hu with rfl | rfl <;> rfl) | simp [Value.oneCell']
            case f2 => unfold maxLen; omega
            case f3 => first | omega | (simp; omega)
            case f4 => first | omega | (simp; omega)
            intro v9 w9 hown9 hgrow9 hat9
            have hown9 : w9.ownsRow w.heap.size 40 2 v9 (fs ++ [(⟨val ((xs.drop p).take q), []⟩ : Fld)]).length (cs ++ [.int .u64 ((val ((xs.drop p).take q) : Nat) : Int), .slice none 0 0]) := by simpa using hown9
            have hnew := copyAt_step (⟨val ((xs.drop p).take q), []⟩ : Fld) hat (Below.refl _ _) (X6 := fun _ => False) ⟨none, 0, rfl, ⟨Nat.le_refl _, Nat.zero_le _⟩, fun _ => rfl, fun i c h => by simp at h⟩ (fun b h => h.elim) hvl (by simp) _ hown9 hgrow9 hat9
            clear hat hown9 hgrow9 hat9 hsb3 hsl hxr hvl hyl
            generalize fs ++ [(⟨val ((xs.drop p).take q), []⟩ : Fld)] = fs1 at *
            generalize cs ++ [.int .u64 ((val ((xs.drop p).take q) : Nat) : Int), .slice none 0 0] = cs1 at *
            go_wp2
            go_roundw
            case rel => exact ⟨k + 1, p + q, _, _, by omega, by omega, by go_num, by go_num, hacc1, hnew⟩
            case measure => simp [intOf]; omega
          · have hl' : ¬ q ≤ (xs.drop p).length := by rw [List.length_drop]; omega
            have hnone := unpack_of_stop (unpL_stop hlt hacc.out (by simp only [unpF, if_neg h98, hw'.out]; rw [if_neg hl']))
            clear hl'
            go_wp2_with (first | (go_at_call 21; refine (c_width_yes _ q (by have := hq'.out; omega) _).mono ?_; rintro e w' ⟨rfl, rfl⟩))
            go_ret2
            exact ⟨hat.bel, .inr ⟨hnone, rfl⟩⟩
    · have htk : unpL sh.data.toList xs = some (fs, xs.drop p) := by
        have e := hacc.out
        rw [List.take_of_length_le (by rw [ba_len]; omega)] at e
        exact e
      by_cases hpe : p = xs.length
      · have hun : unpack sh.data.toList xs = some fs := by
          unfold unpack
          rw [ba_len, if_pos hs, htk, List.drop_of_length_le (by omega)]
        have hd2 : ((p : Int) != (xs.length : Int)) = false := by simp; omega
        have hpe' : Hid (p = xs.length) := hpe
        clear hpe
        go_wp2
        go_ret2
        exact ⟨hat.bel, .inl ⟨fs, _, hun, rfl, fieldsAt_of_own hat.own hat.fld (fun b hb => hb.1)⟩⟩
      · have hun : unpack sh.data.toList xs = none := by
          unfold unpack
          rw [ba_len, if_pos hs, htk]
          cases hd : xs.drop p with
          | nil => rw [List.drop_eq_nil_iff] at hd; omega
          | cons a r => rfl
        have hd2 : ((p : Int) != (xs.length : Int)) = true := by simp; omega
        go_wp2
        go_ret2
        exact ⟨hat.bel, .inr ⟨hun, rfl⟩⟩

theorem c_refunpack (sh : ByteArray) (K : Nat) (v : Value) (xs : List UInt8) (w : World) (hsh : sh.size ≤ maxLen) (hx : Sl K w v xs.length (xs.map bv)) (hK : K ≤ w.heap.size) :
    Calls Try.prog 15 #[.string sh, v] w fun e w' => Unpacked sh.data.toList xs w e w' := by
  by_cases h : sh.size ≤ 200
  · obtain ⟨ao, cap, rfl, hc, h1⟩ := hx
    exact refunpack_run sh K ao cap xs w h ⟨ao, cap, rfl, hc, h1⟩ hK hc.1 hc.2
  · refine (refunpack_refused sh v w hsh h).mono ?_
    rintro e w' ⟨he, rfl⟩
    exact ⟨Below.refl _ _, .inr ⟨by unfold unpack; rw [ba_len, if_neg h], he⟩⟩
end Go.Proofs.Ytfnokdgfbhlccaa
