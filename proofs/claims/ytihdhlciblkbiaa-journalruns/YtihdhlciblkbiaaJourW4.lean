/-
  Package journal: Add.
-/
import Derived.Test.YtihdhlciblkbiaaJourW3
namespace Go.Proofs.Ytihdhlciblkbiaa
set_option linter.unusedVariables false
set_option linter.unusedSimpArgs false
set_option maxRecDepth 20000
open Go.RowKit

/-- What Add leaves: the disk, the journal, and what was there. -/
def Added (base : Nat) (w : World) (b : Nat) (S : Nat → Prop) (j f gen cnt : Nat) (r : Dk × Int) (w' : World) : Prop :=
  ∃ S', DiskAt base w' b S' r.1 ∧ JrAt w' j b f gen (addN cnt r.2) ∧ Fr (fun k => S k ∨ k = j) w w' ∧ ∀ k, S' k → S k ∨ w.heap.size ≤ k

theorem Added.same {base : Nat} {w : World} {b : Nat} {S : Nat → Prop} {D : Dk} {j f gen cnt : Nat} (hD : DiskAt base w b S D) (hJ : JrAt w j b f gen cnt) (e : Int) (he : e ≠ 0) : Added base w b S j f gen cnt (D, e) w :=
  ⟨S, hD, by unfold addN; rw [if_neg he]; exact hJ, Fr.refl _ _, fun _ h => .inl h⟩

theorem Added.err {base : Nat} {w w' : World} {b : Nat} {S : Nat → Prop} {D : Dk} {j f gen cnt : Nat} {r : Dk × Int} (hd : Done base w b S r.1 w') (hJ : JrAt w j b f gen cnt) (hn : ¬ S j) (he : r.2 ≠ 0) : Added base w b S j f gen cnt r w' := by
  obtain ⟨S', hD, hf, hs⟩ := hd
  exact ⟨S', hD, by unfold addN; rw [if_neg he]; exact hJ.fr hf hn, hf.mono (fun k h => .inl h), hs⟩

theorem stepE_ok {r : Dk × Int} {f : Dk → Dk × Int} (h : r.2 = 0) : stepE r f = f r.1 := by unfold stepE; rw [if_pos h]
theorem stepE_err {r : Dk × Int} {f : Dk → Dk × Int} (h : r.2 ≠ 0) : stepE r f = r := by unfold stepE; rw [if_neg h]

theorem ne_bne {e : Int} (h : e ≠ 0) : (e != 0) = true := by simpa using h

/-- The world behind Done: the disk, the journal and the slice go on. -/
theorem Done.next {base : Nat} {w w' : World} {b : Nat} {S : Nat → Prop} {D : Dk} {j f gen cnt : Nat} {v : Value} {xs : List UInt8} (hd : Done base w b S D w') (hJ : JrAt w j b f gen cnt) (hn : ¬ S j) (hs : Slp (fun k => ¬ S k) w v xs.length (xs.map bv)) :
    ∃ S', DiskAt base w' b S' D ∧ JrAt w' j b f gen cnt ∧ ¬ S' j ∧ Slp (fun k => ¬ S' k) w' v xs.length (xs.map bv) ∧ Fr S w w' ∧ ∀ k, S' k → S k ∨ w.heap.size ≤ k := by
  obtain ⟨S', hD, hf, hS⟩ := hd
  have hj := heap_lt hJ.blk
  exact ⟨S', hD, hJ.fr hf hn, fun h => (hS j h).elim hn (by omega), hs.fr hf (fun q hq _ => hq) (fun q hq hql h => (hS q h).elim hq (by omega)), hf, hS⟩

set_option maxHeartbeats 3200000 in
theorem c_jadd {base b : Nat} {S : Nat → Prop} {D : Dk} {j f gen cnt : Nat} {xs : List UInt8} {v : Value} (w : World) (hD : DiskAt base w b S D) (hJ : JrAt w j b f gen cnt) (hn : ¬ S j)
    (hs : Slp (fun k => ¬ S k) w v xs.length (xs.map bv)) (hx : xs.length ≤ 140737488355328) (hpl : D.pd.length ≤ 800000) :
    Calls Try.prog 13 #[.pointer (some ⟨j, 0, none⟩), v] w fun e w' => e = .returned (.int .i64 (D.add f gen cnt xs).2) ∧ Added base w b S j f gen cnt (D.add f gen cnt xs) w' := by
  obtain ⟨ao, cap, rfl, hcl, hcm⟩ := hs.form
  obtain ⟨c0, -, -, c3, -⟩ := hJ.cells
  have hcnt := hJ.cl
  by_cases h384 : 384 < xs.length
  · have e1 : D.add f gen cnt xs = (D, 63) := by unfold Dk.add; rw [if_pos h384]
    have hd : decide (384 < (xs.length : Int)) = true := decide_eq_true (by omega)
    rw [e1]
    have HE := Added.same hD hJ 63 (by decide)
    clear e1 hD hs c0 c3 hJ
    go_enter Try.func13, Try.ntmps13
    go_wp2
    go_ret
    exact ⟨rfl, HE⟩
  have hd : decide (384 < (xs.length : Int)) = false := decide_eq_false (by omega)
  by_cases h4 : 4 ≤ cnt
  · have e1 : D.add f gen cnt xs = (D, 62) := by unfold Dk.add; rw [if_neg h384, if_pos h4]
    rw [e1]
    have HE := Added.same hD hJ 62 (by decide)
    obtain rfl : cnt = 4 := by omega
    clear e1 hD hs c0 hJ
    go_enter Try.func13, Try.ntmps13
    go_wp2
    go_ret
    exact ⟨rfl, HE⟩
  have e1 : D.add f gen cnt xs = D.addP f gen cnt xs := by unfold Dk.add; rw [if_neg h384, if_neg h4]
  have hd4 : decide ((cnt : Int) ≥ 4) = false := decide_eq_false (by omega)
  have hd5 : decide (4 ≤ (cnt : Int)) = false := decide_eq_false (by omega)
  rw [e1]
  clear e1
  obtain ⟨R, hR⟩ : ∃ R, Hid (R = D.addP f gen cnt xs) := ⟨_, rfl⟩
  rw [← hR.out]
  obtain ⟨r1, hr1⟩ : ∃ r1, Hid (r1 = D.wrs (headN f cnt + 1) xs (secsN xs.length)) := ⟨_, rfl⟩
  have hR1 : Hid (R = stepE (stepE (stepE r1 Dk.fl) (Dk.wr (headN f cnt : Int) (hdSec gen cnt xs))) Dk.fl) := by unfold Hid; rw [hr1.out, hR.out]; rfl
  have hlim : r1.1.pd.length ≤ 800003 := by
    rw [hr1.out]
    have := (lim_wrs D (headN f cnt + 1) xs (secsN xs.length)).2
    have := secsN_le (n := xs.length) (by omega)
    omega
  go_enter Try.func13, Try.ntmps13
  go_wp2_with (go_at_call 26; refine stop_here ?_)
  unfold Hid
  refine (c_writeBytes _ hD hJ hn hs (by omega) (by omega)).mono ?_
  rw [← hr1.out]
  clear hr1 hR
  rintro e W1 ⟨rfl, hd1⟩
  by_cases he1 : r1.2 = 0
  case neg =>
    have HE : Hid (R = r1 ∧ Added base w b S j f gen cnt r1 W1) := ⟨by rw [hR1.out, stepE_err (r := r1) he1, stepE_err (r := r1) he1, stepE_err (r := r1) he1], Added.err (D := D) hd1 hJ hn he1⟩
    have hne := ne_bne he1
    clear hR1 hd1 hD hJ hs c0 c3 he1
    obtain ⟨D1, ev⟩ := r1
    simp only at hne ⊢
    go_wp2
    go_ret
    obtain ⟨h1, h2⟩ := HE.out
    rw [h1]
    exact ⟨rfl, h2⟩
  obtain ⟨S1, hD1, hJ1, hn1, hs1, hf1, hS1⟩ := hd1.next hJ hn hs
  have hR2 : Hid (R = stepE (stepE (r1.1.fl) (Dk.wr (headN f cnt : Int) (hdSec gen cnt xs))) Dk.fl) := by unfold Hid; rw [hR1.out, stepE_ok (r := r1) he1]
  obtain ⟨D1, ev⟩ := r1
  simp only at he1 hlim hD1 hR2 ⊢
  subst he1
  obtain ⟨d0, -, -, -, -⟩ := hJ1.cells
  clear hR1 hd1 c0 c3 hD
  go_wp2_with (go_at_call 27; refine stop_here ?_)
  unfold Hid
  refine (c_flush _ hD1).mono ?_
  rintro e W2 ⟨rfl, hd2⟩
  have hd2 := Done.trans hf1 hS1 hd2
  have hlim2 : D1.flush.pd.length ≤ 800003 := by have := Dk.flush_pd D1; omega
  obtain ⟨r2, hr2⟩ : ∃ r2, Hid (r2 = D1.fl) := ⟨_, rfl⟩
  rw [show D1.ferr = r2.2 by rw [hr2.out]; rfl]
  rw [show D1.flush = r2.1 by rw [hr2.out]; rfl] at hd2 hlim2
  rw [← hr2.out] at hR2
  clear hr2 hlim hD1 hJ1 hn1 hs1 hf1 hS1 d0
  by_cases he2 : r2.2 = 0
  case neg =>
    have HE : Hid (R = r2 ∧ Added base w b S j f gen cnt r2 W2) := ⟨by rw [hR2.out, stepE_err (r := r2) he2, stepE_err (r := r2) he2], Added.err (D := D) hd2 hJ hn he2⟩
    have hne := ne_bne he2
    clear hR2 hd2 hJ hs he2
    obtain ⟨D2, ev⟩ := r2
    simp only at hne ⊢
    go_wp2
    go_ret
    obtain ⟨h1, h2⟩ := HE.out
    rw [h1]
    exact ⟨rfl, h2⟩
  obtain ⟨S2, hD2, hJ2, hn2, hs2, hf2, hS2⟩ := hd2.next hJ hn hs
  have hR3 : Hid (R = stepE (Dk.wr (headN f cnt : Int) (hdSec gen cnt xs) r2.1) Dk.fl) := by unfold Hid; rw [hR2.out, stepE_ok (r := r2) he2]
  obtain ⟨D2, ev⟩ := r2
  simp only at he2 hlim2 hD2 hR3 ⊢
  subst he2
  obtain ⟨d0, -, -, -, -⟩ := hJ2.cells
  clear hR2 hd2
  go_wp2
  have hC : (fun w' : World => w'.cell? ⟨j, 0, none⟩ = some (.pointer (some ⟨b, 0, none⟩))) W2.drew := d0
  refine wp_region_ord [] 9 [(0, true), (1, true), (2, true), (3, true), (4, true), (6, true), (7, true), (5, false), (8, false)] (fun w' : World => w'.cell? ⟨j, 0, none⟩ = some (.pointer (some ⟨b, 0, none⟩))) (by kernel_rfl) (by kernel_rfl) ?_
  refine ord_quietL _ ?_ rfl hC rfl ?_ ?_
  rotate_left
  · rintro w' hC1; go_simp; rfl
  simp only [Act.put, List.setIfInBounds_toArray, List.set_cons_zero, List.set_cons_succ]
  refine ord_quietL _ ?_ rfl hC rfl ?_ ?_
  rotate_left
  · rintro w' hC1; go_simp; rfl
  simp only [Act.put, List.setIfInBounds_toArray, List.set_cons_zero, List.set_cons_succ]
  refine ord_quietL _ ?_ rfl hC rfl ?_ ?_
  rotate_left
  · rintro w' hC1; go_simp; rfl
  simp only [Act.put, List.setIfInBounds_toArray, List.set_cons_zero, List.set_cons_succ]
  refine ord_quietL _ ?_ rfl hC rfl ?_ ?_
  rotate_left
  · rintro w' hC1; go_simp; rfl
  simp only [Act.put, List.setIfInBounds_toArray, List.set_cons_zero, List.set_cons_succ]
  refine ord_quietL _ ?_ rfl hC rfl ?_ ?_
  rotate_left
  · rintro w' hC1; go_simp; rfl
  simp only [Act.put, List.setIfInBounds_toArray, List.set_cons_zero, List.set_cons_succ]
  refine ord_quietL _ ?_ rfl hC rfl ?_ ?_
  rotate_left
  · rintro w' hC1; go_simp; rfl
  simp only [Act.put, List.setIfInBounds_toArray, List.set_cons_zero, List.set_cons_succ]
  refine ord_quietL _ ?_ rfl hC rfl ?_ ?_
  rotate_left
  · rintro w' hC1; go_simp; rfl
  simp only [Act.put, List.setIfInBounds_toArray, List.set_cons_zero, List.set_cons_succ]
  refine ord_actL _ rfl (fun K1 hK1 => ?_)
  go_wp2_with fail
  refine (c_headAt _ hJ2.drew).mono ?_
  rintro e W3 ⟨rfl, hn3⟩
  have hn23 : Nw W2 W3 := Fr.trans (Fr.refl _ W2).drew hn3 (fun _ => False.elim)
  have hD3 := hD2.keep hn23 (fun _ _ => id)
  have hJ3 := hJ2.nw hn23
  have hs3 := (hs2.fr (X' := fun _ => True) hn23 (fun _ _ _ => id) (fun _ _ _ => trivial)).slw
  obtain ⟨d3, -, -, -, -⟩ := hJ3.cells
  have hC3 : (fun w' : World => w'.cell? ⟨j, 0, none⟩ = some (.pointer (some ⟨b, 0, none⟩))) W3 := d3
  have hf3 : Fr S w W3 := hf2.trans (hn23.mono (fun _ => False.elim)) hS2
  clear hn3 hn23 hD2 hJ2 hn2 hs2 d0 hC hf2
  go_wp2
  refine hK1 _ _ hC3 ?_
  clear hK1 K1
  refine ord_actL _ rfl (fun K1 hK1 => ?_)
  go_wp2_with fail
  refine (c_headOf _ hJ3 hs3 (Nat.le_refl _) (by omega)).mono ?_
  rintro e W4 ⟨rfl, hn4⟩
  have hD4 := hD3.keep hn4 (fun _ _ => id)
  have hJ4 := hJ3.nw hn4
  obtain ⟨d4, -, -, -, -⟩ := hJ4.cells
  have hC4 : (fun w' : World => w'.cell? ⟨j, 0, none⟩ = some (.pointer (some ⟨b, 0, none⟩))) W4 := d4
  have hf4 : Fr S w W4 := hf3.trans (hn4.mono (fun _ => False.elim)) hS2
  have hlen := hdSec_length gen cnt xs
  clear hn4 hD3 hJ3 hs3 d3 hC3 hf3
  generalize hdSec gen cnt xs = L at *
  generalize headN f cnt = hN0 at *
  go_wp2
  refine hK1 _ _ hC4 ?_
  clear hK1 K1 hC4
  refine ord_tail ?_
  simp only [List.drop_succ_cons, List.drop_zero]
  go_wp2_with (go_at_call 28; refine stop_here ?_)
  unfold Hid
  refine (c_write (hN0 : Int) L _ hD4 hlen (by omega)).mono ?_
  rintro e W5 ⟨rfl, hd5'⟩
  have hd5x := Done.trans hf4 hS2 hd5'
  have hlim5 : (D2.write (hN0 : Int) L).pd.length ≤ 800004 := by have := Dk.write_pd D2 (hN0 : Int) L; omega
  obtain ⟨r3, hr3⟩ : ∃ r3, Hid (r3 = Dk.wr (hN0 : Int) L D2) := ⟨_, rfl⟩
  rw [show D2.werr (hN0 : Int) = r3.2 by rw [hr3.out]; rfl]
  rw [show D2.write (hN0 : Int) L = r3.1 by rw [hr3.out]; rfl] at hd5x hlim5
  rw [← hr3.out] at hR3
  clear hr3 hlim2 hD4 hJ4 hf4 hS2 d4 hd5'
  by_cases he3 : r3.2 = 0
  case neg =>
    have HE : Hid (R = r3 ∧ Added base w b S j f gen cnt r3 W5) := ⟨by rw [hR3.out, stepE_err (r := r3) he3], Added.err (D := D) hd5x hJ hn he3⟩
    have hne := ne_bne he3
    clear hR3 hd5x hJ hs he3
    obtain ⟨D3, ev⟩ := r3
    simp only at hne ⊢
    go_wp2
    go_ret
    obtain ⟨h1, h2⟩ := HE.out
    rw [h1]
    exact ⟨rfl, h2⟩
  obtain ⟨S5, hD5, hJ5, hn5, hs5, hf5, hS5⟩ := hd5x.next hJ hn hs
  have hR4 : Hid (R = r3.1.fl) := by unfold Hid; rw [hR3.out, stepE_ok (r := r3) he3]
  obtain ⟨D3, ev⟩ := r3
  simp only at he3 hlim5 hD5 hR4 ⊢
  subst he3
  obtain ⟨d5, -, -, -, -⟩ := hJ5.cells
  clear hR3 hd5x hs5
  go_wp2_with (go_at_call 27; refine stop_here ?_)
  unfold Hid
  refine (c_flush _ hD5).mono ?_
  rintro e W6 ⟨rfl, hd6⟩
  have hd6 := Done.trans hf5 hS5 hd6
  obtain ⟨r4, hr4⟩ : ∃ r4, Hid (r4 = D3.fl) := ⟨_, rfl⟩
  rw [show D3.ferr = r4.2 by rw [hr4.out]; rfl]
  rw [show D3.flush = r4.1 by rw [hr4.out]; rfl] at hd6
  rw [← hr4.out] at hR4
  clear hr4 hD5 hJ5 hn5 hf5 hS5 d5
  by_cases he4 : r4.2 = 0
  case neg =>
    have HE : Hid (R = r4 ∧ Added base w b S j f gen cnt r4 W6) := ⟨hR4.out, Added.err (D := D) hd6 hJ hn he4⟩
    have hne := ne_bne he4
    clear hR4 hd6 hJ hs he4
    obtain ⟨D4, ev⟩ := r4
    simp only at hne ⊢
    go_wp2
    go_ret
    obtain ⟨h1, h2⟩ := HE.out
    rw [h1]
    exact ⟨rfl, h2⟩
  obtain ⟨S6, hD6, hJ6, hn6, hs6, hf6, hS6⟩ := hd6.next hJ hn hs
  obtain ⟨-, -, -, d6, z6⟩ := hJ6.cells
  have HE : Hid (Added base w b S j f gen cnt r4 (W6.setCell ⟨j, 3, none⟩ (.int .i64 ((cnt : Int) + 1)))) := by
    refine ⟨S6, ?_, ?_, ?_, hS6⟩
    · exact hD6.keep (T := fun k => k = j) ((Fr.refl (fun k => k = j) W6).setCell (p := ⟨j, 3, none⟩) (.inl rfl) _) (fun k hk e => hn6 (e ▸ hk))
    · unfold addN; rw [if_pos he4]; exact hJ6.next (by omega)
    · exact (hf6.mono (fun k h => .inl h)).setCell (p := ⟨j, 3, none⟩) (.inl (.inr rfl)) _
  have hR4 : Hid (R = r4) := hR4
  clear hd6 hJ hs hD6 hJ6 hs6 hf6 hS6 hn6
  obtain ⟨D4, ev⟩ := r4
  simp only at he4 ⊢
  subst he4
  have hcI : (cnt : Int) < 4 := by omega
  go_wp2
  go_ret
  rw [hR4.out]
  exact ⟨rfl, HE.out⟩
end Go.Proofs.Ytihdhlciblkbiaa
