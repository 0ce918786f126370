/-
  Package tree: within.
-/
import Derived.Test.YtnljfhjindenpabTreeO2
namespace Go.Proofs.Ytnljfhjindenpab
set_option linter.unusedVariables false
set_option linter.unusedSimpArgs false
set_option maxRecDepth 20000
open Go.RowKit

set_option maxHeartbeats 6400000 in
theorem c_withinG {b : Nat} {kv vv sv : Value} {ks : List Int} {bs : List Nat} {lo e : Int} {bl : Bool} (P : Nat → Prop) (w : World) (hd : Nd w b kv vv sv) (hk : Ks w kv ks) (hs : Ps w sv bs) (hkl : ks.length ≤ 1000) (hbl : bs.length ≤ ks.length + 1)
    (ih : ∀ j q, bs[j]? = some q → ∀ w', Nw w w' → Calls Try.prog 46 #[.pointer (some ⟨q, 0, none⟩), bV (lft ks lo j) (if j < ks.length then ks.getD j 0 else e) (if j < ks.length then false else bl)] w' fun r w2 => ∃ x : Bool, r = .returned (.bool x) ∧ (x = true ↔ P j) ∧ Nw w' w2) :
    Calls Try.prog 46 #[.pointer (some ⟨b, 0, none⟩), bV lo e bl] w fun r w' => ∃ x : Bool, r = .returned (.bool x) ∧ (x = true ↔ (∀ k ∈ ks, ¬ Out lo e bl k) ∧ ∀ j, j < bs.length → P j) ∧ Nw w w' := by
  obtain ⟨RP, hRP⟩ : ∃ RP : Prop, Hid (RP ↔ ((∀ k ∈ ks, ¬ Out lo e bl k) ∧ ∀ j, j < bs.length → P j)) := ⟨_, Iff.rfl⟩
  rw [← hRP.out]
  obtain ⟨ak, ck, rfl, hk1, hk2⟩ := Hs.form hk
  obtain ⟨ap, cp, rfl, hp1, hp2⟩ := Hs.form hs
  have hcC : Hid (∀ w', Nw w w' → Calls Try.prog 75 #[.slice ak ks.length ck, .func (.func 76) #[bV lo e bl] #[]] w' fun r w2 => r = .returned (.bool (decide (∃ k ∈ ks, Out lo e bl k))) ∧ Nw w' w2) := fun w' hw => c_containsf w' (Hs.nw hk hw)
  have hcB : Hid (∀ w' (j : Nat), Nw w w' → j ≤ ks.length → Calls Try.prog 77 #[bV lo e bl, .slice ak ks.length ck, .int .i64 j] w' fun r w2 => r = .returned (bV (lft ks lo j) (if j < ks.length then ks.getD j 0 else e) (if j < ks.length then false else bl)) ∧ Nw w' w2) := fun w' j hw hj => c_below w' (Hs.nw hk hw) hj hkl
  replace ih : Hid (∀ j q, bs[j]? = some q → ∀ w', Nw w w' → Calls Try.prog 46 #[.pointer (some ⟨q, 0, none⟩), bV (lft ks lo j) (if j < ks.length then ks.getD j 0 else e) (if j < ks.length then false else bl)] w' fun r w2 => ∃ x : Bool, r = .returned (.bool x) ∧ (x = true ↔ P j) ∧ Nw w' w2) := ih
  replace hs : Hid (Ps w (.slice ap bs.length cp) bs) := hs
  have c0 : Hid (w.cell? ⟨b, 0, none⟩ = some (.slice ak ks.length ck)) := hd.c0
  have c2 : Hid (w.cell? ⟨b, 2, none⟩ = some (.slice ap bs.length cp)) := hd.c2
  obtain ⟨R1, hR1⟩ : ∃ R1, Hid (R1 = decide (∃ k ∈ ks, Out lo e bl k)) := ⟨_, rfl⟩
  rw [← hR1.out] at hcC
  have hbl1 : bs.length ≤ 1001 := by omega
  have hblH : Hid (bs.length ≤ ks.length + 1) := hbl
  clear hd hk hbl
  generalize hnk : ks.length = n at *
  generalize hnb : bs.length = nb at *
  replace hnk : Hid (ks.length = n) := hnk
  replace hnb : Hid (bs.length = nb) := hnb
  unfold bV at *
  go_enter Try.func46, Try.ntmps46
  go_upto_region 1 with fail
  have hn1 : Nw w (w.alloc (.cells #[.int .u64 lo, .int .u64 e, .bool bl] 85)) := nw_alloc (nw_refl w) _
  have hB1 : Hid ((w.alloc (.cells #[.int .u64 lo, .int .u64 e, .bool bl] 85)).heap[w.heap.size]? = some (.cells #[.int .u64 lo, .int .u64 e, .bool bl] 85 (0, 0))) := heap_alloc_new w _
  have hgen : w.heap.size ≤ (w.alloc (.cells #[.int .u64 lo, .int .u64 e, .bool bl] 85)).heap.size := by simp
  generalize w.alloc (.cells #[.int .u64 lo, .int .u64 e, .bool bl] 85) = w1 at *
  have hSof : Hid (∀ w' : World, Nw w1 w' → (fun w' : World => Nw w1 w' ∧ w'.cell? ⟨b, 0, none⟩ = some (.slice ak n ck) ∧ w'.cell? ⟨b, 2, none⟩ = some (.slice ap nb cp) ∧ w'.cell? ⟨w.heap.size, 0, none⟩ = some (.int .u64 lo) ∧ w'.cell? ⟨w.heap.size, 1, none⟩ = some (.int .u64 e) ∧ w'.cell? ⟨w.heap.size, 2, none⟩ = some (.bool bl)) w') := fun w' hw => ⟨hw, (nw_trans hn1 hw).cell c0.out, (nw_trans hn1 hw).cell c2.out, cell_blk (hw.blk hB1.out) rfl, cell_blk (hw.blk hB1.out) rfl, cell_blk (hw.blk hB1.out) rfl⟩
  clear hB1 c0 c2
  have hS := hSof.out _ (nw_drew (nw_refl w1))
  refine wp_region_ord [] 6 [(0, true), (1, true), (2, true), (3, true), (4, true), (5, true)] (fun w' : World => Nw w1 w' ∧ w'.cell? ⟨b, 0, none⟩ = some (.slice ak n ck) ∧ w'.cell? ⟨b, 2, none⟩ = some (.slice ap nb cp) ∧ w'.cell? ⟨w.heap.size, 0, none⟩ = some (.int .u64 lo) ∧ w'.cell? ⟨w.heap.size, 1, none⟩ = some (.int .u64 e) ∧ w'.cell? ⟨w.heap.size, 2, none⟩ = some (.bool bl)) (by kernel_rfl) (by kernel_rfl) ?_
  refine ord_quietL _ ?_ rfl hS rfl ?_ ?_
  rotate_left
  · rintro w' ⟨hS1, hS2, hS3, hS4, hS5, hS6⟩; go_simp; first | rfl | (rw [if_pos (by omega)]; done) | (rw [if_pos (by omega)]; rfl) | (rw [if_pos (by omega)]; go_simp; rfl)
  simp only [Act.put, List.setIfInBounds_toArray, List.set_cons_zero, List.set_cons_succ]
  refine ord_quietL _ ?_ rfl hS rfl ?_ ?_
  rotate_left
  · rintro w' ⟨hS1, hS2, hS3, hS4, hS5, hS6⟩; go_simp; first | rfl | (rw [if_pos (by omega)]; done) | (rw [if_pos (by omega)]; rfl) | (rw [if_pos (by omega)]; go_simp; rfl)
  simp only [Act.put, List.setIfInBounds_toArray, List.set_cons_zero, List.set_cons_succ]
  refine ord_quietL _ ?_ rfl hS rfl ?_ ?_
  rotate_left
  · rintro w' ⟨hS1, hS2, hS3, hS4, hS5, hS6⟩; go_simp; first | rfl | (rw [if_pos (by omega)]; done) | (rw [if_pos (by omega)]; rfl) | (rw [if_pos (by omega)]; go_simp; rfl)
  simp only [Act.put, List.setIfInBounds_toArray, List.set_cons_zero, List.set_cons_succ]
  refine ord_quietL _ ?_ rfl hS rfl ?_ ?_
  rotate_left
  · rintro w' ⟨hS1, hS2, hS3, hS4, hS5, hS6⟩; go_simp; first | rfl | (rw [if_pos (by omega)]; done) | (rw [if_pos (by omega)]; rfl) | (rw [if_pos (by omega)]; go_simp; rfl)
  simp only [Act.put, List.setIfInBounds_toArray, List.set_cons_zero, List.set_cons_succ]
  refine ord_quietL _ ?_ rfl hS rfl ?_ ?_
  rotate_left
  · rintro w' ⟨hS1, hS2, hS3, hS4, hS5, hS6⟩; go_simp; first | rfl | (rw [if_pos (by omega)]; done) | (rw [if_pos (by omega)]; rfl) | (rw [if_pos (by omega)]; go_simp; rfl)
  simp only [Act.put, List.setIfInBounds_toArray, List.set_cons_zero, List.set_cons_succ]
  refine ord_quietL _ ?_ rfl hS rfl ?_ ?_
  rotate_left
  · rintro w' ⟨hS1, hS2, hS3, hS4, hS5, hS6⟩; go_simp; first | rfl | (rw [if_pos (by omega)]; done) | (rw [if_pos (by omega)]; rfl) | (rw [if_pos (by omega)]; go_simp; rfl)
  simp only [Act.put, List.setIfInBounds_toArray, List.set_cons_zero, List.set_cons_succ]
  refine ord_tail ?_
  simp only [List.drop_succ_cons, List.drop_zero]
  go_wp2_with (go_at_call 75; refine (hcC.out _ (nw_trans hn1 (nw_drew (nw_refl w1)))).mono ?_; rintro e' w2 ⟨rfl, hn2⟩; refine stop_here ?_)
  unfold Hid
  have hn2' : Nw w1 w2 := nw_trans (nw_drew (nw_refl w1)) hn2
  clear hS hn2 hcC
  cases R1 with
  | true =>
    have hr : Hid (¬ RP) := by
      unfold Hid
      rw [hRP.out]
      intro h1
      obtain ⟨k, hk, ho⟩ := of_decide_eq_true hR1.out.symm
      exact h1.1 k hk ho
    clear hRP hSof ih hcB
    go_wp2
    go_ret
    exact ⟨false, rfl, Iff.intro (fun h => nomatch h) (fun h => absurd h hr.out), nw_trans hn1 hn2'⟩
  | false =>
    have hall0 : Hid (∀ k ∈ ks, ¬ Out lo e bl k) := fun k hk ho => of_decide_eq_false hR1.out.symm ⟨k, hk, ho⟩
    clear hR1
    obtain ⟨_, _, f2, _⟩ := hSof.out _ hn2'
    go_wp2
    clear f2
    go_loopw [19] (fun i wr => ∃ j : Nat, i = .int .i64 j ∧ j ≤ nb ∧ Hid (∀ j', j' < j → P j') ∧ Nw w1 wr) (fun i _ => nb - (intOf i).toNat)
    case atStart => exact ⟨0, rfl, Nat.zero_le _, fun j' hj' => by omega, hn2'⟩
    case round =>
      obtain ⟨j, rfl, hj, hall, hnw⟩ := hrel
      have hNw : Nw w wr := nw_trans hn1 hnw
      by_cases hlt : j < nb
      · have hltb : j < bs.length := by rw [hnb.out]; exact hlt
        obtain ⟨q, off, rfl, e0⟩ := Ps.get (Hs.nw hs.out hNw) (i := j) (b' := bs[j]) (List.getElem?_eq_getElem hltb)
        have hcW : Hid (∀ w', Nw w w' → Calls Try.prog 46 #[.pointer (some ⟨bs[j], 0, none⟩), .agg #[.int .u64 (lft ks lo j), .int .u64 (if j < n then ks.getD j 0 else e), .bool (if j < n then false else bl)]] w' fun r w2 => ∃ x : Bool, r = .returned (.bool x) ∧ (x = true ↔ P j) ∧ Nw w' w2) := ih.out j bs[j] (List.getElem?_eq_getElem hltb)
        have hcB2 : Hid (∀ w', Nw w w' → Calls Try.prog 77 #[.agg #[.int .u64 lo, .int .u64 e, .bool bl], .slice ak n ck, .int .i64 j] w' fun r w2 => r = .returned (.agg #[.int .u64 (lft ks lo j), .int .u64 (if j < n then ks.getD j 0 else e), .bool (if j < n then false else bl)]) ∧ Nw w' w2) := fun w' hw => hcB.out w' j hw (by have := hblH.out; omega)
        generalize lft ks lo j = lo2 at *
        generalize (if j < n then ks.getD j 0 else e) = e2 at *
        generalize (if j < n then false else bl) = bl2 at *
        generalize bs[j] = qj at *
        clear hltb
        go_wp2
        have hS := hSof.out _ (nw_drew hnw)
        refine wp_region_ord [] 8 [(0, true), (1, true), (2, true), (3, true), (4, true), (5, true), (6, true), (7, false)] (fun w' : World => Nw w1 w' ∧ w'.cell? ⟨b, 0, none⟩ = some (.slice ak n ck) ∧ w'.cell? ⟨b, 2, none⟩ = some (.slice (some ⟨q, off, none⟩) nb cp) ∧ w'.cell? ⟨w.heap.size, 0, none⟩ = some (.int .u64 lo) ∧ w'.cell? ⟨w.heap.size, 1, none⟩ = some (.int .u64 e) ∧ w'.cell? ⟨w.heap.size, 2, none⟩ = some (.bool bl)) (by kernel_rfl) (by kernel_rfl) ?_
        refine ord_quietL _ ?_ rfl hS rfl ?_ ?_
        rotate_left
        · rintro w' ⟨hS1, hS2, hS3, hS4, hS5, hS6⟩; go_simp; first | rfl | (rw [if_pos (by omega)]; done) | (rw [if_pos (by omega)]; rfl) | (rw [if_pos (by omega)]; go_simp; rfl)
        simp only [Act.put, List.setIfInBounds_toArray, List.set_cons_zero, List.set_cons_succ]
        refine ord_quietL _ ?_ rfl hS rfl ?_ ?_
        rotate_left
        · rintro w' ⟨hS1, hS2, hS3, hS4, hS5, hS6⟩; go_simp; first | rfl | (rw [if_pos (by omega)]; done) | (rw [if_pos (by omega)]; rfl) | (rw [if_pos (by omega)]; go_simp; rfl)
        simp only [Act.put, List.setIfInBounds_toArray, List.set_cons_zero, List.set_cons_succ]
        refine ord_quietL _ ?_ rfl hS rfl ?_ ?_
        rotate_left
        · rintro w' ⟨hS1, hS2, hS3, hS4, hS5, hS6⟩; go_simp; first | rfl | (rw [if_pos (by omega)]; done) | (rw [if_pos (by omega)]; rfl) | (rw [if_pos (by omega)]; go_simp; rfl)
        simp only [Act.put, List.setIfInBounds_toArray, List.set_cons_zero, List.set_cons_succ]
        refine ord_quietL _ ?_ rfl hS rfl ?_ ?_
        rotate_left
        · rintro w' ⟨hS1, hS2, hS3, hS4, hS5, hS6⟩; go_simp; first | rfl | (rw [if_pos (by omega)]; done) | (rw [if_pos (by omega)]; rfl) | (rw [if_pos (by omega)]; go_simp; rfl)
        simp only [Act.put, List.setIfInBounds_toArray, List.set_cons_zero, List.set_cons_succ]
        refine ord_quietL _ ?_ rfl hS rfl ?_ ?_
        rotate_left
        · rintro w' ⟨hS1, hS2, hS3, hS4, hS5, hS6⟩; go_simp; first | rfl | (rw [if_pos (by omega)]; done) | (rw [if_pos (by omega)]; rfl) | (rw [if_pos (by omega)]; go_simp; rfl)
        simp only [Act.put, List.setIfInBounds_toArray, List.set_cons_zero, List.set_cons_succ]
        refine ord_quietL _ ?_ rfl hS rfl ?_ ?_
        rotate_left
        · rintro w' ⟨hS1, hS2, hS3, hS4, hS5, hS6⟩; go_simp; first | rfl | (rw [if_pos (by omega)]; done) | (rw [if_pos (by omega)]; rfl) | (rw [if_pos (by omega)]; go_simp; rfl)
        simp only [Act.put, List.setIfInBounds_toArray, List.set_cons_zero, List.set_cons_succ]
        refine ord_quietL _ ?_ rfl hS rfl ?_ ?_
        rotate_left
        · rintro w' ⟨hS1, hS2, hS3, hS4, hS5, hS6⟩; go_simp; first | rfl | (rw [if_pos (by omega)]; done) | (rw [if_pos (by omega)]; rfl) | (rw [if_pos (by omega)]; go_simp; rfl)
        simp only [Act.put, List.setIfInBounds_toArray, List.set_cons_zero, List.set_cons_succ]
        refine ord_actL _ rfl (fun K1 hK1 => ?_)
        go_wp2_with (go_at_call 77; refine (hcB2.out _ (nw_drew hNw)).mono ?_; rintro e' w3 ⟨rfl, hn3⟩; refine stop_here ?_)
        unfold Hid
        have hn3' : Nw w1 w3 := nw_trans (nw_drew hnw) hn3
        go_wp2
        refine hK1 _ _ (hSof.out _ hn3') ?_
        clear hK1 K1 hS hn3
        refine ord_tail ?_
        simp only [List.drop_succ_cons, List.drop_zero]
        go_wp2_with (go_at_call 46; refine (hcW.out _ (nw_trans hn1 hn3')).mono ?_; rintro e' w4 ⟨x, rfl, hx, hn4⟩; refine stop_here ?_)
        unfold Hid
        have hn4' : Nw w1 w4 := nw_trans hn3' hn4
        clear hn4
        cases x with
        | true =>
          have hall2 : Hid (∀ j', j' < j + 1 → P j') := fun j' hj' => by
            by_cases h1 : j' = j
            · subst h1; exact hx.1 rfl
            · exact hall.out j' (by omega)
          clear hall hx
          go_wp2
          go_roundw
          case rel => exact ⟨j + 1, by go_num, by omega, hall2.out, hn4'⟩
          case measure => simp [intOf]; omega
        | false =>
          have hr : Hid (¬ RP) := by
            unfold Hid
            rw [hRP.out]
            intro h1
            have := hx.2 (h1.2 j (by rw [hnb.out] at *; exact hlt))
            cases this
          clear hall hx
          go_wp2
          go_ret
          exact ⟨false, rfl, Iff.intro (fun h => nomatch h) (fun h => absurd h hr.out), nw_trans hn1 hn4'⟩
      · have hr : Hid RP := by
          unfold Hid
          rw [hRP.out]
          exact ⟨hall0.out, fun j' hj' => hall.out j' (by first | omega | (rw [hnb.out] at hj'; omega))⟩
        clear hall
        go_wp2
        go_ret
        exact ⟨true, rfl, ⟨fun _ => hr.out, fun _ => rfl⟩, hNw⟩
end Go.Proofs.Ytnljfhjindenpab
