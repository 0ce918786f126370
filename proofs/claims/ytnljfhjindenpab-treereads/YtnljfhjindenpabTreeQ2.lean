/-
  Package tree: joined, from the last node on.
-/
import Derived.Test.YtnljfhjindenpabTreeQ1
namespace Go.Proofs.Ytnljfhjindenpab
set_option linter.unusedVariables false
set_option linter.unusedSimpArgs false
set_option maxRecDepth 20000
open Go.RowKit

def endJ (o : Option (List Br)) : Option Br := match o with
  | some [b] => some b
  | _ => none
theorem joinL_end (nds : List Nv) : joinL nds = endJ (jn nds nds.length []) := rfl

theorem step_form {nd : Nv} {k : Nat} {st : List Br} (h : ¬ Form nd (decide (k = 0))) : stepJ nd k st = none := by unfold stepJ; rw [if_neg (fun h' => h h'.1)]
theorem step_len {nd : Nv} {k : Nat} {st : List Br} (h : ¬ nd.2.2.length ≤ st.length) : stepJ nd k st = none := by unfold stepJ; rw [if_neg (fun h' => h h'.2)]
theorem step_not {nd : Nv} {k : Nat} {st : List Br} (h : ¬ okAll nd.2.2 (st.drop (st.length - nd.2.2.length)) nd.2.2.length) : stepJ nd k st = none := by
  unfold stepJ brOf
  rw [if_neg h]
  simp
theorem step_ok {nd : Nv} {k : Nat} {st : List Br} (h1 : Form nd (decide (k = 0))) (h2 : nd.2.2.length ≤ st.length) (h : okAll nd.2.2 (st.drop (st.length - nd.2.2.length)) nd.2.2.length) :
    stepJ nd k st = some (st.take (st.length - nd.2.2.length) ++ [(k, mkT nd (st.drop (st.length - nd.2.2.length)))]) := by
  unfold stepJ brOf
  rw [if_pos ⟨h1, h2⟩, if_pos h]
  rfl
theorem jn_no {nds : List Nv} {k : Nat} {st : List Br} {nd : Nv} (hk : nds.getD k ([], [], []) = nd) (h : stepJ nd k st = none) : jn nds (k + 1) st = none := by rw [jn, hk, h]; rfl
theorem jn_yes {nds : List Nv} {k : Nat} {st st' : List Br} {nd : Nv} (hk : nds.getD k ([], [], []) = nd) (h : stepJ nd k st = some st') : jn nds (k + 1) st = jn nds k st' := by rw [jn, hk, h]; rfl

theorem height_mk {ks : List Int} {es : List Ext} {is : List Int} {beh : List Br} {M : Nat} (h : ∀ b ∈ beh, b.2.1 ≤ M) : (mkT (ks, es, is) beh).1 ≤ M + 1 := by
  unfold mkT
  split
  · exact Nat.zero_le _
  · show hgt beh + 1 ≤ M + 1
    unfold hgt
    cases beh with
    | nil => simp
    | cons b r => have := h b List.mem_cons_self; simpa using this

theorem BAll.heights {w : World} {M : Nat} : ∀ {xs : List Bx} {bs : List Br}, BAll w xs bs → (∀ x ∈ xs, x.2.1 ≤ M) → ∀ b ∈ bs, b.2.1 ≤ M
  | [], [], _, _ => fun b hb => by simp at hb
  | x :: xs, c :: bs, h, hx => fun b hb => by
    rcases List.mem_cons.1 hb with rfl | hb
    · rw [← h.1.2.1]; exact hx x List.mem_cons_self
    · exact BAll.heights h.2 (fun y hy => hx y (List.mem_cons_of_mem _ hy)) b hb

set_option maxRecDepth 20000 in
set_option maxHeartbeats 6400000 in
theorem c_joined {v : Value} {nds : List Nv} (w : World) (h : Nds w v nds) (hb : nds.length ≤ 1000000) (hkl : ∀ nd ∈ nds, nd.1.length < 9223372036854775807) :
    Calls Try.prog 45 #[v] w fun e w' => Nw w w' ∧ JPost nds e w' := by
  obtain ⟨i0, hj, hj0, hj1, hj2⟩ := info_parts3 Try.infoBr
  obtain ⟨ao, cap, rfl, hc1, hc2⟩ := h.form
  obtain ⟨n, hn⟩ : ∃ n, Hid (nds.length = n) := ⟨_, rfl⟩
  rw [hn.out] at hb hc1 ⊢
  rw [hn.out] at h
  obtain ⟨JN, hJN⟩ : ∃ JN, Hid (JN = jn nds n []) := ⟨_, rfl⟩
  have hdef : Hid (joinL nds = endJ JN) := by unfold Hid; rw [joinL_end, hn.out, ← hJN.out]
  replace h : Hid (Nds w (.slice ao n cap) nds) := h
  replace hkl : Hid (∀ nd ∈ nds, nd.1.length < 9223372036854775807) := hkl
  go_enter Try.func45, Try.ntmps45
  go_wp2
  go_loopw [4, 5] (fun bv kv wr => ∃ (i : Nat) (z : Int) (st : List Br) (xs : List Bx) (ab : Option Addr) (cb m : Nat), i ≤ n ∧ Hid (z = (i : Int) - 1) ∧ kv = .int .i64 z ∧ Hid (xs.length = m) ∧ bv = .slice ab m cb ∧ m ≤ cb ∧ cb ≤ 9223372036854775807 ∧ Hid (BR w wr (.slice ab m cb) st xs) ∧ Hid (JN = jn nds i st) ∧ Hid (∀ x ∈ xs, x.2.1 + i ≤ n) ∧ m + i ≤ n) (fun _ kv _ => (intOf kv + 1).toNat)
  case atStart =>
    exact ⟨n, (n : Int) - 1, [], [], none, 0, 0, Nat.le_refl _, rfl, rfl, rfl, rfl, Nat.le_refl _, Nat.zero_le _, BR.nil w w (nw_refl w), hJN.out, (fun x hx => by simp at hx), by omega⟩
  case round =>
    obtain ⟨i, z, st, xs, ab, cb, m, hi, hz, rfl, hm, rfl, hmc, hcm, hBR, hJ, hH, hxi⟩ := hrel
    have hww : Nw w wr := hBR.out.nw
    cases i with
    | zero =>
      obtain rfl : z = -1 := by have := hz.out; omega
      have hJ' : Hid (JN = some st) := hJ.out
      by_cases hx1 : m = 1
      · subst hx1
        have hBR' := hBR.out
        have hsx := hBR'.all.length
        rw [hm.out] at hsx
        obtain ⟨x, rfl⟩ := List.length_eq_one_iff.1 hm.out
        obtain ⟨bt, rfl⟩ := List.length_eq_one_iff.1 hsx.symm
        have hnx : Hid (NAt wr bt.2.1 bt.2.2 x.2.2) := nx_nat hBR'.all.1.2.2
        have hbs : Bs wr (.slice ab 1 cb) [x] := hs_of_owns hBR'.row
        obtain ⟨qb, qo, rfl, _, _, k2⟩ := hbs.get (i := 0) (by simp)
        simp only [Nat.zero_mul, Nat.add_zero, List.getElem_cons_zero] at k2
        have hans : Hid (joinL nds = some bt) := by unfold Hid; rw [hdef.out, hJ'.out]; rfl
        clear hbs hBR' hBR hJ hJ' hsx hm hH
        go_wp2
        go_ret2
        refine ⟨hww, ?_⟩
        unfold JPost
        rw [hans.out]
        exact ⟨_, rfl, hnx.out⟩
      · have hnone : Hid (joinL nds = none) := by
          unfold Hid
          have hsx := hBR.out.all.length
          rw [hm.out] at hsx
          rw [hdef.out, hJ'.out]
          match st, hsx with
          | [], _ => rfl
          | [b], h => exact absurd h hx1
          | _ :: _ :: _, _ => rfl
        have hb1 : ((m : Int) != 1) = true := by simp; omega
        clear hBR hJ hJ' hm hH
        go_wp2
        go_ret2
        exact ⟨hww, by unfold JPost; rw [hnone.out]; rfl⟩
    | succ k =>
      obtain rfl : z = (k : Int) := by have := hz.out; omega
      have hkn : k < nds.length := by rw [hn.out]; omega
      obtain ⟨nd, hnd⟩ : ∃ nd, Hid (nds[k] = nd) := ⟨nds[k], rfl⟩
      have hget : Hid (nds.getD k ([], [], []) = nd) := by unfold Hid; rw [List.getD_eq_getElem?_getD, List.getElem?_eq_getElem hkn]; exact hnd.out
      obtain ⟨b, off, x, rfl, d0, d1, d2, hct⟩ := (h.out.nw hww).get hkn
      rw [hnd.out] at hct
      have hk63 : nd.1.length < 9223372036854775807 := by rw [← hnd.out]; exact hkl.out _ (List.getElem_mem hkn)
      obtain ⟨ks, es, is⟩ := nd
      obtain ⟨x0, x1, x2⟩ := x
      simp only at d0 d1 d2 hk63
      obtain ⟨a0, c0, rfl, e0, e1⟩ := hct.1.hs.form
      obtain ⟨a1, c1, rfl, e2, e3⟩ := hct.2.1.hs.form
      obtain ⟨a2, c2, rfl, e4, e5⟩ := hct.2.2.hs.form
      obtain ⟨rt, hrt⟩ : ∃ rt : Bool, Hid (decide (k = 0) = rt) := ⟨_, rfl⟩
      have hk0 : ((k : Int) == 0) = rt := by rw [← hrt.out]; by_cases hq : k = 0 <;> simp [hq]
      have hcon : Hid _ := c_shaped (root := rt) wr hct hk63
      unfold nodeV at hcon
      simp only at hcon
      obtain ⟨fr, hfr⟩ : ∃ fr : Bool, Hid (decide (Form (ks, es, is) rt) = fr) := ⟨_, rfl⟩
      rw [hfr.out] at hcon
      replace hct : Hid (Ct (fun _ => True) wr (.slice a0 ks.length c0, .slice a1 es.length c1, .slice a2 is.length c2) (ks, es, is)) := hct
      obtain ⟨q, hq⟩ : ∃ q, Hid (is.length = q) := ⟨_, rfl⟩
      rw [hq.out] at e4 hcon d2
      go_wp2_with (go_at_call 73; refine Calls.mono hcon.out ?_; rintro e w2 ⟨rfl, qn⟩; refine stop_here ?_)
      unfold Hid
      clear hcon hk0
      have hw2 := nw_trans hww qn
      have d0' := qn.cell d0
      have d1' := qn.cell d1
      have d2' := qn.cell d2
      clear d0 d1 d2
      cases fr with
      | false =>
        have hnone : Hid (joinL nds = none) := by
          unfold Hid
          rw [hdef.out, hJ.out, jn_no hget.out (step_form (by rw [hrt.out]; exact of_decide_eq_false hfr.out))]
          rfl
        go_wp2
        go_ret2
        exact ⟨hw2, by unfold JPost; rw [hnone.out]; rfl⟩
      | true =>
        have hF : Hid (Form (ks, es, is) (decide (k = 0))) := by unfold Hid; rw [hrt.out]; exact of_decide_eq_true hfr.out
        by_cases hlen : m < q
        · have hnone : Hid (joinL nds = none) := by
            unfold Hid
            have hsx := hBR.out.all.length
            rw [hm.out] at hsx
            rw [hdef.out, hJ.out, jn_no hget.out (step_len (by show ¬ is.length ≤ st.length; rw [hq.out, ← hsx]; omega))]
            rfl
          have hd1 : decide ((m : Int) < (q : Int)) = true := decide_eq_true (by omega)
          go_wp2
          go_ret2
          exact ⟨hw2, by unfold JPost; rw [hnone.out]; rfl⟩
        · have hd1 : decide ((m : Int) < (q : Int)) = false := decide_eq_false (by omega)
          go_upto_region 8 with fail
          clear hd1
          obtain ⟨r, hr⟩ : ∃ r, r + q = m := ⟨m - q, by omega⟩
          have hrz : ((m : Int) - (q : Int)) = (r : Int) := by omega
          rw [hrz]
          clear hrz
          obtain ⟨asl, csl, hsl⟩ : ∃ a c, Hid (sliced ab r m cb 3 = .slice a q c) := ⟨_, _, by unfold sliced Hid; rw [show m - r = q by omega]⟩
          have kc : ∀ w', (Instr.sliceAt 117 (.slice ab m cb) (some (.int .i64 (r : Int))) none none).run Try.prog w' = .ok (.slice asl q csl) w' := fun w' => by rw [← hsl.out]; exact run_fromB ab m cb r (by omega) w'
          have hBR2 : Hid (BR w w2 (.slice ab m cb) st xs) := hBR.out.stay qn
          have hdr : (xs.drop r).length = is.length := by rw [List.length_drop, hm.out, hq.out]; omega
          have hball : BAll w2 (xs.drop r) (st.drop r) := hBR2.out.all.drop r
          have hct2 : Ct (fun _ => True) w2 (.slice a0 ks.length c0, .slice a1 es.length c1, .slice a2 is.length c2) (ks, es, is) := hct.out.nw qn
          have hbs2 : Bs w2 (.slice asl q csl) (xs.drop r) := by
            have hrow : Bs w2 (.slice ab xs.length cb) xs := by rw [hm.out]; have := hs_of_owns hBR2.out.row; exact this
            rw [hm.out] at hrow
            have := Bs.cut hrow r xs.length (by rw [hm.out]; omega) (Nat.le_refl _)
            rw [hm.out, hsl.out, List.take_of_length_le (by rw [List.length_drop, hm.out]; omega)] at this
            exact this
          obtain ⟨f1, f2, f3, f4⟩ := hF.out
          simp only at f1 f2 f3 f4
          have hheights : ∀ x ∈ xs.drop r, x.2.1 ≤ 1000000 := fun x hx => by have := hH.out x (List.mem_of_mem_drop hx); omega
          have hcall : Hid (∀ w', Nw w2 w' → Calls Try.prog 74 #[.int .i64 (k : Int), .agg #[.slice a0 ks.length c0, .slice a1 es.length c1, .slice a2 q c2], .slice asl q csl] w' fun e w3 => Nw w' w3 ∧ BrPost k ks es is (xs.drop r) e w3) := fun w' hw => by
            have := c_branchOf (num := k) w' (hct2.nw hw) (show Bs w' (.slice asl q csl) (xs.drop r) from Hs.nw hbs2 hw) hdr (by omega) (by omega) (by omega) hheights (by omega)
            unfold nodeV at this
            simp only at this
            rw [hq.out] at this
            exact this
          have hiff := okAll_iff hball hdr
          have hstl : st.length = m := by rw [← hBR2.out.all.length, hm.out]
          have hstr : st.length - is.length = r := by rw [hstl, hq.out]; omega
          clear f1 f2 f3 f4 hct2 hbs2 hball
          have hS0 : ∀ w', Nw w2 w' → (fun w' : World => Nw w2 w' ∧ w'.cell? ⟨b, off + k * 3, none⟩ = some (.slice a0 ks.length c0) ∧ w'.cell? ⟨b, off + k * 3 + 1, none⟩ = some (.slice a1 es.length c1) ∧ w'.cell? ⟨b, off + k * 3 + 2, none⟩ = some (.slice a2 q c2)) w' := fun w' hw => ⟨hw, hw.cell d0', hw.cell d1', hw.cell d2'⟩
          have hS := hS0 _ (Fr.drew (Fr.refl _ w2))
          replace hS0 : Hid _ := hS0
          have hn0 : Nw w2 w2.drew := Fr.drew (Fr.refl _ w2)
          clear d0' d1' d2' hsl hdr
          by_cases hok : ∀ j, j < is.length → okX is (xs.drop r) j
          · replace hok : Hid _ := hok
            have hdr0 : Hid ((xs.drop r).length = is.length) := by unfold Hid; rw [List.length_drop, hm.out, hq.out]; omega
            obtain ⟨H, hh⟩ : ∃ H, Hid (hX (xs.drop r) is.length = H) := ⟨_, rfl⟩
            have hJ2 : Hid (JN = jn nds k (st.take r ++ [(k, mkT (ks, es, is) (st.drop r))])) := by
              unfold Hid
              have h1 := step_ok (k := k) (st := st) hF.out (by show is.length ≤ st.length; rw [hstl, hq.out]; omega) (by show okAll is (st.drop (st.length - is.length)) is.length; rw [hstr]; exact hiff.2 hok.out)
              rw [hJ.out, jn_yes hget.out h1]
              show _ = _
              rw [show st.length - ((ks, es, is) : Nv).2.2.length = r from hstr]
            clear hstr hstl
            refine wp_region_fork [] 14 1 ([(0, true), (1, true), (2, true), (3, true), (4, true), (5, true), (6, true), (7, true)], [(8, [(9, true), (10, true), (11, true), (12, false), (13, false)]), (12, [(8, false), (9, true), (10, true), (11, true), (13, false)])]) (fun w' : World => Nw w2 w' ∧ w'.cell? ⟨b, off + k * 3, none⟩ = some (.slice a0 ks.length c0) ∧ w'.cell? ⟨b, off + k * 3 + 1, none⟩ = some (.slice a1 es.length c1) ∧ w'.cell? ⟨b, off + k * 3 + 2, none⟩ = some (.slice a2 q c2)) _ (by kernel_rfl) (by kernel_rfl) ?_ (fun _ _ h => h)
            refine fork_in2 (d := 0) ?_
            refine ord_quietL _ ?_ rfl hS rfl ?_ ?_
            rotate_left
            · rintro w' ⟨hn, h0, h1, h2⟩; go_simp; first | rfl | (rw [if_pos (by omega)]; done) | (rw [if_pos (by omega)]; rfl) | (rw [if_pos (by omega)]; go_simp; rfl)
            simp only [Act.put, List.setIfInBounds_toArray, List.set_cons_zero, List.set_cons_succ]
            refine ord_quietL _ ?_ rfl hS rfl ?_ ?_
            rotate_left
            · rintro w' ⟨hn, h0, h1, h2⟩; go_simp; first | rfl | (rw [if_pos (by omega)]; done) | (rw [if_pos (by omega)]; rfl) | (rw [if_pos (by omega)]; go_simp; rfl)
            simp only [Act.put, List.setIfInBounds_toArray, List.set_cons_zero, List.set_cons_succ]
            refine ord_quietL _ ?_ rfl hS rfl ?_ ?_
            rotate_left
            · rintro w' ⟨hn, h0, h1, h2⟩; go_simp; first | rfl | (rw [if_pos (by omega)]; done) | (rw [if_pos (by omega)]; rfl) | (rw [if_pos (by omega)]; go_simp; rfl)
            simp only [Act.put, List.setIfInBounds_toArray, List.set_cons_zero, List.set_cons_succ]
            refine ord_quietL _ ?_ rfl hS rfl ?_ ?_
            rotate_left
            · rintro w' ⟨hn, h0, h1, h2⟩; go_simp; first | rfl | (rw [if_pos (by omega)]; done) | (rw [if_pos (by omega)]; rfl) | (rw [if_pos (by omega)]; go_simp; rfl)
            simp only [Act.put, List.setIfInBounds_toArray, List.set_cons_zero, List.set_cons_succ]
            refine ord_quietL _ ?_ rfl hS rfl ?_ ?_
            rotate_left
            · rintro w' ⟨hn, h0, h1, h2⟩; go_simp; first | rfl | (rw [if_pos (by omega)]; done) | (rw [if_pos (by omega)]; rfl) | (rw [if_pos (by omega)]; go_simp; rfl)
            simp only [Act.put, List.setIfInBounds_toArray, List.set_cons_zero, List.set_cons_succ]
            refine ord_quietL _ ?_ rfl hS rfl ?_ ?_
            rotate_left
            · rintro w' ⟨hn, h0, h1, h2⟩; go_simp; first | rfl | (rw [if_pos (by omega)]; done) | (rw [if_pos (by omega)]; rfl) | (rw [if_pos (by omega)]; go_simp; rfl)
            simp only [Act.put, List.setIfInBounds_toArray, List.set_cons_zero, List.set_cons_succ]
            refine ord_quietL _ ?_ rfl hS rfl ?_ ?_
            rotate_left
            · rintro w' ⟨hn, h0, h1, h2⟩; go_simp; first | rfl | (rw [if_pos (by omega)]; done) | (rw [if_pos (by omega)]; rfl) | (rw [if_pos (by omega)]; go_simp; rfl)
            simp only [Act.put, List.setIfInBounds_toArray, List.set_cons_zero, List.set_cons_succ]
            refine ord_quietL _ ?_ rfl hS rfl ?_ ?_
            rotate_left
            · rintro w' ⟨hn, h0, h1, h2⟩; go_simp; first | rfl | (rw [if_pos (by omega)]; done) | (rw [if_pos (by omega)]; rfl) | (rw [if_pos (by omega)]; go_simp; rfl)
            simp only [Act.put, List.setIfInBounds_toArray, List.set_cons_zero, List.set_cons_succ]
            refine fork_two _ _ rfl rfl ?w1 ?w2
            case w1 =>
              intro K1 hK1
              have hcon : Hid _ := hcall.out w2.drew hn0
              go_wp2_with (go_at_call 74; refine Calls.mono hcon.out ?_; rintro e w3 ⟨qn8, hbp⟩; obtain ⟨g, kv, vv, sv, rfl, g1, g2, g3, g4⟩ := hbp.1 hok.out; refine stop_here ?_)
              unfold Hid
              have hnx : Hid (NX w3 (mkT (ks, es, is) (st.drop r)).1 (mkT (ks, es, is) (st.drop r)).2 g ∧ (((mkT (ks, es, is) (st.drop r)).1 : Nat) : Int) = hX (xs.drop r) is.length) := nx_mk hF.out ((hBR2.out.all.drop r).stay (fun b _ hlt => (nw_trans hn0 qn8).block b hlt id)) hdr0.out (hiff.2 hok.out) g1 g2 g3 g4
              rw [hh.out] at hnx ⊢
              have m3 := nw_trans hn0 qn8
              clear hbp hcon g1 g2 g3 g4
              go_wp2
              refine hK1 _ _ (hS0.out _ m3) ?_
              clear hK1 K1
              refine fork_leaf ?_
              have hS := hS0.out _ m3
              refine ord_quietL _ ?_ rfl hS rfl ?_ ?_
              rotate_left
              · rintro w' ⟨hn, h0, h1, h2⟩; go_simp; first | rfl | (rw [if_pos (by omega)]; done) | (rw [if_pos (by omega)]; rfl) | (rw [if_pos (by omega)]; go_simp; rfl)
              simp only [Act.put, List.setIfInBounds_toArray, List.set_cons_zero, List.set_cons_succ]
              refine ord_quietL _ ?_ rfl hS rfl ?_ ?_
              rotate_left
              · rintro w' ⟨hn, h0, h1, h2⟩; go_simp; first | rfl | (rw [if_pos (by omega)]; done) | (rw [if_pos (by omega)]; rfl) | (rw [if_pos (by omega)]; go_simp; rfl)
              simp only [Act.put, List.setIfInBounds_toArray, List.set_cons_zero, List.set_cons_succ]
              refine ord_quietL _ ?_ rfl hS rfl ?_ ?_
              rotate_left
              · rintro w' ⟨hn, h0, h1, h2⟩; go_simp; first | rfl | (rw [if_pos (by omega)]; done) | (rw [if_pos (by omega)]; rfl) | (rw [if_pos (by omega)]; go_simp; rfl)
              simp only [Act.put, List.setIfInBounds_toArray, List.set_cons_zero, List.set_cons_succ]
              refine ord_actL _ rfl (fun K1 hK1 => ?_)
              have hbk : (w3.alloc (.cells #[.int .i64 0, .int .i64 0, .pointer none] 119)).heap[w3.heap.size]? = some (.cells #[.int .i64 0, .int .i64 0, .pointer none] 119 (0, 0)) := heap_alloc_new w3 _
              have m5 : Nw w2 (w3.alloc (.cells #[.int .i64 0, .int .i64 0, .pointer none] 119)) := nw_alloc m3 _
              have hnx5 : Hid (NX (w3.alloc (.cells #[.int .i64 0, .int .i64 0, .pointer none] 119)) (mkT (ks, es, is) (st.drop r)).1 (mkT (ks, es, is) (st.drop r)).2 g ∧ (((mkT (ks, es, is) (st.drop r)).1 : Nat) : Int) = H) := ⟨hnx.out.1.stay (fun b _ hlt => (nw_alloc (nw_refl w3) _).block b hlt id), hnx.out.2⟩
              go_wp2
              generalize hw5 : w3.alloc (.cells #[.int .i64 0, .int .i64 0, .pointer none] 119) = w5 at *
              generalize hgb : w3.heap.size = gb at *
              have hgl : w2.heap.size ≤ gb := by rw [← hgb]; exact m3.size
              replace hgb : Hid _ := hgb
              clear hw5
              refine hK1 _ _ (hS0.out _ m5) ?_
              clear hK1 K1
              refine ord_actL _ rfl (fun K1 hK1 => ?_)
              obtain ⟨w6, hw6⟩ : ∃ w6, Hid (w6 = (((w5.setCell ⟨gb, 0, none⟩ (.int .i64 (k : Int))).setCell ⟨gb, 1, none⟩ (.int .i64 H)).setCell ⟨gb, 2, none⟩ (.pointer (some ⟨g, 0, none⟩)))) := ⟨_, rfl⟩
              have hbk6 : w6.heap[gb]? = some (.cells #[.int .i64 (k : Int), .int .i64 H, .pointer (some ⟨g, 0, none⟩)] 119 (0, 0)) := by rw [hw6.out, blk_setCell (blk_setCell (blk_setCell hbk))]; rfl
              have hf6 : Fr (fun q => q = gb) w5 w6 := by rw [hw6.out]; exact (((Fr.refl (fun q => q = gb) w5).setCell (p := ⟨gb, 0, none⟩) (.inl rfl) _).setCell (p := ⟨gb, 1, none⟩) (.inl rfl) _).setCell (p := ⟨gb, 2, none⟩) (.inl rfl) _
              have m6 : Nw w2 w6 := Fr.trans m5 hf6 (fun q hq => .inr (by omega))
              have z0 : w5.cell? ⟨gb, 0, none⟩ = some (.int .i64 0) := cell_blk hbk rfl
              have z1 : w5.cell? ⟨gb, 1, none⟩ = some (.int .i64 0) := cell_blk hbk rfl
              have z2 : w5.cell? ⟨gb, 2, none⟩ = some (.pointer none) := cell_blk hbk rfl
              have zf : ∀ q, w5.frozen? ⟨gb, q, none⟩ = false := fun q => free_blk hbk
              have hnx6 : Hid (NX w6 (mkT (ks, es, is) (st.drop r)).1 (mkT (ks, es, is) (st.drop r)).2 g ∧ (((mkT (ks, es, is) (st.drop r)).1 : Nat) : Int) = H) := ⟨hnx5.out.1.stay (fun q hq hlt => hf6.block q hlt (fun e => by subst e; exact hq _ _ hbk)), hnx5.out.2⟩
              go_wp2
              rw [← hw6.out]
              refine hK1 _ _ (hS0.out _ m6) ?_
              clear hK1 K1 z0 z1 z2 zf hbk hf6 hw6
              refine ord_tail ?_
              simp only [List.drop_succ_cons, List.drop_zero]
              have hw6 := nw_trans hw2 m6
              have hBR6 : Hid (BR w w6 (.slice ab m cb) st xs) := hBR2.out.stay m6
              have y0 : w6.cell? ⟨gb, 0, none⟩ = some (.int .i64 (k : Int)) := cell_blk hbk6 rfl
              have y1 : w6.cell? ⟨gb, 1, none⟩ = some (.int .i64 H) := cell_blk hbk6 rfl
              have y2 : w6.cell? ⟨gb, 2, none⟩ = some (.pointer (some ⟨g, 0, none⟩)) := cell_blk hbk6 rfl
              go_upto_region 11 with fail
              have kd : ∀ w', (Instr.sliceAt 117 (.slice ab m cb) none (some (.int .i64 (r : Int))) none).run Try.prog w' = .ok (.slice ab r cb) w' := fun w' => run_uptoB ab m cb r (by omega) w'
              have hS : (fun w' : World => w'.cell? ⟨gb, 0, none⟩ = some (.int .i64 (k : Int)) ∧ w'.cell? ⟨gb, 1, none⟩ = some (.int .i64 H) ∧ w'.cell? ⟨gb, 2, none⟩ = some (.pointer (some ⟨g, 0, none⟩))) w6.drew := ⟨y0, y1, y2⟩
              refine wp_region_ord [] 6 [(0, true), (1, true), (3, true), (2, true), (4, false), (5, false)] (fun w' : World => w'.cell? ⟨gb, 0, none⟩ = some (.int .i64 (k : Int)) ∧ w'.cell? ⟨gb, 1, none⟩ = some (.int .i64 H) ∧ w'.cell? ⟨gb, 2, none⟩ = some (.pointer (some ⟨g, 0, none⟩))) (by kernel_rfl) (by kernel_rfl) ?_
              refine ord_quietL _ ?_ rfl hS rfl ?_ ?_
              rotate_left
              · rintro w' ⟨h0, h1, h2⟩; go_simp; first | rfl | (rw [if_pos (by omega)]; done) | (rw [if_pos (by omega)]; rfl) | (rw [if_pos (by omega)]; go_simp; rfl)
              simp only [Act.put, List.setIfInBounds_toArray, List.set_cons_zero, List.set_cons_succ]
              refine ord_quietL _ ?_ rfl hS rfl ?_ ?_
              rotate_left
              · rintro w' ⟨h0, h1, h2⟩; go_simp; first | rfl | (rw [if_pos (by omega)]; done) | (rw [if_pos (by omega)]; rfl) | (rw [if_pos (by omega)]; go_simp; rfl)
              simp only [Act.put, List.setIfInBounds_toArray, List.set_cons_zero, List.set_cons_succ]
              refine ord_quietL _ ?_ rfl hS rfl ?_ ?_
              rotate_left
              · rintro w' ⟨h0, h1, h2⟩; go_simp; first | rfl | (rw [if_pos (by omega)]; done) | (rw [if_pos (by omega)]; rfl) | (rw [if_pos (by omega)]; go_simp; rfl)
              simp only [Act.put, List.setIfInBounds_toArray, List.set_cons_zero, List.set_cons_succ]
              refine ord_quietL _ ?_ rfl hS rfl ?_ ?_
              rotate_left
              · rintro w' ⟨h0, h1, h2⟩; go_simp; first | rfl | (rw [if_pos (by omega)]; done) | (rw [if_pos (by omega)]; rfl) | (rw [if_pos (by omega)]; go_simp; rfl)
              simp only [Act.put, List.setIfInBounds_toArray, List.set_cons_zero, List.set_cons_succ]
              have nA : Nw w6 ((w6.alloc (.cells #[.int .i64 (k : Int), .int .i64 H, .pointer (some ⟨g, 0, none⟩)] 119)).drew) := Fr.drew (nw_alloc (nw_refl w6) _)
              have hn6 : Nw w6 w6.drew := Fr.drew (Fr.refl _ w6)
              have hsl : Sl (w6.heap.size + 1) ((w6.alloc (.cells #[.int .i64 (k : Int), .int .i64 H, .pointer (some ⟨g, 0, none⟩)] 119)).drew) (.slice (some ⟨w6.heap.size, 0, none⟩) 1 1) 1 [.int .i64 (k : Int), .int .i64 H, .pointer (some ⟨g, 0, none⟩)] := sl_lit w6 #[.int .i64 (k : Int), .int .i64 H, .pointer (some ⟨g, 0, none⟩)] 119 1 (by omega)
              have hkl3 : ([.int .i64 (k : Int), .int .i64 H, .pointer (some ⟨g, 0, none⟩)] : List Value).length = 1 * 3 := rfl
              have hone3 : ∀ u ∈ ([.int .i64 (k : Int), .int .i64 H, .pointer (some ⟨g, 0, none⟩)] : List Value), u.oneCell' = true := by
                intro u hu
                simp only [List.mem_cons, List.not_mem_nil, or_false] at hu
                rcases hu with rfl | rfl | rfl <;> rfl
              have hrow0 : w6.ownsRow w.heap.size 119 3 (.slice ab m cb) xs.length (brcells xs) := hBR6.out.row
              rw [hm.out] at hrow0
              have hrow1 := (owns_prefix (r := r) hrow0 (by omega)).alloc (.cells #[.int .i64 (k : Int), .int .i64 H, .pointer (some ⟨g, 0, none⟩)] 119)
              rw [brcells_take] at hrow1
              have hrow : ((w6.alloc (.cells #[.int .i64 (k : Int), .int .i64 H, .pointer (some ⟨g, 0, none⟩)] 119)).drew).ownsRow w.heap.size 119 3 (.slice ab r cb) r (brcells (xs.take r)) := hrow1
              clear hrow1
              refine ord_actL _ rfl (fun K1 hK1 => ?_)
              go_wp2
              refine hK1 _ _ ⟨nA.cell y0, nA.cell y1, nA.cell y2⟩ ?_
              clear hK1 K1
              refine ord_actL _ rfl (fun K1 hK1 => ?_)
              go_wp2_with (at_builtin; refine wpList_append_sl _ rfl _ _ 117 rfl w.heap.size 119 i0 _ 3 24 Try.underlying117 hj hj0 hj1 hj2 rfl (by decide) _ _ _ rfl hrow _ _ _ _ rfl hsl hkl3 hone3 ?d2 ?d3 ?d4 ?_)
              case d2 => unfold maxLen; omega
              case d3 => omega
              case d4 => exact (nw_trans hw6 nA).size
              intro v9 w9 hown9 hgrow9 hat9
              obtain ⟨Hn, hHn⟩ : ∃ Hn : Nat, Hid (Hn = (mkT (ks, es, is) (st.drop r)).1) := ⟨_, rfl⟩
              have hHH : H = (Hn : Int) := by rw [hHn.out]; exact hnx6.out.2.symm
              have hput := BR.put (x := (k, Hn, g)) (b := (k, mkT (ks, es, is) (st.drop r))) (xs := xs) (ao := ab) (cap := cb) (st := st) (W := w) (w := w6.drew) (by rw [hm.out]; exact hBR6.out.stay hn6) (r := r) (by rw [hm.out]; omega) ⟨rfl, hHn.out, hnx6.out.1.stay (fun q _ hlt => hn6.block q hlt id)⟩ hgrow9 (by simpa [brcell, pcell, hHH] using hown9)
              obtain ⟨a9, c9, rfl⟩ := owns_form hown9
              have hst9 : Nw w w9 := hput.nw
              have hcap9 : r + 1 ≤ c9 ∧ c9 ≤ 9223372036854775807 := by obtain ⟨_, _, hv, h1, h2⟩ := (hs_of_owns hown9).form; injection hv with _ _ hc; subst hc; exact ⟨h1, h2⟩
              have hne9 : Value.ownBlock (.slice ab r cb) ≠ some gb := fun e => by
                have hr2 := hBR2.out.row
                rw [hm.out] at hr2
                have := (owns_prefix (r := r) hr2 (by omega)).lt gb e
                omega
              have hb9 : w9.heap[gb]? = some (.cells #[.int .i64 (k : Int), .int .i64 H, .pointer (some ⟨g, 0, none⟩)] 119 (0, 0)) := (hgrow9.block gb (Nat.lt_of_lt_of_le (heap_lt hbk6) nA.size) (fun e => hne9 e.symm)).trans ((nA.block gb (heap_lt hbk6) (fun h => h)).trans hbk6)
              have hH9 : Hid (∀ x ∈ xs.take r ++ [(k, Hn, g)], x.2.1 + k ≤ n) := fun x hx => by
                rcases List.mem_append.1 hx with hx | hx
                · have := hH.out x (List.mem_of_mem_take hx); omega
                · have hx' : x = (k, Hn, g) := by simpa using hx
                  have h9 := height_mk (ks := ks) (es := es) (is := is) (M := n - (k + 1)) ((hBR2.out.all.drop r).heights (fun y hy => by have := hH.out y (List.mem_of_mem_drop hy); omega))
                  rw [← hHn.out] at h9
                  rw [hx']
                  show Hn + k ≤ n
                  omega
              have hm9 : Hid ((xs.take r ++ [(k, Hn, g)]).length = r + 1) := by unfold Hid; rw [List.length_append, List.length_take, hm.out, List.length_singleton]; omega
              replace hput : Hid _ := hput
              go_wp2
              refine hK1 _ _ ⟨cell_blk hb9 rfl, cell_blk hb9 rfl, cell_blk hb9 rfl⟩ ?_
              clear hK1 K1 hS hrow hrow0 hsl hgrow9 hat9 hown9 nA hb9 hne9 hbk6
              refine ord_tail ?_
              simp only [List.drop_succ_cons, List.drop_zero]
              go_wp2
              go_roundw
              case rel => exact ⟨k, (k : Int) - 1, _, _, a9, c9, r + 1, by omega, rfl, by go_num, hm9.out, rfl, hcap9.1, hcap9.2, hput.out, hJ2.out, hH9.out, by omega⟩
              case measure => simp [intOf]
            case w2 =>
              intro K1 hK1
              have hbk : ((w2.alloc (.cells #[.int .i64 0, .int .i64 0, .pointer none] 119)).drew).heap[w2.heap.size]? = some (.cells #[.int .i64 0, .int .i64 0, .pointer none] 119 (0, 0)) := heap_alloc_new w2 _
              have m3 : Nw w2 ((w2.alloc (.cells #[.int .i64 0, .int .i64 0, .pointer none] 119)).drew) := Fr.drew (nw_alloc (nw_refl w2) _)
              go_wp2
              generalize hw3 : (w2.alloc (.cells #[.int .i64 0, .int .i64 0, .pointer none] 119)).drew = w3 at *
              generalize hgb : w2.heap.size = gb at *
              have hgl : w2.heap.size ≤ gb := by rw [hgb]; exact Nat.le_refl _
              replace hgb : Hid _ := hgb
              clear hw3
              refine hK1 _ _ (hS0.out _ m3) ?_
              clear hK1 K1
              refine fork_leaf ?_
              refine ord_actL _ rfl (fun K1 hK1 => ?_)
              have hcon : Hid _ := hcall.out w3 m3
              go_wp2_with (go_at_call 74; refine Calls.mono hcon.out ?_; rintro e w4 ⟨qn8, hbp⟩; obtain ⟨g, kv, vv, sv, rfl, g1, g2, g3, g4⟩ := hbp.1 hok.out; refine stop_here ?_)
              unfold Hid
              have hnx : Hid (NX w4 (mkT (ks, es, is) (st.drop r)).1 (mkT (ks, es, is) (st.drop r)).2 g ∧ (((mkT (ks, es, is) (st.drop r)).1 : Nat) : Int) = hX (xs.drop r) is.length) := nx_mk hF.out ((hBR2.out.all.drop r).stay (fun b _ hlt => (nw_trans m3 qn8).block b hlt id)) hdr0.out (hiff.2 hok.out) g1 g2 g3 g4
              rw [hh.out] at hnx ⊢
              have m4 := nw_trans m3 qn8
              clear hbp hcon g1 g2 g3 g4
              replace hbk := (qn8.block _ (heap_lt hbk) (fun h => h)).trans hbk
              go_wp2
              refine hK1 _ _ (hS0.out _ m4) ?_
              clear hK1 K1
              have hS := hS0.out _ m4
              refine ord_quietL _ ?_ rfl hS rfl ?_ ?_
              rotate_left
              · rintro w' ⟨hn, h0, h1, h2⟩; go_simp; first | rfl | (rw [if_pos (by omega)]; done) | (rw [if_pos (by omega)]; rfl) | (rw [if_pos (by omega)]; go_simp; rfl)
              simp only [Act.put, List.setIfInBounds_toArray, List.set_cons_zero, List.set_cons_succ]
              refine ord_quietL _ ?_ rfl hS rfl ?_ ?_
              rotate_left
              · rintro w' ⟨hn, h0, h1, h2⟩; go_simp; first | rfl | (rw [if_pos (by omega)]; done) | (rw [if_pos (by omega)]; rfl) | (rw [if_pos (by omega)]; go_simp; rfl)
              simp only [Act.put, List.setIfInBounds_toArray, List.set_cons_zero, List.set_cons_succ]
              refine ord_quietL _ ?_ rfl hS rfl ?_ ?_
              rotate_left
              · rintro w' ⟨hn, h0, h1, h2⟩; go_simp; first | rfl | (rw [if_pos (by omega)]; done) | (rw [if_pos (by omega)]; rfl) | (rw [if_pos (by omega)]; go_simp; rfl)
              simp only [Act.put, List.setIfInBounds_toArray, List.set_cons_zero, List.set_cons_succ]
              have m5 := m4
              have hnx5 := hnx
              obtain ⟨w5, rfl⟩ : ∃ w5, w5 = w4 := ⟨_, rfl⟩
              refine ord_actL _ rfl (fun K1 hK1 => ?_)
              obtain ⟨w6, hw6⟩ : ∃ w6, Hid (w6 = (((w5.setCell ⟨gb, 0, none⟩ (.int .i64 (k : Int))).setCell ⟨gb, 1, none⟩ (.int .i64 H)).setCell ⟨gb, 2, none⟩ (.pointer (some ⟨g, 0, none⟩)))) := ⟨_, rfl⟩
              have hbk6 : w6.heap[gb]? = some (.cells #[.int .i64 (k : Int), .int .i64 H, .pointer (some ⟨g, 0, none⟩)] 119 (0, 0)) := by rw [hw6.out, blk_setCell (blk_setCell (blk_setCell hbk))]; rfl
              have hf6 : Fr (fun q => q = gb) w5 w6 := by rw [hw6.out]; exact (((Fr.refl (fun q => q = gb) w5).setCell (p := ⟨gb, 0, none⟩) (.inl rfl) _).setCell (p := ⟨gb, 1, none⟩) (.inl rfl) _).setCell (p := ⟨gb, 2, none⟩) (.inl rfl) _
              have m6 : Nw w2 w6 := Fr.trans m5 hf6 (fun q hq => .inr (by omega))
              have z0 : w5.cell? ⟨gb, 0, none⟩ = some (.int .i64 0) := cell_blk hbk rfl
              have z1 : w5.cell? ⟨gb, 1, none⟩ = some (.int .i64 0) := cell_blk hbk rfl
              have z2 : w5.cell? ⟨gb, 2, none⟩ = some (.pointer none) := cell_blk hbk rfl
              have zf : ∀ q, w5.frozen? ⟨gb, q, none⟩ = false := fun q => free_blk hbk
              have hnx6 : Hid (NX w6 (mkT (ks, es, is) (st.drop r)).1 (mkT (ks, es, is) (st.drop r)).2 g ∧ (((mkT (ks, es, is) (st.drop r)).1 : Nat) : Int) = H) := ⟨hnx5.out.1.stay (fun q hq hlt => hf6.block q hlt (fun e => by subst e; exact hq _ _ hbk)), hnx5.out.2⟩
              go_wp2
              rw [← hw6.out]
              refine hK1 _ _ (hS0.out _ m6) ?_
              clear hK1 K1 z0 z1 z2 zf hbk hf6 hw6
              refine ord_tail ?_
              simp only [List.drop_succ_cons, List.drop_zero]
              have hw6 := nw_trans hw2 m6
              have hBR6 : Hid (BR w w6 (.slice ab m cb) st xs) := hBR2.out.stay m6
              have y0 : w6.cell? ⟨gb, 0, none⟩ = some (.int .i64 (k : Int)) := cell_blk hbk6 rfl
              have y1 : w6.cell? ⟨gb, 1, none⟩ = some (.int .i64 H) := cell_blk hbk6 rfl
              have y2 : w6.cell? ⟨gb, 2, none⟩ = some (.pointer (some ⟨g, 0, none⟩)) := cell_blk hbk6 rfl
              go_upto_region 11 with fail
              have kd : ∀ w', (Instr.sliceAt 117 (.slice ab m cb) none (some (.int .i64 (r : Int))) none).run Try.prog w' = .ok (.slice ab r cb) w' := fun w' => run_uptoB ab m cb r (by omega) w'
              have hS : (fun w' : World => w'.cell? ⟨gb, 0, none⟩ = some (.int .i64 (k : Int)) ∧ w'.cell? ⟨gb, 1, none⟩ = some (.int .i64 H) ∧ w'.cell? ⟨gb, 2, none⟩ = some (.pointer (some ⟨g, 0, none⟩))) w6.drew := ⟨y0, y1, y2⟩
              refine wp_region_ord [] 6 [(0, true), (1, true), (3, true), (2, true), (4, false), (5, false)] (fun w' : World => w'.cell? ⟨gb, 0, none⟩ = some (.int .i64 (k : Int)) ∧ w'.cell? ⟨gb, 1, none⟩ = some (.int .i64 H) ∧ w'.cell? ⟨gb, 2, none⟩ = some (.pointer (some ⟨g, 0, none⟩))) (by kernel_rfl) (by kernel_rfl) ?_
              refine ord_quietL _ ?_ rfl hS rfl ?_ ?_
              rotate_left
              · rintro w' ⟨h0, h1, h2⟩; go_simp; first | rfl | (rw [if_pos (by omega)]; done) | (rw [if_pos (by omega)]; rfl) | (rw [if_pos (by omega)]; go_simp; rfl)
              simp only [Act.put, List.setIfInBounds_toArray, List.set_cons_zero, List.set_cons_succ]
              refine ord_quietL _ ?_ rfl hS rfl ?_ ?_
              rotate_left
              · rintro w' ⟨h0, h1, h2⟩; go_simp; first | rfl | (rw [if_pos (by omega)]; done) | (rw [if_pos (by omega)]; rfl) | (rw [if_pos (by omega)]; go_simp; rfl)
              simp only [Act.put, List.setIfInBounds_toArray, List.set_cons_zero, List.set_cons_succ]
              refine ord_quietL _ ?_ rfl hS rfl ?_ ?_
              rotate_left
              · rintro w' ⟨h0, h1, h2⟩; go_simp; first | rfl | (rw [if_pos (by omega)]; done) | (rw [if_pos (by omega)]; rfl) | (rw [if_pos (by omega)]; go_simp; rfl)
              simp only [Act.put, List.setIfInBounds_toArray, List.set_cons_zero, List.set_cons_succ]
              refine ord_quietL _ ?_ rfl hS rfl ?_ ?_
              rotate_left
              · rintro w' ⟨h0, h1, h2⟩; go_simp; first | rfl | (rw [if_pos (by omega)]; done) | (rw [if_pos (by omega)]; rfl) | (rw [if_pos (by omega)]; go_simp; rfl)
              simp only [Act.put, List.setIfInBounds_toArray, List.set_cons_zero, List.set_cons_succ]
              have nA : Nw w6 ((w6.alloc (.cells #[.int .i64 (k : Int), .int .i64 H, .pointer (some ⟨g, 0, none⟩)] 119)).drew) := Fr.drew (nw_alloc (nw_refl w6) _)
              have hn6 : Nw w6 w6.drew := Fr.drew (Fr.refl _ w6)
              have hsl : Sl (w6.heap.size + 1) ((w6.alloc (.cells #[.int .i64 (k : Int), .int .i64 H, .pointer (some ⟨g, 0, none⟩)] 119)).drew) (.slice (some ⟨w6.heap.size, 0, none⟩) 1 1) 1 [.int .i64 (k : Int), .int .i64 H, .pointer (some ⟨g, 0, none⟩)] := sl_lit w6 #[.int .i64 (k : Int), .int .i64 H, .pointer (some ⟨g, 0, none⟩)] 119 1 (by omega)
              have hkl3 : ([.int .i64 (k : Int), .int .i64 H, .pointer (some ⟨g, 0, none⟩)] : List Value).length = 1 * 3 := rfl
              have hone3 : ∀ u ∈ ([.int .i64 (k : Int), .int .i64 H, .pointer (some ⟨g, 0, none⟩)] : List Value), u.oneCell' = true := by
                intro u hu
                simp only [List.mem_cons, List.not_mem_nil, or_false] at hu
                rcases hu with rfl | rfl | rfl <;> rfl
              have hrow0 : w6.ownsRow w.heap.size 119 3 (.slice ab m cb) xs.length (brcells xs) := hBR6.out.row
              rw [hm.out] at hrow0
              have hrow1 := (owns_prefix (r := r) hrow0 (by omega)).alloc (.cells #[.int .i64 (k : Int), .int .i64 H, .pointer (some ⟨g, 0, none⟩)] 119)
              rw [brcells_take] at hrow1
              have hrow : ((w6.alloc (.cells #[.int .i64 (k : Int), .int .i64 H, .pointer (some ⟨g, 0, none⟩)] 119)).drew).ownsRow w.heap.size 119 3 (.slice ab r cb) r (brcells (xs.take r)) := hrow1
              clear hrow1
              refine ord_actL _ rfl (fun K1 hK1 => ?_)
              go_wp2
              refine hK1 _ _ ⟨nA.cell y0, nA.cell y1, nA.cell y2⟩ ?_
              clear hK1 K1
              refine ord_actL _ rfl (fun K1 hK1 => ?_)
              go_wp2_with (at_builtin; refine wpList_append_sl _ rfl _ _ 117 rfl w.heap.size 119 i0 _ 3 24 Try.underlying117 hj hj0 hj1 hj2 rfl (by decide) _ _ _ rfl hrow _ _ _ _ rfl hsl hkl3 hone3 ?d2 ?d3 ?d4 ?_)
              case d2 => unfold maxLen; omega
              case d3 => omega
              case d4 => exact (nw_trans hw6 nA).size
              intro v9 w9 hown9 hgrow9 hat9
              obtain ⟨Hn, hHn⟩ : ∃ Hn : Nat, Hid (Hn = (mkT (ks, es, is) (st.drop r)).1) := ⟨_, rfl⟩
              have hHH : H = (Hn : Int) := by rw [hHn.out]; exact hnx6.out.2.symm
              have hput := BR.put (x := (k, Hn, g)) (b := (k, mkT (ks, es, is) (st.drop r))) (xs := xs) (ao := ab) (cap := cb) (st := st) (W := w) (w := w6.drew) (by rw [hm.out]; exact hBR6.out.stay hn6) (r := r) (by rw [hm.out]; omega) ⟨rfl, hHn.out, hnx6.out.1.stay (fun q _ hlt => hn6.block q hlt id)⟩ hgrow9 (by simpa [brcell, pcell, hHH] using hown9)
              obtain ⟨a9, c9, rfl⟩ := owns_form hown9
              have hst9 : Nw w w9 := hput.nw
              have hcap9 : r + 1 ≤ c9 ∧ c9 ≤ 9223372036854775807 := by obtain ⟨_, _, hv, h1, h2⟩ := (hs_of_owns hown9).form; injection hv with _ _ hc; subst hc; exact ⟨h1, h2⟩
              have hne9 : Value.ownBlock (.slice ab r cb) ≠ some gb := fun e => by
                have hr2 := hBR2.out.row
                rw [hm.out] at hr2
                have := (owns_prefix (r := r) hr2 (by omega)).lt gb e
                omega
              have hb9 : w9.heap[gb]? = some (.cells #[.int .i64 (k : Int), .int .i64 H, .pointer (some ⟨g, 0, none⟩)] 119 (0, 0)) := (hgrow9.block gb (Nat.lt_of_lt_of_le (heap_lt hbk6) nA.size) (fun e => hne9 e.symm)).trans ((nA.block gb (heap_lt hbk6) (fun h => h)).trans hbk6)
              have hH9 : Hid (∀ x ∈ xs.take r ++ [(k, Hn, g)], x.2.1 + k ≤ n) := fun x hx => by
                rcases List.mem_append.1 hx with hx | hx
                · have := hH.out x (List.mem_of_mem_take hx); omega
                · have hx' : x = (k, Hn, g) := by simpa using hx
                  have h9 := height_mk (ks := ks) (es := es) (is := is) (M := n - (k + 1)) ((hBR2.out.all.drop r).heights (fun y hy => by have := hH.out y (List.mem_of_mem_drop hy); omega))
                  rw [← hHn.out] at h9
                  rw [hx']
                  show Hn + k ≤ n
                  omega
              have hm9 : Hid ((xs.take r ++ [(k, Hn, g)]).length = r + 1) := by unfold Hid; rw [List.length_append, List.length_take, hm.out, List.length_singleton]; omega
              replace hput : Hid _ := hput
              go_wp2
              refine hK1 _ _ ⟨cell_blk hb9 rfl, cell_blk hb9 rfl, cell_blk hb9 rfl⟩ ?_
              clear hK1 K1 hS hrow hrow0 hsl hgrow9 hat9 hown9 nA hb9 hne9 hbk6
              refine ord_tail ?_
              simp only [List.drop_succ_cons, List.drop_zero]
              go_wp2
              go_roundw
              case rel => exact ⟨k, (k : Int) - 1, _, _, a9, c9, r + 1, by omega, rfl, by go_num, hm9.out, rfl, hcap9.1, hcap9.2, hput.out, hJ2.out, hH9.out, by omega⟩
              case measure => simp [intOf]
          · replace hok : Hid _ := hok
            have hnone : Hid (joinL nds = none) := by
              unfold Hid
              rw [hdef.out, hJ.out, jn_no hget.out (step_not (by show ¬ okAll is (st.drop (st.length - is.length)) is.length; rw [hstr]; exact fun h9 => hok.out (hiff.1 h9)))]
              rfl
            clear hstr hstl
            refine wp_region_fork [] 14 1 ([(0, true), (1, true), (2, true), (3, true), (4, true), (5, true), (6, true), (7, true)], [(8, [(9, true), (10, true), (11, true), (12, false), (13, false)]), (12, [(8, false), (9, true), (10, true), (11, true), (13, false)])]) (fun w' : World => Nw w2 w' ∧ w'.cell? ⟨b, off + k * 3, none⟩ = some (.slice a0 ks.length c0) ∧ w'.cell? ⟨b, off + k * 3 + 1, none⟩ = some (.slice a1 es.length c1) ∧ w'.cell? ⟨b, off + k * 3 + 2, none⟩ = some (.slice a2 q c2)) _ (by kernel_rfl) (by kernel_rfl) ?_ (fun _ _ h => h)
            refine fork_in2 (d := 0) ?_
            refine ord_quietL _ ?_ rfl hS rfl ?_ ?_
            rotate_left
            · rintro w' ⟨hn, h0, h1, h2⟩; go_simp; first | rfl | (rw [if_pos (by omega)]; done) | (rw [if_pos (by omega)]; rfl) | (rw [if_pos (by omega)]; go_simp; rfl)
            simp only [Act.put, List.setIfInBounds_toArray, List.set_cons_zero, List.set_cons_succ]
            refine ord_quietL _ ?_ rfl hS rfl ?_ ?_
            rotate_left
            · rintro w' ⟨hn, h0, h1, h2⟩; go_simp; first | rfl | (rw [if_pos (by omega)]; done) | (rw [if_pos (by omega)]; rfl) | (rw [if_pos (by omega)]; go_simp; rfl)
            simp only [Act.put, List.setIfInBounds_toArray, List.set_cons_zero, List.set_cons_succ]
            refine ord_quietL _ ?_ rfl hS rfl ?_ ?_
            rotate_left
            · rintro w' ⟨hn, h0, h1, h2⟩; go_simp; first | rfl | (rw [if_pos (by omega)]; done) | (rw [if_pos (by omega)]; rfl) | (rw [if_pos (by omega)]; go_simp; rfl)
            simp only [Act.put, List.setIfInBounds_toArray, List.set_cons_zero, List.set_cons_succ]
            refine ord_quietL _ ?_ rfl hS rfl ?_ ?_
            rotate_left
            · rintro w' ⟨hn, h0, h1, h2⟩; go_simp; first | rfl | (rw [if_pos (by omega)]; done) | (rw [if_pos (by omega)]; rfl) | (rw [if_pos (by omega)]; go_simp; rfl)
            simp only [Act.put, List.setIfInBounds_toArray, List.set_cons_zero, List.set_cons_succ]
            refine ord_quietL _ ?_ rfl hS rfl ?_ ?_
            rotate_left
            · rintro w' ⟨hn, h0, h1, h2⟩; go_simp; first | rfl | (rw [if_pos (by omega)]; done) | (rw [if_pos (by omega)]; rfl) | (rw [if_pos (by omega)]; go_simp; rfl)
            simp only [Act.put, List.setIfInBounds_toArray, List.set_cons_zero, List.set_cons_succ]
            refine ord_quietL _ ?_ rfl hS rfl ?_ ?_
            rotate_left
            · rintro w' ⟨hn, h0, h1, h2⟩; go_simp; first | rfl | (rw [if_pos (by omega)]; done) | (rw [if_pos (by omega)]; rfl) | (rw [if_pos (by omega)]; go_simp; rfl)
            simp only [Act.put, List.setIfInBounds_toArray, List.set_cons_zero, List.set_cons_succ]
            refine ord_quietL _ ?_ rfl hS rfl ?_ ?_
            rotate_left
            · rintro w' ⟨hn, h0, h1, h2⟩; go_simp; first | rfl | (rw [if_pos (by omega)]; done) | (rw [if_pos (by omega)]; rfl) | (rw [if_pos (by omega)]; go_simp; rfl)
            simp only [Act.put, List.setIfInBounds_toArray, List.set_cons_zero, List.set_cons_succ]
            refine ord_quietL _ ?_ rfl hS rfl ?_ ?_
            rotate_left
            · rintro w' ⟨hn, h0, h1, h2⟩; go_simp; first | rfl | (rw [if_pos (by omega)]; done) | (rw [if_pos (by omega)]; rfl) | (rw [if_pos (by omega)]; go_simp; rfl)
            simp only [Act.put, List.setIfInBounds_toArray, List.set_cons_zero, List.set_cons_succ]
            refine fork_two _ _ rfl rfl ?w1 ?w2
            case w1 =>
              intro K1 hK1
              have hcon : Hid _ := hcall.out w2.drew hn0
              go_wp2_with (go_at_call 74; refine Calls.mono hcon.out ?_; rintro e w3 ⟨qn8, hbp⟩; obtain rfl := hbp.2 hok.out; refine stop_here ?_)
              unfold Hid
              have m3 := nw_trans hn0 qn8
              clear hbp hcon
              go_wp2
              refine hK1 _ _ (hS0.out _ m3) ?_
              clear hK1 K1
              refine fork_leaf ?_
              have hS := hS0.out _ m3
              refine ord_quietL _ ?_ rfl hS rfl ?_ ?_
              rotate_left
              · rintro w' ⟨hn, h0, h1, h2⟩; go_simp; first | rfl | (rw [if_pos (by omega)]; done) | (rw [if_pos (by omega)]; rfl) | (rw [if_pos (by omega)]; go_simp; rfl)
              simp only [Act.put, List.setIfInBounds_toArray, List.set_cons_zero, List.set_cons_succ]
              refine ord_quietL _ ?_ rfl hS rfl ?_ ?_
              rotate_left
              · rintro w' ⟨hn, h0, h1, h2⟩; go_simp; first | rfl | (rw [if_pos (by omega)]; done) | (rw [if_pos (by omega)]; rfl) | (rw [if_pos (by omega)]; go_simp; rfl)
              simp only [Act.put, List.setIfInBounds_toArray, List.set_cons_zero, List.set_cons_succ]
              refine ord_quietL _ ?_ rfl hS rfl ?_ ?_
              rotate_left
              · rintro w' ⟨hn, h0, h1, h2⟩; go_simp; first | rfl | (rw [if_pos (by omega)]; done) | (rw [if_pos (by omega)]; rfl) | (rw [if_pos (by omega)]; go_simp; rfl)
              simp only [Act.put, List.setIfInBounds_toArray, List.set_cons_zero, List.set_cons_succ]
              refine ord_actL _ rfl (fun K1 hK1 => ?_)
              have hbk : (w3.alloc (.cells #[.int .i64 0, .int .i64 0, .pointer none] 119)).heap[w3.heap.size]? = some (.cells #[.int .i64 0, .int .i64 0, .pointer none] 119 (0, 0)) := heap_alloc_new w3 _
              have m5 : Nw w2 (w3.alloc (.cells #[.int .i64 0, .int .i64 0, .pointer none] 119)) := nw_alloc m3 _
              go_wp2
              generalize hw5 : w3.alloc (.cells #[.int .i64 0, .int .i64 0, .pointer none] 119) = w5 at *
              generalize hgb : w3.heap.size = gb at *
              have hgl : w2.heap.size ≤ gb := by rw [← hgb]; exact m3.size
              replace hgb : Hid _ := hgb
              clear hw5
              refine hK1 _ _ (hS0.out _ m5) ?_
              clear hK1 K1
              refine ord_actL _ rfl (fun K1 hK1 => ?_)
              obtain ⟨w6, hw6⟩ : ∃ w6, Hid (w6 = (((w5.setCell ⟨gb, 0, none⟩ (.int .i64 0)).setCell ⟨gb, 1, none⟩ (.int .i64 0)).setCell ⟨gb, 2, none⟩ (.pointer none))) := ⟨_, rfl⟩
              have hbk6 : w6.heap[gb]? = some (.cells #[.int .i64 0, .int .i64 0, .pointer none] 119 (0, 0)) := by rw [hw6.out, blk_setCell (blk_setCell (blk_setCell hbk))]; rfl
              have hf6 : Fr (fun q => q = gb) w5 w6 := by rw [hw6.out]; exact (((Fr.refl (fun q => q = gb) w5).setCell (p := ⟨gb, 0, none⟩) (.inl rfl) _).setCell (p := ⟨gb, 1, none⟩) (.inl rfl) _).setCell (p := ⟨gb, 2, none⟩) (.inl rfl) _
              have m6 : Nw w2 w6 := Fr.trans m5 hf6 (fun q hq => .inr (by omega))
              have z0 : w5.cell? ⟨gb, 0, none⟩ = some (.int .i64 0) := cell_blk hbk rfl
              have z1 : w5.cell? ⟨gb, 1, none⟩ = some (.int .i64 0) := cell_blk hbk rfl
              have z2 : w5.cell? ⟨gb, 2, none⟩ = some (.pointer none) := cell_blk hbk rfl
              have zf : ∀ q, w5.frozen? ⟨gb, q, none⟩ = false := fun q => free_blk hbk
              go_wp2
              rw [← hw6.out]
              refine hK1 _ _ (hS0.out _ m6) ?_
              clear hK1 K1 z0 z1 z2 zf hbk hf6 hw6
              refine ord_tail ?_
              simp only [List.drop_succ_cons, List.drop_zero]
              have hw6 := nw_trans hw2 m6
              go_wp2
              go_ret2
              exact ⟨hw6, by unfold JPost; rw [hnone.out]; rfl⟩
            case w2 =>
              intro K1 hK1
              have hbk : ((w2.alloc (.cells #[.int .i64 0, .int .i64 0, .pointer none] 119)).drew).heap[w2.heap.size]? = some (.cells #[.int .i64 0, .int .i64 0, .pointer none] 119 (0, 0)) := heap_alloc_new w2 _
              have m3 : Nw w2 ((w2.alloc (.cells #[.int .i64 0, .int .i64 0, .pointer none] 119)).drew) := Fr.drew (nw_alloc (nw_refl w2) _)
              go_wp2
              generalize hw3 : (w2.alloc (.cells #[.int .i64 0, .int .i64 0, .pointer none] 119)).drew = w3 at *
              generalize hgb : w2.heap.size = gb at *
              have hgl : w2.heap.size ≤ gb := by rw [hgb]; exact Nat.le_refl _
              replace hgb : Hid _ := hgb
              clear hw3
              refine hK1 _ _ (hS0.out _ m3) ?_
              clear hK1 K1
              refine fork_leaf ?_
              refine ord_actL _ rfl (fun K1 hK1 => ?_)
              have hcon : Hid _ := hcall.out w3 m3
              go_wp2_with (go_at_call 74; refine Calls.mono hcon.out ?_; rintro e w4 ⟨qn8, hbp⟩; obtain rfl := hbp.2 hok.out; refine stop_here ?_)
              unfold Hid
              have m4 := nw_trans m3 qn8
              clear hbp hcon
              replace hbk := (qn8.block _ (heap_lt hbk) (fun h => h)).trans hbk
              go_wp2
              refine hK1 _ _ (hS0.out _ m4) ?_
              clear hK1 K1
              have hS := hS0.out _ m4
              refine ord_quietL _ ?_ rfl hS rfl ?_ ?_
              rotate_left
              · rintro w' ⟨hn, h0, h1, h2⟩; go_simp; first | rfl | (rw [if_pos (by omega)]; done) | (rw [if_pos (by omega)]; rfl) | (rw [if_pos (by omega)]; go_simp; rfl)
              simp only [Act.put, List.setIfInBounds_toArray, List.set_cons_zero, List.set_cons_succ]
              refine ord_quietL _ ?_ rfl hS rfl ?_ ?_
              rotate_left
              · rintro w' ⟨hn, h0, h1, h2⟩; go_simp; first | rfl | (rw [if_pos (by omega)]; done) | (rw [if_pos (by omega)]; rfl) | (rw [if_pos (by omega)]; go_simp; rfl)
              simp only [Act.put, List.setIfInBounds_toArray, List.set_cons_zero, List.set_cons_succ]
              refine ord_quietL _ ?_ rfl hS rfl ?_ ?_
              rotate_left
              · rintro w' ⟨hn, h0, h1, h2⟩; go_simp; first | rfl | (rw [if_pos (by omega)]; done) | (rw [if_pos (by omega)]; rfl) | (rw [if_pos (by omega)]; go_simp; rfl)
              simp only [Act.put, List.setIfInBounds_toArray, List.set_cons_zero, List.set_cons_succ]
              have m5 := m4
              obtain ⟨w5, rfl⟩ : ∃ w5, w5 = w4 := ⟨_, rfl⟩
              refine ord_actL _ rfl (fun K1 hK1 => ?_)
              obtain ⟨w6, hw6⟩ : ∃ w6, Hid (w6 = (((w5.setCell ⟨gb, 0, none⟩ (.int .i64 0)).setCell ⟨gb, 1, none⟩ (.int .i64 0)).setCell ⟨gb, 2, none⟩ (.pointer none))) := ⟨_, rfl⟩
              have hbk6 : w6.heap[gb]? = some (.cells #[.int .i64 0, .int .i64 0, .pointer none] 119 (0, 0)) := by rw [hw6.out, blk_setCell (blk_setCell (blk_setCell hbk))]; rfl
              have hf6 : Fr (fun q => q = gb) w5 w6 := by rw [hw6.out]; exact (((Fr.refl (fun q => q = gb) w5).setCell (p := ⟨gb, 0, none⟩) (.inl rfl) _).setCell (p := ⟨gb, 1, none⟩) (.inl rfl) _).setCell (p := ⟨gb, 2, none⟩) (.inl rfl) _
              have m6 : Nw w2 w6 := Fr.trans m5 hf6 (fun q hq => .inr (by omega))
              have z0 : w5.cell? ⟨gb, 0, none⟩ = some (.int .i64 0) := cell_blk hbk rfl
              have z1 : w5.cell? ⟨gb, 1, none⟩ = some (.int .i64 0) := cell_blk hbk rfl
              have z2 : w5.cell? ⟨gb, 2, none⟩ = some (.pointer none) := cell_blk hbk rfl
              have zf : ∀ q, w5.frozen? ⟨gb, q, none⟩ = false := fun q => free_blk hbk
              go_wp2
              rw [← hw6.out]
              refine hK1 _ _ (hS0.out _ m6) ?_
              clear hK1 K1 z0 z1 z2 zf hbk hf6 hw6
              refine ord_tail ?_
              simp only [List.drop_succ_cons, List.drop_zero]
              have hw6 := nw_trans hw2 m6
              go_wp2
              go_ret2
              exact ⟨hw6, by unfold JPost; rw [hnone.out]; rfl⟩
end Go.Proofs.Ytnljfhjindenpab
