/-
  ExtentRoom returns true for every total, every list of acts and every n: so many sectors can be had together, if so many are free, however they lie; and they are just as many; else none is had.
  Conditions: none; the statement is the given one, for every input.
-/
import Derived.Test.YtelobmdlnkkbkaaRows
import Derived.Test.YtelobmdlnkkbkaaExtF1
import Derived.Test.YtelobmdlnkkbkaaExtOpen
import Derived.WalkKit
import Derived.ProofKit
import Derived.OpenShut
import Derived.ShutString
import Derived.ChangeOld
import Derived.Below
import Derived.SizedLaws
namespace Go.Proofs.Ytelobmdlnkkbkaa.extentRoom
open Go.ChangeShapes Go.WideShapes Go.ChangeAt Go.RowKit
open Go.ChangeMaps (open_string shut_string)
set_option linter.unusedVariables false
set_option linter.unusedSimpArgs false

theorem own : ownKnob Try.prog.godebug = none := by kernel_rfl
theorem laidOut : laidOutB Try.prog = true := by kernel_rfl

set_option maxRecDepth 20000 in
set_option maxHeartbeats 3200000 in
/-- The law's own walk. -/
theorem walk (w : World) (a0 : Int) (w0 : (Lit.int .i64 a0).wf = true) (v1 : Value) (x1 : List EAct) (w1 : EActsAt w.heap.size w v1 x1) (l1 : x1.length ≤ 140737488351232) (a2 : Int) (w2 : (Lit.int .i64 a2).wf = true) :
    Calls Try.prog 7 #[.int .i64 a0, v1, .int .i64 a2] w fun e w' => e = .returned (.bool true) ∧ Below w.heap.size w w' := by
  have hA0 := i64_of_wf w0
  have hA2 := i64_of_wf w2
  obtain ⟨ao, cap, rfl, hac, hac2, hacs0⟩ := w1
  have hacs : EActsAt w.heap.size w (.slice ao x1.length cap) x1 := ⟨ao, cap, rfl, hac, hac2, hacs0⟩
  clear hacs0
  unfold maxLen at hac2
  go_enter Try.func7, Try.ntmps7
  go_wp2_with (go_at_call 8; refine (c_alive _).mono ?_; rintro e W1 ⟨rfl, hn1⟩; refine stop_here ?_)
  unfold Hid
  go_wp2_with (go_at_call 9; refine (c_new a0 _).mono ?_; rintro e W2 ⟨b, g, rfl, h2, hn2, hb, hg⟩; refine stop_here ?_)
  unfold Hid
  have hnw2 := nw_trans hn1 hn2
  have hsz1 := hn1.size
  have hT : ∀ k, k = g → w.heap.size ≤ k := fun k e => by omega
  clear hn1 hn2
  obtain ⟨n, hn⟩ : ∃ n, Hid (x1.length = n) := ⟨_, rfl⟩
  rw [hn.out] at hac l1 ⊢
  by_cases hbad : 100 < n ∨ a0 < 0 ∨ 1024 < a0
  · have hfin := below_of_nw hnw2
    rcases hbad with hbad | hbad | hbad
    · have hd : decide (100 < (n : Int)) = true := decide_eq_true (by omega)
      go_wp2
      go_ret
      exact ⟨rfl, hfin⟩
    · by_cases h100 : 100 < n
      · have hd : decide (100 < (n : Int)) = true := decide_eq_true (by omega)
        go_wp2
        go_ret
        exact ⟨rfl, hfin⟩
      · have hd : decide (100 < (n : Int)) = false := decide_eq_false (by omega)
        have hd1 : decide (a0 < 0) = true := decide_eq_true hbad
        go_wp2
        go_ret
        exact ⟨rfl, hfin⟩
    · by_cases h100 : 100 < n
      · have hd : decide (100 < (n : Int)) = true := decide_eq_true (by omega)
        go_wp2
        go_ret
        exact ⟨rfl, hfin⟩
      · have hd : decide (100 < (n : Int)) = false := decide_eq_false (by omega)
        have hd1 : decide (a0 < 0) = false := decide_eq_false (by omega)
        have hd2 : decide (1024 < a0) = true := decide_eq_true hbad
        go_wp2
        go_ret
        exact ⟨rfl, hfin⟩
  have h100 : n ≤ 100 := by omega
  have hd : decide (100 < (n : Int)) = false := decide_eq_false (by omega)
  have hd1 : decide (a0 < 0) = false := decide_eq_false (by omega)
  have hd2 : decide (1024 < a0) = false := decide_eq_false (by omega)
  clear hbad
  go_wp2
  go_loopw [41] (fun i wr => ∃ (k : Nat) (xs : List UInt8), k ≤ n ∧ i = .int .i64 k ∧ MapAt wr b g xs ∧ Nw w wr) (fun i _ => n - (intOf i).toNat)
  case atStart => exact ⟨0, _, Nat.zero_le _, rfl, h2, hnw2⟩
  case round =>
    clear h2 hnw2
    obtain ⟨k, xs, hk, rfl, hm, hnw⟩ := hrel
    by_cases hlt : k < n
    · have hkx : k < x1.length := by rw [hn.out]; exact hlt
      obtain ⟨q, off, rfl, hqK, hcell, hok⟩ := hacs.get k hkx
      obtain ⟨c0, c1, c2, c3⟩ := hcell wr (below_of_nw hnw)
      obtain ⟨okk, okn, oks, okl⟩ := hok
      clear hcell hacs
      generalize x1[k] = act at *
      clear hkx hn
      obtain ⟨ak, an, ps, pl⟩ := act
      simp only at c0 c1 c2 c3 okk okn oks okl
      have hmA := hm.nw ((Fr.refl _ wr).alloc (.cells #[.int .i64 ak, .int .i64 an, .int .i64 ps, .int .i64 pl] 36))
      have hnwA := Fr.alloc hnw (.cells #[.int .i64 ak, .int .i64 an, .int .i64 ps, .int .i64 pl] 36)
      have hgl := hm.lt
      have hbA : (wr.alloc (.cells #[.int .i64 ak, .int .i64 an, .int .i64 ps, .int .i64 pl] 36)).heap[wr.heap.size]? = some (.cells #[.int .i64 ak, .int .i64 an, .int .i64 ps, .int .i64 pl] 36 (0, 0)) := heap_alloc_new wr _
      have hal := c_alloc _ hmA an (by omega)
      have hpp := allocV_le xs an hm.n
      generalize allocM xs an = xs1 at *
      generalize allocV xs an = p at *
      generalize allocE xs an = ec at *
      unfold ext at hal
      go_wp2_with (go_at_call 13; refine hal.mono ?_; rintro e W3 ⟨rfl, hm3, hf3⟩; refine stop_here ?_)
      unfold Hid
      have hb3 := (hf3.block wr.heap.size (by simp) (by omega)).trans hbA
      have hlt3 := heap_lt hb3
      have hnw3 := Fr.new hnwA hf3 hT
      have hm4 := hm3.nw ((Fr.refl _ W3).alloc (.cells #[.int .i64 (p.1 : Int), .int .i64 (p.2 : Int)] 34))
      have hnw4 := Fr.alloc hnw3 (.cells #[.int .i64 (p.1 : Int), .int .i64 (p.2 : Int)] 34)
      have hb4 : (W3.alloc (.cells #[.int .i64 (p.1 : Int), .int .i64 (p.2 : Int)] 34)).heap[wr.heap.size]? = some (.cells #[.int .i64 ak, .int .i64 an, .int .i64 ps, .int .i64 pl] 36 (0, 0)) := (Below.heap_alloc _ _ _ hlt3).trans hb3
      have k0 : W3.cell? ⟨wr.heap.size, 0, none⟩ = some (.int .i64 ak) := cell_blk hb3 rfl
      have k2 : W3.cell? ⟨wr.heap.size, 2, none⟩ = some (.int .i64 ps) := cell_blk hb3 rfl
      have k3 : W3.cell? ⟨wr.heap.size, 3, none⟩ = some (.int .i64 pl) := cell_blk hb3 rfl
      clear hal hmA hnwA hbA hm hnw hf3 hm3 hnw3 c0 c1 c2 c3
      by_cases hfree : ec = 0 ∧ 3 ≤ ak
      · obtain ⟨rfl, h3k⟩ := hfree
        have hd3 : decide (3 ≤ ak) = true := decide_eq_true h3k
        have hfr := c_free _ hm4 (p.1 : Int) (p.2 : Int) (by omega)
        unfold ext at hfr
        generalize turnX xs1 (p.1 : Int) (p.2 : Int) 1 0 = xs2 at *
        generalize turnE xs1 (p.1 : Int) (p.2 : Int) 1 = ec2 at *
        go_wp2_with (go_at_call 19; refine hfr.mono ?_; rintro e W5 ⟨rfl, hm5, hf5⟩; refine stop_here ?_)
        unfold Hid
        have hb5 := (hf5.block wr.heap.size (heap_lt hb4) (by omega)).trans hb4
        have hnw5 := Fr.new hnw4 hf5 hT
        have k2 : W5.cell? ⟨wr.heap.size, 2, none⟩ = some (.int .i64 ps) := cell_blk hb5 rfl
        have k3 : W5.cell? ⟨wr.heap.size, 3, none⟩ = some (.int .i64 pl) := cell_blk hb5 rfl
        have htk := c_take _ hm5 ps pl (by omega)
        unfold ext at htk
        clear hfr hm4 hnw4 hb4 hf5 hm5 hb5
        go_wp2_with (go_at_call 17; refine htk.mono ?_; rintro e W6 ⟨rfl, hm6, hf6⟩)
        have hnw6 := Fr.new hnw5 hf6 hT
        go_roundw
        case rel => exact ⟨k + 1, _, by omega, by go_num, hm6, hnw6⟩
        case measure => simp [intOf]; omega
      · have htk := c_take _ hm4 ps pl (by omega)
        unfold ext at htk
        clear hm4
        by_cases he0 : ec = 0
        · have hd3 : decide (3 ≤ ak) = false := decide_eq_false (fun h => hfree ⟨he0, h⟩)
          subst he0
          clear hfree
          go_wp2_with (go_at_call 17; refine htk.mono ?_; rintro e W6 ⟨rfl, hm6, hf6⟩)
          have hnw6 := Fr.new hnw4 hf6 hT
          go_roundw
          case rel => exact ⟨k + 1, _, by omega, by go_num, hm6, hnw6⟩
          case measure => simp [intOf]; omega
        · have he1 : (ec == 0) = false := by simpa using he0
          clear hfree he0
          go_wp2_with (go_at_call 17; refine htk.mono ?_; rintro e W6 ⟨rfl, hm6, hf6⟩)
          have hnw6 := Fr.new hnw4 hf6 hT
          go_roundw
          case rel => exact ⟨k + 1, _, by omega, by go_num, hm6, hnw6⟩
          case measure => simp [intOf]; omega
    · clear hacs hn
      have hcnt := c_count _ hm
      obtain ⟨q, hq⟩ : ∃ q : Nat, Hid (xs.count 0 = q) := ⟨_, rfl⟩
      rw [hq.out] at hcnt
      have hxl := hm.n
      have hql : q ≤ 1024 := by
        have : xs.count 0 ≤ xs.length := List.count_le_length
        rw [hq.out] at this
        omega
      have hall := c_all _ hm a2 (by omega)
      have hac := allM_count xs a2
      rw [hq.out] at hac
      have hacH : Hid _ := hac
      clear hac
      by_cases hgt : (q : Int) < a2
      · have e1 : allE xs a2 = 73 := by unfold allE; rw [hq.out, if_pos hgt]
        have e2 : allV xs a2 = [] := by unfold allV; rw [hq.out, if_pos hgt]
        have e3 : allM xs a2 = xs := by unfold allM; rw [hq.out, if_pos hgt]
        rw [e1, e2, e3] at hall
        clear e1 e2 e3 hacH
        have hd4 : decide ((q : Int) < a2) = true := decide_eq_true hgt
        go_wp2_with (first
          | (go_at_call 10; refine hcnt.mono ?_; rintro e W3 ⟨rfl, rfl⟩)
          | (go_at_call 15; refine hall.mono ?_; rintro e W4 ⟨v, rfl, hr, hm4, hf4⟩; refine stop_here ?_))
        unfold Hid
        obtain ⟨vo, vc, rfl⟩ := owns_form hr
        simp only [List.length_nil]
        have hcnt4 := c_count _ hm4
        rw [hq.out] at hcnt4
        have hfin := below_of_nw (Fr.new hnw hf4 hT)
        clear hr hm4 hf4 hall hcnt
        go_wp2_with (go_at_call 10; refine hcnt4.mono ?_; rintro e W5 ⟨rfl, rfl⟩)
        go_ret
        exact ⟨rfl, hfin⟩
      · obtain ⟨t1, t2, t3, t4⟩ := hacH.out hgt
        have e1 : allE xs a2 = 0 := by unfold allE; rw [hq.out, if_neg hgt]
        rw [e1] at hall
        have hd4 : decide ((q : Int) < a2) = false := decide_eq_false hgt
        clear e1 hacH
        obtain ⟨m, hm2⟩ : ∃ m : Nat, Hid (a2.toNat = m) := ⟨_, rfl⟩
        rw [hm2.out] at t1 t2
        have hmq : m ≤ q := by omega
        have hlen : (allV xs a2).length ≤ 1024 := by
          have := length_le_total _ (fun e he => (t4 e he).1)
          omega
        have t1H : Hid (total (allV xs a2) = m) := t1
        have t2H : Hid (q = (allM xs a2).count 0 + m) := t2
        clear t1 t2
        generalize allM xs a2 = ys at *
        generalize allV xs a2 = es at *
        go_wp2_with (first
          | (go_at_call 10; refine hcnt.mono ?_; rintro e W3 ⟨rfl, rfl⟩)
          | (go_at_call 15; refine hall.mono ?_; rintro e W4 ⟨v, rfl, hr, hm4, hf4⟩; refine stop_here ?_))
        unfold Hid
        have hnw4 := Fr.new hnw hf4 hT
        have hE := hr.esl
        obtain ⟨vo, vc, rfl, hvc1, hvc2⟩ := hE.form
        clear hr hf4 hall hcnt
        go_wp2
        go_loopw [15, 93] (fun s i W => ∃ k : Nat, k ≤ es.length ∧ i = .int .i64 k ∧ s = .int .i64 (total (es.take k) : Nat) ∧ Nw W4 W) (fun _ i _ => es.length - (intOf i).toNat)
        case atStart => exact ⟨0, Nat.zero_le _, rfl, rfl, nw_refl _⟩
        case round =>
          obtain ⟨j, hj, rfl, rfl, hnwj⟩ := hrel
          have htl := total_take_le es j
          rw [t1H.out] at htl
          by_cases hlt2 : j < es.length
          · have hEj := hE.keep (X' := fun _ => True) hnwj (fun _ _ => id) (fun _ _ _ => trivial)
            obtain ⟨q2, off2, rfl, _, d0, d1⟩ := hEj.get j hlt2
            have hsum : Hid (total (es.take (j + 1)) = total (es.take j) + es[j].2) := total_take_succ es j hlt2
            have hb2 : es[j].2 ≤ 1024 := by have := t4 es[j] (List.getElem_mem hlt2); omega
            clear t4 hEj hE
            generalize es[j] = ej at *
            generalize hgt' : total (es.take j) = tj at *
            have hgt' : Hid (total (es.take j) = tj) := hgt'
            have hnwn := Fr.alloc hnwj (.cells #[.int .i64 (ej.1 : Int), .int .i64 (ej.2 : Int)] 34)
            go_wp2
            go_roundw
            case rel => exact ⟨j + 1, by omega, by go_num, by rw [hsum.out]; go_num, hnwn⟩
            case measure => simp [intOf]; omega
          · rw [List.take_of_length_le (by omega), t1H.out]
            have hmj := hm4.nw hnwj
            have hcj := c_count _ hmj
            have hyc : (ys.count 0 : Int) = (q : Int) - (m : Int) := by have := t2H.out; omega
            rw [hyc] at hcj
            have hfin := below_of_nw (nw_trans hnw4 hnwj)
            have hmax : ∀ (w : World) (ts : Array TypeId) (t : TypeId), (Builtin.max_ ts t #[.int .i64 0, .int .i64 a2]).run Try.prog w = .ok (.int .i64 (m : Int)) w := fun w ts t => by
              rw [run_max_int2 w ts t .i64 .i64 0 a2, ← hm2.out]; congr 2; split <;> omega
            clear hyc hE hm4 hmj t1H t2H hm2 htl t4
            go_wp2_with (go_at_call 10; refine hcj.mono ?_; rintro e W5 ⟨rfl, rfl⟩)
            go_ret
            exact ⟨rfl, hfin⟩

set_option maxRecDepth 100000 in
theorem lifted (os : Os) (started : os.Started) (H : Type) (enc : TypeId × Value → H) :
    ReturnsInHanded {} Try.checked os 7 .any (Rows.extentRoomSpec.pre6 enc Try.prog Try.f7 Rows.extentRoomRow.domain false) (Rows.extentRoomSpec.post enc Try.prog Try.f7 false true false false) := by
  refine returnsInHanded_of_change_sized (C := Try.checked) own started (by kernel_rfl) Try.func7
    (ChangeSpec.witness6 (enc := enc) (C := Try.checked) false ⟨#[], #[.int .i64 0, .slice none 0 0, .int .i64 0], []⟩ 8 (by kernel_rfl) (by kernel_rfl) (by kernel_rfl) (by kernel_rfl)) ?_
  intro W base args ds gs before hval0 hW hcnd hsz0 _
  have hval : ∀ (j : Nat) t v, Try.f7.params[j]? = some t → args[j]? = some v → Value.okWide Try.prog W .any base t v := hval0
  have hsz : (DataW.weightsEach Try.prog (Try.f7.params.toList ++ Rows.extentRoomSpec.plain.varTypes Try.prog) (ds ++ gs)).all (· ≤ reachBytes) = true := hsz0
  have hW' := hW
  obtain ⟨p, q, hA0, hV, rfl, hfz, hnd⟩ := hW
  have hA : DataW.TrodAll enc Try.prog W 0 (fun _ => true) true Try.f7.params.toList args.toList ds p := hA0
  rw [Try.params7] at hA hval hsz
  obtain ⟨v0, vs0, d0, ds0, p0, q0, hargs, rfl, rfl, h0, r0⟩ := trodAll_cons hA
  obtain ⟨v1, vs1, d1, ds1, p1, q1, rfl, rfl, rfl, h1, r1⟩ := trodAll_cons r0
  obtain ⟨v2, vs2, d2, ds2, p2, q2, rfl, rfl, rfl, h2, r2⟩ := trodAll_cons r1
  obtain ⟨rfl, rfl, rfl⟩ := trodAll_nil r2
  obtain rfl : args = #[v0, v1, v2] := by cases args; simp_all
  obtain ⟨rfl, rfl⟩ := trodVars_none hV
  obtain ⟨a0, rfl, rfl, rfl, w0⟩ := open_int Try.underlying3 (hval 0 3 v0 rfl rfl) h0
  obtain ⟨a1, len1, cap1, rfl⟩ := okWide_slice Try.underlying28 (hval 1 28 v1 rfl rfl)
  have k1 := h1
  have lt1 : ∀ x ∈ p1, x.block < W.heap.size := by obtain ⟨m, hm⟩ := k1; exact DataW.trod_lt m _ _ _ hm
  obtain ⟨x1, w1, l1⟩ : ∃ xs : List EAct, EActsAt W.heap.size W (.slice a1 len1 cap1) xs ∧ xs.length ≤ 140737488351232 := by
    obtain ⟨fuel, hf⟩ := h1
    exact open_eacts (v := .slice a1 len1 cap1) hf (fun n hn => by have := List.all_eq_true.1 hsz n (DataW.weights_mem_each (j := 1) (t := 28) rfl rfl n hn); simpa using this)
  obtain ⟨a2, rfl, rfl, rfl, w2⟩ := open_int Try.underlying3 (hval 2 3 v2 rfl rfl) h2
  clear hA0 hval0
  refine (walk W a0 w0 _ x1 w1 l1 a2 w2).mono fun e W' ⟨he, bel⟩ => ?_
  subst he
  exact ⟨_, rfl, _, _, _, [], _, [], hW', trodAll_mk1 (shut_bool Try.underlying4 _), (trodAll_cons_mk (shut_int Try.underlying3 w0) (trodAll_cons_mk (Below.trod laidOut (by kernel_rfl) (of_decide_eq_true (by kernel_rfl)) k1 bel lt1) (trodAll_cons_mk (shut_int Try.underlying3 w2) trodAll_mk0))), rfl, bel.frame _, fun h => by cases h⟩

theorem over : Rows.extentRoomRow.holds Try.pinned (OpenSpec.ofChange Rows.extentRoomSpec) :=
  OpenClaim.holds_of_wide 7 Try.f7 rfl rfl rfl rfl rfl rfl rfl ⟨rfl, rfl, rfl, rfl, rfl⟩ rfl rfl rfl rfl rfl (by kernel_rfl) Try.func7 (by kernel_rfl)
    (of_decide_eq_true (by kernel_rfl)) (by unfold Func.isWrapper; first | (rw [if_pos (by decide +kernel)]; kernel_rfl) | (rw [if_neg (by decide +kernel)]; exact ⟨rfl, rfl⟩))
    (fun os started H enc _ => lifted os started H enc)
end Go.Proofs.Ytelobmdlnkkbkaa.extentRoom
namespace Go.Proofs.Ytelobmdlnkkbkaa
/-- The given statement. -/
theorem extentRoom_holds : Rows.ExtentRoomSaid := extentRoom.over
end Go.Proofs.Ytelobmdlnkkbkaa
