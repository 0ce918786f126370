/-
  DiskRuns returns true for every number of sectors and all acts: all answers, what is stable and what is pending are the document's.
  Conditions: none; the statement is the given one, for every input.
-/
import Derived.Test.YtmhojkbnfiknpaaRows
import Derived.Test.YtmhojkbnfiknpaaQ1
import Derived.Deep.CutBlock
import Derived.Deep.CutRange
import Derived.Deep.DeepCutAuto
import Derived.WalkKit
import Derived.ProofKit
import Derived.OpenShut
import Derived.ShutString
import Derived.ChangeOld
import Derived.Below
import Derived.SizedLaws
namespace Go.Proofs.Ytmhojkbnfiknpaa.diskRuns
open Go.ChangeShapes Go.WideShapes Go.ChangeAt Go.RowKit
open Go.ChangeMaps (open_string shut_string)
set_option linter.unusedVariables false
set_option linter.unusedSimpArgs false

theorem own : ownKnob Try.prog.godebug = none := by kernel_rfl
theorem laidOut : laidOutB Try.prog = true := by kernel_rfl

set_option maxRecDepth 20000 in
set_option maxHeartbeats 12800000 in
/-- The law's own walk. -/
theorem walk (w : World) (a0 : Int) (w0 : (Lit.int .i64 a0).wf = true) (v1 : Value) (x1 : List Actt) (w1 : ActsAt w.heap.size w v1 x1) (l1 : x1.length ≤ 140737488351232) :
    Calls Try.prog 4 #[.int .i64 a0, v1] w fun e w' => e = .returned (.bool true) ∧ Below w.heap.size w w' := by
  have hq := i64_of_wf w0
  clear w0
  obtain ⟨ao, cap, rfl, hc, hm, hacts⟩ := w1
  have hm : cap ≤ 9223372036854775807 := hm
  have qg := guard33
  go_enter Try.func4, Try.ntmps4
  go_wp2_with fail
  refine (c_alive _).mono ?_
  rintro e y1 ⟨rfl, hb1⟩
  go_wp2_with fail
  refine (c_new a0 _).mono ?_
  rintro e y2 ⟨b, S2, rfl, hd2, hf2⟩
  have hb2 := hb1.trans (hf2.below hb1.size (fun _ => False.elim))
  have hbs : w.heap.size ≤ y1.heap.size := hb1.size
  clear hb1 hf2
  go_wp2_with (go_at_call 11; refine stop_here ?_)
  unfold Hid
  refine (c_rnew a0 _).mono ?_
  rintro e y3 ⟨vs0, vp0, rfl, hG3, hf3⟩
  have hb3 := hb2.trans (hf3.below hb2.size (fun _ => False.elim))
  have hsz3 := hf3.size
  obtain ⟨so0, sc0, po0, pc0, rfl, rfl, -, -, -, -⟩ := hG3.form
  have hone0 := r_oneCell (so := so0) (po := po0) (n := (newDk a0).st.length) (m := (newDk a0).pd.length) (sc := sc0) (pc := pc0) (D := newDk a0)
  generalize hvs0 : Value.slice so0 (newDk a0).st.length sc0 = vs0 at *
  generalize hvp0 : Value.slice po0 (newDk a0).pd.length pc0 = vp0 at *
  have hnew := heap_alloc_new y3 (.cells #[.slice none 0 0, .slice none 0 0, .int .i64 0, .bool false] 30)
  have hff : Nw y3 ((y3.alloc (.cells #[.slice none 0 0, .slice none 0 0, .int .i64 0, .bool false] 30)).setRow y3.heap.size (rcells vs0 vp0 (newDk a0)).toArray) := ((Fr.refl _ y3).alloc _).setRow (.inr (Nat.le_refl _)) _
  have hstart : Rh y1.heap.size w ((y3.alloc (.cells #[.slice none 0 0, .slice none 0 0, .int .i64 0, .bool false] 30)).setRow y3.heap.size (rcells vs0 vp0 (newDk a0)).toArray) b y3.heap.size S2 (fun _ => False) (newDk a0) (newDk a0) vs0 vp0 := by
    refine ⟨(hd2.keep hf3 (fun _ _ => id)).keep hff (fun _ _ => id), setRow_heap _ _ _ _ 30 _ hnew, hG3.keep (fun k hk hl => ⟨⟨fun hs => by have := (hd2.ge k hs).2; omega, by omega, id⟩, hff.block k hl id⟩), hb3.trans (hff.below hb3.size (fun _ => False.elim)), hbs, fun hs => by have := (hd2.ge _ hs).2; omega, by have := hb3.size; omega, fun _ => False.elim⟩
  clear hvs0 hvp0
  generalize hW4 : (y3.alloc (.cells #[.slice none 0 0, .slice none 0 0, .int .i64 0, .bool false] 30)).setRow y3.heap.size (rcells vs0 vp0 (newDk a0)).toArray = W4 at *
  have hW4 : Hid ((y3.alloc (.cells #[.slice none 0 0, .slice none 0 0, .int .i64 0, .bool false] 30)).setRow y3.heap.size (rcells vs0 vp0 (newDk a0)).toArray = W4) := hW4
  have hbw := hstart.bel
  by_cases hx2 : x1.length ≤ 200
  · have hx2i : (x1.length : Int) ≤ 200 := by omega
    clear hd2 hb2 hf3 hG3 hb3 hff hbw
    go_wp2_with (first
      | (refine wpList_alloc_agg rfl 30 rfl _ Try.zero30 ?_)
      | (refine wpList_store_all rfl 30 _ _ rfl y3.heap.size rfl (rval vs0 vp0 (newDk a0)) rfl _ rfl _ 30 hnew res_fit hone0 Try.size30 ?_; rw [hW4.out]))
    clear hnew hW4 hone0
    generalize y3.heap.size = F at *
    go_loopw [33] (fun i wr => ∃ (k : Nat) (D R : Dk) (S : Nat → Prop) (vs vp : Value), k ≤ x1.length ∧ i = .int .i64 k ∧ Rh y1.heap.size w wr b F S (fun _ => False) D R vs vp ∧ Same D R ∧ D.pd.length ≤ k) (fun i _ => x1.length - (intOf i).toNat)
    case atStart => exact ⟨0, _, _, S2, _, _, Nat.zero_le _, rfl, hstart, same_new a0, by simp [newDk]⟩
    case round =>
      obtain ⟨k, D, R, S, vs, vp, hk, rfl, hrx, hsm, hpl⟩ := hrel
      clear hstart
      by_cases hlt : k < x1.length
      · obtain ⟨ab, off, rfl, hab, hr0, hok⟩ := hacts k x1[k] (List.getElem?_eq_getElem hlt)
        have hr : wr.rangeAt ab (off + k * 132) (acell x1[k]) := fun j v hv => (World.cell?_of_block (w := w) (a := ⟨ab, off + k * 132 + j, none⟩) (hrx.bel.block ab hab)).trans (hr0 j v hv)
        have hkI : (k : Int) < (x1.length : Int) := by omega
        clear hacts hr0
        generalize x1[k] = act at *
        have hone := acell_oneCell hok
        have hdat := hok.d
        have hv := varA wr (acell zact).toArray act
        have hvz : ((wr.alloc (.cells (acell zact).toArray 36)).setRow wr.heap.size (acell act).toArray).heap.size = wr.heap.size + 1 := by simp [World.setRow]
        generalize hWv : (wr.alloc (.cells (acell zact).toArray 36)).setRow wr.heap.size (acell act).toArray = W at *
        have hWv : Hid ((wr.alloc (.cells (acell zact).toArray 36)).setRow wr.heap.size (acell act).toArray = W) := hWv
        have hn1 := heap_alloc2_old W (.cells (z128.map bv).toArray 33) (.cells (z128.map bv).toArray 33)
        have hn2 := heap_alloc2_new W (.cells (z128.map bv).toArray 33) (.cells (z128.map bv).toArray 33)
        have hf2' : Nw W ((W.alloc (.cells (z128.map bv).toArray 33)).alloc (.cells (z128.map bv).toArray 33)) := ((Fr.refl _ W).alloc _).alloc _
        have hzz : ((W.alloc (.cells (z128.map bv).toArray 33)).alloc (.cells (z128.map bv).toArray 33)).heap.size = W.heap.size + 2 := by simp
        have hz1 : (W.alloc (.cells (z128.map bv).toArray 33)).heap.size = W.heap.size + 1 := by simp
        generalize hWa : (W.alloc (.cells (z128.map bv).toArray 33)).alloc (.cells (z128.map bv).toArray 33) = Wa at *
        have hWa : Hid ((W.alloc (.cells (z128.map bv).toArray 33)).alloc (.cells (z128.map bv).toArray 33) = Wa) := hWa
        have hself : Wa.setRow W.heap.size (z128.map bv).toArray = Wa := setRow_self Wa _ _ 33 _ hn1
        have hself2 : Wa.setRow (W.heap.size + 1) (z128.map bv).toArray = Wa := setRow_self Wa _ _ 33 _ hn2
        have hself : Hid (Wa.setRow W.heap.size (z128.map bv).toArray = Wa) := hself
        have hself2 : Hid (Wa.setRow (W.heap.size + 1) (z128.map bv).toArray = Wa) := hself2
        have hnw : Nw wr Wa := hv.fr.trans hf2' (fun _ => False.elim)
        have hrl := hrx.lay hnw
        have hMa : Wa.heap[wr.heap.size]? = some (.cells (acell act).toArray 36 (0, 0)) := (hf2'.block _ (heap_lt hv.blk) id).trans hv.blk
        rw [hvz] at hn1 hn2 hself hself2 hzz hz1
        rw [hzz] at hrl
        obtain ⟨-, -, -, -, -, hall⟩ := act_cells hMa hdat
        have hok0 := hok
        have hokW : act.Ok w.heap.size Wa := hok.keep' hrl.bel
        have hans := hrx.dk.ok.ans act
        clear hrx hv hf2' hnw hok
        go_wp2_with (first
          | (refine wpList_load_as rfl 36 (.tmp 35) rfl ab (off + k * 132) rfl (actv act) _ rfl hr Try.row36 (size36 hdat) ?_)
          | (refine wpList_alloc_agg rfl 36 rfl _ Try.zero36 ?_)
          | (refine wpList_store_all rfl 36 _ _ rfl wr.heap.size rfl (actv act) rfl _ rfl _ 36 (heap_alloc_new wr _) (act_fit hdat) hone (size36 hdat) ?_; rw [show acell (⟨0, 0, 0, z128, [], .slice none 0 0⟩ : Actt) = acell zact from rfl, hWv.out])
          | (refine wpList_build_as rfl 33 #[] rfl (sec z128) _ rfl Try.built33 ?_; refine stop_here ?_))
        unfold Hid
        go_wp2_with (first
          | (refine wpList_build_as rfl 33 #[] rfl (sec z128) _ rfl Try.built33 ?_)
          | (refine wpList_alloc_agg rfl 33 rfl _ Try.zero33 ?_; first | rw [hWa.out, hz1] | rw [hvz])
          | (refine wpList_store_all rfl 33 (.tmp 9) _ rfl (wr.heap.size + 1) rfl (sec z128) rfl _ rfl _ 33 hn1 rfl (bv_oneCell _) (size33 z128_length) ?_; rw [hself.out])
          | (refine wpList_store_all rfl 33 (.tmp 10) _ rfl (wr.heap.size + 1 + 1) rfl (sec z128) rfl _ rfl _ 33 hn2 rfl (bv_oneCell _) (size33 z128_length) ?_; rw [hself2.out])
          | (refine wpList_load_as rfl 36 (.tmp 8) rfl wr.heap.size 0 rfl (actv act) _ rfl hall Try.row36 (size36 hdat) ?_)
          | (go_at_call 12; refine stop_here ?_))
        unfold Hid
        have hzS : ∀ q, wr.heap.size ≤ q → q < wr.heap.size + 1 + 2 → ¬ S q := fun q h1 h2 => (hrl.nZ q ⟨h1, h2⟩).1
        refine (c_do act _ hrl.dk hokW hbs (by omega)).mono ?_
        rintro e w3 ⟨rfl, hx⟩
        obtain ⟨S3, hr3, hoth⟩ := hrl.done hx
        have hM3 := (hoth _ (by omega) (hzS _ (by omega) (by omega))).trans hMa
        have hP3 := (hoth _ (by omega) (hzS _ (by omega) (by omega))).trans hn1
        have hQ3 := (hoth _ (by omega) (hzS _ (by omega) (by omega))).trans hn2
        have hZP : (fun q => wr.heap.size ≤ q ∧ q < wr.heap.size + 1 + 2) (wr.heap.size + 1) := ⟨by omega, by omega⟩
        have hZQ : (fun q => wr.heap.size ≤ q ∧ q < wr.heap.size + 1 + 2) (wr.heap.size + 1 + 1) := ⟨by omega, by omega⟩
        have hZM : (fun q => wr.heap.size ≤ q ∧ q < wr.heap.size + 1 + 2) wr.heap.size := ⟨by omega, by omega⟩
        have hr4 := hr3.setZ hZP ((D.ans act).map bv).toArray
        have hP4 : (w3.setRow (wr.heap.size + 1) ((D.ans act).map bv).toArray).heap[wr.heap.size + 1]? = some (.cells ((D.ans act).map bv).toArray 33 (0, 0)) := setRow_heap _ _ _ _ 33 _ hP3
        have hM4 : (w3.setRow (wr.heap.size + 1) ((D.ans act).map bv).toArray).heap[wr.heap.size]? = some (.cells (acell act).toArray 36 (0, 0)) := by rw [setRow_other _ _ _ _ (by omega)]; exact hM3
        have hQ4 : (w3.setRow (wr.heap.size + 1) ((D.ans act).map bv).toArray).heap[wr.heap.size + 1 + 1]? = some (.cells (z128.map bv).toArray 33 (0, 0)) := by rw [setRow_other _ _ _ _ (by omega)]; exact hQ3
        have hok4 : act.Ok w.heap.size (w3.setRow (wr.heap.size + 1) ((D.ans act).map bv).toArray) := hok0.keep' hr4.bel
        generalize hW4 : w3.setRow (wr.heap.size + 1) ((D.ans act).map bv).toArray = W4 at *
        have hW4 : Hid (w3.setRow (wr.heap.size + 1) ((D.ans act).map bv).toArray = W4) := hW4
        obtain ⟨c0, c1, c2, c3, c4, -⟩ := act_cells hM4 hdat
        have hlen' : (D.act act).pd.length ≤ k + 1 := act_pd D act k hpl
        clear hrl hoth hx hzS hM3 hQ3 hr3 hMa hn1 hn2 hself hself2 hall hokW hWa hWv hr hone
        generalize wr.heap.size = M at *
        have hpl' : R.pd.length ≤ 1000000 := by rw [hsm.pd]; omega
        go_upto_block 2 with (refine wpList_store_all rfl 33 (.tmp 9) _ rfl (M + 1) rfl (sec (D.ans act)) rfl _ rfl _ 33 hP3 (sec_fit hans) (bv_oneCell _) (size33 hans) ?_; rw [hW4.out])
        go_cut [12] (fun f wc => ∃ (S' : Nat → Prop) (R' : Dk) (vs' vp' : Value), f = .int .i64 (D.aerr act) ∧ Rh y1.heap.size w wc b F S' (fun q => M ≤ q ∧ q < M + 1 + 2) (D.act act) R' vs' vp' ∧ Same (D.act act) R' ∧ wc.heap[M + 1]? = some (.cells ((D.ans act).map bv).toArray 33 (0, 0)) ∧ wc.heap[M + 1 + 1]? = some (.cells ((D.ans act).map bv).toArray 33 (0, 0)))
        case first =>
          obtain ⟨-, -, -, -, -, hrr⟩ := r_cells hr4.rb
          obtain ⟨so, sc, po, pc, rfl, rfl, -, -, -, -⟩ := hr4.rg.form
          generalize hvs : Value.slice so R.st.length sc = vs at *
          generalize hvp : Value.slice po R.pd.length pc = vp at *
          by_cases hk0 : act.kind = 0
          · have e0 : (act.kind == 0) = true := by simpa using hk0
            have q1 : Hid (D.ans act = D.read act.place) := by unfold Hid Dk.ans; simp [hk0]
            have q2 : Hid (D.aerr act = D.rerr act.place) := by unfold Hid Dk.aerr; simp [hk0]
            have q3 : Hid (D.act act = D) := by unfold Hid Dk.act; simp [hk0]
            clear hk0
            go_wp2_with (first
              | (refine wpList_load_as rfl 30 _ rfl F 0 rfl (rval vs vp R) _ rfl hrr Try.row30 Try.size30 ?_)
              | (go_at_call 13; refine stop_here ?_))
            unfold Hid
            have hrl := hr4.rg.ok.read act.place
            refine (c_rread act.place _ hr4.rg).mono ?_
            rw [hsm.read, hsm.rerr] at *
            rintro e w6 ⟨rfl, hf6⟩
            have hr6 := (hr4.keep hf6).setZ hZQ ((D.read act.place).map bv).toArray
            have hQ6 := (hf6.block _ (heap_lt hQ4) id).trans hQ4
            have hQ7 : (w6.setRow (M + 1 + 1) ((D.read act.place).map bv).toArray).heap[M + 1 + 1]? = some (.cells ((D.read act.place).map bv).toArray 33 (0, 0)) := setRow_heap _ _ _ _ 33 _ hQ6
            have hP7 : (w6.setRow (M + 1 + 1) ((D.read act.place).map bv).toArray).heap[M + 1]? = some (.cells ((D.ans act).map bv).toArray 33 (0, 0)) := by rw [setRow_other _ _ _ _ (by omega)]; exact (hf6.block _ (heap_lt hP4) id).trans hP4
            clear hf6
            go_wp2_with (refine wpList_store_all rfl 33 (.tmp 10) _ rfl (M + 1 + 1) rfl (sec (D.read act.place)) rfl _ rfl _ 33 hQ6 (by rw [List.length_map, List.length_map, hrl, z128_length]) (bv_oneCell _) (size33 hrl) ?_)
            go_meet
            case rel => exact ⟨S3, R, vs, vp, by rw [q2.out], hr6, by rw [q3.out]; exact hsm, hP7, by rw [q1.out]; exact hQ7⟩
          · skip
            by_cases hk1 : act.kind = 1
            · have e0 : (act.kind == 0) = false := by simpa using hk0
              have e1 : (act.kind == 1) = true := by simpa using hk1
              have q1 : Hid (D.ans act = z128) := by unfold Hid Dk.ans; simp [hk0]
              have q2 : Hid (D.aerr act = D.werr act.place) := by unfold Hid Dk.aerr; simp [hk0, hk1]
              have q3 : Hid (D.act act = D.write act.place act.data) := by unfold Hid Dk.act; simp [hk0, hk1]
              clear hk1
              go_wp2_with (first
                | (refine wpList_load_as rfl 30 _ rfl F 0 rfl (rval vs vp R) _ rfl hrr Try.row30 Try.size30 ?_)
                | (refine wpList_load_as rfl 33 _ rfl M 3 rfl (sec act.data) _ rfl c3 Try.row33 (size33 hdat) ?_)
                | (go_at_call 14; refine stop_here ?_))
              unfold Hid
              refine (c_rput act.place act.data _ hr4.rg hdat hpl').mono ?_
              rw [hsm.werr]
              rintro e w6 ⟨vs6, vp6, rfl, hG6, hf6⟩
              have hr6 := hr4.ref hf6 hG6
              have hQ7 := (hr4.other hf6 hZQ (rcells vs6 vp6 (R.write act.place act.data)).toArray).trans hQ4
              have hP7 := (hr4.other hf6 hZP (rcells vs6 vp6 (R.write act.place act.data)).toArray).trans hP4
              have hF6 := (hf6.block _ (heap_lt hr4.rb) id).trans hr4.rb
              obtain ⟨so6, sc6, po6, pc6, rfl, rfl, -, -, -, -⟩ := hG6.form
              have hone6 := r_oneCell (so := so6) (po := po6) (n := (R.write act.place act.data).st.length) (m := (R.write act.place act.data).pd.length) (sc := sc6) (pc := pc6) (D := (R.write act.place act.data))
              generalize Value.slice so6 (R.write act.place act.data).st.length sc6 = vs6 at *
              generalize Value.slice po6 (R.write act.place act.data).pd.length pc6 = vp6 at *
              clear hf6 hG6
              go_wp2_with (refine wpList_store_all rfl 30 (.tmp 6) _ rfl F rfl (rval vs6 vp6 (R.write act.place act.data)) rfl _ rfl _ 30 hF6 rfl hone6 Try.size30 ?_)
              go_meet
              case rel => exact ⟨S3, (R.write act.place act.data), vs6, vp6, by rw [q2.out], hr6, by rw [q3.out]; exact (hsm.write act.place act.data), hP7, by rw [q1.out]; exact hQ7⟩
            · skip
              by_cases hk2 : act.kind = 2
              · have e0 : (act.kind == 0) = false := by simpa using hk0
                have e1 : (act.kind == 1) = false := by simpa using hk1
                have e2 : (act.kind == 2) = true := by simpa using hk2
                have q1 : Hid (D.ans act = z128) := by unfold Hid Dk.ans; simp [hk0]
                have q2 : Hid (D.aerr act = D.ferr) := by unfold Hid Dk.aerr; simp [hk0, hk1, hk2]
                have q3 : Hid (D.act act = D.flush) := by unfold Hid Dk.act; simp [hk0, hk1, hk2]
                clear hk2
                go_wp2_with (first
                  | (refine wpList_load_as rfl 30 _ rfl F 0 rfl (rval vs vp R) _ rfl hrr Try.row30 Try.size30 ?_)
                  | (go_at_call 15; refine stop_here ?_))
                unfold Hid
                refine (c_rflush _ hr4.rg).mono ?_
                rw [hsm.ferr]
                rintro e w6 ⟨vs6, vp6, rfl, hG6, hf6⟩
                have hr6 := hr4.ref hf6 hG6
                have hQ7 := (hr4.other hf6 hZQ (rcells vs6 vp6 R.flush).toArray).trans hQ4
                have hP7 := (hr4.other hf6 hZP (rcells vs6 vp6 R.flush).toArray).trans hP4
                have hF6 := (hf6.block _ (heap_lt hr4.rb) id).trans hr4.rb
                obtain ⟨so6, sc6, po6, pc6, rfl, rfl, -, -, -, -⟩ := hG6.form
                have hone6 := r_oneCell (so := so6) (po := po6) (n := R.flush.st.length) (m := R.flush.pd.length) (sc := sc6) (pc := pc6) (D := R.flush)
                generalize Value.slice so6 R.flush.st.length sc6 = vs6 at *
                generalize Value.slice po6 R.flush.pd.length pc6 = vp6 at *
                clear hf6 hG6
                go_wp2_with (refine wpList_store_all rfl 30 (.tmp 6) _ rfl F rfl (rval vs6 vp6 R.flush) rfl _ rfl _ 30 hF6 rfl hone6 Try.size30 ?_)
                go_meet
                case rel => exact ⟨S3, R.flush, vs6, vp6, by rw [q2.out], hr6, by rw [q3.out]; exact hsm.flush, hP7, by rw [q1.out]; exact hQ7⟩
              · skip
                by_cases hk3 : act.kind = 3
                · have e0 : (act.kind == 0) = false := by simpa using hk0
                  have e1 : (act.kind == 1) = false := by simpa using hk1
                  have e2 : (act.kind == 2) = false := by simpa using hk2
                  have e3 : (act.kind == 3) = true := by simpa using hk3
                  have q1 : Hid (D.ans act = z128) := by unfold Hid Dk.ans; simp [hk0]
                  have q2 : Hid (D.aerr act = 0) := by unfold Hid Dk.aerr; simp [hk0, hk1, hk2, hk3]
                  have q3 : Hid (D.act act = D.brk act.place) := by unfold Hid Dk.act; simp [hk0, hk1, hk2, hk3]
                  clear hk3
                  go_wp2_with (first
                    | (refine wpList_load_as rfl 30 _ rfl F 0 rfl (rval vs vp R) _ rfl hrr Try.row30 Try.size30 ?_)
                    | (go_at_call 16; refine stop_here ?_))
                  unfold Hid
                  refine (c_rbreak act.place _ hr4.rg).mono ?_
                  rintro e w6 ⟨rfl, hf6⟩
                  have hG6 := ((hr4.rg.brk act.place hok4.p.2).nw hf6).keep (X' := fun k => (¬ S3 k ∧ k ≠ F ∧ ¬ (M ≤ k ∧ k < M + 1 + 2)) ∨ W4.heap.size ≤ k) (fun _ hk _ => ⟨.inl hk, rfl⟩)
                  have hr6 := hr4.ref hf6 hG6
                  have hQ7 := (hr4.other hf6 hZQ (rcells vs vp (R.rbrk act.place)).toArray).trans hQ4
                  have hP7 := (hr4.other hf6 hZP (rcells vs vp (R.rbrk act.place)).toArray).trans hP4
                  have hF6 := (hf6.block _ (heap_lt hr4.rb) id).trans hr4.rb
                  have hone6 : ∀ u ∈ rcells vs vp (R.rbrk act.place), u.oneCell' = true := by
                    obtain ⟨so6, sc6, po6, pc6, e6, e7, -, -, -, -⟩ := hG6.form
                    rw [e6, e7]; exact r_oneCell
                  clear hf6 hG6
                  go_wp2_with (refine wpList_store_all rfl 30 (.tmp 6) _ rfl F rfl (rval vs vp (R.rbrk act.place)) rfl _ rfl _ 30 hF6 rfl hone6 Try.size30 ?_)
                  go_meet
                  case rel => exact ⟨S3, (R.rbrk act.place), vs, vp, by rw [q2.out], hr6, by rw [q3.out]; exact (hsm.brk act.place), hP7, by rw [q1.out]; exact hQ7⟩
                · skip
                  by_cases hk4 : act.kind = 4
                  · have e0 : (act.kind == 0) = false := by simpa using hk0
                    have e1 : (act.kind == 1) = false := by simpa using hk1
                    have e2 : (act.kind == 2) = false := by simpa using hk2
                    have e3 : (act.kind == 3) = false := by simpa using hk3
                    have e4 : (act.kind == 4) = true := by simpa using hk4
                    have q1 : Hid (D.ans act = z128) := by unfold Hid Dk.ans; simp [hk0]
                    have q2 : Hid (D.aerr act = 0) := by unfold Hid Dk.aerr; simp [hk0, hk1, hk2, hk3, hk4]
                    have q3 : Hid (D.act act = D.crash act.keep act.place act.cut) := by unfold Hid Dk.act; simp [hk0, hk1, hk2, hk3, hk4]
                    clear hk4
                    have hkv : Slp (fun _ => True) W4 act.kv act.keep.length (act.keep.map Value.bool) := (Slp.of_sl hok4.s).keep (fun _ _ _ => ⟨trivial, rfl⟩)
                    obtain ⟨ko, kc, hkk, -, -⟩ := hkv.form
                    rw [hkk] at c4
                    rw [hkk] at hkv
                    go_wp2_with (first
                      | (refine wpList_load_as rfl 30 _ rfl F 0 rfl (rval vs vp R) _ rfl hrr Try.row30 Try.size30 ?_)
                      | (go_at_call 17; refine stop_here ?_))
                    unfold Hid
                    refine (c_rcrash _ act.keep act.place act.cut _ hr4.rg hkv).mono ?_
                    rintro e w6 ⟨vs6, vp6, rfl, hG6, hf6⟩
                    have hr6 := hr4.ref hf6 hG6
                    have hQ7 := (hr4.other hf6 hZQ (rcells vs6 vp6 (R.crash act.keep act.place act.cut)).toArray).trans hQ4
                    have hP7 := (hr4.other hf6 hZP (rcells vs6 vp6 (R.crash act.keep act.place act.cut)).toArray).trans hP4
                    have hF6 := (hf6.block _ (heap_lt hr4.rb) id).trans hr4.rb
                    have hone6 : ∀ u ∈ rcells vs6 vp6 (R.crash act.keep act.place act.cut), u.oneCell' = true := by
                      obtain ⟨so6, sc6, po6, pc6, e6, e7, -, -, -, -⟩ := hG6.form
                      rw [e6, e7]; exact r_oneCell
                    clear hf6 hG6
                    go_wp2_with (refine wpList_store_all rfl 30 (.tmp 6) _ rfl F rfl (rval vs6 vp6 (R.crash act.keep act.place act.cut)) rfl _ rfl _ 30 hF6 rfl hone6 Try.size30 ?_)
                    go_meet
                    case rel => exact ⟨S3, (R.crash act.keep act.place act.cut), vs6, vp6, by rw [q2.out], hr6, by rw [q3.out]; exact (hsm.crash act.keep act.place act.cut), hP7, by rw [q1.out]; exact hQ7⟩
                  · skip
                    have e0 : (act.kind == 0) = false := by simpa using hk0
                    have e1 : (act.kind == 1) = false := by simpa using hk1
                    have e2 : (act.kind == 2) = false := by simpa using hk2
                    have e3 : (act.kind == 3) = false := by simpa using hk3
                    have e4 : (act.kind == 4) = false := by simpa using hk4
                    have q1 : Hid (D.ans act = z128) := by unfold Hid Dk.ans; simp [hk0]
                    have q2 : Hid (D.aerr act = 0) := by unfold Hid Dk.aerr; simp [hk0, hk1, hk2, hk3, hk4]
                    have q3 : Hid (D.act act = D) := by unfold Hid Dk.act; simp [hk0, hk1, hk2, hk3, hk4]
                    go_wp2
                    go_meet
                    case rel => exact ⟨S3, R, vs, vp, by rw [q2.out], hr4, by rw [q3.out]; exact hsm, hP4, by rw [q1.out]; exact hQ4⟩
        case rest =>
          obtain ⟨S', R', vs', vp', rfl, hr5, hsm5, hP5, hQ5⟩ := hcut
          clear hr4 hsm hP4 hM4 hQ4 hok4 c0 c1 c2 c3 c4 hW4 hP3
          generalize D.act act = E at *
          obtain ⟨st', pd', l', dd'⟩ := R'
          obtain ⟨t1, t2, t3, t4⟩ := hsm5
          simp only at t1 t2 t3
          subst t1
          subst t2
          subst t3
          have hE : E.pd.length ≤ 1000000 := by omega
          generalize D.ans act = an at *
          have qn := neq33 an an hans hans
          simp only [BEq.rfl, Bool.not_true] at qn
          generalize D.aerr act = er at *
          have hlen2 : E.pd.length ≤ k + 1 := hlen'
          clear hpl hlen' hpl'
          go_wp2_with (go_at_call 18; refine stop_here ?_)
          unfold Hid
          refine (c_pending _ hr5.dk hE).mono ?_
          rintro e w7 ⟨rfl, hL7, hf7⟩
          have hr7 := hr5.keep hf7
          have hP7 := (hf7.block _ (heap_lt hP5) id).trans hP5
          have hQ7 := (hf7.block _ (heap_lt hQ5) id).trans hQ5
          have hLF : wc.heap.size ≠ F := fun e => by have := heap_lt hr5.rb; omega
          generalize wc.heap.size = L at *
          obtain ⟨so6, sc6, po6, pc6, hvs6, hvp6, g1, g2, g3, g4⟩ := hr7.rg.form
          simp only at hvs6 hvp6 g1 g3
          subst hvs6
          subst hvp6
          obtain ⟨f0, f1, -, f3, -, -⟩ := r_cells hr7.rb
          simp only at f3
          clear hr5 hP5 hQ5 hf7
          have hQ : (fun w' : World => w'.rangeAt (M + 1) 0 (an.map bv) ∧ w'.rangeAt (M + 1 + 1) 0 (an.map bv) ∧ w'.cell? ⟨F, 0, none⟩ = some (.slice so6 E.st.length sc6) ∧ w'.cell? ⟨F, 1, none⟩ = some (.slice po6 E.pd.length pc6) ∧ w'.cell? ⟨F, 3, none⟩ = some (.bool E.dead)) w7.drew := ⟨(World.rangeAt_drew ..).2 (range_all hP7), (World.rangeAt_drew ..).2 (range_all hQ7), by rw [World.cell?_drew]; exact f0, by rw [World.cell?_drew]; exact f1, by rw [World.cell?_drew]; exact f3⟩
          have hr8 := hr7.keep (wr' := w7.drew) (Fr.refl (fun _ => False) w7).drew
          have hL8 : w7.drew.heap[L]? = some (.cells ((E.pd.map (·.1)).map iv).toArray 3 (0, 0)) := hL7
          go_wp2
          refine wp_region_ord [] 30 [(0, true), (1, true), (2, true), (3, true), (4, true), (5, true), (6, true), (7, true), (8, true), (9, true), (11, true), (12, true), (10, false), (13, true), (14, true), (15, true), (16, true), (18, true), (19, true), (20, true), (17, false), (21, true), (22, true), (23, true), (24, true), (25, true), (26, true), (27, true), (28, true), (29, true)] (fun w' : World => w'.rangeAt (M + 1) 0 (an.map bv) ∧ w'.rangeAt (M + 1 + 1) 0 (an.map bv) ∧ w'.cell? ⟨F, 0, none⟩ = some (.slice so6 E.st.length sc6) ∧ w'.cell? ⟨F, 1, none⟩ = some (.slice po6 E.pd.length pc6) ∧ w'.cell? ⟨F, 3, none⟩ = some (.bool E.dead)) (by kernel_rfl) (by kernel_rfl) ?_
          refine ord_quietL _ (sec an) rfl hQ rfl ?_ ?_
          · rintro w' ⟨hQ1, -⟩
            exact run_load_quiet 33 _ w' rfl (M + 1) 0 rfl _ hQ1 Try.row33 (size33 hans)
          simp only [Act.put, List.setIfInBounds_toArray, List.set_cons_zero, List.set_cons_succ]
          refine ord_quietL _ (sec an) rfl hQ rfl ?_ ?_
          · rintro w' ⟨-, hQ1, -⟩
            exact run_load_quiet 33 _ w' rfl (M + 1 + 1) 0 rfl _ hQ1 Try.row33 (size33 hans)
          simp only [Act.put, List.setIfInBounds_toArray, List.set_cons_zero, List.set_cons_succ]
          refine ord_quietL _ ?_ rfl hQ rfl ?_ ?_
          rotate_left
          · rintro w' ⟨hQ1, hQ2, hQ3, hQ4, hQ5⟩; go_simp; rfl
          simp only [Act.put, List.setIfInBounds_toArray, List.set_cons_zero, List.set_cons_succ]
          refine ord_quietL _ ?_ rfl hQ rfl ?_ ?_
          rotate_left
          · rintro w' ⟨hQ1, hQ2, hQ3, hQ4, hQ5⟩; go_simp; rfl
          simp only [Act.put, List.setIfInBounds_toArray, List.set_cons_zero, List.set_cons_succ]
          refine ord_quietL _ ?_ rfl hQ rfl ?_ ?_
          rotate_left
          · rintro w' ⟨hQ1, hQ2, hQ3, hQ4, hQ5⟩; go_simp; rfl
          simp only [Act.put, List.setIfInBounds_toArray, List.set_cons_zero, List.set_cons_succ]
          refine ord_quietL _ ?_ rfl hQ rfl ?_ ?_
          rotate_left
          · rintro w' ⟨hQ1, hQ2, hQ3, hQ4, hQ5⟩; go_simp; rfl
          simp only [Act.put, List.setIfInBounds_toArray, List.set_cons_zero, List.set_cons_succ]
          refine ord_quietL _ ?_ rfl hQ rfl ?_ ?_
          rotate_left
          · rintro w' ⟨hQ1, hQ2, hQ3, hQ4, hQ5⟩; go_simp; rfl
          simp only [Act.put, List.setIfInBounds_toArray, List.set_cons_zero, List.set_cons_succ]
          refine ord_quietL _ ?_ rfl hQ rfl ?_ ?_
          rotate_left
          · rintro w' ⟨hQ1, hQ2, hQ3, hQ4, hQ5⟩; go_simp; rfl
          simp only [Act.put, List.setIfInBounds_toArray, List.set_cons_zero, List.set_cons_succ]
          refine ord_quietL _ ?_ rfl hQ rfl ?_ ?_
          rotate_left
          · rintro w' ⟨hQ1, hQ2, hQ3, hQ4, hQ5⟩; go_simp; rfl
          simp only [Act.put, List.setIfInBounds_toArray, List.set_cons_zero, List.set_cons_succ]
          refine ord_quietL _ ?_ rfl hQ rfl ?_ ?_
          rotate_left
          · rintro w' ⟨hQ1, hQ2, hQ3, hQ4, hQ5⟩; go_simp; rfl
          simp only [Act.put, List.setIfInBounds_toArray, List.set_cons_zero, List.set_cons_succ]
          refine ord_quietL _ ?_ rfl hQ rfl ?_ ?_
          rotate_left
          · rintro w' ⟨hQ1, hQ2, hQ3, hQ4, hQ5⟩; go_simp; rfl
          simp only [Act.put, List.setIfInBounds_toArray, List.set_cons_zero, List.set_cons_succ]
          refine ord_quietL _ ?_ rfl hQ rfl ?_ ?_
          rotate_left
          · rintro w' ⟨hQ1, hQ2, hQ3, hQ4, hQ5⟩; go_simp; rfl
          simp only [Act.put, List.setIfInBounds_toArray, List.set_cons_zero, List.set_cons_succ]
          refine ord_actL _ rfl (fun K1 hK1 => ?_)
          go_wp2_with (go_at_call 19; refine (c_dead _ hr8.dk).mono ?_; rintro e w9 ⟨rfl, rfl⟩)
          refine hK1 _ _ hQ ?_
          try simp only [Act.put, List.setIfInBounds_toArray, List.set_cons_zero, List.set_cons_succ]
          refine ord_quietL _ ?_ rfl hQ rfl ?_ ?_
          rotate_left
          · rintro w' ⟨hQ1, hQ2, hQ3, hQ4, hQ5⟩; go_simp; rfl
          simp only [Act.put, List.setIfInBounds_toArray, List.set_cons_zero, List.set_cons_succ]
          refine ord_quietL _ ?_ rfl hQ rfl ?_ ?_
          rotate_left
          · rintro w' ⟨hQ1, hQ2, hQ3, hQ4, hQ5⟩; go_simp; rfl
          simp only [Act.put, List.setIfInBounds_toArray, List.set_cons_zero, List.set_cons_succ]
          refine ord_quietL _ ?_ rfl hQ rfl ?_ ?_
          rotate_left
          · rintro w' ⟨hQ1, hQ2, hQ3, hQ4, hQ5⟩; go_simp; rfl
          simp only [Act.put, List.setIfInBounds_toArray, List.set_cons_zero, List.set_cons_succ]
          refine ord_quietL _ ?_ rfl hQ rfl ?_ ?_
          rotate_left
          · rintro w' ⟨hQ1, hQ2, hQ3, hQ4, hQ5⟩; go_simp; rfl
          simp only [Act.put, List.setIfInBounds_toArray, List.set_cons_zero, List.set_cons_succ]
          refine ord_quietL _ ?_ rfl hQ rfl ?_ ?_
          rotate_left
          · rintro w' ⟨hQ1, hQ2, hQ3, hQ4, hQ5⟩; go_simp; rfl
          simp only [Act.put, List.setIfInBounds_toArray, List.set_cons_zero, List.set_cons_succ]
          refine ord_quietL _ ?_ rfl hQ rfl ?_ ?_
          rotate_left
          · rintro w' ⟨hQ1, hQ2, hQ3, hQ4, hQ5⟩; go_simp; rfl
          simp only [Act.put, List.setIfInBounds_toArray, List.set_cons_zero, List.set_cons_succ]
          refine ord_quietL _ ?_ rfl hQ rfl ?_ ?_
          rotate_left
          · rintro w' ⟨hQ1, hQ2, hQ3, hQ4, hQ5⟩; go_simp; rfl
          simp only [Act.put, List.setIfInBounds_toArray, List.set_cons_zero, List.set_cons_succ]
          refine ord_actL _ rfl (fun K2 hK2 => ?_)
          go_wp2_with (go_at_call 10; refine (c_len _ hr8.dk).mono ?_; rintro e w9 ⟨rfl, rfl⟩)
          refine hK2 _ _ hQ ?_
          try simp only [Act.put, List.setIfInBounds_toArray, List.set_cons_zero, List.set_cons_succ]
          refine ord_quietL _ ?_ rfl hQ rfl ?_ ?_
          rotate_left
          · rintro w' ⟨hQ1, hQ2, hQ3, hQ4, hQ5⟩; go_simp; rfl
          simp only [Act.put, List.setIfInBounds_toArray, List.set_cons_zero, List.set_cons_succ]
          refine ord_quietL _ ?_ rfl hQ rfl ?_ ?_
          rotate_left
          · rintro w' ⟨hQ1, hQ2, hQ3, hQ4, hQ5⟩; go_simp; rfl
          simp only [Act.put, List.setIfInBounds_toArray, List.set_cons_zero, List.set_cons_succ]
          refine ord_quietL _ ?_ rfl hQ rfl ?_ ?_
          rotate_left
          · rintro w' ⟨hQ1, hQ2, hQ3, hQ4, hQ5⟩; go_simp; rfl
          simp only [Act.put, List.setIfInBounds_toArray, List.set_cons_zero, List.set_cons_succ]
          refine ord_quietL _ ?_ rfl hQ rfl ?_ ?_
          rotate_left
          · rintro w' ⟨hQ1, hQ2, hQ3, hQ4, hQ5⟩; go_simp; rfl
          simp only [Act.put, List.setIfInBounds_toArray, List.set_cons_zero, List.set_cons_succ]
          refine ord_quietL _ ?_ rfl hQ rfl ?_ ?_
          rotate_left
          · rintro w' ⟨hQ1, hQ2, hQ3, hQ4, hQ5⟩; go_simp; rfl
          simp only [Act.put, List.setIfInBounds_toArray, List.set_cons_zero, List.set_cons_succ]
          refine ord_quietL _ ?_ rfl hQ rfl ?_ ?_
          rotate_left
          · rintro w' ⟨hQ1, hQ2, hQ3, hQ4, hQ5⟩; go_simp; rfl
          simp only [Act.put, List.setIfInBounds_toArray, List.set_cons_zero, List.set_cons_succ]
          refine ord_quietL _ ?_ rfl hQ rfl ?_ ?_
          rotate_left
          · rintro w' ⟨hQ1, hQ2, hQ3, hQ4, hQ5⟩; go_simp; rfl
          simp only [Act.put, List.setIfInBounds_toArray, List.set_cons_zero, List.set_cons_succ]
          refine ord_quietL _ ?_ rfl hQ rfl ?_ ?_
          rotate_left
          · rintro w' ⟨hQ1, hQ2, hQ3, hQ4, hQ5⟩; go_simp; rfl
          simp only [Act.put, List.setIfInBounds_toArray, List.set_cons_zero, List.set_cons_succ]
          refine ord_quietL _ ?_ rfl hQ rfl ?_ ?_
          rotate_left
          · rintro w' ⟨hQ1, hQ2, hQ3, hQ4, hQ5⟩; go_simp; rfl
          simp only [Act.put, List.setIfInBounds_toArray, List.set_cons_zero, List.set_cons_succ]
          refine ord_tail ?_
          simp only [List.drop_succ_cons, List.drop_zero]
          clear hQ hr7 hL7 hP7 hQ7 f0 f1 f3 qn
          generalize w7.drew = w8 at *
          go_wp2
          clear qg
          go_loopw [125] (fun x wr => ∃ j : Nat, j ≤ E.pd.length ∧ x = .int .i64 j ∧ Rh y1.heap.size w wr b F S' (fun q => M ≤ q ∧ q < M + 1 + 2) E ⟨E.st, E.pd, l', E.dead⟩ (.slice so6 E.st.length sc6) (.slice po6 E.pd.length pc6) ∧ wr.heap[L]? = some (.cells ((E.pd.map (·.1)).map iv).toArray 3 (0, 0))) (fun x _ => E.pd.length - (intOf x).toNat)
          case atStart => exact ⟨0, Nat.zero_le _, rfl, hr8, hL8⟩
          case round =>
            obtain ⟨j, hj, rfl, hrj, hLj⟩ := hrel
            clear hr8 hL8
            by_cases hjl : j < E.pd.length
            · obtain ⟨pb, poff, hpo, hpr, hp4, hp5⟩ := hrj.rg.prange rfl j hjl
              subst hpo
              have hjI : (j : Int) < (E.pd.length : Int) := by omega
              have hc1 : wr.cell? ⟨L, j, none⟩ = some (.int .i64 ((E.pd[j].1 : Nat) : Int)) := cell_blk hLj (by simp [hjl, iv])
              have hc2 : wr.cell? ⟨pb, poff + j * 129, none⟩ = some (.int .i64 ((E.pd[j].1 : Nat) : Int)) := by have := hpr 0 _ rfl; simpa using this
              obtain ⟨-, f1, -, -, -, -⟩ := r_cells hrj.rb
              generalize E.pd[j] = pj at *
              have hQ : (fun w' : World => w'.cell? ⟨L, j, none⟩ = some (.int .i64 ((pj.1 : Nat) : Int)) ∧ w'.cell? ⟨F, 1, none⟩ = some (.slice (some ⟨pb, poff, none⟩) E.pd.length pc6) ∧ w'.cell? ⟨pb, poff + j * 129, none⟩ = some (.int .i64 ((pj.1 : Nat) : Int))) wr.drew := ⟨by rw [World.cell?_drew]; exact hc1, by rw [World.cell?_drew]; exact f1, by rw [World.cell?_drew]; exact hc2⟩
              have hrd := hrj.keep (wr' := wr.drew) (Fr.refl (fun _ => False) wr).drew
              have hLd : wr.drew.heap[L]? = some (.cells ((E.pd.map (·.1)).map iv).toArray 3 (0, 0)) := hLj
              clear hrj hLj hpr hc1 hc2 f1
              go_wp2
              refine wp_region_ord [] 10 [(0, true), (1, true), (2, true), (3, true), (4, true), (5, true), (6, true), (7, true), (8, true), (9, true)] (fun w' : World => w'.cell? ⟨L, j, none⟩ = some (.int .i64 ((pj.1 : Nat) : Int)) ∧ w'.cell? ⟨F, 1, none⟩ = some (.slice (some ⟨pb, poff, none⟩) E.pd.length pc6) ∧ w'.cell? ⟨pb, poff + j * 129, none⟩ = some (.int .i64 ((pj.1 : Nat) : Int))) (by kernel_rfl) (by kernel_rfl) ?_
              refine ord_quietL _ ?_ rfl hQ rfl ?_ ?_
              rotate_left
              · rintro w' ⟨hQ1, hQ2, hQ3⟩; go_simp; rfl
              simp only [Act.put, List.setIfInBounds_toArray, List.set_cons_zero, List.set_cons_succ]
              refine ord_quietL _ ?_ rfl hQ rfl ?_ ?_
              rotate_left
              · rintro w' ⟨hQ1, hQ2, hQ3⟩; go_simp; rfl
              simp only [Act.put, List.setIfInBounds_toArray, List.set_cons_zero, List.set_cons_succ]
              refine ord_quietL _ ?_ rfl hQ rfl ?_ ?_
              rotate_left
              · rintro w' ⟨hQ1, hQ2, hQ3⟩; go_simp; rfl
              simp only [Act.put, List.setIfInBounds_toArray, List.set_cons_zero, List.set_cons_succ]
              refine ord_quietL _ ?_ rfl hQ rfl ?_ ?_
              rotate_left
              · rintro w' ⟨hQ1, hQ2, hQ3⟩; go_simp; rfl
              simp only [Act.put, List.setIfInBounds_toArray, List.set_cons_zero, List.set_cons_succ]
              refine ord_quietL _ ?_ rfl hQ rfl ?_ ?_
              rotate_left
              · rintro w' ⟨hQ1, hQ2, hQ3⟩; go_simp; rfl
              simp only [Act.put, List.setIfInBounds_toArray, List.set_cons_zero, List.set_cons_succ]
              refine ord_quietL _ ?_ rfl hQ rfl ?_ ?_
              rotate_left
              · rintro w' ⟨hQ1, hQ2, hQ3⟩; go_simp; rfl
              simp only [Act.put, List.setIfInBounds_toArray, List.set_cons_zero, List.set_cons_succ]
              refine ord_quietL _ ?_ rfl hQ rfl ?_ ?_
              rotate_left
              · rintro w' ⟨hQ1, hQ2, hQ3⟩; go_simp; rfl
              simp only [Act.put, List.setIfInBounds_toArray, List.set_cons_zero, List.set_cons_succ]
              refine ord_quietL _ ?_ rfl hQ rfl ?_ ?_
              rotate_left
              · rintro w' ⟨hQ1, hQ2, hQ3⟩; go_simp; rfl
              simp only [Act.put, List.setIfInBounds_toArray, List.set_cons_zero, List.set_cons_succ]
              refine ord_quietL _ ?_ rfl hQ rfl ?_ ?_
              rotate_left
              · rintro w' ⟨hQ1, hQ2, hQ3⟩; go_simp; rfl
              simp only [Act.put, List.setIfInBounds_toArray, List.set_cons_zero, List.set_cons_succ]
              refine ord_quietL _ ?_ rfl hQ rfl ?_ ?_
              rotate_left
              · rintro w' ⟨hQ1, hQ2, hQ3⟩; go_simp; rfl
              simp only [Act.put, List.setIfInBounds_toArray, List.set_cons_zero, List.set_cons_succ]
              refine ord_tail ?_
              simp only [List.drop_succ_cons, List.drop_zero]
              clear hQ
              generalize wr.drew = w9 at *
              go_wp2
              go_roundw
              case rel => exact ⟨j + 1, by omega, by go_num, hrd, hLd⟩
              case measure => simp [intOf]; omega
            · have hfin := hrj.drop
              clear hrj hLj
              go_wp2
              go_roundw
              case rel =>
                exact ⟨k + 1, E, ⟨E.st, E.pd, l', E.dead⟩, S', _, _, by omega, by go_num, hfin, ⟨rfl, rfl, rfl, t4⟩, hlen2⟩
              case measure => simp [intOf]; omega
      · clear hacts
        have hok3 : ∀ z : Int, Hid (R.get z = D.get z) := fun z => hsm.get z
        obtain ⟨so6, sc6, po6, pc6, hvs6, hvp6, g1, g2, g3, g4⟩ := hrx.rg.form
        subst hvs6
        subst hvp6
        have hn := hrx.rg.ok.n
        clear hpl
        go_wp2
        go_loopw [15] (fun x wr => ∃ z : Int, -1 ≤ z ∧ z ≤ 40 ∧ x = .int .i64 z ∧ Rh y1.heap.size w wr b F S (fun _ => False) D R (.slice so6 R.st.length sc6) (.slice po6 R.pd.length pc6)) (fun x _ => (41 - intOf x).toNat)
        case atStart => exact ⟨-1, by omega, by omega, rfl, hrx⟩
        case round =>
          obtain ⟨z, hz1, hz2, rfl, hrz⟩ := hrel
          clear hrx
          obtain ⟨f0, -, -, -, -, hrr⟩ := r_cells hrz.rb
          have hgl := hrz.dk.ok.get z
          have qn := neq33 (D.get z) (D.get z) hgl hgl
          simp only [BEq.rfl, Bool.not_true] at qn
          by_cases hgo : z ≤ (R.st.length : Int) ∧ z < 40
          · obtain ⟨hg1, hg2⟩ := hgo
            have hQ : (fun w' : World => w'.rangeAt F 0 (rcells (.slice so6 R.st.length sc6) (.slice po6 R.pd.length pc6) R)) wr.drew := (World.rangeAt_drew ..).2 hrr
            have hrd := hrz.keep (wr' := wr.drew) (Fr.refl (fun _ => False) wr).drew
            clear hrz hrr
            go_wp2
            refine wp_region_ord [] 6 [(0, true), (1, true), (3, true), (4, true), (2, false), (5, false)] (fun w' : World => w'.rangeAt F 0 (rcells (.slice so6 R.st.length sc6) (.slice po6 R.pd.length pc6) R)) (by kernel_rfl) (by kernel_rfl) ?_
            refine ord_quietL _ ?_ rfl hQ rfl ?_ ?_
            rotate_left
            · rintro w' hQ1; go_simp; rfl
            simp only [Act.put, List.setIfInBounds_toArray, List.set_cons_zero, List.set_cons_succ]
            refine ord_quietL _ ?_ rfl hQ rfl ?_ ?_
            rotate_left
            · rintro w' hQ1; go_simp; rfl
            simp only [Act.put, List.setIfInBounds_toArray, List.set_cons_zero, List.set_cons_succ]
            refine ord_quietL _ (rval (.slice so6 R.st.length sc6) (.slice po6 R.pd.length pc6) R) rfl hQ rfl ?_ ?_
            · rintro w' hQ1
              exact run_load_quiet 30 _ w' rfl F 0 rfl _ hQ1 Try.row30 Try.size30
            simp only [Act.put, List.setIfInBounds_toArray, List.set_cons_zero, List.set_cons_succ]
            refine ord_quietL _ ?_ rfl hQ rfl ?_ ?_
            rotate_left
            · rintro w' hQ1; go_simp; rfl
            simp only [Act.put, List.setIfInBounds_toArray, List.set_cons_zero, List.set_cons_succ]
            refine ord_actL _ rfl (fun K1 hK1 => ?_)
            go_wp2_with (go_at_call 20; refine (c_stable z _ hrd.dk).mono ?_; rintro e w9 ⟨rfl, hf9⟩)
            have hr9 := hrd.keep hf9
            refine hK1 _ _ (range_all hr9.rb) ?_
            try simp only [Act.put, List.setIfInBounds_toArray, List.set_cons_zero, List.set_cons_succ]
            refine ord_actL _ rfl (fun K2 hK2 => ?_)
            go_wp2_with (go_at_call 21; refine (c_rat z _ hr9.rg).mono ?_; rw [(hok3 z).out]; rintro e w10 ⟨rfl, hf10⟩)
            have hr10 := hr9.keep hf10
            refine hK2 _ _ (range_all hr10.rb) ?_
            refine ord_tail ?_
            simp only [List.drop_succ_cons, List.drop_zero, Act.put, List.setIfInBounds_toArray, List.set_cons_zero, List.set_cons_succ]
            clear hrd hr9 hf9 hf10 hK1 hK2 hQ
            go_wp2
            go_roundw
            case rel => exact ⟨z + 1, by omega, by omega, by go_num, hr10⟩
            case measure => simp [intOf]; omega
          · have hfin := hrz.bel
            clear hrz hrr
            go_wp2
            all_goals
              first
              | (exfalso; omega)
              | (go_ret; exact ⟨rfl, hfin⟩)
  · go_wp2_with (first
      | (refine wpList_alloc_agg rfl 30 rfl _ Try.zero30 ?_)
      | (refine wpList_store_all rfl 30 _ _ rfl y3.heap.size rfl (rval vs0 vp0 (newDk a0)) rfl _ rfl _ 30 hnew res_fit hone0 Try.size30 ?_; rw [hW4.out]))
    all_goals
      first
      | (exfalso; omega)
      | (go_ret; exact ⟨rfl, hbw⟩)

set_option maxRecDepth 100000 in
theorem lifted (os : Os) (started : os.Started) (H : Type) (enc : TypeId × Value → H) :
    ReturnsInHanded {} Try.checked os 4 .any (Rows.diskRunsSpec.pre6 enc Try.prog Try.f4 Rows.diskRunsRow.domain false) (Rows.diskRunsSpec.post enc Try.prog Try.f4 false true false false) := by
  refine returnsInHanded_of_change_sized (C := Try.checked) own started (by kernel_rfl) Try.func4
    (ChangeSpec.witness6 (enc := enc) (C := Try.checked) false ⟨#[], #[.int .i64 0, .slice none 0 0], []⟩ 8 (by kernel_rfl) (by kernel_rfl) (by kernel_rfl) (by kernel_rfl)) ?_
  intro W base args ds gs before hval0 hW hcnd hsz0 _
  have hval : ∀ (j : Nat) t v, Try.f4.params[j]? = some t → args[j]? = some v → Value.okWide Try.prog W .any base t v := hval0
  have hsz : (DataW.weightsEach Try.prog (Try.f4.params.toList ++ Rows.diskRunsSpec.plain.varTypes Try.prog) (ds ++ gs)).all (· ≤ reachBytes) = true := hsz0
  have hW' := hW
  obtain ⟨p, q, hA0, hV, rfl, hfz, hnd⟩ := hW
  have hA : DataW.TrodAll enc Try.prog W 0 (fun _ => true) true Try.f4.params.toList args.toList ds p := hA0
  rw [Try.params4] at hA hval hsz
  obtain ⟨v0, vs0, d0, ds0, p0, q0, hargs, rfl, rfl, h0, r0⟩ := trodAll_cons hA
  obtain ⟨v1, vs1, d1, ds1, p1, q1, rfl, rfl, rfl, h1, r1⟩ := trodAll_cons r0
  obtain ⟨rfl, rfl, rfl⟩ := trodAll_nil r1
  obtain rfl : args = #[v0, v1] := by cases args; simp_all
  obtain ⟨rfl, rfl⟩ := trodVars_none hV
  obtain ⟨a0, rfl, rfl, rfl, w0⟩ := open_int Try.underlying3 (hval 0 3 v0 rfl rfl) h0
  obtain ⟨a1, len1, cap1, rfl⟩ := okWide_slice Try.underlying26 (hval 1 26 v1 rfl rfl)
  have k1 := h1
  have lt1 : ∀ x ∈ p1, x.block < W.heap.size := by obtain ⟨m, hm⟩ := k1; exact DataW.trod_lt m _ _ _ hm
  obtain ⟨x1, w1, l1⟩ : ∃ xs : List Actt, ActsAt W.heap.size W (.slice a1 len1 cap1) xs ∧ xs.length ≤ 140737488351232 := by
    obtain ⟨fuel, hf⟩ := h1
    exact open_acts (v := .slice a1 len1 cap1) hf (fun n hn => by have := List.all_eq_true.1 hsz n (DataW.weights_mem_each (j := 1) (t := 26) rfl rfl n hn); simpa using this)
  clear hA0 hval0
  refine (walk W a0 w0 _ x1 w1 l1).mono fun e W' ⟨he, bel⟩ => ?_
  subst he
  exact ⟨_, rfl, _, _, _, [], _, [], hW', trodAll_mk1 (shut_bool Try.underlying4 _), (trodAll_cons_mk (shut_int Try.underlying3 w0) (trodAll_cons_mk (Below.trod laidOut (by kernel_rfl) (of_decide_eq_true (by kernel_rfl)) k1 bel lt1) trodAll_mk0)), rfl, bel.frame _, fun h => by cases h⟩

theorem over : Rows.diskRunsRow.holds Try.pinned (OpenSpec.ofChange Rows.diskRunsSpec) :=
  OpenClaim.holds_of_wide 4 Try.f4 rfl rfl rfl rfl rfl rfl rfl ⟨rfl, rfl, rfl, rfl, rfl⟩ rfl rfl rfl rfl rfl (by kernel_rfl) Try.func4 (by kernel_rfl)
    (of_decide_eq_true (by kernel_rfl)) (by unfold Func.isWrapper; first | (rw [if_pos (by decide +kernel)]; kernel_rfl) | (rw [if_neg (by decide +kernel)]; exact ⟨rfl, rfl⟩))
    (fun os started H enc _ => lifted os started H enc)
end Go.Proofs.Ytmhojkbnfiknpaa.diskRuns
namespace Go.Proofs.Ytmhojkbnfiknpaa
/-- The given statement. -/
theorem diskRuns_holds : Rows.DiskRunsSaid := diskRuns.over
end Go.Proofs.Ytmhojkbnfiknpaa
