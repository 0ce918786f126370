/-
  DiskKeeps returns true for all acts and every crash: what is flushed stays; each other sector is, byte by byte, as it was flushed or as one of the writes behind had it.
  Conditions: none; the statement is the given one, for every input.
-/
import Derived.Test.YtmhojkbnfiknpaaRows
import Derived.Test.YtmhojkbnfiknpaaK1
import Derived.WalkKit
import Derived.ProofKit
import Derived.OpenShut
import Derived.ShutString
import Derived.ChangeOld
import Derived.Below
import Derived.SizedLaws
namespace Go.Proofs.Ytmhojkbnfiknpaa.diskKeeps
open Go.ChangeShapes Go.WideShapes Go.ChangeAt Go.RowKit
open Go.ChangeMaps (open_string shut_string)
set_option linter.unusedVariables false
set_option linter.unusedSimpArgs false

theorem own : ownKnob Try.prog.godebug = none := by kernel_rfl
theorem laidOut : laidOutB Try.prog = true := by kernel_rfl

set_option maxRecDepth 20000 in
set_option maxHeartbeats 6400000 in
/-- The law's own walk. -/
theorem walk (w : World) (v0 : Value) (x0 : List Actt) (w0 : ActsAt w.heap.size w v0 x0) (l0 : x0.length ≤ 140737488351232) (v1 : Value) (x1 : List Bool) (w1 : Sl w.heap.size w v1 x1.length (x1.map Value.bool)) (l1 : x1.length ≤ 140737488351232) (a2 b2 : Int) (w2 : (Lit.int .i64 a2).wf = true) (u2 : (Lit.int .i64 b2).wf = true) :
    Calls Try.prog 5 #[v0, v1, .agg #[.int .i64 a2, .int .i64 b2]] w fun e w' => e = .returned (.bool true) ∧ Below w.heap.size w w' := by
  obtain ⟨ao, cap, rfl, hc, hm, hacts⟩ := w0
  have hm : cap ≤ 9223372036854775807 := hm
  have hal : Try.prog.arrayLen 55 = 8 := by kernel_rfl
  have hal3 : Try.prog.arrayLen 33 = 128 := by kernel_rfl
  have hal54 : Try.prog.arrayLen 54 = 2 := by kernel_rfl
  obtain ⟨j36, hj, hj0, hj1, hj2⟩ := info36
  obtain ⟨i4, hi4, hi5, hi6, hi7⟩ := info4
  obtain ⟨ko, kc, hv1⟩ : ∃ ko kc, v1 = .slice ko x1.length kc := by obtain ⟨ao, cap, hv, _⟩ := w1; exact ⟨ao, cap, hv⟩
  subst hv1
  go_enter Try.func5, Try.ntmps5
  go_wp2_with fail
  refine (c_alive _).mono ?_
  rintro e u1 ⟨rfl, hb1⟩
  go_wp2_with fail
  refine (c_new 8 _).mono ?_
  rintro e u2 ⟨b, S2, rfl, hd2, hf2⟩
  have hb1' : Below (w.heap.size + 1) (w.alloc (.cells #[.int .i64 a2, .int .i64 b2] 54)) u1 := by simpa using hb1
  have hstart := cx_start hb1' hd2 hf2
  by_cases hx2 : x0.length ≤ 200
  · have hx2i : (x0.length : Int) ≤ 200 := by omega
    have hnew := heap_alloc_new u2 (.cells flat8.toArray 55)
    have hz3 : ((u2.alloc (.cells flat8.toArray 55)).setRow u2.heap.size flat8.toArray).heap.size = u2.heap.size + 1 := by simp [World.setRow]
    generalize hW3 : (u2.alloc (.cells flat8.toArray 55)).setRow u2.heap.size flat8.toArray = W3 at *
    have hW3 : Hid ((u2.alloc (.cells flat8.toArray 55)).setRow u2.heap.size flat8.toArray = W3) := hW3
    clear hd2 hb1 hb1' hf2
    go_wp2_with (first
      | (refine wpList_build_as rfl 55 #[] rfl fl8v _ rfl Try.built55 ?_)
      | (refine wpList_alloc_agg rfl 55 rfl _ Try.zero55 ?_)
      | (refine wpList_store_all rfl 55 _ _ rfl u2.heap.size rfl fl8v rfl _ rfl _ 55 hnew rfl flat8_oneCell size55 ?_; rw [hW3.out])
      | (refine wpList_buildSlice0 rfl 26 36 rfl Try.underlying26 (by kernel_rfl) ?_; rw [hz3]))
    clear hnew hW3 hz3
    go_loopw [9, 36] (fun sv i wr => ∃ (k : Nat) (D : Dk) (S : Nat → Prop) (fl : List (List UInt8)) (sn : List Actt), k ≤ x0.length ∧ i = .int .i64 k ∧ Cx u1.heap.size w wr b u2.heap.size w.heap.size S D fl sv sn a2 b2 ∧ D.st = fl ∧ D.pd = sn.map pw ∧ sn.length ≤ k) (fun _ i _ => x0.length - (intOf i).toNat)
    case atStart => exact ⟨0, _, _, _, [], Nat.zero_le _, rfl, hstart, by kernel_rfl, rfl, Nat.le_refl _⟩
    case round =>
      obtain ⟨k, D, S, fl, sn, hk, rfl, hcx, hst, hpd, hsn⟩ := hrel
      clear hstart
      have h8 : D.st.length = 8 := by rw [hst]; exact hcx.fl8
      have hpl : D.pd.length ≤ 1000000 := by rw [hpd, List.length_map]; omega
      by_cases hlt : k < x0.length
      · obtain ⟨ab, off, rfl, hab, hr0, hok⟩ := hacts k x0[k] (List.getElem?_eq_getElem hlt)
        have hr : wr.rangeAt ab (off + k * 132) (acell x0[k]) := fun j v hv => (World.cell?_of_block (w := w) (a := ⟨ab, off + k * 132 + j, none⟩) (hcx.bel.block ab hab)).trans (hr0 j v hv)
        have hkI : (k : Int) < (x0.length : Int) := by omega
        clear hacts hr0
        generalize x0[k] = act at *
        have hone := acell_oneCell hok
        have hdat := hok.d
        have hv := varA wr (acell zact).toArray act
        generalize hWv : (wr.alloc (.cells (acell zact).toArray 36)).setRow wr.heap.size (acell act).toArray = W at *
        have hWv : Hid ((wr.alloc (.cells (acell zact).toArray 36)).setRow wr.heap.size (acell act).toArray = W) := hWv
        have hblk := hv.blk
        obtain ⟨hc0, hc1, -, hc3, -, hall⟩ := act_cells hblk hdat
        have hcW := hcx.keep hv.fr
        have hMl := heap_lt hblk
        have hSM : ¬ S wr.heap.size := fun hs => by have := (hcx.dk.ge _ hs).2; omega
        have hsM : u9.ownBlock ≠ some wr.heap.size := fun e => by have := (hcx.sb.lt _ e).2; omega
        obtain ⟨so, sc, rfl, hsc, hscm, -⟩ := hcx.get
        clear hcx hv
        by_cases hk1 : act.kind = 1
        · have e1 : (act.kind == 1) = true := by simpa using hk1
          have e2 : (act.kind == 2) = false := by rw [hk1]; rfl
          have e3 : (act.kind == 3) = false := by rw [hk1]; rfl
          go_wp2_with (first
            | (refine wpList_load_as rfl 36 _ rfl ab (off + k * 132) rfl (actv act) _ rfl hr Try.row36 (size36 hdat) ?_)
            | (refine wpList_alloc_agg rfl 36 rfl _ Try.zero36 ?_)
            | (refine wpList_store_all rfl 36 _ _ rfl wr.heap.size rfl (actv act) rfl _ rfl _ 36 (heap_alloc_new wr _) (act_fit hdat) hone (size36 hdat) ?_; rw [show acell (⟨0, 0, 0, z128, [], .slice none 0 0⟩ : Actt) = acell zact from rfl, hWv.out])
            | (refine wpList_load_as rfl 33 _ rfl wr.heap.size 3 rfl (sec act.data) _ rfl hc3 Try.row33 (size33 hdat) ?_)
            | (go_at_call 22; refine stop_here ?_))
          unfold Hid
          refine (c_write act.place act.data _ hcW.dk hdat hpl).mono ?_
          by_cases hwe : D.werr act.place = 0
          · have hwo := write_ok (s := act.data) hwe h8
            rw [hwe]
            rintro e w5 ⟨rfl, hx⟩
            obtain ⟨S5, hc5, hoth⟩ := hcW.done hx
            have hM5 := (hoth _ hMl hSM).trans hblk
            have hMl5 := heap_lt hM5
            obtain ⟨d0, d1, -, d3, -, dall⟩ := act_cells hM5 hdat
            generalize D.write act.place act.data = D5 at *
            obtain ⟨hq1, hq2, hq3, hq4⟩ := hwo
            clear hoth hx hcW hblk hc0 hc1 hc3 hall
            have hown7 := hc5.sb.alloc (.cells (acell act).toArray 36)
            have hlies := sl_lit w5 (acell act).toArray 36 1 (by omega)
            have hbz : w.heap.size ≤ (w5.alloc (.cells (acell act).toArray 36)).heap.size := by have := hc5.bel.size; simp; omega
            generalize hW7 : w5.alloc (.cells (acell act).toArray 36) = W7 at *
            have hW7 : Hid (w5.alloc (.cells (acell act).toArray 36) = W7) := hW7
            go_wp2_with (first
              | (refine wpList_load_as rfl 36 (.tmp 11) rfl wr.heap.size 0 rfl (actv act) _ rfl dall Try.row36 (size36 hdat) ?_)
              | (refine wpList_buildSlice1 rfl 26 36 _ rfl (actv act) rfl (acell act) rfl Try.underlying26 (size36 hdat) (by kernel_rfl) (by rw [acell_length hdat]; omega) (by rw [acell_length hdat]; omega) ?_; rw [hW7.out])
              | (at_builtin; refine wpList_append_sl _ rfl _ _ 26 rfl w.heap.size 36 j36 _ 132 176 Try.underlying26 hj hj0 hj1 hj2 rfl (by decide) _ _ _ rfl hown7 _ _ 1 _ rfl hlies (by rw [acell_length hdat]) hone (by unfold maxLen; omega) (by omega) hbz (fun v8 w8 hown8 hg8 hat8 => stop_here ?_)))
            unfold Hid
            obtain ⟨hc8, hoth8⟩ := hc5.push act ⟨hok, hq3, hq4⟩ _ hown8 (by rw [hW7.out]; exact hg8) (by rw [hW7.out]; exact hat8)
            have hM8 := (hoth8 _ hMl5 hsM).trans hM5
            obtain ⟨f0, -, -, -, -, -⟩ := act_cells hM8 hdat
            obtain ⟨ao8, cap8, rfl⟩ := owns_form hown8
            clear hoth8 hown8 hg8 hat8 hlies hown7 hc5
            go_wp2
            go_roundw
            case rel => exact ⟨k + 1, D5, S5, fl, sn ++ [act], by omega, by go_num, hc8, by rw [hq1]; exact hst, by rw [hq2, hpd, List.map_append]; rfl, by rw [List.length_append]; simp; omega⟩
            case measure => simp [intOf]; omega
          · have hwo := write_no (s := act.data) hwe
            have e4 : (D.werr act.place == 0) = false := by simpa using hwe
            generalize D.werr act.place = we at *
            rintro e w5 ⟨rfl, hx⟩
            obtain ⟨S5, hc5, hoth⟩ := hcW.done hx
            have hM5 := (hoth _ hMl hSM).trans hblk
            obtain ⟨d0, d1, -, d3, -, dall⟩ := act_cells hM5 hdat
            generalize D.write act.place act.data = D5 at *
            obtain ⟨hq1, hq2⟩ := hwo
            clear hoth hx hcW hblk hc0 hc1 hc3 hall
            go_wp2
            go_roundw
            case rel => exact ⟨k + 1, D5, S5, fl, sn, by omega, by go_num, hc5, by rw [hq1]; exact hst, by rw [hq2]; exact hpd, by omega⟩
            case measure => simp [intOf]; omega
        · have e1 : (act.kind == 1) = false := by simpa using hk1
          by_cases hk2 : act.kind = 2
          · have e2 : (act.kind == 2) = true := by simpa using hk2
            have e3 : (act.kind == 3) = false := by rw [hk2]; rfl
            go_wp2_with (first
              | (refine wpList_load_as rfl 36 _ rfl ab (off + k * 132) rfl (actv act) _ rfl hr Try.row36 (size36 hdat) ?_)
              | (refine wpList_alloc_agg rfl 36 rfl _ Try.zero36 ?_)
              | (refine wpList_store_all rfl 36 _ _ rfl wr.heap.size rfl (actv act) rfl _ rfl _ 36 (heap_alloc_new wr _) (act_fit hdat) hone (size36 hdat) ?_; rw [show acell (⟨0, 0, 0, z128, [], .slice none 0 0⟩ : Actt) = acell zact from rfl, hWv.out])
              | (go_at_call 23; refine stop_here ?_))
            unfold Hid
            refine (c_flush _ hcW.dk).mono ?_
            by_cases hfe : D.ferr = 0
            · have hfo := flush_ok hfe
              rw [hfe]
              rintro e w5 ⟨rfl, hx⟩
              obtain ⟨S5, hc5, hoth⟩ := hcW.done hx
              have hM5 := (hoth _ hMl hSM).trans hblk
              generalize D.flush = D5 at *
              obtain ⟨hq1, hq2⟩ := hfo
              have hq1 : Hid (D5.st = applied D.st D.pd) := hq1
              have hq2 : Hid (D5.pd = []) := hq2
              have hst : Hid (D.st = fl) := hst
              have hpd : Hid (D.pd = sn.map pw) := hpd
              have hMF : wr.heap.size ≠ u2.heap.size := fun e => by have := heap_lt hcW.fb; exact absurd (hoth _ hMl hSM) (fun _ => by have h1 := hcW.fb; rw [← e, hblk] at h1; simp at h1)
              clear hoth hx hcW hblk hc0 hc1 hc3 hall hr hWv hone hMl hSM hsM
              generalize wr.heap.size = M at *
              go_wp2
              go_loopw [66] (fun j wr => ∃ m : Nat, m ≤ sn.length ∧ j = .int .i64 m ∧ Cx u1.heap.size w wr b u2.heap.size w.heap.size S5 D5 (applied fl ((sn.map pw).take m)) (.slice so sn.length sc) sn a2 b2 ∧ wr.heap[M]? = some (.cells (acell act).toArray 36 (0, 0))) (fun j _ => sn.length - (intOf j).toNat)
              case atStart => exact ⟨0, Nat.zero_le _, rfl, hc5, hM5⟩
              case round =>
                obtain ⟨m, hm1, rfl, hcm, hMm⟩ := hrel
                by_cases hml : m < sn.length
                · obtain ⟨so', sc', hsv, -, -, hget⟩ := hcm.get
                  obtain ⟨g, e9, hrg⟩ := hget m hml
                  simp only [Value.slice.injEq, true_and] at hsv
                  obtain ⟨rfl, rfl⟩ := hsv
                  subst e9
                  obtain ⟨hok2, hp0, hp8⟩ := hcm.sok _ (List.getElem_mem hml)
                  have H1 : Hid (applied fl ((sn.map pw).take (m + 1)) = (applied fl ((sn.map pw).take m)).set sn[m].place.toNat sn[m].data) := by
                    have := applied_take_succ fl (sn.map pw) m (by simpa using hml)
                    rw [List.getElem_map] at this
                    exact this
                  have hmI : (m : Int) < (sn.length : Int) := by omega
                  have hfl8 := hcm.fl8
                  have hfs := hcm.fsec
                  generalize hAA : applied fl ((sn.map pw).take m) = AA at *
                  generalize sn[m] = ac2 at *
                  obtain ⟨pl, hpl2⟩ : ∃ pl : Nat, ac2.place = (pl : Int) := ⟨ac2.place.toNat, by omega⟩
                  have hone2 := acell_oneCell hok2
                  have hdat2 := hok2.d
                  have hv2 := varA wr (acell zact).toArray ac2
                  generalize hWv2 : (wr.alloc (.cells (acell zact).toArray 36)).setRow wr.heap.size (acell ac2).toArray = W2 at *
                  have hWv2 : Hid ((wr.alloc (.cells (acell zact).toArray 36)).setRow wr.heap.size (acell ac2).toArray = W2) := hWv2
                  obtain ⟨-, c1, -, c3, -, -⟩ := act_cells hv2.blk hdat2
                  have hcm2 := hcm.keep hv2.fr
                  have hM2 := (hv2.fr.block _ (heap_lt hMm) id).trans hMm
                  rw [hpl2] at c1 hp8 H1
                  have hp8' : pl < AA.length := by omega
                  have hcs := hcm2.setF (AA.set pl ac2.data) (by rw [List.length_set]; exact hfl8) (fun s hs => by
                    rcases List.mem_or_eq_of_mem_set hs with h1 | rfl
                    · exact hfs s h1
                    · exact hdat2)
                  have hMs : (W2.setRow u2.heap.size (flat (AA.set pl ac2.data)).toArray).heap[M]? = some (.cells (acell act).toArray 36 (0, 0)) := by rw [setRow_other _ _ _ _ hMF]; exact hM2
                  have hfb := hcm2.fb
                  generalize hWs : W2.setRow u2.heap.size (flat (AA.set pl ac2.data)).toArray = Ws at *
                  have hWs : Hid (W2.setRow u2.heap.size (flat (AA.set pl ac2.data)).toArray = Ws) := hWs
                  clear hcm hget hv2 hcm2 hM2 hMm
                  go_wp2_with (first
                    | (refine wpList_load_as rfl 36 _ rfl g (m * 132) rfl (actv ac2) _ rfl hrg Try.row36 (size36 hdat2) ?_)
                    | (refine wpList_alloc_agg rfl 36 rfl _ Try.zero36 ?_)
                    | (refine wpList_store_all rfl 36 _ _ rfl wr.heap.size rfl (actv ac2) rfl _ rfl _ 36 (heap_alloc_new wr _) (act_fit hdat2) hone2 (size36 hdat2) ?_; rw [show acell (⟨0, 0, 0, z128, [], .slice none 0 0⟩ : Actt) = acell zact from rfl, hWv2.out])
                    | (refine wpList_load_as rfl 33 _ rfl wr.heap.size 3 rfl (sec ac2.data) _ rfl c3 Try.row33 (size33 hdat2) ?_)
                    | (refine wpList_store_as rfl 33 _ _ rfl u2.heap.size (pl * 128) rfl (sec ac2.data) rfl _ rfl _ 55 hfb (by rw [List.length_map, hdat2, flat_length hfs]; omega) (bv_oneCell _) (size33 hdat2) ?_; rw [flat_set hfs pl hp8' ac2.data hdat2, hWs.out]))
                  go_roundw
                  case rel => exact ⟨m + 1, by omega, by go_num, by rw [H1.out]; exact hcs, hMs⟩
                  case measure => simp [intOf]; omega
                · have htk : (sn.map pw).take m = sn.map pw := List.take_of_length_le (by rw [List.length_map]; omega)
                  rw [htk] at hcm
                  have hce := hcm.clear
                  have hMe : (wr.alloc (.cells #[] 36)).heap[M]? = some (.cells (acell act).toArray 36 (0, 0)) := (Below.heap_alloc wr _ _ (heap_lt hMm)).trans hMm
                  obtain ⟨f0, -, -, -, -, -⟩ := act_cells hMe hdat
                  generalize hWe : wr.alloc (.cells #[] 36) = We at *
                  have hWe : Hid (wr.alloc (.cells #[] 36) = We) := hWe
                  clear hcm hMm hMe
                  go_wp2_with (refine wpList_buildSlice0 rfl 26 36 rfl Try.underlying26 (by kernel_rfl) ?_; rw [hWe.out])
                  go_roundw
                  case rel => exact ⟨k + 1, D5, S5, _, [], by omega, by go_num, hce, by rw [hq1.out, hst.out, hpd.out], hq2.out, by simp⟩
                  case measure => simp [intOf]; omega
            · have hfo := flush_no hfe
              have e4 : (D.ferr == 0) = false := by simpa using hfe
              generalize D.ferr = fe at *
              rintro e w5 ⟨rfl, hx⟩
              obtain ⟨S5, hc5, hoth⟩ := hcW.done hx
              have hM5 := (hoth _ hMl hSM).trans hblk
              obtain ⟨d0, d1, -, d3, -, dall⟩ := act_cells hM5 hdat
              generalize D.flush = D5 at *
              obtain ⟨hq1, hq2⟩ := hfo
              clear hoth hx hcW hblk hc0 hc1 hc3 hall
              go_wp2
              go_roundw
              case rel => exact ⟨k + 1, D5, S5, fl, sn, by omega, by go_num, hc5, by rw [hq1]; exact hst, by rw [hq2]; exact hpd, by omega⟩
              case measure => simp [intOf]; omega
          · have e2 : (act.kind == 2) = false := by simpa using hk2
            by_cases hk3 : act.kind = 3
            · have e3 : (act.kind == 3) = true := by simpa using hk3
              go_wp2_with (first
                | (refine wpList_load_as rfl 36 _ rfl ab (off + k * 132) rfl (actv act) _ rfl hr Try.row36 (size36 hdat) ?_)
                | (refine wpList_alloc_agg rfl 36 rfl _ Try.zero36 ?_)
                | (refine wpList_store_all rfl 36 _ _ rfl wr.heap.size rfl (actv act) rfl _ rfl _ 36 (heap_alloc_new wr _) (act_fit hdat) hone (size36 hdat) ?_; rw [show acell (⟨0, 0, 0, z128, [], .slice none 0 0⟩ : Actt) = acell zact from rfl, hWv.out])
                | (go_at_call 24; refine stop_here ?_))
              unfold Hid
              refine (c_break act.place _ hcW.dk hok.p.1 hok.p.2).mono ?_
              rintro e w5 ⟨rfl, hx⟩
              obtain ⟨S5, hc5, -⟩ := hcW.done hx
              clear hx hcW hblk hc0 hc1 hc3 hall
              go_wp2
              go_roundw
              case rel => exact ⟨k + 1, _, S5, fl, sn, by omega, by go_num, hc5, hst, hpd, by omega⟩
              case measure => simp [intOf]; omega
            · have e3 : (act.kind == 3) = false := by simpa using hk3
              clear hblk hc1 hc3 hall
              go_wp2_with (first
                | (refine wpList_load_as rfl 36 _ rfl ab (off + k * 132) rfl (actv act) _ rfl hr Try.row36 (size36 hdat) ?_)
                | (refine wpList_alloc_agg rfl 36 rfl _ Try.zero36 ?_)
                | (refine wpList_store_all rfl 36 _ _ rfl wr.heap.size rfl (actv act) rfl _ rfl _ 36 (heap_alloc_new wr _) (act_fit hdat) hone (size36 hdat) ?_; rw [show acell (⟨0, 0, 0, z128, [], .slice none 0 0⟩ : Actt) = acell zact from rfl, hWv.out]))
              go_roundw
              case rel => exact ⟨k + 1, D, S, fl, sn, by omega, by go_num, hcW, hst, hpd, by omega⟩
              case measure => simp [intOf]; omega
      · clear hacts
        obtain ⟨so, sc, rfl, hsc, hscm, -⟩ := hcx.get
        have hQ : (fun w' : World => w'.cell? ⟨w.heap.size, 0, none⟩ = some (.int .i64 a2) ∧ w'.cell? ⟨w.heap.size, 1, none⟩ = some (.int .i64 b2)) wr.drew := ⟨by rw [World.cell?_drew]; exact cell_blk hcx.ab rfl, by rw [World.cell?_drew]; exact cell_blk hcx.ab rfl⟩
        have hAl := heap_lt hcx.ab
        have hws := hcx.bel.size
        go_wp2
        refine wp_region_ord [] 8 [(0, true), (2, true), (4, true), (5, true), (6, true), (7, true), (1, false), (3, false)] (fun w' : World => w'.cell? ⟨w.heap.size, 0, none⟩ = some (.int .i64 a2) ∧ w'.cell? ⟨w.heap.size, 1, none⟩ = some (.int .i64 b2)) (by kernel_rfl) (by kernel_rfl) ?_
        refine ord_quietL _ ?_ rfl hQ rfl ?_ ?_
        rotate_left
        · rintro w' ⟨hQ1, hQ2⟩; go_simp; rfl
        simp only [Act.put, List.setIfInBounds_toArray, List.set_cons_zero, List.set_cons_succ]
        refine ord_quietL _ ?_ rfl hQ rfl ?_ ?_
        rotate_left
        · rintro w' ⟨hQ1, hQ2⟩; go_simp; rfl
        simp only [Act.put, List.setIfInBounds_toArray, List.set_cons_zero, List.set_cons_succ]
        refine ord_quietL _ ?_ rfl hQ rfl ?_ ?_
        rotate_left
        · rintro w' ⟨hQ1, hQ2⟩; go_simp; rfl
        simp only [Act.put, List.setIfInBounds_toArray, List.set_cons_zero, List.set_cons_succ]
        refine ord_quietL _ ?_ rfl hQ rfl ?_ ?_
        rotate_left
        · rintro w' ⟨hQ1, hQ2⟩; go_simp; rfl
        simp only [Act.put, List.setIfInBounds_toArray, List.set_cons_zero, List.set_cons_succ]
        refine ord_quietL _ ?_ rfl hQ rfl ?_ ?_
        rotate_left
        · rintro w' ⟨hQ1, hQ2⟩; go_simp; rfl
        simp only [Act.put, List.setIfInBounds_toArray, List.set_cons_zero, List.set_cons_succ]
        refine ord_quietL _ ?_ rfl hQ rfl ?_ ?_
        rotate_left
        · rintro w' ⟨hQ1, hQ2⟩; go_simp; rfl
        simp only [Act.put, List.setIfInBounds_toArray, List.set_cons_zero, List.set_cons_succ]
        refine ord_actL _ rfl (fun K1 hK1 => ?_)
        refine wpList_buildSlice0 rfl 34 4 rfl Try.underlying34 (by kernel_rfl) ?_
        have hown1 : (wr.drew.alloc (.cells #[] 4)).ownsRow w.heap.size 4 1 (.slice (some ⟨wr.heap.size, 0, none⟩) 0 0) 0 [] := World.ownsRow_lit wr.drew #[] 0 (by show w.heap.size ≤ wr.heap.size; omega) (by decide) rfl
        have hs1 : Sl w.heap.size (wr.drew.alloc (.cells #[] 4)) (.slice ko x1.length kc) x1.length (x1.map Value.bool) := w1.keep (hcx.bel.drew.alloc (by show w.heap.size ≤ wr.heap.size; omega) _)
        have hQ1 : (fun w' : World => w'.cell? ⟨w.heap.size, 0, none⟩ = some (.int .i64 a2) ∧ w'.cell? ⟨w.heap.size, 1, none⟩ = some (.int .i64 b2)) (wr.drew.alloc (.cells #[] 4)) := by
          refine ⟨?_, ?_⟩
          · rw [World.cell?_alloc_lt _ _ _ (by show w.heap.size < wr.heap.size; omega)]; exact hQ.1
          · rw [World.cell?_alloc_lt _ _ _ (by show w.heap.size < wr.heap.size; omega)]; exact hQ.2
        have hsz1 : (wr.drew.alloc (.cells #[] 4)).heap.size = wr.heap.size + 1 := by simp
        have hnw1 : Nw wr (wr.drew.alloc (.cells #[] 4)) := ((Fr.refl (fun _ => False) wr).drew).alloc _
        have hN1 : wr.drew.heap.size = wr.heap.size := rfl
        generalize wr.drew.alloc (.cells #[] 4) = W1 at *
        rw [hN1]
        refine wpList_nil (hK1 _ _ hQ1 ?_)
        simp only [Act.put, List.setIfInBounds_toArray, List.set_cons_zero, List.set_cons_succ]
        refine ord_actL _ rfl (fun K4 hK4 => ?_)
        refine wpList_append_sl _ rfl _ _ 34 rfl w.heap.size 4 i4 _ 1 1 Try.underlying34 hi4 hi5 hi6 hi7 rfl (by decide) (.slice (some ⟨wr.heap.size, 0, none⟩) 0 0) 0 [] rfl hown1 w.heap.size _ x1.length _ rfl hs1 (by simp) (bool_oneCell _) ?d1 ?d2 (by omega) ?_
        case d1 => unfold maxLen; omega
        case d2 => omega
        intro v4 w4 hown4 hg4 hat4
        have hnw4 : Nw wr w4 := by
          refine ⟨hg4.os.trans hnw1.os, hg4.tape.trans hnw1.tape, hg4.output.trans hnw1.output, by have := hg4.size; omega, fun k hk _ => (hg4.block k (by omega) (by simp [Value.ownBlock]; omega)).trans (hnw1.block k hk id)⟩
        have hc4 := hcx.keep hnw4
        have hQ4 : (fun w' : World => w'.cell? ⟨w.heap.size, 0, none⟩ = some (.int .i64 a2) ∧ w'.cell? ⟨w.heap.size, 1, none⟩ = some (.int .i64 b2)) w4 := ⟨cell_blk hc4.ab rfl, cell_blk hc4.ab rfl⟩
        have hkp : Slp (fun k => ¬ S k) w4 v4 x1.length (x1.map Value.bool) := by
          have hs4 := slp_of_owns hown4
          simp only [Nat.zero_add, List.nil_append] at hs4
          refine hs4.keep (fun k hk _ => ⟨fun hs => ?_, rfl⟩)
          have := (hcx.dk.ge k hs).2
          rcases hat4 with e | e
          · rw [e] at hk; simp [Value.ownBlock] at hk; omega
          · rw [e] at hk; simp at hk; omega
        obtain ⟨vo, vc, rfl⟩ := owns_form hown4
        simp only [Nat.zero_add] at hkp
        refine wpList_nil (hK4 _ _ hQ4 ?_)
        refine ord_tail ?_
        simp only [Nat.zero_add, List.drop_succ_cons, List.drop_zero, Act.put, List.setIfInBounds_toArray, List.set_cons_zero, List.set_cons_succ]
        clear hK4 hK1 hQ4 hQ1 hQ hown4 hg4 hat4 hown1 hs1 hcx hnw1 hnw4
        go_wp2_with (go_at_call 25; refine stop_here ?_)
        unfold Hid
        refine (c_crash _ x1 a2 b2 _ hc4.dk hkp).mono ?_
        rintro e w5 ⟨rfl, hx⟩
        obtain ⟨S5, hc5, -⟩ := hc4.done hx
        have hES : Hid ((D.crash x1 a2 b2).st = crashN fl (sn.map pw) (size1 x1 a2 b2) (sn.map pw).length) := by
          show crashN D.st D.pd (size1 x1 a2 b2) D.pd.length = _
          rw [hst, hpd]
        have hEd : (D.crash x1 a2 b2).dead = false := rfl
        have hEf : (D.crash x1 a2 b2).ferr = 0 := rfl
        have hsz : ∀ n, size1 x1 a2 b2 n ≤ 128 := size1_le x1 a2 b2
        generalize D.crash x1 a2 b2 = E at *
        have hok : ∀ m n : Nat, m < 8 → Hid (okN m n (E.get (m : Int)) (fl.getD m z128) sn sn.length = true) := fun m n hm8 => by
          have e1 : E.get (m : Int) = E.st.getD m z128 := by
            unfold Dk.get
            have : E.has (m : Int) = true := by unfold Dk.has; rw [hES.out, crashN_length, hc5.fl8]; simp; omega
            rw [if_pos this, Int.toNat_natCast]
          have := okN_all (st := fl) (sn := sn) (sz := size1 x1 a2 b2) hc5.fsec (fun a ha => ⟨(hc5.sok a ha).1.d, (hc5.sok a ha).2.1⟩) hsz m n (by rw [hc5.fl8]; exact hm8)
          rw [e1, hES.out]
          exact this
        clear hx hc4 hkp hst hpd hES hsz h8 hpl
        go_wp2
        go_loopw [94] (fun i wr => ∃ m : Nat, m ≤ 8 ∧ i = .int .i64 m ∧ Cx u1.heap.size w wr b u2.heap.size w.heap.size S5 E fl (.slice so sn.length sc) sn a2 b2) (fun i _ => 8 - (intOf i).toNat)
        case atStart => exact ⟨0, by omega, rfl, hc5⟩
        case round =>
          obtain ⟨m, hm8, rfl, hcm⟩ := hrel
          clear hc5
          by_cases hml : m < 8
          · have hmI : (m : Int) < 8 := by omega
            have hokm := fun n => hok m n hml
            clear hok
            go_wp2_with (go_at_call 20; refine stop_here ?_)
            unfold Hid
            have hgl := hcm.dk.ok.get (m : Int)
            refine (c_stable (m : Int) _ hcm.dk).mono ?_
            generalize E.get (m : Int) = now at *
            rintro e w6 ⟨rfl, hf6⟩
            have hc6 := hcm.keep hf6
            have hm6 := made w6
            have hff := hm6.fin now
            have hc7 := hc6.keep hff
            have hN7 : ((w6.alloc (.cells (z128.map bv).toArray 33)).setRow w6.heap.size (now.map bv).toArray).heap[w6.heap.size]? = some (.cells (now.map bv).toArray 33 (0, 0)) := setRow_heap _ _ _ _ 33 _ hm6.new
            have hnew := hm6.new
            generalize hW7 : (w6.alloc (.cells (z128.map bv).toArray 33)).setRow w6.heap.size (now.map bv).toArray = W7 at *
            have hW7 : Hid ((w6.alloc (.cells (z128.map bv).toArray 33)).setRow w6.heap.size (now.map bv).toArray = W7) := hW7
            have hflm : (fl.getD m z128).length = 128 := by
              rw [List.getD_eq_getElem?_getD, List.getElem?_eq_getElem (by rw [hcm.fl8]; exact hml)]
              exact hcm.fsec _ (List.getElem_mem _)
            have hmfl : m < fl.length := by rw [hcm.fl8]; exact hml
            have hflg : fl.getD m z128 = fl[m]'hmfl := by rw [List.getD_eq_getElem?_getD, List.getElem?_eq_getElem hmfl]; rfl
            clear hcm hf6 hc6 hff hm6
            go_wp2_with (first
              | (refine wpList_alloc_agg rfl 33 rfl _ Try.zero33 ?_)
              | (refine wpList_store_all rfl 33 _ _ rfl w6.heap.size rfl (sec now) rfl _ rfl _ 33 hnew (sec_fit hgl) (bv_oneCell _) (size33 hgl) ?_; rw [hW7.out]))
            clear hnew hW7
            generalize w6.heap.size = N7 at *
            go_loopw [100] (fun i wr => ∃ n : Nat, n ≤ 128 ∧ i = .int .i64 n ∧ Cx u1.heap.size w wr b u2.heap.size w.heap.size S5 E fl (.slice so sn.length sc) sn a2 b2 ∧ wr.heap[N7]? = some (.cells (now.map bv).toArray 33 (0, 0))) (fun i _ => 128 - (intOf i).toNat)
            case atStart => exact ⟨0, by omega, rfl, hc7, hN7⟩
            case round =>
              obtain ⟨n, hn8, rfl, hcn, hNn⟩ := hrel
              clear hc7 hN7
              by_cases hnl : n < 128
              · have hnI : (n : Int) < 128 := by omega
                have hon := hokm n
                have hcell1 : wr.cell? ⟨N7, n, none⟩ = some (.int .u8 (bi now n)) := cell_blk hNn (by
                  simp only [List.getElem?_toArray, List.getElem?_map, List.getElem?_eq_getElem (show n < now.length by omega)]
                  simp [bi, bv, List.getD_eq_getElem?_getD, List.getElem?_eq_getElem (show n < now.length by omega)])
                have hcell2 : wr.cell? ⟨u2.heap.size, m * 128 + n, none⟩ = some (.int .u8 (bi (fl.getD m z128) n)) := cell_blk hcn.fb (by
                  have := flat_get hcn.fsec m (by rw [hcn.fl8]; exact hml) n hnl
                  rw [← hflg, List.getElem?_map, List.getElem?_eq_getElem (show n < (fl.getD m z128).length by omega)] at this
                  simp only [List.getElem?_toArray, this]
                  unfold bi bv
                  rw [List.getD_eq_getElem?_getD (l := fl.getD m z128), List.getElem?_eq_getElem (show n < (fl.getD m z128).length by omega)]
                  rfl)
                have hQ : (fun w' : World => w'.cell? ⟨N7, n, none⟩ = some (.int .u8 (bi now n)) ∧ w'.cell? ⟨u2.heap.size, m * 128 + n, none⟩ = some (.int .u8 (bi (fl.getD m z128) n))) wr.drew := ⟨by rw [World.cell?_drew]; exact hcell1, by rw [World.cell?_drew]; exact hcell2⟩
                clear hflg
                generalize fl.getD m z128 = flm at *
                go_wp2
                refine wp_region_ord [] 9 [(0, true), (1, true), (2, true), (3, true), (4, true), (5, true), (6, true), (7, true), (8, true)] (fun w' : World => w'.cell? ⟨N7, n, none⟩ = some (.int .u8 (bi now n)) ∧ w'.cell? ⟨u2.heap.size, m * 128 + n, none⟩ = some (.int .u8 (bi flm n))) (by kernel_rfl) (by kernel_rfl) ?_
                refine ord_quietL _ ?_ rfl hQ rfl ?_ ?_
                rotate_left
                · rintro w' ⟨hQ1, hQ2⟩; go_simp; rfl
                simp only [Act.put, List.setIfInBounds_toArray, List.set_cons_zero, List.set_cons_succ]
                refine ord_quietL _ ?_ rfl hQ rfl ?_ ?_
                rotate_left
                · rintro w' ⟨hQ1, hQ2⟩; go_simp; rfl
                simp only [Act.put, List.setIfInBounds_toArray, List.set_cons_zero, List.set_cons_succ]
                refine ord_quietL _ ?_ rfl hQ rfl ?_ ?_
                rotate_left
                · rintro w' ⟨hQ1, hQ2⟩; go_simp; rfl
                simp only [Act.put, List.setIfInBounds_toArray, List.set_cons_zero, List.set_cons_succ]
                refine ord_quietL _ ?_ rfl hQ rfl ?_ ?_
                rotate_left
                · rintro w' ⟨hQ1, hQ2⟩; go_simp; rfl
                simp only [Act.put, List.setIfInBounds_toArray, List.set_cons_zero, List.set_cons_succ]
                refine ord_quietL _ ?_ rfl hQ rfl ?_ ?_
                rotate_left
                · rintro w' ⟨hQ1, hQ2⟩; go_simp; rfl
                simp only [Act.put, List.setIfInBounds_toArray, List.set_cons_zero, List.set_cons_succ]
                refine ord_quietL _ ?_ rfl hQ rfl ?_ ?_
                rotate_left
                · rintro w' ⟨hQ1, hQ2⟩; go_simp; rfl
                simp only [Act.put, List.setIfInBounds_toArray, List.set_cons_zero, List.set_cons_succ]
                refine ord_quietL _ ?_ rfl hQ rfl ?_ ?_
                rotate_left
                · rintro w' ⟨hQ1, hQ2⟩; go_simp; rfl
                simp only [Act.put, List.setIfInBounds_toArray, List.set_cons_zero, List.set_cons_succ]
                refine ord_quietL _ ?_ rfl hQ rfl ?_ ?_
                rotate_left
                · rintro w' ⟨hQ1, hQ2⟩; go_simp; rfl
                simp only [Act.put, List.setIfInBounds_toArray, List.set_cons_zero, List.set_cons_succ]
                refine ord_quietL _ ?_ rfl hQ rfl ?_ ?_
                rotate_left
                · rintro w' ⟨hQ1, hQ2⟩; go_simp; rfl
                simp only [Act.put, List.setIfInBounds_toArray, List.set_cons_zero, List.set_cons_succ]
                refine ord_tail ?_
                simp only [List.drop_succ_cons, List.drop_zero]
                have hcd := hcn.keep (wr' := wr.drew) (Fr.refl (fun _ => False) wr).drew
                have hNd : wr.drew.heap[N7]? = some (.cells (now.map bv).toArray 33 (0, 0)) := hNn
                clear hQ hcell1 hcell2 hcn hNn
                generalize wr.drew = Wd at *
                go_wp2
                go_loopw [17, 114] (fun o j wr => ∃ jj : Nat, jj ≤ sn.length ∧ j = .int .i64 jj ∧ o = .bool (okN m n now flm sn jj) ∧ Cx u1.heap.size w wr b u2.heap.size w.heap.size S5 E fl (.slice so sn.length sc) sn a2 b2 ∧ wr.heap[N7]? = some (.cells (now.map bv).toArray 33 (0, 0))) (fun _ j _ => sn.length - (intOf j).toNat)
                case atStart => exact ⟨0, Nat.zero_le _, rfl, by rw [okN_zero], hcd, hNd⟩
                case round =>
                  obtain ⟨jj, hj1, rfl, rfl, hcj, hNj⟩ := hrel
                  clear hcd hNd
                  by_cases hjl : jj < sn.length
                  · obtain ⟨so', sc', hsv, -, -, hget⟩ := hcj.get
                    obtain ⟨g, e9, hrg⟩ := hget jj hjl
                    simp only [Value.slice.injEq, true_and] at hsv
                    obtain ⟨rfl, rfl⟩ := hsv
                    subst e9
                    obtain ⟨hok2, hp0, hp8⟩ := hcj.sok _ (List.getElem_mem hjl)
                    have H1 : Hid (okN m n now flm sn (jj + 1) = (okN m n now flm sn jj || hit m n now sn[jj])) := okN_succ m n now flm sn jj hjl
                    have hjI : (jj : Int) < (sn.length : Int) := by omega
                    generalize sn[jj] = ac2 at *
                    have hone2 := acell_oneCell hok2
                    have hdat2 := hok2.d
                    have hv2 := varA wr (acell zact).toArray ac2
                    generalize hWv2 : (wr.alloc (.cells (acell zact).toArray 36)).setRow wr.heap.size (acell ac2).toArray = W2 at *
                    have hWv2 : Hid ((wr.alloc (.cells (acell zact).toArray 36)).setRow wr.heap.size (acell ac2).toArray = W2) := hWv2
                    obtain ⟨-, c1, -, c3, -, -⟩ := act_cells hv2.blk hdat2
                    have hcm2 := hcj.keep hv2.fr
                    have hN2 := (hv2.fr.block _ (heap_lt hNj) id).trans hNj
                    have hcell1 : W2.cell? ⟨N7, n, none⟩ = some (.int .u8 (bi now n)) := cell_blk hN2 (by
                      simp only [List.getElem?_toArray, List.getElem?_map, List.getElem?_eq_getElem (show n < now.length by omega)]
                      simp [bi, bv, List.getD_eq_getElem?_getD, List.getElem?_eq_getElem (show n < now.length by omega)])
                    have hcell3 : W2.cell? ⟨wr.heap.size, 3 + n, none⟩ = some (.int .u8 (bi ac2.data n)) := c3 n _ (by
                      simp only [List.getElem?_map, List.getElem?_eq_getElem (show n < ac2.data.length by omega)]
                      simp [bi, bv, List.getD_eq_getElem?_getD, List.getElem?_eq_getElem (show n < ac2.data.length by omega)])
                    clear hcj hget hv2 hNj c3
                    have hwalk := hWv2
                    go_wp2_with (first
                      | (refine wpList_load_as rfl 36 _ rfl g (jj * 132) rfl (actv ac2) _ rfl hrg Try.row36 (size36 hdat2) ?_)
                      | (refine wpList_alloc_agg rfl 36 rfl _ Try.zero36 ?_)
                      | (refine wpList_store_all rfl 36 _ _ rfl wr.heap.size rfl (actv ac2) rfl _ rfl _ 36 (heap_alloc_new wr _) (act_fit hdat2) hone2 (size36 hdat2) ?_; rw [show acell (⟨0, 0, 0, z128, [], .slice none 0 0⟩ : Actt) = acell zact from rfl, hWv2.out]))
                    cases hov : okN m n now flm sn jj with
                    | true =>
                      rw [hov] at H1
                      have hQ : (fun w' : World => w'.cell? ⟨N7, n, none⟩ = some (.int .u8 (bi now n)) ∧ w'.cell? ⟨wr.heap.size, 1, none⟩ = some (.int .i64 ac2.place) ∧ w'.cell? ⟨wr.heap.size, 3 + n, none⟩ = some (.int .u8 (bi ac2.data n))) W2.drew := ⟨by rw [World.cell?_drew]; exact hcell1, by rw [World.cell?_drew]; exact c1, by rw [World.cell?_drew]; exact hcell3⟩
                      refine wp_region_ord [] 17 [(0, true), (1, true), (2, true), (3, true), (4, true), (5, true), (6, true), (7, true), (8, true), (9, true), (10, true), (11, true), (12, true), (13, true), (14, true), (15, true), (16, true)] (fun w' : World => w'.cell? ⟨N7, n, none⟩ = some (.int .u8 (bi now n)) ∧ w'.cell? ⟨wr.heap.size, 1, none⟩ = some (.int .i64 ac2.place) ∧ w'.cell? ⟨wr.heap.size, 3 + n, none⟩ = some (.int .u8 (bi ac2.data n))) (by kernel_rfl) (by kernel_rfl) ?_
                      refine ord_quietL _ ?_ rfl hQ rfl ?_ ?_
                      rotate_left
                      · rintro w' ⟨hQ1, hQ2, hQ3⟩; go_simp; rfl
                      simp only [Act.put, List.setIfInBounds_toArray, List.set_cons_zero, List.set_cons_succ]
                      refine ord_quietL _ ?_ rfl hQ rfl ?_ ?_
                      rotate_left
                      · rintro w' ⟨hQ1, hQ2, hQ3⟩; go_simp; rfl
                      simp only [Act.put, List.setIfInBounds_toArray, List.set_cons_zero, List.set_cons_succ]
                      refine ord_skipL _ rfl hQ rfl ?_
                      simp only [Act.put, List.setIfInBounds_toArray, List.set_cons_zero, List.set_cons_succ]
                      refine ord_skipL _ rfl hQ rfl ?_
                      simp only [Act.put, List.setIfInBounds_toArray, List.set_cons_zero, List.set_cons_succ]
                      refine ord_skipL _ rfl hQ rfl ?_
                      simp only [Act.put, List.setIfInBounds_toArray, List.set_cons_zero, List.set_cons_succ]
                      refine ord_skipL _ rfl hQ rfl ?_
                      simp only [Act.put, List.setIfInBounds_toArray, List.set_cons_zero, List.set_cons_succ]
                      refine ord_skipL _ rfl hQ rfl ?_
                      simp only [Act.put, List.setIfInBounds_toArray, List.set_cons_zero, List.set_cons_succ]
                      refine ord_skipL _ rfl hQ rfl ?_
                      simp only [Act.put, List.setIfInBounds_toArray, List.set_cons_zero, List.set_cons_succ]
                      refine ord_skipL _ rfl hQ rfl ?_
                      simp only [Act.put, List.setIfInBounds_toArray, List.set_cons_zero, List.set_cons_succ]
                      refine ord_skipL _ rfl hQ rfl ?_
                      simp only [Act.put, List.setIfInBounds_toArray, List.set_cons_zero, List.set_cons_succ]
                      refine ord_skipL _ rfl hQ rfl ?_
                      simp only [Act.put, List.setIfInBounds_toArray, List.set_cons_zero, List.set_cons_succ]
                      refine ord_skipL _ rfl hQ rfl ?_
                      simp only [Act.put, List.setIfInBounds_toArray, List.set_cons_zero, List.set_cons_succ]
                      refine ord_skipL _ rfl hQ rfl ?_
                      simp only [Act.put, List.setIfInBounds_toArray, List.set_cons_zero, List.set_cons_succ]
                      refine ord_skipL _ rfl hQ rfl ?_
                      simp only [Act.put, List.setIfInBounds_toArray, List.set_cons_zero, List.set_cons_succ]
                      refine ord_skipL _ rfl hQ rfl ?_
                      simp only [Act.put, List.setIfInBounds_toArray, List.set_cons_zero, List.set_cons_succ]
                      refine ord_skipL _ rfl hQ rfl ?_
                      simp only [Act.put, List.setIfInBounds_toArray, List.set_cons_zero, List.set_cons_succ]
                      refine ord_quietL _ ?_ rfl hQ rfl ?_ ?_
                      rotate_left
                      · rintro w' ⟨hQ1, hQ2, hQ3⟩; go_simp; rfl
                      simp only [Act.put, List.setIfInBounds_toArray, List.set_cons_zero, List.set_cons_succ]
                      refine ord_tail ?_
                      simp only [List.drop_succ_cons, List.drop_zero]
                      have hce := hcm2.keep (wr' := W2.drew) (Fr.refl (fun _ => False) W2).drew
                      have hNe : W2.drew.heap[N7]? = some (.cells (now.map bv).toArray 33 (0, 0)) := hN2
                      clear hQ hcell1 hcell3 hcm2 hN2
                      generalize W2.drew = We at *
                      go_wp2
                      go_roundw
                      case rel => exact ⟨jj + 1, by omega, by go_num, by rw [H1.out, Bool.true_or], hce, hNe⟩
                      case measure => simp [intOf]; omega
                    | false =>
                      rw [hov] at H1
                      by_cases hpm : ac2.place = (m : Int)
                      · have hpm1 : (ac2.place == (m : Int)) = true := by simpa using hpm
                        have H2 : Hid (okN m n now flm sn (jj + 1) = (bi ac2.data n == bi now n)) := by have := H1.out; unfold hit at this; rw [hpm1, Bool.false_or, Bool.true_and] at this; exact this
                        clear H1
                        have hQ : (fun w' : World => w'.cell? ⟨N7, n, none⟩ = some (.int .u8 (bi now n)) ∧ w'.cell? ⟨wr.heap.size, 1, none⟩ = some (.int .i64 ac2.place) ∧ w'.cell? ⟨wr.heap.size, 3 + n, none⟩ = some (.int .u8 (bi ac2.data n))) W2.drew := ⟨by rw [World.cell?_drew]; exact hcell1, by rw [World.cell?_drew]; exact c1, by rw [World.cell?_drew]; exact hcell3⟩
                        refine wp_region_ord [] 17 [(0, true), (1, true), (2, true), (3, true), (4, true), (5, true), (6, true), (7, true), (8, true), (9, true), (10, true), (11, true), (12, true), (13, true), (14, true), (15, true), (16, true)] (fun w' : World => w'.cell? ⟨N7, n, none⟩ = some (.int .u8 (bi now n)) ∧ w'.cell? ⟨wr.heap.size, 1, none⟩ = some (.int .i64 ac2.place) ∧ w'.cell? ⟨wr.heap.size, 3 + n, none⟩ = some (.int .u8 (bi ac2.data n))) (by kernel_rfl) (by kernel_rfl) ?_
                        refine ord_quietL _ ?_ rfl hQ rfl ?_ ?_
                        rotate_left
                        · rintro w' ⟨hQ1, hQ2, hQ3⟩; go_simp; rfl
                        simp only [Act.put, List.setIfInBounds_toArray, List.set_cons_zero, List.set_cons_succ]
                        refine ord_quietL _ ?_ rfl hQ rfl ?_ ?_
                        rotate_left
                        · rintro w' ⟨hQ1, hQ2, hQ3⟩; go_simp; rfl
                        simp only [Act.put, List.setIfInBounds_toArray, List.set_cons_zero, List.set_cons_succ]
                        refine ord_quietL _ ?_ rfl hQ rfl ?_ ?_
                        rotate_left
                        · rintro w' ⟨hQ1, hQ2, hQ3⟩; go_simp; rfl
                        simp only [Act.put, List.setIfInBounds_toArray, List.set_cons_zero, List.set_cons_succ]
                        refine ord_quietL _ ?_ rfl hQ rfl ?_ ?_
                        rotate_left
                        · rintro w' ⟨hQ1, hQ2, hQ3⟩; go_simp; rfl
                        simp only [Act.put, List.setIfInBounds_toArray, List.set_cons_zero, List.set_cons_succ]
                        refine ord_quietL _ ?_ rfl hQ rfl ?_ ?_
                        rotate_left
                        · rintro w' ⟨hQ1, hQ2, hQ3⟩; go_simp; rfl
                        simp only [Act.put, List.setIfInBounds_toArray, List.set_cons_zero, List.set_cons_succ]
                        refine ord_quietL _ ?_ rfl hQ rfl ?_ ?_
                        rotate_left
                        · rintro w' ⟨hQ1, hQ2, hQ3⟩; go_simp; rfl
                        simp only [Act.put, List.setIfInBounds_toArray, List.set_cons_zero, List.set_cons_succ]
                        refine ord_quietL _ ?_ rfl hQ rfl ?_ ?_
                        rotate_left
                        · rintro w' ⟨hQ1, hQ2, hQ3⟩; go_simp; rfl
                        simp only [Act.put, List.setIfInBounds_toArray, List.set_cons_zero, List.set_cons_succ]
                        refine ord_quietL _ ?_ rfl hQ rfl ?_ ?_
                        rotate_left
                        · rintro w' ⟨hQ1, hQ2, hQ3⟩; go_simp; rfl
                        simp only [Act.put, List.setIfInBounds_toArray, List.set_cons_zero, List.set_cons_succ]
                        refine ord_quietL _ ?_ rfl hQ rfl ?_ ?_
                        rotate_left
                        · rintro w' ⟨hQ1, hQ2, hQ3⟩; go_simp; rfl
                        simp only [Act.put, List.setIfInBounds_toArray, List.set_cons_zero, List.set_cons_succ]
                        refine ord_quietL _ ?_ rfl hQ rfl ?_ ?_
                        rotate_left
                        · rintro w' ⟨hQ1, hQ2, hQ3⟩; go_simp; rfl
                        simp only [Act.put, List.setIfInBounds_toArray, List.set_cons_zero, List.set_cons_succ]
                        refine ord_quietL _ ?_ rfl hQ rfl ?_ ?_
                        rotate_left
                        · rintro w' ⟨hQ1, hQ2, hQ3⟩; go_simp; rfl
                        simp only [Act.put, List.setIfInBounds_toArray, List.set_cons_zero, List.set_cons_succ]
                        refine ord_quietL _ ?_ rfl hQ rfl ?_ ?_
                        rotate_left
                        · rintro w' ⟨hQ1, hQ2, hQ3⟩; go_simp; rfl
                        simp only [Act.put, List.setIfInBounds_toArray, List.set_cons_zero, List.set_cons_succ]
                        refine ord_quietL _ ?_ rfl hQ rfl ?_ ?_
                        rotate_left
                        · rintro w' ⟨hQ1, hQ2, hQ3⟩; go_simp; rfl
                        simp only [Act.put, List.setIfInBounds_toArray, List.set_cons_zero, List.set_cons_succ]
                        refine ord_quietL _ ?_ rfl hQ rfl ?_ ?_
                        rotate_left
                        · rintro w' ⟨hQ1, hQ2, hQ3⟩; go_simp; rfl
                        simp only [Act.put, List.setIfInBounds_toArray, List.set_cons_zero, List.set_cons_succ]
                        refine ord_quietL _ ?_ rfl hQ rfl ?_ ?_
                        rotate_left
                        · rintro w' ⟨hQ1, hQ2, hQ3⟩; go_simp; rfl
                        simp only [Act.put, List.setIfInBounds_toArray, List.set_cons_zero, List.set_cons_succ]
                        refine ord_quietL _ ?_ rfl hQ rfl ?_ ?_
                        rotate_left
                        · rintro w' ⟨hQ1, hQ2, hQ3⟩; go_simp; rfl
                        simp only [Act.put, List.setIfInBounds_toArray, List.set_cons_zero, List.set_cons_succ]
                        refine ord_quietL _ ?_ rfl hQ rfl ?_ ?_
                        rotate_left
                        · rintro w' ⟨hQ1, hQ2, hQ3⟩; go_simp; rfl
                        simp only [Act.put, List.setIfInBounds_toArray, List.set_cons_zero, List.set_cons_succ]
                        refine ord_tail ?_
                        simp only [List.drop_succ_cons, List.drop_zero]
                        have hce := hcm2.keep (wr' := W2.drew) (Fr.refl (fun _ => False) W2).drew
                        have hNe : W2.drew.heap[N7]? = some (.cells (now.map bv).toArray 33 (0, 0)) := hN2
                        clear hQ hcell1 hcell3 hcm2 hN2
                        generalize W2.drew = We at *
                        go_wp2
                        go_roundw
                        case rel => exact ⟨jj + 1, by omega, by go_num, by rw [H2.out], hce, hNe⟩
                        case measure => simp [intOf]; omega
                      · have hpm1 : (ac2.place == (m : Int)) = false := by simpa using hpm
                        have H2 : Hid (okN m n now flm sn (jj + 1) = false) := by have := H1.out; unfold hit at this; rw [hpm1, Bool.false_or, Bool.false_and] at this; exact this
                        clear H1
                        have hQ : (fun w' : World => w'.cell? ⟨N7, n, none⟩ = some (.int .u8 (bi now n)) ∧ w'.cell? ⟨wr.heap.size, 1, none⟩ = some (.int .i64 ac2.place) ∧ w'.cell? ⟨wr.heap.size, 3 + n, none⟩ = some (.int .u8 (bi ac2.data n))) W2.drew := ⟨by rw [World.cell?_drew]; exact hcell1, by rw [World.cell?_drew]; exact c1, by rw [World.cell?_drew]; exact hcell3⟩
                        refine wp_region_ord [] 17 [(0, true), (1, true), (2, true), (3, true), (4, true), (5, true), (6, true), (7, true), (8, true), (9, true), (10, true), (11, true), (12, true), (13, true), (14, true), (15, true), (16, true)] (fun w' : World => w'.cell? ⟨N7, n, none⟩ = some (.int .u8 (bi now n)) ∧ w'.cell? ⟨wr.heap.size, 1, none⟩ = some (.int .i64 ac2.place) ∧ w'.cell? ⟨wr.heap.size, 3 + n, none⟩ = some (.int .u8 (bi ac2.data n))) (by kernel_rfl) (by kernel_rfl) ?_
                        refine ord_quietL _ ?_ rfl hQ rfl ?_ ?_
                        rotate_left
                        · rintro w' ⟨hQ1, hQ2, hQ3⟩; go_simp; rfl
                        simp only [Act.put, List.setIfInBounds_toArray, List.set_cons_zero, List.set_cons_succ]
                        refine ord_quietL _ ?_ rfl hQ rfl ?_ ?_
                        rotate_left
                        · rintro w' ⟨hQ1, hQ2, hQ3⟩; go_simp; rfl
                        simp only [Act.put, List.setIfInBounds_toArray, List.set_cons_zero, List.set_cons_succ]
                        refine ord_quietL _ ?_ rfl hQ rfl ?_ ?_
                        rotate_left
                        · rintro w' ⟨hQ1, hQ2, hQ3⟩; go_simp; rfl
                        simp only [Act.put, List.setIfInBounds_toArray, List.set_cons_zero, List.set_cons_succ]
                        refine ord_quietL _ ?_ rfl hQ rfl ?_ ?_
                        rotate_left
                        · rintro w' ⟨hQ1, hQ2, hQ3⟩; go_simp; rfl
                        simp only [Act.put, List.setIfInBounds_toArray, List.set_cons_zero, List.set_cons_succ]
                        refine ord_quietL _ ?_ rfl hQ rfl ?_ ?_
                        rotate_left
                        · rintro w' ⟨hQ1, hQ2, hQ3⟩; go_simp; rfl
                        simp only [Act.put, List.setIfInBounds_toArray, List.set_cons_zero, List.set_cons_succ]
                        refine ord_quietL _ ?_ rfl hQ rfl ?_ ?_
                        rotate_left
                        · rintro w' ⟨hQ1, hQ2, hQ3⟩; go_simp; rfl
                        simp only [Act.put, List.setIfInBounds_toArray, List.set_cons_zero, List.set_cons_succ]
                        refine ord_quietL _ ?_ rfl hQ rfl ?_ ?_
                        rotate_left
                        · rintro w' ⟨hQ1, hQ2, hQ3⟩; go_simp; rfl
                        simp only [Act.put, List.setIfInBounds_toArray, List.set_cons_zero, List.set_cons_succ]
                        refine ord_skipL _ rfl hQ rfl ?_
                        simp only [Act.put, List.setIfInBounds_toArray, List.set_cons_zero, List.set_cons_succ]
                        refine ord_skipL _ rfl hQ rfl ?_
                        simp only [Act.put, List.setIfInBounds_toArray, List.set_cons_zero, List.set_cons_succ]
                        refine ord_skipL _ rfl hQ rfl ?_
                        simp only [Act.put, List.setIfInBounds_toArray, List.set_cons_zero, List.set_cons_succ]
                        refine ord_skipL _ rfl hQ rfl ?_
                        simp only [Act.put, List.setIfInBounds_toArray, List.set_cons_zero, List.set_cons_succ]
                        refine ord_skipL _ rfl hQ rfl ?_
                        simp only [Act.put, List.setIfInBounds_toArray, List.set_cons_zero, List.set_cons_succ]
                        refine ord_skipL _ rfl hQ rfl ?_
                        simp only [Act.put, List.setIfInBounds_toArray, List.set_cons_zero, List.set_cons_succ]
                        refine ord_skipL _ rfl hQ rfl ?_
                        simp only [Act.put, List.setIfInBounds_toArray, List.set_cons_zero, List.set_cons_succ]
                        refine ord_skipL _ rfl hQ rfl ?_
                        simp only [Act.put, List.setIfInBounds_toArray, List.set_cons_zero, List.set_cons_succ]
                        refine ord_quietL _ ?_ rfl hQ rfl ?_ ?_
                        rotate_left
                        · rintro w' ⟨hQ1, hQ2, hQ3⟩; go_simp; rfl
                        simp only [Act.put, List.setIfInBounds_toArray, List.set_cons_zero, List.set_cons_succ]
                        refine ord_quietL _ ?_ rfl hQ rfl ?_ ?_
                        rotate_left
                        · rintro w' ⟨hQ1, hQ2, hQ3⟩; go_simp; rfl
                        simp only [Act.put, List.setIfInBounds_toArray, List.set_cons_zero, List.set_cons_succ]
                        refine ord_tail ?_
                        simp only [List.drop_succ_cons, List.drop_zero]
                        have hce := hcm2.keep (wr' := W2.drew) (Fr.refl (fun _ => False) W2).drew
                        have hNe : W2.drew.heap[N7]? = some (.cells (now.map bv).toArray 33 (0, 0)) := hN2
                        clear hQ hcell1 hcell3 hcm2 hN2
                        generalize W2.drew = We at *
                        go_wp2
                        go_roundw
                        case rel => exact ⟨jj + 1, by omega, by go_num, by rw [H2.out], hce, hNe⟩
                        case measure => simp [intOf]; omega
                  · have hjn : jj = sn.length := by omega
                    subst hjn
                    rw [hon.out]
                    go_wp2
                    go_roundw
                    case rel => exact ⟨n + 1, by omega, by go_num, hcj, hNj⟩
                    case measure => simp [intOf]; omega
              · clear hokm hNn
                go_wp2
                go_roundw
                case rel => exact ⟨m + 1, by omega, by go_num, hcn⟩
                case measure => simp [intOf]; omega
          · clear hok
            go_wp2_with (first
              | (go_at_call 19; refine (c_dead _ hcm.dk).mono ?_; rw [hEd]; rintro e w7 ⟨rfl, rfl⟩)
              | (go_at_call 23; refine stop_here ?_))
            unfold Hid
            refine (c_flush _ hcm.dk).mono ?_
            rw [hEf]
            rintro e w8 ⟨rfl, hx⟩
            obtain ⟨S8, hc8, -⟩ := hcm.done hx
            have hB8 := hc8.bel
            clear hc8 hx hcm
            go_wp2
            go_ret
            exact ⟨rfl, hB8⟩
  · have hbw : Below w.heap.size w u2 := (((Below.refl w.heap.size w).alloc (Nat.le_refl _) (.cells #[.int .i64 a2, .int .i64 b2] 54)).trans (hb1'.mono (by omega))).trans (hf2.below (by have := hb1'.size; simp only [World.size_alloc] at this; omega) (fun _ => False.elim))
    go_wp2
    all_goals
      first
      | (exfalso; omega)
      | (go_ret; exact ⟨rfl, hbw⟩)

set_option maxRecDepth 100000 in
theorem lifted (os : Os) (started : os.Started) (H : Type) (enc : TypeId × Value → H) :
    ReturnsInHanded {} Try.checked os 5 .any (Rows.diskKeepsSpec.pre6 enc Try.prog Try.f5 Rows.diskKeepsRow.domain false) (Rows.diskKeepsSpec.post enc Try.prog Try.f5 false true false false) := by
  refine returnsInHanded_of_change_sized (C := Try.checked) own started (by kernel_rfl) Try.func5
    (ChangeSpec.witness6 (enc := enc) (C := Try.checked) false ⟨#[], #[.slice none 0 0, .slice none 0 0, .agg #[.int .i64 0, .int .i64 0]], []⟩ 8 (by kernel_rfl) (by kernel_rfl) (by kernel_rfl) (by kernel_rfl)) ?_
  intro W base args ds gs before hval0 hW hcnd hsz0 _
  have hval : ∀ (j : Nat) t v, Try.f5.params[j]? = some t → args[j]? = some v → Value.okWide Try.prog W .any base t v := hval0
  have hsz : (DataW.weightsEach Try.prog (Try.f5.params.toList ++ Rows.diskKeepsSpec.plain.varTypes Try.prog) (ds ++ gs)).all (· ≤ reachBytes) = true := hsz0
  have hW' := hW
  obtain ⟨p, q, hA0, hV, rfl, hfz, hnd⟩ := hW
  have hA : DataW.TrodAll enc Try.prog W 0 (fun _ => true) true Try.f5.params.toList args.toList ds p := hA0
  rw [Try.params5] at hA hval hsz
  obtain ⟨v0, vs0, d0, ds0, p0, q0, hargs, rfl, rfl, h0, r0⟩ := trodAll_cons hA
  obtain ⟨v1, vs1, d1, ds1, p1, q1, rfl, rfl, rfl, h1, r1⟩ := trodAll_cons r0
  obtain ⟨v2, vs2, d2, ds2, p2, q2, rfl, rfl, rfl, h2, r2⟩ := trodAll_cons r1
  obtain ⟨rfl, rfl, rfl⟩ := trodAll_nil r2
  obtain rfl : args = #[v0, v1, v2] := by cases args; simp_all
  obtain ⟨rfl, rfl⟩ := trodVars_none hV
  obtain ⟨a0, len0, cap0, rfl⟩ := okWide_slice Try.underlying26 (hval 0 26 v0 rfl rfl)
  have k0 := h0
  have lt0 : ∀ x ∈ p0, x.block < W.heap.size := by obtain ⟨m, hm⟩ := k0; exact DataW.trod_lt m _ _ _ hm
  obtain ⟨x0, w0, l0⟩ : ∃ xs : List Actt, ActsAt W.heap.size W (.slice a0 len0 cap0) xs ∧ xs.length ≤ 140737488351232 := by
    obtain ⟨fuel, hf⟩ := h0
    exact open_acts (v := .slice a0 len0 cap0) hf (fun n hn => by have := List.all_eq_true.1 hsz n (DataW.weights_mem_each (j := 0) (t := 26) rfl rfl n hn); simpa using this)
  obtain ⟨a1, len1, cap1, rfl⟩ := okWide_slice Try.underlying34 (hval 1 34 v1 rfl rfl)
  have k1 := h1
  have lt1 : ∀ x ∈ p1, x.block < W.heap.size := by obtain ⟨m, hm⟩ := k1; exact DataW.trod_lt m _ _ _ hm
  obtain ⟨x1, w1, l1⟩ : ∃ xs : List Bool, Sl W.heap.size W (.slice a1 len1 cap1) xs.length (xs.map Value.bool) ∧ xs.length ≤ 140737488351232 := by
    obtain ⟨fuel, hf⟩ := h1
    exact open_bools (v := .slice a1 len1 cap1) hf (fun n hn => by have := List.all_eq_true.1 hsz n (DataW.weights_mem_each (j := 1) (t := 34) rfl rfl n hn); simpa using this)
  obtain ⟨a2, b2, rfl, rfl, rfl, w2, u2⟩ := open_pair (hval 2 54 v2 rfl rfl) h2
  clear hA0 hval0
  refine (walk W _ x0 w0 l0 _ x1 w1 l1 a2 b2 w2 u2).mono fun e W' ⟨he, bel⟩ => ?_
  subst he
  exact ⟨_, rfl, _, _, _, [], _, [], hW', trodAll_mk1 (shut_bool Try.underlying4 _), (trodAll_cons_mk (Below.trod laidOut (by kernel_rfl) (of_decide_eq_true (by kernel_rfl)) k0 bel lt0) (trodAll_cons_mk (Below.trod laidOut (by kernel_rfl) (of_decide_eq_true (by kernel_rfl)) k1 bel lt1) (trodAll_cons_mk (shut_pair w2 u2) trodAll_mk0))), rfl, bel.frame _, fun h => by cases h⟩

theorem over : Rows.diskKeepsRow.holds Try.pinned (OpenSpec.ofChange Rows.diskKeepsSpec) :=
  OpenClaim.holds_of_wide 5 Try.f5 rfl rfl rfl rfl rfl rfl rfl ⟨rfl, rfl, rfl, rfl, rfl⟩ rfl rfl rfl rfl rfl (by kernel_rfl) Try.func5 (by kernel_rfl)
    (of_decide_eq_true (by kernel_rfl)) (by unfold Func.isWrapper; first | (rw [if_pos (by decide +kernel)]; kernel_rfl) | (rw [if_neg (by decide +kernel)]; exact ⟨rfl, rfl⟩))
    (fun os started H enc _ => lifted os started H enc)
end Go.Proofs.Ytmhojkbnfiknpaa.diskKeeps
namespace Go.Proofs.Ytmhojkbnfiknpaa
/-- The given statement. -/
theorem diskKeeps_holds : Rows.DiskKeepsSaid := diskKeeps.over
end Go.Proofs.Ytmhojkbnfiknpaa
