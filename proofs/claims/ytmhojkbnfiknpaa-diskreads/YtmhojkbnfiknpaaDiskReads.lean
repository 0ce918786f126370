/-
  DiskReads returns true for all acts and every sector: what was written last to a sector is read, flushed or not; of sectors that weren't written zeros.
  Conditions: none; the statement is the given one, for every input.
-/
import Derived.Test.YtmhojkbnfiknpaaRows
import Derived.Test.YtmhojkbnfiknpaaL1
import Derived.WalkKit
import Derived.ProofKit
import Derived.OpenShut
import Derived.ShutString
import Derived.ChangeOld
import Derived.Below
import Derived.SizedLaws
namespace Go.Proofs.Ytmhojkbnfiknpaa.diskReads
open Go.ChangeShapes Go.WideShapes Go.ChangeAt Go.RowKit
open Go.ChangeMaps (open_string shut_string)
set_option linter.unusedVariables false
set_option linter.unusedSimpArgs false

theorem own : ownKnob Try.prog.godebug = none := by kernel_rfl
theorem laidOut : laidOutB Try.prog = true := by kernel_rfl

/-- What a round keeps. -/
def At (base : Nat) (w wr : World) (b N q k : Nat) : Prop :=
  ∃ D S s, DiskAt base wr b S D ∧ D.st.length = 8 ∧ D.pd.length ≤ k ∧ s.length = 128 ∧ wr.heap[N]? = some (.cells (s.map bv).toArray 33 (0, 0)) ∧ ¬ S N ∧ D.last q = s ∧ Below w.heap.size w wr

theorem at_start {base : Nat} {w w2 : World} {b q : Nat} {S : Nat → Prop} (hd : DiskAt base w2 b S (newDk 8)) (hb : Below w.heap.size w w2) (hq : q < 8) :
    At base w ((w2.alloc (.cells (z128.map bv).toArray 33)).setRow w2.heap.size (z128.map bv).toArray) b w2.heap.size q 0 := by
  have hm := made w2
  have hf := hm.fin z128
  refine ⟨newDk 8, S, z128, hd.keep hf (fun _ _ => id), by kernel_rfl, by simp [newDk], z128_length, setRow_heap _ _ _ _ 33 _ hm.new, fun hs => by have := (hd.ge _ hs).2; omega, ?_, hb.trans (hf.below hb.size (fun _ => False.elim))⟩
  rw [last_none (by simp [noneFrom, newDk])]
  have : (newDk 8).st = List.replicate 8 z128 := by kernel_rfl
  rw [this, List.getD_eq_getElem?_getD, List.getElem?_replicate, if_pos hq]
  rfl

set_option maxHeartbeats 3200000 in
/-- The law's own walk. -/
theorem walk (w : World) (v0 : Value) (x0 : List Actt) (w0 : ActsAt w.heap.size w v0 x0) (l0 : x0.length ≤ 140737488351232) (a1 : Int) (w1 : (Lit.int .i64 a1).wf = true) :
    Calls Try.prog 7 #[v0, .int .i64 a1] w fun e w' => e = .returned (.bool true) ∧ Below w.heap.size w w' := by
  have hq := i64_of_wf w1
  clear w1
  obtain ⟨ao, cap, rfl, hc, hm, hacts⟩ := w0
  have hm : cap ≤ 9223372036854775807 := hm
  have qg := guard33
  go_enter Try.func7, Try.ntmps7
  go_wp2_with fail
  refine (c_alive _).mono ?_
  rintro e u1 ⟨rfl, hb1⟩
  go_wp2_with fail
  refine (c_new 8 _).mono ?_
  rintro e u2 ⟨b, S2, rfl, hd2, hf2⟩
  have hb2 := hb1.trans (hf2.below hb1.size (fun _ => False.elim))
  have hbs : w.heap.size ≤ u1.heap.size := hb1.size
  clear hb1 hf2
  by_cases hok : x0.length ≤ 200 ∧ 0 ≤ a1 ∧ a1 ≤ 7
  · obtain ⟨hx2, ha0, ha7⟩ := hok
    obtain ⟨q, rfl⟩ : ∃ q : Nat, a1 = (q : Int) := ⟨a1.toNat, by omega⟩
    have hq8 : q < 8 := by omega
    have hx2i : (x0.length : Int) ≤ 200 := by omega
    have hstart := at_start hd2 hb2 hq8
    have hm2 := made u2
    have hNge : w.heap.size ≤ u2.heap.size := hb2.size
    generalize hW3 : (u2.alloc (.cells (z128.map bv).toArray 33)).setRow u2.heap.size (z128.map bv).toArray = W3 at *
    have hW3 : Hid ((u2.alloc (.cells (z128.map bv).toArray 33)).setRow u2.heap.size (z128.map bv).toArray = W3) := hW3
    clear hd2 hb2
    go_wp2_with (first
      | (refine wpList_build_as rfl 33 #[] rfl (sec z128) _ rfl Try.built33 ?_)
      | (refine wpList_alloc_agg rfl 33 rfl _ Try.zero33 ?_)
      | (refine wpList_store_all rfl 33 _ _ rfl u2.heap.size rfl (sec z128) rfl _ rfl _ 33 hm2.new rfl (bv_oneCell _) (size33 z128_length) ?_; rw [hW3.out]))
    go_loopw [34] (fun i wr => ∃ k : Nat, k ≤ x0.length ∧ i = .int .i64 k ∧ At u1.heap.size w wr b u2.heap.size q k) (fun i _ => x0.length - (intOf i).toNat)
    case atStart => exact ⟨0, Nat.zero_le _, rfl, hstart⟩
    case round =>
      obtain ⟨k, hk, rfl, D, S, s, hd, h8, hpl, hs, hN, hSN, hl, hB⟩ := hrel
      clear hstart hm2 hW3
      by_cases hlt : k < x0.length
      · obtain ⟨ab, off, rfl, hab, hr0, hok⟩ := hacts k x0[k] (List.getElem?_eq_getElem hlt)
        have hr : wr.rangeAt ab (off + k * 132) (acell x0[k]) := fun j v hv => (World.cell?_of_block (w := w) (a := ⟨ab, off + k * 132 + j, none⟩) (hB.block ab hab)).trans (hr0 j v hv)
        have hkI : (k : Int) < (x0.length : Int) := by omega
        clear hacts hr0
        generalize x0[k] = act at *
        have hone := acell_oneCell hok
        have hdat := hok.d
        have hv := varA wr (acell zact).toArray act
        generalize hWv : (wr.alloc (.cells (acell zact).toArray 36)).setRow wr.heap.size (acell act).toArray = W at *
        have hWv : Hid ((wr.alloc (.cells (acell zact).toArray 36)).setRow wr.heap.size (acell act).toArray = W) := hWv
        obtain ⟨hc0, hc1, -, hc3, -, -⟩ := act_cells hv.blk hdat
        have hdW := hd.keep hv.fr (fun _ _ => id)
        have hBW := hB.trans (hv.fr.below hB.size (fun _ => False.elim))
        have hNl := heap_lt hN
        have hNW : W.heap[u2.heap.size]? = some (.cells (s.map bv).toArray 33 (0, 0)) := (hv.fr.block _ hNl id).trans hN
        have hMl := heap_lt hv.blk
        have hSM : ¬ S wr.heap.size := fun hs => by have := (hd.ge _ hs).2; omega
        have hNl2 : u2.heap.size < W.heap.size := heap_lt hNW
        have hblk := hv.blk
        have hne : wr.heap.size ≠ u2.heap.size := by omega
        clear hd hB hN hv hok
        by_cases hk1 : act.kind = 1
        · have e1 : (act.kind == 1) = true := by simpa using hk1
          have e2 : (act.kind == 2) = false := by rw [hk1]; rfl
          go_wp2_with (first
            | (refine wpList_load_as rfl 36 _ rfl ab (off + k * 132) rfl (actv act) _ rfl hr Try.row36 (size36 hdat) ?_)
            | (refine wpList_alloc_agg rfl 36 rfl _ Try.zero36 ?_)
            | (refine wpList_store_all rfl 36 _ _ rfl wr.heap.size rfl (actv act) rfl _ rfl _ 36 (heap_alloc_new wr _) (act_fit hdat) hone (size36 hdat) ?_; rw [show acell (⟨0, 0, 0, z128, [], .slice none 0 0⟩ : Actt) = acell zact from rfl, hWv.out])
            | (refine wpList_load_as rfl 33 _ rfl wr.heap.size 3 rfl (sec act.data) _ rfl hc3 Try.row33 (size33 hdat) ?_)
            | (go_at_call 22; refine stop_here ?_))
          unfold Hid
          have hlw := last_write D q act.place act.data
          have hwl := write_len D act.place act.data
          refine (c_write act.place act.data _ hdW hdat (by omega)).mono ?_
          by_cases hwe : D.werr act.place = 0
          · rw [hwe]
            rintro e w5 ⟨rfl, hx⟩
            have hB5 := hBW.trans ((hx.below hdW).mono hbs)
            obtain ⟨S5, hd5, hsz5, hoth⟩ := hx.other
            obtain ⟨hM5, hSM5⟩ := hoth _ hMl hSM
            obtain ⟨hN5, hSN5⟩ := hoth _ hNl2 hSN
            replace hN5 := hN5.trans hNW
            replace hM5 := hM5.trans hblk
            obtain ⟨d0, d1, -, d3, -, -⟩ := act_cells hM5 hdat
            clear hoth hx hdW hBW hNW hblk hc0 hc1 hc3
            by_cases hpq : act.place = (q : Int)
            · have e3 : (act.place == (q : Int)) = true := by simpa using hpq
              rw [if_pos ⟨hwe, hpq⟩] at hlw
              have hf6 : Fr (fun k => k = u2.heap.size) w5 (w5.setRow u2.heap.size (act.data.map bv).toArray) := (Fr.refl (fun k => k = u2.heap.size) w5).setRow (.inl rfl) _
              have hd6 := hd5.keep hf6 (fun k hk e => hSN5 (e ▸ hk))
              have hN6 : (w5.setRow u2.heap.size (act.data.map bv).toArray).heap[u2.heap.size]? = some (.cells (act.data.map bv).toArray 33 (0, 0)) := setRow_heap _ _ _ _ 33 _ hN5
              have hM6 := (hf6.block _ (heap_lt hM5) hne).trans hM5
              have hB6 := hB5.trans (hf6.below (B := w.heap.size) (by have := hB5.size; omega) (fun k e => by subst e; exact hNge))
              obtain ⟨f0, -, -, -, -, -⟩ := act_cells hM6 hdat
              have hAt : At u1.heap.size w (w5.setRow u2.heap.size (act.data.map bv).toArray) b u2.heap.size q (k + 1) := ⟨_, S5, act.data, hd6, by omega, by omega, hdat, hN6, hSN5, hlw, hB6⟩
              generalize hW6 : w5.setRow u2.heap.size (act.data.map bv).toArray = W6 at *
              have hW6 : Hid (w5.setRow u2.heap.size (act.data.map bv).toArray = W6) := hW6
              clear hd6 hN6 hM6 hB6 hf6 hd5 hB5
              go_wp2_with (first
                | (refine wpList_load_as rfl 33 _ rfl wr.heap.size 3 rfl (sec act.data) _ rfl d3 Try.row33 (size33 hdat) ?_)
                | (refine wpList_store_all rfl 33 _ _ rfl u2.heap.size rfl (sec act.data) rfl _ rfl _ 33 hN5 (by rw [List.length_map, List.length_map, hs, hdat]) (bv_oneCell _) (size33 hdat) ?_; rw [hW6.out]))
              go_roundw
              case rel => exact ⟨k + 1, by omega, by go_num, hAt⟩
              case measure => simp [intOf]; omega
            · have e3 : (act.place == (q : Int)) = false := by simpa using hpq
              rw [if_neg (fun h => hpq h.2), hl] at hlw
              have hAt : At u1.heap.size w w5 b u2.heap.size q (k + 1) := ⟨_, S5, s, hd5, by omega, by omega, hs, hN5, hSN5, hlw, hB5⟩
              clear hd5 hB5
              go_wp2
              go_roundw
              case rel => exact ⟨k + 1, by omega, by go_num, hAt⟩
              case measure => simp [intOf]; omega
          · have e4 : (D.werr act.place == 0) = false := by simpa using hwe
            rw [if_neg (fun h => hwe h.1), hl] at hlw
            generalize D.werr act.place = we at *
            rintro e w5 ⟨rfl, hx⟩
            have hB5 := hBW.trans ((hx.below hdW).mono hbs)
            obtain ⟨S5, hd5, hsz5, hoth⟩ := hx.other
            obtain ⟨hM5, hSM5⟩ := hoth _ hMl hSM
            obtain ⟨hN5, hSN5⟩ := hoth _ hNl2 hSN
            replace hN5 := hN5.trans hNW
            replace hM5 := hM5.trans hblk
            obtain ⟨d0, d1, -, d3, -, -⟩ := act_cells hM5 hdat
            have hAt : At u1.heap.size w w5 b u2.heap.size q (k + 1) := ⟨_, S5, s, hd5, by omega, by omega, hs, hN5, hSN5, hlw, hB5⟩
            clear hoth hx hdW hBW hNW hblk hc0 hc1 hc3 hd5 hB5
            go_wp2
            go_roundw
            case rel => exact ⟨k + 1, by omega, by go_num, hAt⟩
            case measure => simp [intOf]; omega
        · have e1 : (act.kind == 1) = false := by simpa using hk1
          by_cases hk2 : act.kind = 2
          · have e2 : (act.kind == 2) = true := by simpa using hk2
            go_wp2_with (first
              | (refine wpList_load_as rfl 36 _ rfl ab (off + k * 132) rfl (actv act) _ rfl hr Try.row36 (size36 hdat) ?_)
              | (refine wpList_alloc_agg rfl 36 rfl _ Try.zero36 ?_)
              | (refine wpList_store_all rfl 36 _ _ rfl wr.heap.size rfl (actv act) rfl _ rfl _ 36 (heap_alloc_new wr _) (act_fit hdat) hone (size36 hdat) ?_; rw [show acell (⟨0, 0, 0, z128, [], .slice none 0 0⟩ : Actt) = acell zact from rfl, hWv.out])
              | (go_at_call 23; refine stop_here ?_))
            unfold Hid
            have hlw := last_flush D q (by omega)
            rw [hl] at hlw
            have hwl := flush_len D
            refine (c_flush _ hdW).mono ?_
            generalize D.ferr = fe
            rintro e w5 ⟨rfl, hx⟩
            have hB5 := hBW.trans ((hx.below hdW).mono hbs)
            obtain ⟨S5, hd5, hsz5, hoth⟩ := hx.other
            obtain ⟨hN5, hSN5⟩ := hoth _ hNl2 hSN
            replace hN5 := hN5.trans hNW
            have hAt : At u1.heap.size w w5 b u2.heap.size q (k + 1) := ⟨_, S5, s, hd5, by omega, by omega, hs, hN5, hSN5, hlw, hB5⟩
            clear hoth hx hdW hBW hNW hblk hc0 hc1 hc3 hd5 hB5
            go_wp2
            go_roundw
            case rel => exact ⟨k + 1, by omega, by go_num, hAt⟩
            case measure => simp [intOf]; omega
          · have e2 : (act.kind == 2) = false := by simpa using hk2
            have hAt : At u1.heap.size w W b u2.heap.size q (k + 1) := ⟨D, S, s, hdW, h8, by omega, hs, hNW, hSN, hl, hBW⟩
            clear hdW hBW hNW hblk
            go_wp2_with (first
              | (refine wpList_load_as rfl 36 _ rfl ab (off + k * 132) rfl (actv act) _ rfl hr Try.row36 (size36 hdat) ?_)
              | (refine wpList_alloc_agg rfl 36 rfl _ Try.zero36 ?_)
              | (refine wpList_store_all rfl 36 _ _ rfl wr.heap.size rfl (actv act) rfl _ rfl _ 36 (heap_alloc_new wr _) (act_fit hdat) hone (size36 hdat) ?_; rw [show acell (⟨0, 0, 0, z128, [], .slice none 0 0⟩ : Actt) = acell zact from rfl, hWv.out]))
            go_roundw
            case rel => exact ⟨k + 1, by omega, by go_num, hAt⟩
            case measure => simp [intOf]; omega
      · have hrd : D.read (q : Int) = s := by
          unfold Dk.read
          have : D.has (q : Int) = true := by unfold Dk.has; simp; omega
          rw [if_pos this, Int.toNat_natCast, hl]
        have hhas : D.has (q : Int) = true := by unfold Dk.has; simp; omega
        have hqe := eql33 s s hs hs
        simp only [BEq.rfl] at hqe
        clear hacts
        go_wp2_with (go_at_call 26; refine stop_here ?_)
        unfold Hid
        refine (c_read (q : Int) _ hd).mono ?_
        rw [hrd, hhas]
        rintro e w5 ⟨rfl, hf5⟩
        have hNl := heap_lt hN
        have hm5 := made w5
        have hff := hm5.fin s
        have hrow := hm5.row s
        have hN6 := range_all ((hff.block _ (by have := hf5.size; omega) id).trans ((hf5.block _ hNl id).trans hN))
        have hB6 := (hB.trans (hf5.below hB.size (fun _ => False.elim))).trans (hff.below (by have := hB.size; have := hf5.size; omega) (fun _ => False.elim))
        generalize hW6 : (w5.alloc (.cells (z128.map bv).toArray 33)).setRow w5.heap.size (s.map bv).toArray = W6 at *
        have hW6 : Hid ((w5.alloc (.cells (z128.map bv).toArray 33)).setRow w5.heap.size (s.map bv).toArray = W6) := hW6
        clear hd hB hN hff hf5 hl
        go_wp2_with (first
          | (refine wpList_alloc_agg rfl 33 rfl _ Try.zero33 ?_)
          | (refine wpList_store_all rfl 33 _ _ rfl w5.heap.size rfl (sec s) rfl _ rfl _ 33 hm5.new (sec_fit hs) (bv_oneCell _) (size33 hs) ?_; rw [hW6.out])
          | (refine wpList_load_as rfl 33 (.tmp 9) rfl w5.heap.size 0 rfl (sec s) _ rfl hrow Try.row33 (size33 hs) ?_)
          | (refine wpList_load_as rfl 33 (.tmp 6) rfl u2.heap.size 0 rfl (sec s) _ rfl hN6 Try.row33 (size33 hs) ?_))
        go_ret
        exact ⟨rfl, hB6⟩
  · go_wp2
    all_goals
      first
      | (exfalso; omega)
      | (go_ret; exact ⟨rfl, hb2⟩)

set_option maxRecDepth 100000 in
theorem lifted (os : Os) (started : os.Started) (H : Type) (enc : TypeId × Value → H) :
    ReturnsInHanded {} Try.checked os 7 .any (Rows.diskReadsSpec.pre6 enc Try.prog Try.f7 Rows.diskReadsRow.domain false) (Rows.diskReadsSpec.post enc Try.prog Try.f7 false true false false) := by
  refine returnsInHanded_of_change_sized (C := Try.checked) own started (by kernel_rfl) Try.func7
    (ChangeSpec.witness6 (enc := enc) (C := Try.checked) false ⟨#[], #[.slice none 0 0, .int .i64 0], []⟩ 8 (by kernel_rfl) (by kernel_rfl) (by kernel_rfl) (by kernel_rfl)) ?_
  intro W base args ds gs before hval0 hW hcnd hsz0 _
  have hval : ∀ (j : Nat) t v, Try.f7.params[j]? = some t → args[j]? = some v → Value.okWide Try.prog W .any base t v := hval0
  have hsz : (DataW.weightsEach Try.prog (Try.f7.params.toList ++ Rows.diskReadsSpec.plain.varTypes Try.prog) (ds ++ gs)).all (· ≤ reachBytes) = true := hsz0
  have hW' := hW
  obtain ⟨p, q, hA0, hV, rfl, hfz, hnd⟩ := hW
  have hA : DataW.TrodAll enc Try.prog W 0 (fun _ => true) true Try.f7.params.toList args.toList ds p := hA0
  rw [Try.params7] at hA hval hsz
  obtain ⟨v0, vs0, d0, ds0, p0, q0, hargs, rfl, rfl, h0, r0⟩ := trodAll_cons hA
  obtain ⟨v1, vs1, d1, ds1, p1, q1, rfl, rfl, rfl, h1, r1⟩ := trodAll_cons r0
  obtain ⟨rfl, rfl, rfl⟩ := trodAll_nil r1
  obtain rfl : args = #[v0, v1] := by cases args; simp_all
  obtain ⟨rfl, rfl⟩ := trodVars_none hV
  obtain ⟨a0, len0, cap0, rfl⟩ := okWide_slice Try.underlying26 (hval 0 26 v0 rfl rfl)
  have k0 := h0
  have lt0 : ∀ x ∈ p0, x.block < W.heap.size := by obtain ⟨m, hm⟩ := k0; exact DataW.trod_lt m _ _ _ hm
  obtain ⟨x0, w0, l0⟩ : ∃ xs : List Actt, ActsAt W.heap.size W (.slice a0 len0 cap0) xs ∧ xs.length ≤ 140737488351232 := by
    obtain ⟨fuel, hf⟩ := h0
    exact open_acts (v := .slice a0 len0 cap0) hf (fun n hn => by have := List.all_eq_true.1 hsz n (DataW.weights_mem_each (j := 0) (t := 26) rfl rfl n hn); simpa using this)
  obtain ⟨a1, rfl, rfl, rfl, w1⟩ := open_int Try.underlying3 (hval 1 3 v1 rfl rfl) h1
  clear hA0 hval0
  refine (walk W _ x0 w0 l0 a1 w1).mono fun e W' ⟨he, bel⟩ => ?_
  subst he
  exact ⟨_, rfl, _, _, _, [], _, [], hW', trodAll_mk1 (shut_bool Try.underlying4 _), (trodAll_cons_mk (Below.trod laidOut (by kernel_rfl) (of_decide_eq_true (by kernel_rfl)) k0 bel lt0) (trodAll_cons_mk (shut_int Try.underlying3 w1) trodAll_mk0)), rfl, bel.frame _, fun h => by cases h⟩

theorem over : Rows.diskReadsRow.holds Try.pinned (OpenSpec.ofChange Rows.diskReadsSpec) :=
  OpenClaim.holds_of_wide 7 Try.f7 rfl rfl rfl rfl rfl rfl rfl ⟨rfl, rfl, rfl, rfl, rfl⟩ rfl rfl rfl rfl rfl (by kernel_rfl) Try.func7 (by kernel_rfl)
    (of_decide_eq_true (by kernel_rfl)) (by unfold Func.isWrapper; first | (rw [if_pos (by decide +kernel)]; kernel_rfl) | (rw [if_neg (by decide +kernel)]; exact ⟨rfl, rfl⟩))
    (fun os started H enc _ => lifted os started H enc)
end Go.Proofs.Ytmhojkbnfiknpaa.diskReads
namespace Go.Proofs.Ytmhojkbnfiknpaa
/-- The given statement. -/
theorem diskReads_holds : Rows.DiskReadsSaid := diskReads.over
end Go.Proofs.Ytmhojkbnfiknpaa
