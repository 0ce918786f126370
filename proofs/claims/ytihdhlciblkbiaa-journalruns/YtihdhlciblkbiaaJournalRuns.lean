/-
  JournalRuns returns true for every first sector, generation and acts: whatever is done, all answers, the disk and what a scan finds are the document's.
  Conditions: none; the statement is the given one, for every input.
-/
import Derived.Test.YtihdhlciblkbiaaRows
import Derived.Test.YtihdhlciblkbiaaJourRAll
import Derived.Deep.CutBlock
import Derived.Deep.CutRange
import Derived.Deep.DeepCutAuto
import Derived.WalkKit
import Derived.ProofKit
import Derived.OpenShut
import Derived.ShutString
import Derived.ChangeOld
import Derived.Below
import Derived.SizedLaws
namespace Go.Proofs.Ytihdhlciblkbiaa.journalRuns
open Go.ChangeShapes Go.WideShapes Go.ChangeAt Go.RowKit
open Go.ChangeMaps (open_string shut_string)
set_option linter.unusedVariables false
set_option linter.unusedSimpArgs false

theorem own : ownKnob Try.prog.godebug = none := by kernel_rfl
theorem laidOut : laidOutB Try.prog = true := by kernel_rfl

set_option maxRecDepth 40000 in
set_option maxHeartbeats 12800000 in
/-- The law's own walk. -/
theorem walk (w : World) (a0 : Int) (w0 : (Lit.int .i64 a0).wf = true) (a1 : Nat) (w1 : a1 < 18446744073709551616) (v2 : Value) (x2 : List JAct) (w2 : JActsAt w.heap.size w v2 x2) (l2 : x2.length ≤ 140737488351232) :
    Calls Try.prog 4 #[.int .i64 a0, .int .u64 (a1 : Int), v2] w fun e w' => e = .returned (.bool true) ∧ Below w.heap.size w w' := by
  have hq := i64_of_wf w0
  clear w0
  obtain ⟨i5, hi5, hz50, hz51, hz52⟩ := info5
  obtain ⟨i4, hi4, hz40, hz41, hz42⟩ := info_bool
  obtain ⟨ao, cap, rfl, hac, hacm, hacs⟩ := w2
  have hacm : cap ≤ 9223372036854775807 := hacm
  go_enter Try.func4, Try.ntmps4
  go_wp2_with (go_at_call 8; refine stop_here ?_)
  unfold Hid
  refine (c_jalive _).mono ?_
  rintro e W1 ⟨rfl, hb1⟩
  go_wp2_with (go_at_call 9; refine stop_here ?_)
  unfold Hid
  refine (c_new 24 _).mono ?_
  rintro e W2 ⟨b, S, rfl, hD, hn2⟩
  go_wp2_with (go_at_call 10; refine stop_here ?_)
  unfold Hid
  refine (c_rnew 24 _).mono ?_
  rintro e W3 ⟨vs, vp, rfl, hG3, hn3⟩
  have hone := ref_one hG3
  have hw1 : w.heap.size ≤ W1.heap.size := hb1.size
  have hw2 : W1.heap.size ≤ W2.heap.size := hn2.size
  have hw3 : W2.heap.size ≤ W3.heap.size := hn3.size
  have hnF := heap_alloc_new W3 (.cells #[.slice none 0 0, .slice none 0 0, .int .i64 0, .bool false] 30)
  have hFb : ((W3.alloc (.cells #[.slice none 0 0, .slice none 0 0, .int .i64 0, .bool false] 30)).setRow W3.heap.size (rcells vs vp (newDk 24)).toArray).heap[W3.heap.size]? = some (.cells (rcells vs vp (newDk 24)).toArray 30 (0, 0)) := setRow_heap _ _ _ _ 30 _ hnF
  have hn4 : Nw W3 ((W3.alloc (.cells #[.slice none 0 0, .slice none 0 0, .int .i64 0, .bool false] 30)).setRow W3.heap.size (rcells vs vp (newDk 24)).toArray) := Fr.setRow (Fr.alloc (Fr.refl _ W3) _) (.inr (Nat.le_refl _)) _
  generalize hW4 : (W3.alloc (.cells #[.slice none 0 0, .slice none 0 0, .int .i64 0, .bool false] 30)).setRow W3.heap.size (rcells vs vp (newDk 24)).toArray = W4 at *
  have hW4 : Hid ((W3.alloc (.cells #[.slice none 0 0, .slice none 0 0, .int .i64 0, .bool false] 30)).setRow W3.heap.size (rcells vs vp (newDk 24)).toArray = W4) := hW4
  have hG4 := hG3.nw hn4
  have hrF := range_all hFb
  go_wp2_with (first
    | (refine wpList_alloc_agg rfl 30 rfl _ Try.zero30 ?_)
    | (refine wpList_store_all rfl 30 (.tmp 8) _ rfl W3.heap.size rfl (rval vs vp (newDk 24)) rfl _ rfl _ 30 hnF res_fit hone Try.size30 ?_; rw [hW4.out])
    | (refine wpList_load_as rfl 30 (.tmp 8) rfl W3.heap.size 0 rfl (rval vs vp (newDk 24)) _ rfl hrF Try.row30 Try.size30 ?_)
    | (go_at_call 11; refine stop_here ?_))
  unfold Hid
  refine (c_rright a0 a1 _ hG4 hq.1 hq.2 w1).mono ?_
  rintro e W5 ⟨rfl, hn5⟩
  have hst24 : (newDk 24).st.length = 24 := by show (List.replicate _ z128).length = 24; rw [List.length_replicate]; decide
  have hnw5 : Nw w W5 := ((((nw_of_below hb1).trans hn2).trans hn3).trans hn4).trans hn5
  by_cases hR : rightP (newDk 24) a0 a1
  case neg =>
    rw [decide_eq_false hR]
    have hbE : Hid (Below w.heap.size w W5) := below_of_nw hnw5
    clear hacs hrF hG4 hG3 hFb hD hnF hone hW4
    go_wp2
    go_ret
    exact ⟨rfl, hbE.out⟩
  rw [decide_eq_true hR]
  unfold rightP at hR
  rw [hst24] at hR
  obtain ⟨f, rfl⟩ : ∃ f : Nat, a0 = (f : Int) := ⟨a0.toNat, by omega⟩
  have hf8 : f ≤ 8 := by omega
  have hgen1 : 1 ≤ a1 := hR.2.2.2.1
  have hgen2 : a1 < 281474976710656 := hR.2.2.2.2
  clear hR hq
  by_cases h60 : 60 < x2.length
  · have hd : decide (60 < (x2.length : Int)) = true := decide_eq_true (by omega)
    have hbE : Hid (Below w.heap.size w W5) := below_of_nw hnw5
    clear hacs hrF hG4 hG3 hFb hD hnF hone hW4
    generalize x2.length = n at *
    go_wp2
    go_ret
    exact ⟨rfl, hbE.out⟩
  have hd : decide (60 < (x2.length : Int)) = false := decide_eq_false (by omega)
  obtain ⟨n, hn⟩ : ∃ n, Hid (x2.length = n) := ⟨_, rfl⟩
  rw [hn.out] at hd h60 hac l2 ⊢
  clear hrF hW4
  go_wp2_with (go_at_call 12; refine stop_here ?_)
  unfold Hid
  refine (c_start (f := f) (gen := a1) _ (by omega) hgen2).mono ?_
  rintro e W6 ⟨rfl, hj6, hn6⟩
  have hnG := heap_alloc_new W6 (.cells (jcells 0 0 0).toArray 36)
  have hGb : ((W6.alloc (.cells (jcells 0 0 0).toArray 36)).setRow W6.heap.size (jcells f a1 0).toArray).heap[W6.heap.size]? = some (.cells (jcells f a1 0).toArray 36 (0, 0)) := setRow_heap _ _ _ _ 36 _ hnG
  have hn7 : Nw W6 ((W6.alloc (.cells (jcells 0 0 0).toArray 36)).setRow W6.heap.size (jcells f a1 0).toArray) := Fr.setRow (Fr.alloc (Fr.refl _ W6) _) (.inr (Nat.le_refl _)) _
  generalize hW7 : (W6.alloc (.cells (jcells 0 0 0).toArray 36)).setRow W6.heap.size (jcells f a1 0).toArray = W7 at *
  have hW7 : Hid ((W6.alloc (.cells (jcells 0 0 0).toArray 36)).setRow W6.heap.size (jcells f a1 0).toArray = W7) := hW7
  have hstart : Rj W1.heap.size w W7 b W3.heap.size W6.heap.size S (newDk 24) (newDk 24) vs vp W5.heap.size f a1 0 a1 0 := by
    have hS2 : ∀ q, S q → q < W2.heap.size := fun q hq => (hD.ge q hq).2
    have l3 := heap_lt hFb
    have l5 := hn5.size
    have l6 := heap_lt hj6.blk
    have n47 : Nw W4 W7 := (hn5.trans hn6).trans hn7
    refine ⟨(hD.keep ((hn3.trans hn4).trans n47) (fun _ _ => id)), hj6.nw hn7, (n47.block _ l3 id).trans hFb, hGb, ?_, (hnw5.trans hn6).trans hn7, hw1, ⟨fun h => by have := hS2 _ h; omega, fun h => by have := hS2 _ h; omega, fun h => by have := hS2 _ h; omega⟩, ⟨by omega, by omega, by omega⟩, ⟨by omega, by omega, by omega⟩⟩
    refine (hG3.keep (X' := fun q => W2.heap.size ≤ q ∧ q < W3.heap.size) (fun q hq hl => ⟨⟨hq, hl⟩, rfl⟩)).keep (fun q hq hl => ⟨⟨fun h => by have := hS2 _ h; omega, by omega, by omega, by omega⟩, (hn4.trans n47).block q hl id⟩)
  clear hD hn2 hn3 hn4 hn5 hn6 hn7 hGb hFb hG3 hG4 hnF hone hj6 hnw5 hw2 hw3
  go_wp2_with (first
    | (refine wpList_build_as rfl 36 _ rfl (jval f a1 0) _ rfl (by simp only [List.map_cons, List.map_nil, Act.eval]; exact Try.builtJ f a1) ?_)
    | (refine wpList_alloc_agg rfl 36 rfl _ Try.zeroJ ?_)
    | (refine wpList_store_all rfl 36 (.tmp 10) _ rfl W6.heap.size rfl (jval f a1 0) rfl _ rfl _ 36 hnG rfl (j_one f a1 0) Try.sizeJ ?_; rw [hW7.out]))
  clear hnG hW7
  generalize W3.heap.size = F at *
  generalize W6.heap.size = G at *
  generalize W5.heap.size = j at *
  go_loopw [9, 40] (fun jp i wr => ∃ (k j gen cnt : Nat) (S : Nat → Prop) (D R : Dk) (vs vp : Value), k ≤ n ∧ i = .int .i64 k ∧ jp = .pointer (some ⟨j, 0, none⟩) ∧ (1 ≤ gen ∧ gen < 281474976710656) ∧ Rj W1.heap.size w wr b F G S D R vs vp j f gen cnt gen cnt ∧ Same D R ∧ D.st.length = 24 ∧ D.pd.length ≤ 4 * k) (fun _ i _ => n - (intOf i).toNat)
  case atStart => exact ⟨0, _, a1, 0, S, _, _, vs, vp, Nat.zero_le _, rfl, rfl, ⟨hgen1, hgen2⟩, hstart, same_new 24, hst24, by simp [newDk]⟩
  case round =>
    clear hstart hgen1 hgen2 hst24
    obtain ⟨k, j, gen, cnt, S, D, R, vs, vp, hk, rfl, rfl, ⟨hg1, hg2⟩, hX, hsm, hL, hpd⟩ := hrel
    by_cases hlt : k < n
    case neg =>
      obtain rfl : k = n := by omega
      as_aux_lemma =>
        clear hacs
        have hXr := hX
        go_wp2
        go_loopw [16] (fun i wr => ∃ q : Nat, q ≤ 24 ∧ i = .int .i64 q ∧ Rj W1.heap.size w wr b F G S D R vs vp j f gen cnt gen cnt) (fun i _ => 24 - (intOf i).toNat)
        case atStart => exact ⟨0, Nat.zero_le _, rfl, hX⟩
        case round =>
          clear hX hXr
          obtain ⟨q, hq, rfl, hX⟩ := hrel
          by_cases hlt2 : q < 24
          case neg =>
            obtain rfl : q = 24 := by omega
            have hbE : Hid (Below w.heap.size w wr) := below_of_nw hX.nw
            clear hX hsm
            go_wp2
            go_ret
            exact ⟨rfl, hbE.out⟩
          have hdq : decide ((q : Int) < 24) = true := decide_eq_true (by omega)
          have hlen := hX.dk.ok.get (q : Int)
          have hgE : Hid (R.get (q : Int) = D.get (q : Int)) := hsm.get (q : Int)
          have hS : (fun w' : World => w'.rangeAt F 0 (rcells vs vp R)) wr.drew := (World.rangeAt_drew ..).2 (range_all hX.rb)
          have hX0 := hX.keep (w1 := wr.drew) ((Fr.refl (fun _ => False) wr).drew)
          clear hX
          go_wp2
          refine wp_region_ord [] 6 [(0, true), (1, true), (3, true), (4, true), (2, false), (5, false)] (fun w' : World => w'.rangeAt F 0 (rcells vs vp R)) (by kernel_rfl) (by kernel_rfl) ?_
          generalize wr.drew = B0 at *
          refine ord_quietL _ ?_ rfl hS rfl ?_ ?_
          rotate_left
          · rintro w' hS1; go_simp; rfl
          simp only [Act.put, List.setIfInBounds_toArray, List.set_cons_zero, List.set_cons_succ]
          refine ord_quietL _ ?_ rfl hS rfl ?_ ?_
          rotate_left
          · rintro w' hS1; go_simp; rfl
          simp only [Act.put, List.setIfInBounds_toArray, List.set_cons_zero, List.set_cons_succ]
          refine ord_quietL _ (rval vs vp R) rfl hS rfl ?_ ?_
          · rintro w' hS1; exact run_load_quiet 30 _ w' rfl F 0 rfl _ hS1 Try.row30 Try.size30
          simp only [Act.put, List.setIfInBounds_toArray, List.set_cons_zero, List.set_cons_succ]
          refine ord_quietL _ ?_ rfl hS rfl ?_ ?_
          rotate_left
          · rintro w' hS1; go_simp; rfl
          simp only [Act.put, List.setIfInBounds_toArray, List.set_cons_zero, List.set_cons_succ]
          refine ord_actL _ rfl (fun K1 hK1 => ?_)
          go_wp2_with fail
          refine (c_stable (q : Int) _ hX0.dk).mono ?_
          rintro e B1 ⟨rfl, hn1⟩
          have hX1 := hX0.keep hn1
          have hS1 := range_all hX1.rb
          clear hn1 hX0 hS
          go_wp2
          refine hK1 _ _ hS1 ?_
          clear hK1 K1
          refine ord_actL _ rfl (fun K1 hK1 => ?_)
          go_wp2_with fail
          refine (c_rat (q : Int) _ hX1.rg).mono ?_
          rintro e B2 ⟨rfl, hn2⟩
          rw [hgE.out]
          have hX2 := hX1.keep hn2
          have hS2 := range_all hX2.rb
          have qn := neqS (D.get (q : Int)) (D.get (q : Int)) hlen hlen
          simp only [BEq.rfl, Bool.not_true] at qn
          have qg := guardS
          clear hn2 hX1 hS1
          generalize D.get (q : Int) = an at *
          go_wp2
          refine hK1 _ _ hS2 ?_
          clear hK1 K1 hS2
          refine ord_tail ?_
          simp only [List.drop_succ_cons, List.drop_zero]
          go_wp2
          go_roundw
          case rel => exact ⟨q + 1, by omega, by go_num, hX2⟩
          case measure => simp [intOf]; omega
    have hkx : k < x2.length := by rw [hn.out]; exact hlt
    obtain ⟨ab, aoff, rfl, hab, hr0, hok⟩ := hacs k x2[k] (List.getElem?_eq_getElem hkx)
    clear hacs
    generalize x2[k] = act at *
    clear hkx
    have hra := range_nw hr0 hX.nw
    have hone := a_one hok
    have hMb : ((wr.alloc (.cells (jacell zact).toArray 40)).setRow wr.heap.size (jacell act).toArray).heap[wr.heap.size]? = some (.cells (jacell act).toArray 40 (0, 0)) := setRow_heap _ _ _ _ 40 _ (heap_alloc_new wr _)
    have hnM : Nw wr ((wr.alloc (.cells (jacell zact).toArray 40)).setRow wr.heap.size (jacell act).toArray) := Fr.setRow (Fr.alloc (Fr.refl _ wr) _) (.inr (Nat.le_refl _)) _
    have hMS : ¬ S wr.heap.size ∧ wr.heap.size ≠ j ∧ wr.heap.size ≠ F ∧ wr.heap.size ≠ G := ⟨fun h => by have := (hX.dk.ge _ h).2; omega, fun e => by have := heap_lt hX.jr.blk; omega, fun e => by have := heap_lt hX.rb; omega, fun e => by have := heap_lt hX.kb; omega⟩
    generalize hWM : (wr.alloc (.cells (jacell zact).toArray 40)).setRow wr.heap.size (jacell act).toArray = WM at *
    have hWM : Hid ((wr.alloc (.cells (jacell zact).toArray 40)).setRow wr.heap.size (jacell act).toArray = WM) := hWM
    have hX := hX.keep hnM
    have hokM := hok.keep' (below_of_nw hX.nw)
    have m0 : WM.cell? ⟨wr.heap.size, 0, none⟩ = some (.int .i64 act.kind) := cell_blk hMb rfl
    clear hnM hr0
    obtain ⟨M, hM⟩ : ∃ M, Hid (wr.heap.size = M) := ⟨_, rfl⟩
    go_upto_block 2 with (first
      | (refine wpList_load_as rfl 40 (.tmp 42) rfl ab (aoff + k * 5) rfl (jactv act) _ rfl hra Try.rowA (Try.sizeA act) ?_)
      | (refine wpList_alloc_agg rfl 40 rfl _ Try.zeroA ?_)
      | (refine wpList_store_all rfl 40 (.tmp 12) _ rfl wr.heap.size rfl (jactv act) rfl _ rfl _ 40 (heap_alloc_new wr _) rfl hone (Try.sizeA act) ?_; rw [hWM.out]))
    rw [hM.out] at hMb hMS m0 ⊢
    clear hra hone hWM
    go_cut [13, 14, 15] (fun e g ow wc => ∃ (z : Int) (cnt' : Nat) (S' : Nat → Prop) (D' R' : Dk) (vs' vp' : Value), e = .int .i64 z ∧ g = .int .i64 z ∧ (act.kind = 2 ∨ act.kind = 3 → z = 0) ∧ Rj W1.heap.size w wc b F G S' D' R' vs' vp' j f gen cnt' gen cnt' ∧ Same D' R' ∧ D'.st.length = 24 ∧ D'.pd.length ≤ 4 * (k + 1) ∧ wc.heap[M]? = some (.cells (jacell act).toArray 40 (0, 0)))
    case first =>
      by_cases h0 : act.kind = 0
      case pos =>
        as_aux_lemma =>
          have hk0 : (act.kind == 0) = true := by simpa using h0
          have h0H : Hid (act.kind = 0) := h0
          clear h0
          obtain ⟨tx, tc, htv⟩ := sl_form hok.t
          have hT : Sl w.heap.size w (.slice tx act.text.length tc) act.text.length (act.text.map bv) := by rw [← htv]; exact hok.t
          have m3 : WM.cell? ⟨M, 3, none⟩ = some (.slice tx act.text.length tc) := by rw [← htv]; exact cell_blk hMb rfl
          have htl := hok.tl
          have hTV : Hid (act.tv = .slice tx act.text.length tc) := htv
          clear htv hokM
          have hcp : Sl w.heap.size (WM.alloc (.cells #[] 5)) (.slice tx act.text.length tc) act.text.length (act.text.map bv) := hT.keep (below_of_nw (Fr.alloc hX.nw _))
          have m3' := cell_nw m3 (Fr.alloc (Fr.refl (fun _ => False) WM) (.cells #[] 5))
          go_wp2_with (at_builtin; refine wpList_append_sl _ rfl _ _ 37 rfl WM.heap.size 5 i5 (.int .u8 0) 1 1 Try.underlying37 hi5 hz50 hz51 hz52 rfl (by decide) _ 0 [] rfl (World.ownsRow_lit WM #[] 0 (Nat.le_refl _) (by decide) rfl) w.heap.size _ act.text.length (act.text.map bv) rfl hcp (by simp) (bv_oneCell _) (by unfold maxLen; omega) (by omega) (by simp) ?_; intro v2 A2 ho2 hg2 hv2; refine stop_here ?_)
          unfold Hid
          have hn2 : Nw WM A2 := Fr.grown ((Fr.refl _ WM).alloc _) hg2 (fun q hq => .inr (by simp only [Act.eval, Value.ownBlock] at hq; simp at hq; omega))
          have ho2 : A2.ownsRow WM.heap.size 5 1 v2 act.text.length (act.text.map bv) := by simpa using ho2
          have hs2 := copy_slp (w := w) ho2 (S := S) (fun q hq => (hX.dk.ge q hq).2)
          have lF := heap_lt hX.rb
          have lG := heap_lt hX.kb
          have lJ := heap_lt hX.jr.blk
          have hs2j : Slp (fun q => ¬ (S q ∨ q = j) ∧ q ≠ F ∧ q ≠ G) A2 v2 act.text.length (act.text.map bv) := (slp_of_owns ho2).keep (fun q hq => ⟨⟨fun h => h.elim (fun h => by have := (hX.dk.ge q h).2; have := (ho2.lt q hq).1; omega) (fun h => by have := (ho2.lt q hq).1; omega), by have := (ho2.lt q hq).1; omega, by have := (ho2.lt q hq).1; omega⟩, rfl⟩)
          have hX2 := hX.keep hn2
          have hMA2 := (hn2.block _ (heap_lt hMb) id).trans hMb
          have hcl := hX.jr.cl
          obtain ⟨vo2, vc2, rfl⟩ := owns_form ho2
          clear hcp hg2 hv2 ho2 hX hn2 m3 m3' m0
          go_wp2_with (go_at_call 13; refine stop_here ?_)
          unfold Hid
          refine (c_jadd _ hX2.dk hX2.jr hX2.nS.2.2 hs2 (by omega) (by omega)).mono ?_
          rintro e A3 ⟨rfl, S3, hD3, hJ3, hf3, hS3⟩
          have hX3 := hX2.mv hf3 (fun _ h => h) hD3 hS3 hJ3
          have hsO := hs2j.fr (X' := fun q => q ≠ F ∧ q ≠ G) hf3 (fun q hq _ => hq.1) (fun q hq _ => hq.2)
          have hMA3 := (hf3.block M (heap_lt hMA2) (fun h => h.elim hMS.1 hMS.2.1)).trans hMA2
          have m3 : A3.cell? ⟨M, 3, none⟩ = some (.slice tx act.text.length tc) := by
            exact (cell_blk (i := 3) hMA3 (v := act.tv) rfl).trans (congrArg some hTV.out)
          have hRpd : R.pd.length ≤ 800000 := by rw [hsm.pd]; omega
          have hsa := same_add hsm f gen cnt act.text
          have hla := lim_add D f gen cnt act.text
          have hT3 := hT.keep (below_of_nw hX3.nw)
          have hr3 := range_all hX3.rb
          have hk3 := range_all hX3.kb
          clear hs2 hs2j hX2 hf3 hD3 hS3 hJ3 hMA2
          obtain ⟨r, hr⟩ : ∃ r, Hid (r = D.add f gen cnt act.text) := ⟨_, rfl⟩
          rw [← hr.out] at hX3 hsa hla ⊢
          go_wp2_with (first
            | (refine wpList_load_as rfl 30 (.tmp 8) rfl F 0 rfl (rval vs vp R) _ rfl hr3 Try.row30 Try.size30 ?_)
            | (refine wpList_load_as rfl 36 (.tmp 10) rfl G 0 rfl (jval f gen cnt) _ rfl hk3 Try.rowJ Try.sizeJ ?_)
            | (go_at_call 14; refine stop_here ?_))
          unfold Hid
          refine (c_radd _ hX3.rg (by omega) hg2 hcl hT3 hX3.nw.size (by omega) hRpd).mono ?_
          obtain ⟨r', hr'⟩ : ∃ r', Hid (r' = R.add f gen cnt act.text) := ⟨_, rfl⟩
          rw [← hr'.out] at hsa ⊢
          rintro e A4 ⟨vs4, vp4, rfl, hG4, hn4⟩
          have hX5 := hX3.setF hn4 hG4
          have hv34 := (hX3.keep hn4).rb
          have hone4 := ref_one hG4
          have hkb5 := hX5.kb
          have hX6 := hX5.setG gen (addN cnt r'.2)
          have hnF5 : Fr (fun q => q = F ∨ q = G) A3 ((A4.setRow F (rcells vs4 vp4 r'.1).toArray).setRow G (jcells f gen (addN cnt r'.2)).toArray) := Fr.setRow (Fr.setRow (hn4.mono (fun _ => False.elim)) (.inl (.inl rfl)) _) (.inl (.inr rfl)) _
          have hMA6 := (hnF5.block M (heap_lt hMA3) (fun h => h.elim hMS.2.2.1 hMS.2.2.2)).trans hMA3
          have hsO6 := (hsO.fr (X' := fun _ => True) hnF5 (fun q hq _ h => h.elim hq.1 hq.2) (fun _ _ _ => trivial)).slw
          have hT6 := hT.keep (below_of_nw hX6.nw)
          generalize hA5 : A4.setRow F (rcells vs4 vp4 r'.1).toArray = A5 at *
          have hA5 : Hid (A4.setRow F (rcells vs4 vp4 r'.1).toArray = A5) := hA5
          generalize hA6 : A5.setRow G (jcells f gen (addN cnt r'.2)).toArray = A6 at *
          have hA6 : Hid (A5.setRow G (jcells f gen (addN cnt r'.2)).toArray = A6) := hA6
          have m6 : A6.cell? ⟨M, 3, none⟩ = some (.slice tx act.text.length tc) := (cell_blk (i := 3) hMA6 (v := act.tv) rfl).trans (congrArg some hTV.out)
          have hcv1 := run_string_sl (P := Try.prog) 37 5 9 Try.underlying37 Try.underlying5 Try.underlying9 hsO6
          have hcv2 := run_string_sl (P := Try.prog) 37 5 9 Try.underlying37 Try.underlying5 Try.underlying9 hT6
          have HX : Hid (Rj W1.heap.size w A6 b F G S3 r.1 r'.1 vs4 vp4 j f gen (addN cnt r.2) gen (addN cnt r.2)) := by unfold Hid; have h := hX6; rw [hsa.2] at h; exact h
          have HF : Hid (Same r.1 r'.1 ∧ r.1.st.length = 24 ∧ r.1.pd.length ≤ 4 * (k + 1)) := ⟨hsa.1, by have := hla.1; rw [hL] at this; exact this, by have := hla.2; omega⟩
          have hee : Hid (r'.2 = r.2) := hsa.2
          generalize (⟨act.text.toArray⟩ : ByteArray) = X at *
          generalize addN cnt r'.2 = cn' at *
          clear hX3 hX5 hX6 hG4 hn4 hnF5 hsO hsO6 hT6 hT3 hr3 hk3 hla hsa hMA3 m3
          obtain ⟨D', z⟩ := r
          obtain ⟨R', z'⟩ := r'
          simp only at HX HF hee hone4 hA5 ⊢
          go_wp2_with (first
            | (refine wpList_store_all rfl 30 (.tmp 8) _ rfl F rfl (rval vs4 vp4 R') rfl _ rfl _ 30 hv34 rfl hone4 Try.size30 ?_; rw [hA5.out])
            | (refine wpList_store_all rfl 36 (.tmp 10) _ rfl G rfl (jval f gen cn') rfl _ rfl _ 36 hkb5 rfl (j_one f gen cn') Try.sizeJ ?_; rw [hA6.out]))
          go_meet
          case rel =>
            obtain ⟨h1, h2, h3⟩ := HF.out
            exact ⟨z, _, S3, D', R', vs4, vp4, rfl, by rw [hee.out], fun h => by have := h0H.out; omega, HX.out, h1, h2, h3, hMA6⟩
      by_cases h1 : act.kind = 1
      case pos =>
        as_aux_lemma =>
          have hk0 : (act.kind == 0) = false := by simpa using h0
          have hk1 : (act.kind == 1) = true := by simpa using h1
          clear h1
          have hpl := hok.p
          have m1 : WM.cell? ⟨M, 1, none⟩ = some (.int .i64 act.place) := cell_blk hMb rfl
          clear h0 hokM
          go_wp2_with (go_at_call 15; refine stop_here ?_)
          unfold Hid
          refine (c_break act.place _ hX.dk hpl.1 hpl.2).mono ?_
          rintro e A3 ⟨rfl, hd3⟩
          have hMA3 : A3.heap[M]? = some (.cells (jacell act).toArray 40 (0, 0)) := by
            obtain ⟨S3, -, hf3, -⟩ := hd3
            exact (hf3.block M (heap_lt hMb) hMS.1).trans hMb
          obtain ⟨S3, hX3⟩ := hX.done hd3
          have m1 : A3.cell? ⟨M, 1, none⟩ = some (.int .i64 act.place) := cell_blk hMA3 rfl
          have hr3 := range_all hX3.rb
          clear hX hd3 m0
          go_wp2_with (first
            | (refine wpList_load_as rfl 30 (.tmp 8) rfl F 0 rfl (rval vs vp R) _ rfl hr3 Try.row30 Try.size30 ?_)
            | (go_at_call 16; refine stop_here ?_))
          unfold Hid
          refine (c_rbreak act.place _ hX3.rg).mono ?_
          rintro e A4 ⟨rfl, hn4⟩
          have hG4 := (hX3.rg.nw hn4).brk act.place hpl.2
          have hX5 := hX3.setF hn4 (hG4.keep (X' := fun k => (¬ S3 k ∧ k ≠ F ∧ k ≠ G ∧ k ≠ j) ∨ A3.heap.size ≤ k) (fun q hq _ => ⟨.inl hq, rfl⟩))
          have hv34 := (hX3.keep hn4).rb
          have hone4 := ref_one hG4
          have hnF5 : Fr (fun q => q = F) A3 (A4.setRow F (rcells vs vp (R.rbrk act.place)).toArray) := Fr.setRow (S := fun q => q = F) (Fr.mono hn4 (fun _ => False.elim)) (.inl rfl) _
          have hMA5 := (hnF5.block M (heap_lt hMA3) hMS.2.2.1).trans hMA3
          generalize hA5 : A4.setRow F (rcells vs vp (R.rbrk act.place)).toArray = A5 at *
          have hA5 : Hid (A4.setRow F (rcells vs vp (R.rbrk act.place)).toArray = A5) := hA5
          clear hX3 hG4 hn4 hnF5 hr3 hMA3 m1
          go_wp2_with (refine wpList_store_all rfl 30 (.tmp 8) _ rfl F rfl (rval vs vp (R.rbrk act.place)) rfl _ rfl _ 30 hv34 rfl hone4 Try.size30 ?_; rw [hA5.out])
          go_meet
          case rel => exact ⟨0, cnt, S3, D.brk act.place, R.rbrk act.place, vs, vp, rfl, rfl, fun _ => rfl, hX5, hsm.brk act.place, hL, by show D.pd.length ≤ _; omega, hMA5⟩
      by_cases h2 : act.kind = 2
      case pos =>
        as_aux_lemma =>
          have hk0 : (act.kind == 0) = false := by simpa using h0
          have hk1 : (act.kind == 1) = false := by simpa using h1
          have hk2 : (act.kind == 2) = true := by simpa using h2
          clear h2
          obtain ⟨ko, kc, hkv⟩ := sl_form hok.s
          have hkv : Hid (act.kv = .slice ko act.keep.length kc) := hkv
          have hKs : Sl w.heap.size w (.slice ko act.keep.length kc) act.keep.length (act.keep.map Value.bool) := by rw [← hkv.out]; exact hok.s
          have hkl := hok.l
          clear h0 h1 hokM m0
          have cells : ∀ W' : World, W'.heap[M]? = some (.cells (jacell act).toArray 40 (0, 0)) → W'.cell? ⟨M, 4, none⟩ = some (.slice ko act.keep.length kc) ∧ W'.cell? ⟨M, 1, none⟩ = some (.int .i64 act.place) ∧ W'.cell? ⟨M, 2, none⟩ = some (.int .i64 act.cut) := fun W' h => ⟨(cell_blk (i := 4) h (v := act.kv) rfl).trans (congrArg some hkv.out), cell_blk h rfl, cell_blk h rfl⟩
          have cells : Hid (∀ W' : World, W'.heap[M]? = some (.cells (jacell act).toArray 40 (0, 0)) → W'.cell? ⟨M, 4, none⟩ = some (.slice ko act.keep.length kc) ∧ W'.cell? ⟨M, 1, none⟩ = some (.int .i64 act.place) ∧ W'.cell? ⟨M, 2, none⟩ = some (.int .i64 act.cut)) := cells
          have hm0 : WM.cell? ⟨M, 0, none⟩ = some (.int .i64 act.kind) := cell_blk hMb rfl
          go_wp2
          clear hm0
          have hS0 : (fun w' : World => w'.cell? ⟨M, 4, none⟩ = some (.slice ko act.keep.length kc) ∧ w'.cell? ⟨M, 1, none⟩ = some (.int .i64 act.place) ∧ w'.cell? ⟨M, 2, none⟩ = some (.int .i64 act.cut)) WM.drew := cells.out _ hMb
          refine wp_region_ord [] 9 [(0, true), (2, true), (3, true), (5, true), (6, true), (7, true), (8, true), (1, false), (4, false)] (fun w' : World => w'.cell? ⟨M, 4, none⟩ = some (.slice ko act.keep.length kc) ∧ w'.cell? ⟨M, 1, none⟩ = some (.int .i64 act.place) ∧ w'.cell? ⟨M, 2, none⟩ = some (.int .i64 act.cut)) (by kernel_rfl) (by kernel_rfl) ?_
          refine ord_quietL _ ?_ rfl hS0 rfl ?_ ?_
          rotate_left
          · rintro w' ⟨hS1, hS2, hS3⟩; go_simp; rfl
          simp only [Act.put, List.setIfInBounds_toArray, List.set_cons_zero, List.set_cons_succ]
          refine ord_quietL _ ?_ rfl hS0 rfl ?_ ?_
          rotate_left
          · rintro w' ⟨hS1, hS2, hS3⟩; go_simp; rfl
          simp only [Act.put, List.setIfInBounds_toArray, List.set_cons_zero, List.set_cons_succ]
          refine ord_quietL _ ?_ rfl hS0 rfl ?_ ?_
          rotate_left
          · rintro w' ⟨hS1, hS2, hS3⟩; go_simp; rfl
          simp only [Act.put, List.setIfInBounds_toArray, List.set_cons_zero, List.set_cons_succ]
          refine ord_quietL _ ?_ rfl hS0 rfl ?_ ?_
          rotate_left
          · rintro w' ⟨hS1, hS2, hS3⟩; go_simp; rfl
          simp only [Act.put, List.setIfInBounds_toArray, List.set_cons_zero, List.set_cons_succ]
          refine ord_quietL _ ?_ rfl hS0 rfl ?_ ?_
          rotate_left
          · rintro w' ⟨hS1, hS2, hS3⟩; go_simp; rfl
          simp only [Act.put, List.setIfInBounds_toArray, List.set_cons_zero, List.set_cons_succ]
          refine ord_quietL _ ?_ rfl hS0 rfl ?_ ?_
          rotate_left
          · rintro w' ⟨hS1, hS2, hS3⟩; go_simp; rfl
          simp only [Act.put, List.setIfInBounds_toArray, List.set_cons_zero, List.set_cons_succ]
          refine ord_quietL _ ?_ rfl hS0 rfl ?_ ?_
          rotate_left
          · rintro w' ⟨hS1, hS2, hS3⟩; go_simp; rfl
          simp only [Act.put, List.setIfInBounds_toArray, List.set_cons_zero, List.set_cons_succ]
          have hn7 : Nw WM (WM.alloc (.cells #[] 4)).drew := (Fr.alloc (Fr.refl _ WM) _).drew
          have hc7 := cells.out _ ((hn7.block _ (heap_lt hMb) id).trans hMb)
          refine ord_actL _ rfl (fun K1 hK1 => ?_)
          go_wp2
          refine hK1 _ _ hc7 ?_
          clear hK1 K1 hS0
          have hown7 : (WM.alloc (.cells #[] 4)).drew.ownsRow WM.heap.size 4 1 (.slice (some ⟨WM.heap.size, 0, none⟩) 0 0) 0 [] := (World.ownsRow_lit WM #[] 0 (Nat.le_refl _) (by decide) rfl).drew
          have hk7 := hKs.keep (below_of_nw (hX.nw.trans hn7))
          have hsz7 : WM.heap.size ≤ (WM.alloc (.cells #[] 4)).drew.heap.size := hn7.size
          generalize (WM.alloc (.cells #[] 4)).drew = W7 at *
          refine ord_actL _ rfl (fun K1 hK1 => ?_)
          go_wp2_with (at_builtin; refine wpList_append_sl _ rfl _ _ 38 rfl WM.heap.size 4 i4 (.bool false) 1 1 Try.underlying38 hi4 hz40 hz41 hz42 rfl (by decide) _ 0 [] rfl hown7 w.heap.size _ act.keep.length (act.keep.map Value.bool) rfl hk7 (by simp) (bool_oneCell _) (by unfold maxLen; omega) (by omega) hsz7 ?_)
          intro v8 W8 ho8 hg8 hv8
          have hn8 : Nw WM W8 := Fr.grown hn7 hg8 (fun q hq => .inr (hown7.lt q hq).1)
          have ho8 : W8.ownsRow WM.heap.size 4 1 v8 act.keep.length (act.keep.map Value.bool) := by simpa using ho8
          have hs8 := copy_slpB ho8 (S := S) (fun q hq => (hX.dk.ge q hq).2)
          have hX8 := hX.keep hn8
          have hM8 := (hn8.block _ (heap_lt hMb) id).trans hMb
          have hc8 := cells.out _ hM8
          obtain ⟨ko8, kc8, rfl⟩ := owns_form ho8
          clear ho8 hg8 hv8 hn7 hc7 hown7 hk7 hsz7 hX hMb hn8
          go_wp2
          refine hK1 _ _ hc8 ?_
          clear hK1 K1 hc8
          refine ord_tail ?_
          simp only [List.drop_succ_cons, List.drop_zero]
          go_wp2_with (go_at_call 17; refine stop_here ?_)
          unfold Hid
          refine (c_crash _ act.keep act.place act.cut _ hX8.dk hs8).mono ?_
          rintro e A3 ⟨rfl, hd3⟩
          have hMA3 : A3.heap[M]? = some (.cells (jacell act).toArray 40 (0, 0)) := by
            obtain ⟨S3, -, hf3, -⟩ := hd3
            exact (hf3.block M (heap_lt hM8) hMS.1).trans hM8
          obtain ⟨S3, hX3⟩ := hX8.done hd3
          obtain ⟨n4, n1, n2⟩ := cells.out _ hMA3
          have hr3 := range_all hX3.rb
          have hKs3 : Slp (fun _ => True) A3 (.slice ko act.keep.length kc) act.keep.length (act.keep.map Value.bool) := Slp.keep (Slp.of_sl (hKs.keep (below_of_nw hX3.nw))) (fun q _ => ⟨trivial, rfl⟩)
          clear hX8 hd3 hs8 hM8
          go_wp2_with (first
            | (refine wpList_load_as rfl 30 (.tmp 8) rfl F 0 rfl (rval vs vp R) _ rfl hr3 Try.row30 Try.size30 ?_)
            | (go_at_call 18; refine stop_here ?_))
          unfold Hid
          refine (c_rcrash _ act.keep act.place act.cut _ hX3.rg hKs3).mono ?_
          rintro e A4 ⟨vs4, vp4, rfl, hG4, hn4⟩
          have hX5 := hX3.setF hn4 hG4
          have hv34 := (hX3.keep hn4).rb
          have hone4 := ref_one hG4
          have hnF5 : Fr (fun q => q = F) A3 (A4.setRow F (rcells vs4 vp4 (R.crash act.keep act.place act.cut)).toArray) := Fr.setRow (S := fun q => q = F) (Fr.mono hn4 (fun _ => False.elim)) (.inl rfl) _
          have hMA5 := (hnF5.block M (heap_lt hMA3) hMS.2.2.1).trans hMA3
          generalize hA5 : A4.setRow F (rcells vs4 vp4 (R.crash act.keep act.place act.cut)).toArray = A5 at *
          have hA5 : Hid (A4.setRow F (rcells vs4 vp4 (R.crash act.keep act.place act.cut)).toArray = A5) := hA5
          clear hX3 hG4 hn4 hnF5 hr3 hMA3 n4 n1 n2 hKs3
          go_wp2_with (refine wpList_store_all rfl 30 (.tmp 8) _ rfl F rfl (rval vs4 vp4 (R.crash act.keep act.place act.cut)) rfl _ rfl _ 30 hv34 rfl hone4 Try.size30 ?_; rw [hA5.out])
          go_meet
          case rel => exact ⟨0, cnt, S3, D.crash act.keep act.place act.cut, R.crash act.keep act.place act.cut, vs4, vp4, rfl, rfl, fun _ => rfl, hX5, hsm.crash act.keep act.place act.cut, (crash_len D _ _ _).trans hL, by show (0 : Nat) ≤ _; omega, hMA5⟩
      have hk0 : (act.kind == 0) = false := by simpa using h0
      have hk1 : (act.kind == 1) = false := by simpa using h1
      have hk2 : (act.kind == 2) = false := by simpa using h2
      clear h0 h1 h2
      go_wp2
      go_meet
      case rel => exact ⟨0, cnt, S, D, R, vs, vp, rfl, rfl, fun _ => rfl, hX, hsm, hL, by omega, hMb⟩
    case rest =>
      clear hX hsm hL hpd hMb hMS m0 hokM
      obtain ⟨z, cnt, S, D, R, vs, vp, rfl, rfl, hz, hX, hsm, hL, hpd, hM2⟩ := hcut
      have r0 : wc.cell? ⟨M, 0, none⟩ = some (.int .i64 act.kind) := cell_blk hM2 rfl
      have g1c : wc.cell? ⟨G, 1, none⟩ = some (.int .u64 (gen : Int)) := cell_blk hX.kb rfl
      have hzz : (z != z) = false := by simp
      have hkr := hok.k
      clear hok
      by_cases h2 : act.kind = 2
      · have hk2 : (act.kind == 2) = true := by simpa using h2
        obtain rfl := hz (.inl h2)
        clear h2 hz
        as_aux_lemma =>
          by_cases hbig : 281474976710000 < gen
          · have hdb : decide ((281474976710000 : Int) < (gen : Int)) = true := decide_eq_true (by omega)
            have hbE : Hid (Below w.heap.size w wc) := below_of_nw hX.nw
            clear hX hsm hM2 hL hpd
            go_wp2
            go_ret
            exact ⟨rfl, hbE.out⟩
          have hdb : decide ((281474976710000 : Int) < (gen : Int)) = false := decide_eq_false (by omega)
          have hgw : IntKind.u64.wrap ((gen : Int) + 1) = (gen : Int) + 1 := by rw [IntKind.wrap_u64]; omega
          have hkb := hX.kb
          have hX3 := hX.setG (gen + 1) 0
          have g3 : (wc.setRow G (jcells f (gen + 1) 0).toArray).cell? ⟨G, 1, none⟩ = some (.int .u64 ((gen + 1 : Nat) : Int)) := cell_blk hX3.kb rfl
          generalize hWg : wc.setRow G (jcells f (gen + 1) 0).toArray = Wg at *
          have hWg : Hid (wc.setRow G (jcells f (gen + 1) 0).toArray = Wg) := hWg
          clear hX hM2
          go_wp2_with (first
            | (refine wpList_build_as rfl 36 _ rfl (jval f (gen + 1) 0) _ rfl (by simp only [List.map_cons, List.map_nil, Act.eval]; exact Try.builtJ f (gen + 1)) ?_)
            | (refine wpList_store_all rfl 36 (.tmp 10) _ rfl G rfl (jval f (gen + 1) 0) rfl _ rfl _ 36 hkb rfl (j_one f (gen + 1) 0) Try.sizeJ ?_; rw [hWg.out])
            | (go_at_call 12; refine stop_here ?_))
          unfold Hid
          refine (c_start (f := f) (gen := gen + 1) _ (by omega) (by omega)).mono ?_
          rintro e Wh ⟨rfl, hjh, hnh⟩
          have hX4 := hX3.newJ hnh hjh
          clear hX3 hjh hnh hWg hkb g3 g1c
          generalize Wg.heap.size = jn at *
          obtain ⟨gen2, cnt, hge, hX⟩ : ∃ g c : Nat, (2 ≤ g ∧ g < 281474976710656) ∧ Rj W1.heap.size w Wh b F G S D R vs vp jn f g c g c := ⟨gen + 1, 0, ⟨by omega, by omega⟩, hX4⟩
          clear hX4 hdb hgw
          obtain ⟨g1, hg1e⟩ : ∃ g1, Hid (gen2 - 1 = g1) := ⟨_, rfl⟩
          have hsub : IntKind.u64.wrap ((gen2 : Int) - 1) = (g1 : Int) := by rw [IntKind.wrap_u64, ← hg1e.out]; omega
          have hsub2 : (gen2 : Int) - 1 = (g1 : Int) := by rw [← hg1e.out]; omega
          have hg1b : g1 < 281474976710656 := by rw [← hg1e.out]; omega
          have hd1 : decide (1 < (gen2 : Int)) = true := decide_eq_true (by omega)
          have hcc : ((cnt : Int) != (cnt : Int)) = false := by simp
          have hXl : f + 16 ≤ D.st.length := by omega
          have hXr : f + 16 ≤ R.st.length := by rw [hsm.st]; omega
          go_wp2
          have hS : (fun w' : World => w'.rangeAt F 0 (rcells vs vp R) ∧ w'.cell? ⟨G, 1, none⟩ = some (.int .u64 (gen2 : Int)) ∧ w'.cell? ⟨G, 2, none⟩ = some (.int .i64 (cnt : Int))) Wh.drew := ⟨(World.rangeAt_drew ..).2 (range_all hX.rb), cell_blk hX.kb rfl, cell_blk hX.kb rfl⟩
          have hX := hX.keep (w1 := Wh.drew) ((Fr.refl (fun _ => False) Wh).drew)
          refine wp_region_ord [] 48 [(0, true), (1, true), (2, true), (3, true), (4, true), (5, true), (6, true), (7, true), (8, true), (10, true), (11, true), (9, false), (12, true), (13, true), (14, true), (15, true), (16, true), (17, true), (18, true), (20, true), (21, true), (22, true), (23, true), (19, false), (24, false), (25, false), (26, true), (27, true), (28, true), (29, true), (30, true), (31, true), (32, true), (33, true), (34, true), (35, true), (36, true), (37, true), (39, true), (40, true), (41, true), (42, true), (43, true), (38, false), (44, false), (45, false), (46, true), (47, true)] (fun w' : World => w'.rangeAt F 0 (rcells vs vp R) ∧ w'.cell? ⟨G, 1, none⟩ = some (.int .u64 (gen2 : Int)) ∧ w'.cell? ⟨G, 2, none⟩ = some (.int .i64 (cnt : Int))) (by kernel_rfl) (by kernel_rfl) ?_
          generalize Wh.drew = B0 at *
          refine ord_quietL _ ?_ rfl hS rfl ?_ ?_
          rotate_left
          · rintro w' ⟨hS1, hS2, hS3⟩; go_simp; rfl
          simp only [Act.put, List.setIfInBounds_toArray, List.set_cons_zero, List.set_cons_succ]
          refine ord_quietL _ ?_ rfl hS rfl ?_ ?_
          rotate_left
          · rintro w' ⟨hS1, hS2, hS3⟩; go_simp; rfl
          simp only [Act.put, List.setIfInBounds_toArray, List.set_cons_zero, List.set_cons_succ]
          refine ord_quietL _ ?_ rfl hS rfl ?_ ?_
          rotate_left
          · rintro w' ⟨hS1, hS2, hS3⟩; go_simp; rfl
          simp only [Act.put, List.setIfInBounds_toArray, List.set_cons_zero, List.set_cons_succ]
          refine ord_quietL _ ?_ rfl hS rfl ?_ ?_
          rotate_left
          · rintro w' ⟨hS1, hS2, hS3⟩; go_simp; rfl
          simp only [Act.put, List.setIfInBounds_toArray, List.set_cons_zero, List.set_cons_succ]
          refine ord_quietL _ ?_ rfl hS rfl ?_ ?_
          rotate_left
          · rintro w' ⟨hS1, hS2, hS3⟩; go_simp; rfl
          simp only [Act.put, List.setIfInBounds_toArray, List.set_cons_zero, List.set_cons_succ]
          refine ord_quietL _ ?_ rfl hS rfl ?_ ?_
          rotate_left
          · rintro w' ⟨hS1, hS2, hS3⟩; go_simp; rfl
          simp only [Act.put, List.setIfInBounds_toArray, List.set_cons_zero, List.set_cons_succ]
          refine ord_quietL _ ?_ rfl hS rfl ?_ ?_
          rotate_left
          · rintro w' ⟨hS1, hS2, hS3⟩; go_simp; rfl
          simp only [Act.put, List.setIfInBounds_toArray, List.set_cons_zero, List.set_cons_succ]
          refine ord_quietL _ ?_ rfl hS rfl ?_ ?_
          rotate_left
          · rintro w' ⟨hS1, hS2, hS3⟩; go_simp; rfl
          simp only [Act.put, List.setIfInBounds_toArray, List.set_cons_zero, List.set_cons_succ]
          refine ord_quietL _ ?_ rfl hS rfl ?_ ?_
          rotate_left
          · rintro w' ⟨hS1, hS2, hS3⟩; go_simp; rfl
          simp only [Act.put, List.setIfInBounds_toArray, List.set_cons_zero, List.set_cons_succ]
          refine ord_quietL _ ?_ rfl hS rfl ?_ ?_
          rotate_left
          · rintro w' ⟨hS1, hS2, hS3⟩; go_simp; rfl
          simp only [Act.put, List.setIfInBounds_toArray, List.set_cons_zero, List.set_cons_succ]
          refine ord_quietL _ ?_ rfl hS rfl ?_ ?_
          rotate_left
          · rintro w' ⟨hS1, hS2, hS3⟩; go_simp; rfl
          simp only [Act.put, List.setIfInBounds_toArray, List.set_cons_zero, List.set_cons_succ]
          refine ord_actL _ rfl (fun K1 hK1 => ?_)
          go_wp2_with fail
          refine (c_jlen _ hX.jr).mono ?_
          rintro e w' ⟨rfl, rfl⟩
          go_wp2
          refine hK1 _ _ hS ?_
          clear hK1 K1
          refine ord_quietL _ ?_ rfl hS rfl ?_ ?_
          rotate_left
          · rintro w' ⟨hS1, hS2, hS3⟩; go_simp; rfl
          simp only [Act.put, List.setIfInBounds_toArray, List.set_cons_zero, List.set_cons_succ]
          refine ord_quietL _ ?_ rfl hS rfl ?_ ?_
          rotate_left
          · rintro w' ⟨hS1, hS2, hS3⟩; go_simp; rfl
          simp only [Act.put, List.setIfInBounds_toArray, List.set_cons_zero, List.set_cons_succ]
          refine ord_quietL _ ?_ rfl hS rfl ?_ ?_
          rotate_left
          · rintro w' ⟨hS1, hS2, hS3⟩; go_simp; rfl
          simp only [Act.put, List.setIfInBounds_toArray, List.set_cons_zero, List.set_cons_succ]
          refine ord_quietL _ ?_ rfl hS rfl ?_ ?_
          rotate_left
          · rintro w' ⟨hS1, hS2, hS3⟩; go_simp; rfl
          simp only [Act.put, List.setIfInBounds_toArray, List.set_cons_zero, List.set_cons_succ]
          refine ord_quietL _ ?_ rfl hS rfl ?_ ?_
          rotate_left
          · rintro w' ⟨hS1, hS2, hS3⟩; go_simp; rfl
          simp only [Act.put, List.setIfInBounds_toArray, List.set_cons_zero, List.set_cons_succ]
          refine ord_quietL _ ?_ rfl hS rfl ?_ ?_
          rotate_left
          · rintro w' ⟨hS1, hS2, hS3⟩; go_simp; rfl
          simp only [Act.put, List.setIfInBounds_toArray, List.set_cons_zero, List.set_cons_succ]
          refine ord_quietL _ ?_ rfl hS rfl ?_ ?_
          rotate_left
          · rintro w' ⟨hS1, hS2, hS3⟩; go_simp; rfl
          simp only [Act.put, List.setIfInBounds_toArray, List.set_cons_zero, List.set_cons_succ]
          refine ord_quietL _ (rval vs vp R) rfl hS rfl ?_ ?_
          · rintro w' ⟨hS1, hS2, hS3⟩; exact run_load_quiet 30 _ w' rfl F 0 rfl _ hS1 Try.row30 Try.size30
          simp only [Act.put, List.setIfInBounds_toArray, List.set_cons_zero, List.set_cons_succ]
          refine ord_quietL _ ?_ rfl hS rfl ?_ ?_
          rotate_left
          · rintro w' ⟨hS1, hS2, hS3⟩; go_simp; rfl
          simp only [Act.put, List.setIfInBounds_toArray, List.set_cons_zero, List.set_cons_succ]
          refine ord_quietL _ ?_ rfl hS rfl ?_ ?_
          rotate_left
          · rintro w' ⟨hS1, hS2, hS3⟩; go_simp; rfl
          simp only [Act.put, List.setIfInBounds_toArray, List.set_cons_zero, List.set_cons_succ]
          refine ord_quietL _ ?_ rfl hS rfl ?_ ?_
          rotate_left
          · rintro w' ⟨hS1, hS2, hS3⟩; go_simp; rfl
          simp only [Act.put, List.setIfInBounds_toArray, List.set_cons_zero, List.set_cons_succ]
          refine ord_actL _ rfl (fun K1 hK1 => ?_)
          go_wp2_with fail
          refine (c_scan (f := f) (gen := gen2) _ hX.dk (by omega) (by omega) hXl).mono ?_
          rintro e B19 ⟨u19x, rfl, hp19, hn_⟩
          have hX := hX.keep hn_
          obtain ⟨L19, hL19⟩ : ∃ L, Hid (L = D.scan f gen2) := ⟨_, rfl⟩
          have hl19 : L19.length ≤ 4 := by rw [hL19.out]; exact scan_le D f gen2
          rw [← hL19.out] at hp19
          obtain ⟨o19, c19, rfl, -, -⟩ := id hp19
          have hS := hX.chk
          clear hn_
          go_wp2
          refine hK1 _ _ hS ?_
          clear hK1 K1
          refine ord_actL _ rfl (fun K1 hK1 => ?_)
          go_wp2_with fail
          refine (c_rscan (f := f) (gen := gen2) _ hX.rg (by omega) (by omega) hXr).mono ?_
          rintro e B24 ⟨u24x, rfl, hp24, hn_⟩
          rw [same_scan hsm] at hp24
          have hX := hX.keep hn_
          rw [← hL19.out] at hp24
          obtain ⟨o24, c24, rfl, -, -⟩ := id hp24
          have hp19 := (hp19.keep (below_of_nw hn_)).mono hn_.size
          have hS := hX.chk
          clear hn_
          go_wp2
          refine hK1 _ _ hS ?_
          clear hK1 K1
          refine ord_actL _ rfl (fun K1 hK1 => ?_)
          go_wp2_with fail
          refine (c_same _ _ _ _ _ _ hp19 hp24 (Nat.le_refl _) (by omega) (by omega)).mono ?_
          rintro e B25 ⟨rfl, hn_⟩
          rw [decide_eq_true rfl]
          have hX := hX.keep hn_
          have hS := hX.chk
          clear hn_ hp19 hp24
          go_wp2
          refine hK1 _ _ hS ?_
          clear hK1 K1
          refine ord_quietL _ ?_ rfl hS rfl ?_ ?_
          rotate_left
          · rintro w' ⟨hS1, hS2, hS3⟩; go_simp; rfl
          simp only [Act.put, List.setIfInBounds_toArray, List.set_cons_zero, List.set_cons_succ]
          refine ord_quietL _ ?_ rfl hS rfl ?_ ?_
          rotate_left
          · rintro w' ⟨hS1, hS2, hS3⟩; go_simp; rfl
          simp only [Act.put, List.setIfInBounds_toArray, List.set_cons_zero, List.set_cons_succ]
          refine ord_quietL _ ?_ rfl hS rfl ?_ ?_
          rotate_left
          · rintro w' ⟨hS1, hS2, hS3⟩; go_simp; rfl
          simp only [Act.put, List.setIfInBounds_toArray, List.set_cons_zero, List.set_cons_succ]
          refine ord_quietL _ ?_ rfl hS rfl ?_ ?_
          rotate_left
          · rintro w' ⟨hS1, hS2, hS3⟩; go_simp; rfl
          simp only [Act.put, List.setIfInBounds_toArray, List.set_cons_zero, List.set_cons_succ]
          refine ord_quietL _ ?_ rfl hS rfl ?_ ?_
          rotate_left
          · rintro w' ⟨hS1, hS2, hS3⟩; go_simp; rfl
          simp only [Act.put, List.setIfInBounds_toArray, List.set_cons_zero, List.set_cons_succ]
          refine ord_quietL _ ?_ rfl hS rfl ?_ ?_
          rotate_left
          · rintro w' ⟨hS1, hS2, hS3⟩; go_simp; rfl
          simp only [Act.put, List.setIfInBounds_toArray, List.set_cons_zero, List.set_cons_succ]
          refine ord_quietL _ ?_ rfl hS rfl ?_ ?_
          rotate_left
          · rintro w' ⟨hS1, hS2, hS3⟩; go_simp; rfl
          simp only [Act.put, List.setIfInBounds_toArray, List.set_cons_zero, List.set_cons_succ]
          refine ord_quietL _ ?_ rfl hS rfl ?_ ?_
          rotate_left
          · rintro w' ⟨hS1, hS2, hS3⟩; go_simp; rfl
          simp only [Act.put, List.setIfInBounds_toArray, List.set_cons_zero, List.set_cons_succ]
          refine ord_quietL _ ?_ rfl hS rfl ?_ ?_
          rotate_left
          · rintro w' ⟨hS1, hS2, hS3⟩; go_simp; rfl
          simp only [Act.put, List.setIfInBounds_toArray, List.set_cons_zero, List.set_cons_succ]
          refine ord_quietL _ ?_ rfl hS rfl ?_ ?_
          rotate_left
          · rintro w' ⟨hS1, hS2, hS3⟩; go_simp; rfl
          simp only [Act.put, List.setIfInBounds_toArray, List.set_cons_zero, List.set_cons_succ]
          refine ord_quietL _ ?_ rfl hS rfl ?_ ?_
          rotate_left
          · rintro w' ⟨hS1, hS2, hS3⟩; go_simp; rfl
          simp only [Act.put, List.setIfInBounds_toArray, List.set_cons_zero, List.set_cons_succ]
          refine ord_quietL _ ?_ rfl hS rfl ?_ ?_
          rotate_left
          · rintro w' ⟨hS1, hS2, hS3⟩; go_simp; rfl
          simp only [Act.put, List.setIfInBounds_toArray, List.set_cons_zero, List.set_cons_succ]
          refine ord_quietL _ (rval vs vp R) rfl hS rfl ?_ ?_
          · rintro w' ⟨hS1, hS2, hS3⟩; exact run_load_quiet 30 _ w' rfl F 0 rfl _ hS1 Try.row30 Try.size30
          simp only [Act.put, List.setIfInBounds_toArray, List.set_cons_zero, List.set_cons_succ]
          refine ord_quietL _ ?_ rfl hS rfl ?_ ?_
          rotate_left
          · rintro w' ⟨hS1, hS2, hS3⟩; go_simp; rfl
          simp only [Act.put, List.setIfInBounds_toArray, List.set_cons_zero, List.set_cons_succ]
          refine ord_quietL _ ?_ rfl hS rfl ?_ ?_
          rotate_left
          · rintro w' ⟨hS1, hS2, hS3⟩; go_simp; rfl
          simp only [Act.put, List.setIfInBounds_toArray, List.set_cons_zero, List.set_cons_succ]
          refine ord_quietL _ ?_ rfl hS rfl ?_ ?_
          rotate_left
          · rintro w' ⟨hS1, hS2, hS3⟩; go_simp; rfl
          simp only [Act.put, List.setIfInBounds_toArray, List.set_cons_zero, List.set_cons_succ]
          refine ord_quietL _ ?_ rfl hS rfl ?_ ?_
          rotate_left
          · rintro w' ⟨hS1, hS2, hS3⟩; go_simp; rfl
          simp only [Act.put, List.setIfInBounds_toArray, List.set_cons_zero, List.set_cons_succ]
          refine ord_actL _ rfl (fun K1 hK1 => ?_)
          go_wp2_with fail
          refine (c_scan (f := f) (gen := g1) _ hX.dk (by omega) (by omega) hXl).mono ?_
          rintro e B38 ⟨u38x, rfl, hp38, hn_⟩
          have hX := hX.keep hn_
          obtain ⟨L38, hL38⟩ : ∃ L, Hid (L = D.scan f g1) := ⟨_, rfl⟩
          have hl38 : L38.length ≤ 4 := by rw [hL38.out]; exact scan_le D f g1
          rw [← hL38.out] at hp38
          obtain ⟨o38, c38, rfl, -, -⟩ := id hp38
          have hS := hX.chk
          clear hn_
          go_wp2
          refine hK1 _ _ hS ?_
          clear hK1 K1
          refine ord_actL _ rfl (fun K1 hK1 => ?_)
          go_wp2_with fail
          refine (c_rscan (f := f) (gen := g1) _ hX.rg (by omega) (by omega) hXr).mono ?_
          rintro e B44 ⟨u44x, rfl, hp44, hn_⟩
          rw [same_scan hsm] at hp44
          have hX := hX.keep hn_
          rw [← hL38.out] at hp44
          obtain ⟨o44, c44, rfl, -, -⟩ := id hp44
          have hp38 := (hp38.keep (below_of_nw hn_)).mono hn_.size
          have hS := hX.chk
          clear hn_
          go_wp2
          refine hK1 _ _ hS ?_
          clear hK1 K1
          refine ord_actL _ rfl (fun K1 hK1 => ?_)
          go_wp2_with fail
          refine (c_same _ _ _ _ _ _ hp38 hp44 (Nat.le_refl _) (by omega) (by omega)).mono ?_
          rintro e B45 ⟨rfl, hn_⟩
          rw [decide_eq_true rfl]
          have hX := hX.keep hn_
          have hS := hX.chk
          clear hn_ hp38 hp44
          go_wp2
          refine hK1 _ _ hS ?_
          clear hK1 K1
          refine ord_quietL _ ?_ rfl hS rfl ?_ ?_
          rotate_left
          · rintro w' ⟨hS1, hS2, hS3⟩; go_simp; rfl
          simp only [Act.put, List.setIfInBounds_toArray, List.set_cons_zero, List.set_cons_succ]
          refine ord_quietL _ ?_ rfl hS rfl ?_ ?_
          rotate_left
          · rintro w' ⟨hS1, hS2, hS3⟩; go_simp; rfl
          simp only [Act.put, List.setIfInBounds_toArray, List.set_cons_zero, List.set_cons_succ]
          refine ord_tail ?_
          simp only [List.drop_succ_cons, List.drop_zero]
          clear hS
          go_wp2
          go_roundw
          case rel => exact ⟨k + 1, _, gen2, cnt, _, _, _, _, _, by omega, by go_num, rfl, ⟨by omega, by omega⟩, hX, hsm, hL, hpd⟩
          case measure => simp [intOf]; omega
      have hk2 : (act.kind == 2) = false := by simpa using h2
      by_cases h3 : act.kind = 3
      · have hk3 : (act.kind == 3) = true := by simpa using h3
        obtain rfl := hz (.inr h3)
        clear h2 h3 hz
        as_aux_lemma =>
          by_cases hbig : 281474976710000 < gen
          · have hdb : decide ((281474976710000 : Int) < (gen : Int)) = true := decide_eq_true (by omega)
            have hbE : Hid (Below w.heap.size w wc) := below_of_nw hX.nw
            clear hX hsm hM2 hL hpd
            go_wp2
            go_ret
            exact ⟨rfl, hbE.out⟩
          have hdb : decide ((281474976710000 : Int) < (gen : Int)) = false := decide_eq_false (by omega)
          have hgw : IntKind.u64.wrap ((gen : Int) + 1) = (gen : Int) + 1 := by rw [IntKind.wrap_u64]; omega
          have hkb := hX.kb
          have hX3 := hX.setG (gen + 1) 0
          have g3 : (wc.setRow G (jcells f (gen + 1) 0).toArray).cell? ⟨G, 1, none⟩ = some (.int .u64 ((gen + 1 : Nat) : Int)) := cell_blk hX3.kb rfl
          generalize hWg : wc.setRow G (jcells f (gen + 1) 0).toArray = Wg at *
          have hWg : Hid (wc.setRow G (jcells f (gen + 1) 0).toArray = Wg) := hWg
          clear hX hM2
          go_wp2_with (first
            | (refine wpList_build_as rfl 36 _ rfl (jval f (gen + 1) 0) _ rfl (by simp only [List.map_cons, List.map_nil, Act.eval]; exact Try.builtJ f (gen + 1)) ?_)
            | (refine wpList_store_all rfl 36 (.tmp 10) _ rfl G rfl (jval f (gen + 1) 0) rfl _ rfl _ 36 hkb rfl (j_one f (gen + 1) 0) Try.sizeJ ?_; rw [hWg.out])
            | (go_at_call 12; refine stop_here ?_))
          unfold Hid
          refine (c_start (f := f) (gen := gen + 1) _ (by omega) (by omega)).mono ?_
          rintro e Wh ⟨rfl, hjh, hnh⟩
          have hX4 := hX3.newJ hnh hjh
          clear hX3 hjh hnh hWg hkb g3 g1c
          generalize Wg.heap.size = jn at *
          obtain ⟨gen2, cnt, hge, hX⟩ : ∃ g c : Nat, (2 ≤ g ∧ g < 281474976710656) ∧ Rj W1.heap.size w Wh b F G S D R vs vp jn f g c g c := ⟨gen + 1, 0, ⟨by omega, by omega⟩, hX4⟩
          clear hX4 hdb hgw
          obtain ⟨g1, hg1e⟩ : ∃ g1, Hid (gen2 - 1 = g1) := ⟨_, rfl⟩
          have hsub : IntKind.u64.wrap ((gen2 : Int) - 1) = (g1 : Int) := by rw [IntKind.wrap_u64, ← hg1e.out]; omega
          have hsub2 : (gen2 : Int) - 1 = (g1 : Int) := by rw [← hg1e.out]; omega
          have hg1b : g1 < 281474976710656 := by rw [← hg1e.out]; omega
          have hd1 : decide (1 < (gen2 : Int)) = true := decide_eq_true (by omega)
          have hcc : ((cnt : Int) != (cnt : Int)) = false := by simp
          have hXl : f + 16 ≤ D.st.length := by omega
          have hXr : f + 16 ≤ R.st.length := by rw [hsm.st]; omega
          go_wp2
          have hS : (fun w' : World => w'.rangeAt F 0 (rcells vs vp R) ∧ w'.cell? ⟨G, 1, none⟩ = some (.int .u64 (gen2 : Int)) ∧ w'.cell? ⟨G, 2, none⟩ = some (.int .i64 (cnt : Int))) Wh.drew := ⟨(World.rangeAt_drew ..).2 (range_all hX.rb), cell_blk hX.kb rfl, cell_blk hX.kb rfl⟩
          have hX := hX.keep (w1 := Wh.drew) ((Fr.refl (fun _ => False) Wh).drew)
          refine wp_region_ord [] 48 [(0, true), (1, true), (2, true), (3, true), (4, true), (5, true), (6, true), (7, true), (8, true), (10, true), (11, true), (9, false), (12, true), (13, true), (14, true), (15, true), (16, true), (17, true), (18, true), (20, true), (21, true), (22, true), (23, true), (19, false), (24, false), (25, false), (26, true), (27, true), (28, true), (29, true), (30, true), (31, true), (32, true), (33, true), (34, true), (35, true), (36, true), (37, true), (39, true), (40, true), (41, true), (42, true), (43, true), (38, false), (44, false), (45, false), (46, true), (47, true)] (fun w' : World => w'.rangeAt F 0 (rcells vs vp R) ∧ w'.cell? ⟨G, 1, none⟩ = some (.int .u64 (gen2 : Int)) ∧ w'.cell? ⟨G, 2, none⟩ = some (.int .i64 (cnt : Int))) (by kernel_rfl) (by kernel_rfl) ?_
          generalize Wh.drew = B0 at *
          refine ord_quietL _ ?_ rfl hS rfl ?_ ?_
          rotate_left
          · rintro w' ⟨hS1, hS2, hS3⟩; go_simp; rfl
          simp only [Act.put, List.setIfInBounds_toArray, List.set_cons_zero, List.set_cons_succ]
          refine ord_quietL _ ?_ rfl hS rfl ?_ ?_
          rotate_left
          · rintro w' ⟨hS1, hS2, hS3⟩; go_simp; rfl
          simp only [Act.put, List.setIfInBounds_toArray, List.set_cons_zero, List.set_cons_succ]
          refine ord_quietL _ ?_ rfl hS rfl ?_ ?_
          rotate_left
          · rintro w' ⟨hS1, hS2, hS3⟩; go_simp; rfl
          simp only [Act.put, List.setIfInBounds_toArray, List.set_cons_zero, List.set_cons_succ]
          refine ord_quietL _ ?_ rfl hS rfl ?_ ?_
          rotate_left
          · rintro w' ⟨hS1, hS2, hS3⟩; go_simp; rfl
          simp only [Act.put, List.setIfInBounds_toArray, List.set_cons_zero, List.set_cons_succ]
          refine ord_quietL _ ?_ rfl hS rfl ?_ ?_
          rotate_left
          · rintro w' ⟨hS1, hS2, hS3⟩; go_simp; rfl
          simp only [Act.put, List.setIfInBounds_toArray, List.set_cons_zero, List.set_cons_succ]
          refine ord_quietL _ ?_ rfl hS rfl ?_ ?_
          rotate_left
          · rintro w' ⟨hS1, hS2, hS3⟩; go_simp; rfl
          simp only [Act.put, List.setIfInBounds_toArray, List.set_cons_zero, List.set_cons_succ]
          refine ord_quietL _ ?_ rfl hS rfl ?_ ?_
          rotate_left
          · rintro w' ⟨hS1, hS2, hS3⟩; go_simp; rfl
          simp only [Act.put, List.setIfInBounds_toArray, List.set_cons_zero, List.set_cons_succ]
          refine ord_quietL _ ?_ rfl hS rfl ?_ ?_
          rotate_left
          · rintro w' ⟨hS1, hS2, hS3⟩; go_simp; rfl
          simp only [Act.put, List.setIfInBounds_toArray, List.set_cons_zero, List.set_cons_succ]
          refine ord_quietL _ ?_ rfl hS rfl ?_ ?_
          rotate_left
          · rintro w' ⟨hS1, hS2, hS3⟩; go_simp; rfl
          simp only [Act.put, List.setIfInBounds_toArray, List.set_cons_zero, List.set_cons_succ]
          refine ord_quietL _ ?_ rfl hS rfl ?_ ?_
          rotate_left
          · rintro w' ⟨hS1, hS2, hS3⟩; go_simp; rfl
          simp only [Act.put, List.setIfInBounds_toArray, List.set_cons_zero, List.set_cons_succ]
          refine ord_quietL _ ?_ rfl hS rfl ?_ ?_
          rotate_left
          · rintro w' ⟨hS1, hS2, hS3⟩; go_simp; rfl
          simp only [Act.put, List.setIfInBounds_toArray, List.set_cons_zero, List.set_cons_succ]
          refine ord_actL _ rfl (fun K1 hK1 => ?_)
          go_wp2_with fail
          refine (c_jlen _ hX.jr).mono ?_
          rintro e w' ⟨rfl, rfl⟩
          go_wp2
          refine hK1 _ _ hS ?_
          clear hK1 K1
          refine ord_quietL _ ?_ rfl hS rfl ?_ ?_
          rotate_left
          · rintro w' ⟨hS1, hS2, hS3⟩; go_simp; rfl
          simp only [Act.put, List.setIfInBounds_toArray, List.set_cons_zero, List.set_cons_succ]
          refine ord_quietL _ ?_ rfl hS rfl ?_ ?_
          rotate_left
          · rintro w' ⟨hS1, hS2, hS3⟩; go_simp; rfl
          simp only [Act.put, List.setIfInBounds_toArray, List.set_cons_zero, List.set_cons_succ]
          refine ord_quietL _ ?_ rfl hS rfl ?_ ?_
          rotate_left
          · rintro w' ⟨hS1, hS2, hS3⟩; go_simp; rfl
          simp only [Act.put, List.setIfInBounds_toArray, List.set_cons_zero, List.set_cons_succ]
          refine ord_quietL _ ?_ rfl hS rfl ?_ ?_
          rotate_left
          · rintro w' ⟨hS1, hS2, hS3⟩; go_simp; rfl
          simp only [Act.put, List.setIfInBounds_toArray, List.set_cons_zero, List.set_cons_succ]
          refine ord_quietL _ ?_ rfl hS rfl ?_ ?_
          rotate_left
          · rintro w' ⟨hS1, hS2, hS3⟩; go_simp; rfl
          simp only [Act.put, List.setIfInBounds_toArray, List.set_cons_zero, List.set_cons_succ]
          refine ord_quietL _ ?_ rfl hS rfl ?_ ?_
          rotate_left
          · rintro w' ⟨hS1, hS2, hS3⟩; go_simp; rfl
          simp only [Act.put, List.setIfInBounds_toArray, List.set_cons_zero, List.set_cons_succ]
          refine ord_quietL _ ?_ rfl hS rfl ?_ ?_
          rotate_left
          · rintro w' ⟨hS1, hS2, hS3⟩; go_simp; rfl
          simp only [Act.put, List.setIfInBounds_toArray, List.set_cons_zero, List.set_cons_succ]
          refine ord_quietL _ (rval vs vp R) rfl hS rfl ?_ ?_
          · rintro w' ⟨hS1, hS2, hS3⟩; exact run_load_quiet 30 _ w' rfl F 0 rfl _ hS1 Try.row30 Try.size30
          simp only [Act.put, List.setIfInBounds_toArray, List.set_cons_zero, List.set_cons_succ]
          refine ord_quietL _ ?_ rfl hS rfl ?_ ?_
          rotate_left
          · rintro w' ⟨hS1, hS2, hS3⟩; go_simp; rfl
          simp only [Act.put, List.setIfInBounds_toArray, List.set_cons_zero, List.set_cons_succ]
          refine ord_quietL _ ?_ rfl hS rfl ?_ ?_
          rotate_left
          · rintro w' ⟨hS1, hS2, hS3⟩; go_simp; rfl
          simp only [Act.put, List.setIfInBounds_toArray, List.set_cons_zero, List.set_cons_succ]
          refine ord_quietL _ ?_ rfl hS rfl ?_ ?_
          rotate_left
          · rintro w' ⟨hS1, hS2, hS3⟩; go_simp; rfl
          simp only [Act.put, List.setIfInBounds_toArray, List.set_cons_zero, List.set_cons_succ]
          refine ord_actL _ rfl (fun K1 hK1 => ?_)
          go_wp2_with fail
          refine (c_scan (f := f) (gen := gen2) _ hX.dk (by omega) (by omega) hXl).mono ?_
          rintro e B19 ⟨u19x, rfl, hp19, hn_⟩
          have hX := hX.keep hn_
          obtain ⟨L19, hL19⟩ : ∃ L, Hid (L = D.scan f gen2) := ⟨_, rfl⟩
          have hl19 : L19.length ≤ 4 := by rw [hL19.out]; exact scan_le D f gen2
          rw [← hL19.out] at hp19
          obtain ⟨o19, c19, rfl, -, -⟩ := id hp19
          have hS := hX.chk
          clear hn_
          go_wp2
          refine hK1 _ _ hS ?_
          clear hK1 K1
          refine ord_actL _ rfl (fun K1 hK1 => ?_)
          go_wp2_with fail
          refine (c_rscan (f := f) (gen := gen2) _ hX.rg (by omega) (by omega) hXr).mono ?_
          rintro e B24 ⟨u24x, rfl, hp24, hn_⟩
          rw [same_scan hsm] at hp24
          have hX := hX.keep hn_
          rw [← hL19.out] at hp24
          obtain ⟨o24, c24, rfl, -, -⟩ := id hp24
          have hp19 := (hp19.keep (below_of_nw hn_)).mono hn_.size
          have hS := hX.chk
          clear hn_
          go_wp2
          refine hK1 _ _ hS ?_
          clear hK1 K1
          refine ord_actL _ rfl (fun K1 hK1 => ?_)
          go_wp2_with fail
          refine (c_same _ _ _ _ _ _ hp19 hp24 (Nat.le_refl _) (by omega) (by omega)).mono ?_
          rintro e B25 ⟨rfl, hn_⟩
          rw [decide_eq_true rfl]
          have hX := hX.keep hn_
          have hS := hX.chk
          clear hn_ hp19 hp24
          go_wp2
          refine hK1 _ _ hS ?_
          clear hK1 K1
          refine ord_quietL _ ?_ rfl hS rfl ?_ ?_
          rotate_left
          · rintro w' ⟨hS1, hS2, hS3⟩; go_simp; rfl
          simp only [Act.put, List.setIfInBounds_toArray, List.set_cons_zero, List.set_cons_succ]
          refine ord_quietL _ ?_ rfl hS rfl ?_ ?_
          rotate_left
          · rintro w' ⟨hS1, hS2, hS3⟩; go_simp; rfl
          simp only [Act.put, List.setIfInBounds_toArray, List.set_cons_zero, List.set_cons_succ]
          refine ord_quietL _ ?_ rfl hS rfl ?_ ?_
          rotate_left
          · rintro w' ⟨hS1, hS2, hS3⟩; go_simp; rfl
          simp only [Act.put, List.setIfInBounds_toArray, List.set_cons_zero, List.set_cons_succ]
          refine ord_quietL _ ?_ rfl hS rfl ?_ ?_
          rotate_left
          · rintro w' ⟨hS1, hS2, hS3⟩; go_simp; rfl
          simp only [Act.put, List.setIfInBounds_toArray, List.set_cons_zero, List.set_cons_succ]
          refine ord_quietL _ ?_ rfl hS rfl ?_ ?_
          rotate_left
          · rintro w' ⟨hS1, hS2, hS3⟩; go_simp; rfl
          simp only [Act.put, List.setIfInBounds_toArray, List.set_cons_zero, List.set_cons_succ]
          refine ord_quietL _ ?_ rfl hS rfl ?_ ?_
          rotate_left
          · rintro w' ⟨hS1, hS2, hS3⟩; go_simp; rfl
          simp only [Act.put, List.setIfInBounds_toArray, List.set_cons_zero, List.set_cons_succ]
          refine ord_quietL _ ?_ rfl hS rfl ?_ ?_
          rotate_left
          · rintro w' ⟨hS1, hS2, hS3⟩; go_simp; rfl
          simp only [Act.put, List.setIfInBounds_toArray, List.set_cons_zero, List.set_cons_succ]
          refine ord_quietL _ ?_ rfl hS rfl ?_ ?_
          rotate_left
          · rintro w' ⟨hS1, hS2, hS3⟩; go_simp; rfl
          simp only [Act.put, List.setIfInBounds_toArray, List.set_cons_zero, List.set_cons_succ]
          refine ord_quietL _ ?_ rfl hS rfl ?_ ?_
          rotate_left
          · rintro w' ⟨hS1, hS2, hS3⟩; go_simp; rfl
          simp only [Act.put, List.setIfInBounds_toArray, List.set_cons_zero, List.set_cons_succ]
          refine ord_quietL _ ?_ rfl hS rfl ?_ ?_
          rotate_left
          · rintro w' ⟨hS1, hS2, hS3⟩; go_simp; rfl
          simp only [Act.put, List.setIfInBounds_toArray, List.set_cons_zero, List.set_cons_succ]
          refine ord_quietL _ ?_ rfl hS rfl ?_ ?_
          rotate_left
          · rintro w' ⟨hS1, hS2, hS3⟩; go_simp; rfl
          simp only [Act.put, List.setIfInBounds_toArray, List.set_cons_zero, List.set_cons_succ]
          refine ord_quietL _ ?_ rfl hS rfl ?_ ?_
          rotate_left
          · rintro w' ⟨hS1, hS2, hS3⟩; go_simp; rfl
          simp only [Act.put, List.setIfInBounds_toArray, List.set_cons_zero, List.set_cons_succ]
          refine ord_quietL _ (rval vs vp R) rfl hS rfl ?_ ?_
          · rintro w' ⟨hS1, hS2, hS3⟩; exact run_load_quiet 30 _ w' rfl F 0 rfl _ hS1 Try.row30 Try.size30
          simp only [Act.put, List.setIfInBounds_toArray, List.set_cons_zero, List.set_cons_succ]
          refine ord_quietL _ ?_ rfl hS rfl ?_ ?_
          rotate_left
          · rintro w' ⟨hS1, hS2, hS3⟩; go_simp; rfl
          simp only [Act.put, List.setIfInBounds_toArray, List.set_cons_zero, List.set_cons_succ]
          refine ord_quietL _ ?_ rfl hS rfl ?_ ?_
          rotate_left
          · rintro w' ⟨hS1, hS2, hS3⟩; go_simp; rfl
          simp only [Act.put, List.setIfInBounds_toArray, List.set_cons_zero, List.set_cons_succ]
          refine ord_quietL _ ?_ rfl hS rfl ?_ ?_
          rotate_left
          · rintro w' ⟨hS1, hS2, hS3⟩; go_simp; rfl
          simp only [Act.put, List.setIfInBounds_toArray, List.set_cons_zero, List.set_cons_succ]
          refine ord_quietL _ ?_ rfl hS rfl ?_ ?_
          rotate_left
          · rintro w' ⟨hS1, hS2, hS3⟩; go_simp; rfl
          simp only [Act.put, List.setIfInBounds_toArray, List.set_cons_zero, List.set_cons_succ]
          refine ord_actL _ rfl (fun K1 hK1 => ?_)
          go_wp2_with fail
          refine (c_scan (f := f) (gen := g1) _ hX.dk (by omega) (by omega) hXl).mono ?_
          rintro e B38 ⟨u38x, rfl, hp38, hn_⟩
          have hX := hX.keep hn_
          obtain ⟨L38, hL38⟩ : ∃ L, Hid (L = D.scan f g1) := ⟨_, rfl⟩
          have hl38 : L38.length ≤ 4 := by rw [hL38.out]; exact scan_le D f g1
          rw [← hL38.out] at hp38
          obtain ⟨o38, c38, rfl, -, -⟩ := id hp38
          have hS := hX.chk
          clear hn_
          go_wp2
          refine hK1 _ _ hS ?_
          clear hK1 K1
          refine ord_actL _ rfl (fun K1 hK1 => ?_)
          go_wp2_with fail
          refine (c_rscan (f := f) (gen := g1) _ hX.rg (by omega) (by omega) hXr).mono ?_
          rintro e B44 ⟨u44x, rfl, hp44, hn_⟩
          rw [same_scan hsm] at hp44
          have hX := hX.keep hn_
          rw [← hL38.out] at hp44
          obtain ⟨o44, c44, rfl, -, -⟩ := id hp44
          have hp38 := (hp38.keep (below_of_nw hn_)).mono hn_.size
          have hS := hX.chk
          clear hn_
          go_wp2
          refine hK1 _ _ hS ?_
          clear hK1 K1
          refine ord_actL _ rfl (fun K1 hK1 => ?_)
          go_wp2_with fail
          refine (c_same _ _ _ _ _ _ hp38 hp44 (Nat.le_refl _) (by omega) (by omega)).mono ?_
          rintro e B45 ⟨rfl, hn_⟩
          rw [decide_eq_true rfl]
          have hX := hX.keep hn_
          have hS := hX.chk
          clear hn_ hp38 hp44
          go_wp2
          refine hK1 _ _ hS ?_
          clear hK1 K1
          refine ord_quietL _ ?_ rfl hS rfl ?_ ?_
          rotate_left
          · rintro w' ⟨hS1, hS2, hS3⟩; go_simp; rfl
          simp only [Act.put, List.setIfInBounds_toArray, List.set_cons_zero, List.set_cons_succ]
          refine ord_quietL _ ?_ rfl hS rfl ?_ ?_
          rotate_left
          · rintro w' ⟨hS1, hS2, hS3⟩; go_simp; rfl
          simp only [Act.put, List.setIfInBounds_toArray, List.set_cons_zero, List.set_cons_succ]
          refine ord_tail ?_
          simp only [List.drop_succ_cons, List.drop_zero]
          clear hS
          go_wp2
          go_roundw
          case rel => exact ⟨k + 1, _, gen2, cnt, _, _, _, _, _, by omega, by go_num, rfl, ⟨by omega, by omega⟩, hX, hsm, hL, hpd⟩
          case measure => simp [intOf]; omega
      have hk3 : (act.kind == 3) = false := by simpa using h3
      clear h2 h3 hz
      by_cases h42 : z = 42
      · have hz42' : (z == 42) = true := by simpa using h42
        clear h42
        as_aux_lemma =>
          by_cases hbig : 281474976710000 < gen
          · have hdb : decide ((281474976710000 : Int) < (gen : Int)) = true := decide_eq_true (by omega)
            have hbE : Hid (Below w.heap.size w wc) := below_of_nw hX.nw
            clear hX hsm hM2 hL hpd
            go_wp2
            go_ret
            exact ⟨rfl, hbE.out⟩
          have hdb : decide ((281474976710000 : Int) < (gen : Int)) = false := decide_eq_false (by omega)
          have hgw : IntKind.u64.wrap ((gen : Int) + 1) = (gen : Int) + 1 := by rw [IntKind.wrap_u64]; omega
          have hkb := hX.kb
          have hX3 := hX.setG (gen + 1) 0
          have g3 : (wc.setRow G (jcells f (gen + 1) 0).toArray).cell? ⟨G, 1, none⟩ = some (.int .u64 ((gen + 1 : Nat) : Int)) := cell_blk hX3.kb rfl
          generalize hWg : wc.setRow G (jcells f (gen + 1) 0).toArray = Wg at *
          have hWg : Hid (wc.setRow G (jcells f (gen + 1) 0).toArray = Wg) := hWg
          clear hX hM2
          go_wp2_with (first
            | (refine wpList_build_as rfl 36 _ rfl (jval f (gen + 1) 0) _ rfl (by simp only [List.map_cons, List.map_nil, Act.eval]; exact Try.builtJ f (gen + 1)) ?_)
            | (refine wpList_store_all rfl 36 (.tmp 10) _ rfl G rfl (jval f (gen + 1) 0) rfl _ rfl _ 36 hkb rfl (j_one f (gen + 1) 0) Try.sizeJ ?_; rw [hWg.out])
            | (go_at_call 12; refine stop_here ?_))
          unfold Hid
          refine (c_start (f := f) (gen := gen + 1) _ (by omega) (by omega)).mono ?_
          rintro e Wh ⟨rfl, hjh, hnh⟩
          have hX4 := hX3.newJ hnh hjh
          clear hX3 hjh hnh hWg hkb g3 g1c
          generalize Wg.heap.size = jn at *
          obtain ⟨gen2, cnt, hge, hX⟩ : ∃ g c : Nat, (2 ≤ g ∧ g < 281474976710656) ∧ Rj W1.heap.size w Wh b F G S D R vs vp jn f g c g c := ⟨gen + 1, 0, ⟨by omega, by omega⟩, hX4⟩
          clear hX4 hdb hgw
          obtain ⟨g1, hg1e⟩ : ∃ g1, Hid (gen2 - 1 = g1) := ⟨_, rfl⟩
          have hsub : IntKind.u64.wrap ((gen2 : Int) - 1) = (g1 : Int) := by rw [IntKind.wrap_u64, ← hg1e.out]; omega
          have hsub2 : (gen2 : Int) - 1 = (g1 : Int) := by rw [← hg1e.out]; omega
          have hg1b : g1 < 281474976710656 := by rw [← hg1e.out]; omega
          have hd1 : decide (1 < (gen2 : Int)) = true := decide_eq_true (by omega)
          have hcc : ((cnt : Int) != (cnt : Int)) = false := by simp
          have hXl : f + 16 ≤ D.st.length := by omega
          have hXr : f + 16 ≤ R.st.length := by rw [hsm.st]; omega
          go_wp2
          have hS : (fun w' : World => w'.rangeAt F 0 (rcells vs vp R) ∧ w'.cell? ⟨G, 1, none⟩ = some (.int .u64 (gen2 : Int)) ∧ w'.cell? ⟨G, 2, none⟩ = some (.int .i64 (cnt : Int))) Wh.drew := ⟨(World.rangeAt_drew ..).2 (range_all hX.rb), cell_blk hX.kb rfl, cell_blk hX.kb rfl⟩
          have hX := hX.keep (w1 := Wh.drew) ((Fr.refl (fun _ => False) Wh).drew)
          refine wp_region_ord [] 48 [(0, true), (1, true), (2, true), (3, true), (4, true), (5, true), (6, true), (7, true), (8, true), (10, true), (11, true), (9, false), (12, true), (13, true), (14, true), (15, true), (16, true), (17, true), (18, true), (20, true), (21, true), (22, true), (23, true), (19, false), (24, false), (25, false), (26, true), (27, true), (28, true), (29, true), (30, true), (31, true), (32, true), (33, true), (34, true), (35, true), (36, true), (37, true), (39, true), (40, true), (41, true), (42, true), (43, true), (38, false), (44, false), (45, false), (46, true), (47, true)] (fun w' : World => w'.rangeAt F 0 (rcells vs vp R) ∧ w'.cell? ⟨G, 1, none⟩ = some (.int .u64 (gen2 : Int)) ∧ w'.cell? ⟨G, 2, none⟩ = some (.int .i64 (cnt : Int))) (by kernel_rfl) (by kernel_rfl) ?_
          generalize Wh.drew = B0 at *
          refine ord_quietL _ ?_ rfl hS rfl ?_ ?_
          rotate_left
          · rintro w' ⟨hS1, hS2, hS3⟩; go_simp; rfl
          simp only [Act.put, List.setIfInBounds_toArray, List.set_cons_zero, List.set_cons_succ]
          refine ord_quietL _ ?_ rfl hS rfl ?_ ?_
          rotate_left
          · rintro w' ⟨hS1, hS2, hS3⟩; go_simp; rfl
          simp only [Act.put, List.setIfInBounds_toArray, List.set_cons_zero, List.set_cons_succ]
          refine ord_quietL _ ?_ rfl hS rfl ?_ ?_
          rotate_left
          · rintro w' ⟨hS1, hS2, hS3⟩; go_simp; rfl
          simp only [Act.put, List.setIfInBounds_toArray, List.set_cons_zero, List.set_cons_succ]
          refine ord_quietL _ ?_ rfl hS rfl ?_ ?_
          rotate_left
          · rintro w' ⟨hS1, hS2, hS3⟩; go_simp; rfl
          simp only [Act.put, List.setIfInBounds_toArray, List.set_cons_zero, List.set_cons_succ]
          refine ord_quietL _ ?_ rfl hS rfl ?_ ?_
          rotate_left
          · rintro w' ⟨hS1, hS2, hS3⟩; go_simp; rfl
          simp only [Act.put, List.setIfInBounds_toArray, List.set_cons_zero, List.set_cons_succ]
          refine ord_quietL _ ?_ rfl hS rfl ?_ ?_
          rotate_left
          · rintro w' ⟨hS1, hS2, hS3⟩; go_simp; rfl
          simp only [Act.put, List.setIfInBounds_toArray, List.set_cons_zero, List.set_cons_succ]
          refine ord_quietL _ ?_ rfl hS rfl ?_ ?_
          rotate_left
          · rintro w' ⟨hS1, hS2, hS3⟩; go_simp; rfl
          simp only [Act.put, List.setIfInBounds_toArray, List.set_cons_zero, List.set_cons_succ]
          refine ord_quietL _ ?_ rfl hS rfl ?_ ?_
          rotate_left
          · rintro w' ⟨hS1, hS2, hS3⟩; go_simp; rfl
          simp only [Act.put, List.setIfInBounds_toArray, List.set_cons_zero, List.set_cons_succ]
          refine ord_quietL _ ?_ rfl hS rfl ?_ ?_
          rotate_left
          · rintro w' ⟨hS1, hS2, hS3⟩; go_simp; rfl
          simp only [Act.put, List.setIfInBounds_toArray, List.set_cons_zero, List.set_cons_succ]
          refine ord_quietL _ ?_ rfl hS rfl ?_ ?_
          rotate_left
          · rintro w' ⟨hS1, hS2, hS3⟩; go_simp; rfl
          simp only [Act.put, List.setIfInBounds_toArray, List.set_cons_zero, List.set_cons_succ]
          refine ord_quietL _ ?_ rfl hS rfl ?_ ?_
          rotate_left
          · rintro w' ⟨hS1, hS2, hS3⟩; go_simp; rfl
          simp only [Act.put, List.setIfInBounds_toArray, List.set_cons_zero, List.set_cons_succ]
          refine ord_actL _ rfl (fun K1 hK1 => ?_)
          go_wp2_with fail
          refine (c_jlen _ hX.jr).mono ?_
          rintro e w' ⟨rfl, rfl⟩
          go_wp2
          refine hK1 _ _ hS ?_
          clear hK1 K1
          refine ord_quietL _ ?_ rfl hS rfl ?_ ?_
          rotate_left
          · rintro w' ⟨hS1, hS2, hS3⟩; go_simp; rfl
          simp only [Act.put, List.setIfInBounds_toArray, List.set_cons_zero, List.set_cons_succ]
          refine ord_quietL _ ?_ rfl hS rfl ?_ ?_
          rotate_left
          · rintro w' ⟨hS1, hS2, hS3⟩; go_simp; rfl
          simp only [Act.put, List.setIfInBounds_toArray, List.set_cons_zero, List.set_cons_succ]
          refine ord_quietL _ ?_ rfl hS rfl ?_ ?_
          rotate_left
          · rintro w' ⟨hS1, hS2, hS3⟩; go_simp; rfl
          simp only [Act.put, List.setIfInBounds_toArray, List.set_cons_zero, List.set_cons_succ]
          refine ord_quietL _ ?_ rfl hS rfl ?_ ?_
          rotate_left
          · rintro w' ⟨hS1, hS2, hS3⟩; go_simp; rfl
          simp only [Act.put, List.setIfInBounds_toArray, List.set_cons_zero, List.set_cons_succ]
          refine ord_quietL _ ?_ rfl hS rfl ?_ ?_
          rotate_left
          · rintro w' ⟨hS1, hS2, hS3⟩; go_simp; rfl
          simp only [Act.put, List.setIfInBounds_toArray, List.set_cons_zero, List.set_cons_succ]
          refine ord_quietL _ ?_ rfl hS rfl ?_ ?_
          rotate_left
          · rintro w' ⟨hS1, hS2, hS3⟩; go_simp; rfl
          simp only [Act.put, List.setIfInBounds_toArray, List.set_cons_zero, List.set_cons_succ]
          refine ord_quietL _ ?_ rfl hS rfl ?_ ?_
          rotate_left
          · rintro w' ⟨hS1, hS2, hS3⟩; go_simp; rfl
          simp only [Act.put, List.setIfInBounds_toArray, List.set_cons_zero, List.set_cons_succ]
          refine ord_quietL _ (rval vs vp R) rfl hS rfl ?_ ?_
          · rintro w' ⟨hS1, hS2, hS3⟩; exact run_load_quiet 30 _ w' rfl F 0 rfl _ hS1 Try.row30 Try.size30
          simp only [Act.put, List.setIfInBounds_toArray, List.set_cons_zero, List.set_cons_succ]
          refine ord_quietL _ ?_ rfl hS rfl ?_ ?_
          rotate_left
          · rintro w' ⟨hS1, hS2, hS3⟩; go_simp; rfl
          simp only [Act.put, List.setIfInBounds_toArray, List.set_cons_zero, List.set_cons_succ]
          refine ord_quietL _ ?_ rfl hS rfl ?_ ?_
          rotate_left
          · rintro w' ⟨hS1, hS2, hS3⟩; go_simp; rfl
          simp only [Act.put, List.setIfInBounds_toArray, List.set_cons_zero, List.set_cons_succ]
          refine ord_quietL _ ?_ rfl hS rfl ?_ ?_
          rotate_left
          · rintro w' ⟨hS1, hS2, hS3⟩; go_simp; rfl
          simp only [Act.put, List.setIfInBounds_toArray, List.set_cons_zero, List.set_cons_succ]
          refine ord_actL _ rfl (fun K1 hK1 => ?_)
          go_wp2_with fail
          refine (c_scan (f := f) (gen := gen2) _ hX.dk (by omega) (by omega) hXl).mono ?_
          rintro e B19 ⟨u19x, rfl, hp19, hn_⟩
          have hX := hX.keep hn_
          obtain ⟨L19, hL19⟩ : ∃ L, Hid (L = D.scan f gen2) := ⟨_, rfl⟩
          have hl19 : L19.length ≤ 4 := by rw [hL19.out]; exact scan_le D f gen2
          rw [← hL19.out] at hp19
          obtain ⟨o19, c19, rfl, -, -⟩ := id hp19
          have hS := hX.chk
          clear hn_
          go_wp2
          refine hK1 _ _ hS ?_
          clear hK1 K1
          refine ord_actL _ rfl (fun K1 hK1 => ?_)
          go_wp2_with fail
          refine (c_rscan (f := f) (gen := gen2) _ hX.rg (by omega) (by omega) hXr).mono ?_
          rintro e B24 ⟨u24x, rfl, hp24, hn_⟩
          rw [same_scan hsm] at hp24
          have hX := hX.keep hn_
          rw [← hL19.out] at hp24
          obtain ⟨o24, c24, rfl, -, -⟩ := id hp24
          have hp19 := (hp19.keep (below_of_nw hn_)).mono hn_.size
          have hS := hX.chk
          clear hn_
          go_wp2
          refine hK1 _ _ hS ?_
          clear hK1 K1
          refine ord_actL _ rfl (fun K1 hK1 => ?_)
          go_wp2_with fail
          refine (c_same _ _ _ _ _ _ hp19 hp24 (Nat.le_refl _) (by omega) (by omega)).mono ?_
          rintro e B25 ⟨rfl, hn_⟩
          rw [decide_eq_true rfl]
          have hX := hX.keep hn_
          have hS := hX.chk
          clear hn_ hp19 hp24
          go_wp2
          refine hK1 _ _ hS ?_
          clear hK1 K1
          refine ord_quietL _ ?_ rfl hS rfl ?_ ?_
          rotate_left
          · rintro w' ⟨hS1, hS2, hS3⟩; go_simp; rfl
          simp only [Act.put, List.setIfInBounds_toArray, List.set_cons_zero, List.set_cons_succ]
          refine ord_quietL _ ?_ rfl hS rfl ?_ ?_
          rotate_left
          · rintro w' ⟨hS1, hS2, hS3⟩; go_simp; rfl
          simp only [Act.put, List.setIfInBounds_toArray, List.set_cons_zero, List.set_cons_succ]
          refine ord_quietL _ ?_ rfl hS rfl ?_ ?_
          rotate_left
          · rintro w' ⟨hS1, hS2, hS3⟩; go_simp; rfl
          simp only [Act.put, List.setIfInBounds_toArray, List.set_cons_zero, List.set_cons_succ]
          refine ord_quietL _ ?_ rfl hS rfl ?_ ?_
          rotate_left
          · rintro w' ⟨hS1, hS2, hS3⟩; go_simp; rfl
          simp only [Act.put, List.setIfInBounds_toArray, List.set_cons_zero, List.set_cons_succ]
          refine ord_quietL _ ?_ rfl hS rfl ?_ ?_
          rotate_left
          · rintro w' ⟨hS1, hS2, hS3⟩; go_simp; rfl
          simp only [Act.put, List.setIfInBounds_toArray, List.set_cons_zero, List.set_cons_succ]
          refine ord_quietL _ ?_ rfl hS rfl ?_ ?_
          rotate_left
          · rintro w' ⟨hS1, hS2, hS3⟩; go_simp; rfl
          simp only [Act.put, List.setIfInBounds_toArray, List.set_cons_zero, List.set_cons_succ]
          refine ord_quietL _ ?_ rfl hS rfl ?_ ?_
          rotate_left
          · rintro w' ⟨hS1, hS2, hS3⟩; go_simp; rfl
          simp only [Act.put, List.setIfInBounds_toArray, List.set_cons_zero, List.set_cons_succ]
          refine ord_quietL _ ?_ rfl hS rfl ?_ ?_
          rotate_left
          · rintro w' ⟨hS1, hS2, hS3⟩; go_simp; rfl
          simp only [Act.put, List.setIfInBounds_toArray, List.set_cons_zero, List.set_cons_succ]
          refine ord_quietL _ ?_ rfl hS rfl ?_ ?_
          rotate_left
          · rintro w' ⟨hS1, hS2, hS3⟩; go_simp; rfl
          simp only [Act.put, List.setIfInBounds_toArray, List.set_cons_zero, List.set_cons_succ]
          refine ord_quietL _ ?_ rfl hS rfl ?_ ?_
          rotate_left
          · rintro w' ⟨hS1, hS2, hS3⟩; go_simp; rfl
          simp only [Act.put, List.setIfInBounds_toArray, List.set_cons_zero, List.set_cons_succ]
          refine ord_quietL _ ?_ rfl hS rfl ?_ ?_
          rotate_left
          · rintro w' ⟨hS1, hS2, hS3⟩; go_simp; rfl
          simp only [Act.put, List.setIfInBounds_toArray, List.set_cons_zero, List.set_cons_succ]
          refine ord_quietL _ ?_ rfl hS rfl ?_ ?_
          rotate_left
          · rintro w' ⟨hS1, hS2, hS3⟩; go_simp; rfl
          simp only [Act.put, List.setIfInBounds_toArray, List.set_cons_zero, List.set_cons_succ]
          refine ord_quietL _ (rval vs vp R) rfl hS rfl ?_ ?_
          · rintro w' ⟨hS1, hS2, hS3⟩; exact run_load_quiet 30 _ w' rfl F 0 rfl _ hS1 Try.row30 Try.size30
          simp only [Act.put, List.setIfInBounds_toArray, List.set_cons_zero, List.set_cons_succ]
          refine ord_quietL _ ?_ rfl hS rfl ?_ ?_
          rotate_left
          · rintro w' ⟨hS1, hS2, hS3⟩; go_simp; rfl
          simp only [Act.put, List.setIfInBounds_toArray, List.set_cons_zero, List.set_cons_succ]
          refine ord_quietL _ ?_ rfl hS rfl ?_ ?_
          rotate_left
          · rintro w' ⟨hS1, hS2, hS3⟩; go_simp; rfl
          simp only [Act.put, List.setIfInBounds_toArray, List.set_cons_zero, List.set_cons_succ]
          refine ord_quietL _ ?_ rfl hS rfl ?_ ?_
          rotate_left
          · rintro w' ⟨hS1, hS2, hS3⟩; go_simp; rfl
          simp only [Act.put, List.setIfInBounds_toArray, List.set_cons_zero, List.set_cons_succ]
          refine ord_quietL _ ?_ rfl hS rfl ?_ ?_
          rotate_left
          · rintro w' ⟨hS1, hS2, hS3⟩; go_simp; rfl
          simp only [Act.put, List.setIfInBounds_toArray, List.set_cons_zero, List.set_cons_succ]
          refine ord_actL _ rfl (fun K1 hK1 => ?_)
          go_wp2_with fail
          refine (c_scan (f := f) (gen := g1) _ hX.dk (by omega) (by omega) hXl).mono ?_
          rintro e B38 ⟨u38x, rfl, hp38, hn_⟩
          have hX := hX.keep hn_
          obtain ⟨L38, hL38⟩ : ∃ L, Hid (L = D.scan f g1) := ⟨_, rfl⟩
          have hl38 : L38.length ≤ 4 := by rw [hL38.out]; exact scan_le D f g1
          rw [← hL38.out] at hp38
          obtain ⟨o38, c38, rfl, -, -⟩ := id hp38
          have hS := hX.chk
          clear hn_
          go_wp2
          refine hK1 _ _ hS ?_
          clear hK1 K1
          refine ord_actL _ rfl (fun K1 hK1 => ?_)
          go_wp2_with fail
          refine (c_rscan (f := f) (gen := g1) _ hX.rg (by omega) (by omega) hXr).mono ?_
          rintro e B44 ⟨u44x, rfl, hp44, hn_⟩
          rw [same_scan hsm] at hp44
          have hX := hX.keep hn_
          rw [← hL38.out] at hp44
          obtain ⟨o44, c44, rfl, -, -⟩ := id hp44
          have hp38 := (hp38.keep (below_of_nw hn_)).mono hn_.size
          have hS := hX.chk
          clear hn_
          go_wp2
          refine hK1 _ _ hS ?_
          clear hK1 K1
          refine ord_actL _ rfl (fun K1 hK1 => ?_)
          go_wp2_with fail
          refine (c_same _ _ _ _ _ _ hp38 hp44 (Nat.le_refl _) (by omega) (by omega)).mono ?_
          rintro e B45 ⟨rfl, hn_⟩
          rw [decide_eq_true rfl]
          have hX := hX.keep hn_
          have hS := hX.chk
          clear hn_ hp38 hp44
          go_wp2
          refine hK1 _ _ hS ?_
          clear hK1 K1
          refine ord_quietL _ ?_ rfl hS rfl ?_ ?_
          rotate_left
          · rintro w' ⟨hS1, hS2, hS3⟩; go_simp; rfl
          simp only [Act.put, List.setIfInBounds_toArray, List.set_cons_zero, List.set_cons_succ]
          refine ord_quietL _ ?_ rfl hS rfl ?_ ?_
          rotate_left
          · rintro w' ⟨hS1, hS2, hS3⟩; go_simp; rfl
          simp only [Act.put, List.setIfInBounds_toArray, List.set_cons_zero, List.set_cons_succ]
          refine ord_tail ?_
          simp only [List.drop_succ_cons, List.drop_zero]
          clear hS
          go_wp2
          go_roundw
          case rel => exact ⟨k + 1, _, gen2, cnt, _, _, _, _, _, by omega, by go_num, rfl, ⟨by omega, by omega⟩, hX, hsm, hL, hpd⟩
          case measure => simp [intOf]; omega
      have hz42' : (z == 42) = false := by simpa using h42
      clear h42
      by_cases hgb : 1 < gen
      · as_aux_lemma =>
          have hcc : ((cnt : Int) != (cnt : Int)) = false := by simp
          have hXl : f + 16 ≤ D.st.length := by omega
          have hXr : f + 16 ≤ R.st.length := by rw [hsm.st]; omega
          clear hM2
          obtain ⟨g1, hg1e⟩ : ∃ g1, Hid (gen - 1 = g1) := ⟨_, rfl⟩
          have hsub : IntKind.u64.wrap ((gen : Int) - 1) = (g1 : Int) := by rw [IntKind.wrap_u64, ← hg1e.out]; omega
          have hsub2 : (gen : Int) - 1 = (g1 : Int) := by rw [← hg1e.out]; omega
          have hg1b : g1 < 281474976710656 := by rw [← hg1e.out]; omega
          have hd1 : decide (1 < (gen : Int)) = true := decide_eq_true (by omega)
          go_wp2
          have hS : (fun w' : World => w'.rangeAt F 0 (rcells vs vp R) ∧ w'.cell? ⟨G, 1, none⟩ = some (.int .u64 (gen : Int)) ∧ w'.cell? ⟨G, 2, none⟩ = some (.int .i64 (cnt : Int))) wc.drew := ⟨(World.rangeAt_drew ..).2 (range_all hX.rb), cell_blk hX.kb rfl, cell_blk hX.kb rfl⟩
          have hX := hX.keep (w1 := wc.drew) ((Fr.refl (fun _ => False) wc).drew)
          refine wp_region_ord [] 48 [(0, true), (1, true), (2, true), (3, true), (4, true), (5, true), (6, true), (7, true), (8, true), (10, true), (11, true), (9, false), (12, true), (13, true), (14, true), (15, true), (16, true), (17, true), (18, true), (20, true), (21, true), (22, true), (23, true), (19, false), (24, false), (25, false), (26, true), (27, true), (28, true), (29, true), (30, true), (31, true), (32, true), (33, true), (34, true), (35, true), (36, true), (37, true), (39, true), (40, true), (41, true), (42, true), (43, true), (38, false), (44, false), (45, false), (46, true), (47, true)] (fun w' : World => w'.rangeAt F 0 (rcells vs vp R) ∧ w'.cell? ⟨G, 1, none⟩ = some (.int .u64 (gen : Int)) ∧ w'.cell? ⟨G, 2, none⟩ = some (.int .i64 (cnt : Int))) (by kernel_rfl) (by kernel_rfl) ?_
          generalize wc.drew = B0 at *
          refine ord_quietL _ ?_ rfl hS rfl ?_ ?_
          rotate_left
          · rintro w' ⟨hS1, hS2, hS3⟩; go_simp; rfl
          simp only [Act.put, List.setIfInBounds_toArray, List.set_cons_zero, List.set_cons_succ]
          refine ord_quietL _ ?_ rfl hS rfl ?_ ?_
          rotate_left
          · rintro w' ⟨hS1, hS2, hS3⟩; go_simp; rfl
          simp only [Act.put, List.setIfInBounds_toArray, List.set_cons_zero, List.set_cons_succ]
          refine ord_quietL _ ?_ rfl hS rfl ?_ ?_
          rotate_left
          · rintro w' ⟨hS1, hS2, hS3⟩; go_simp; rfl
          simp only [Act.put, List.setIfInBounds_toArray, List.set_cons_zero, List.set_cons_succ]
          refine ord_quietL _ ?_ rfl hS rfl ?_ ?_
          rotate_left
          · rintro w' ⟨hS1, hS2, hS3⟩; go_simp; rfl
          simp only [Act.put, List.setIfInBounds_toArray, List.set_cons_zero, List.set_cons_succ]
          refine ord_quietL _ ?_ rfl hS rfl ?_ ?_
          rotate_left
          · rintro w' ⟨hS1, hS2, hS3⟩; go_simp; rfl
          simp only [Act.put, List.setIfInBounds_toArray, List.set_cons_zero, List.set_cons_succ]
          refine ord_quietL _ ?_ rfl hS rfl ?_ ?_
          rotate_left
          · rintro w' ⟨hS1, hS2, hS3⟩; go_simp; rfl
          simp only [Act.put, List.setIfInBounds_toArray, List.set_cons_zero, List.set_cons_succ]
          refine ord_quietL _ ?_ rfl hS rfl ?_ ?_
          rotate_left
          · rintro w' ⟨hS1, hS2, hS3⟩; go_simp; rfl
          simp only [Act.put, List.setIfInBounds_toArray, List.set_cons_zero, List.set_cons_succ]
          refine ord_quietL _ ?_ rfl hS rfl ?_ ?_
          rotate_left
          · rintro w' ⟨hS1, hS2, hS3⟩; go_simp; rfl
          simp only [Act.put, List.setIfInBounds_toArray, List.set_cons_zero, List.set_cons_succ]
          refine ord_quietL _ ?_ rfl hS rfl ?_ ?_
          rotate_left
          · rintro w' ⟨hS1, hS2, hS3⟩; go_simp; rfl
          simp only [Act.put, List.setIfInBounds_toArray, List.set_cons_zero, List.set_cons_succ]
          refine ord_quietL _ ?_ rfl hS rfl ?_ ?_
          rotate_left
          · rintro w' ⟨hS1, hS2, hS3⟩; go_simp; rfl
          simp only [Act.put, List.setIfInBounds_toArray, List.set_cons_zero, List.set_cons_succ]
          refine ord_quietL _ ?_ rfl hS rfl ?_ ?_
          rotate_left
          · rintro w' ⟨hS1, hS2, hS3⟩; go_simp; rfl
          simp only [Act.put, List.setIfInBounds_toArray, List.set_cons_zero, List.set_cons_succ]
          refine ord_actL _ rfl (fun K1 hK1 => ?_)
          go_wp2_with fail
          refine (c_jlen _ hX.jr).mono ?_
          rintro e w' ⟨rfl, rfl⟩
          go_wp2
          refine hK1 _ _ hS ?_
          clear hK1 K1
          refine ord_quietL _ ?_ rfl hS rfl ?_ ?_
          rotate_left
          · rintro w' ⟨hS1, hS2, hS3⟩; go_simp; rfl
          simp only [Act.put, List.setIfInBounds_toArray, List.set_cons_zero, List.set_cons_succ]
          refine ord_quietL _ ?_ rfl hS rfl ?_ ?_
          rotate_left
          · rintro w' ⟨hS1, hS2, hS3⟩; go_simp; rfl
          simp only [Act.put, List.setIfInBounds_toArray, List.set_cons_zero, List.set_cons_succ]
          refine ord_quietL _ ?_ rfl hS rfl ?_ ?_
          rotate_left
          · rintro w' ⟨hS1, hS2, hS3⟩; go_simp; rfl
          simp only [Act.put, List.setIfInBounds_toArray, List.set_cons_zero, List.set_cons_succ]
          refine ord_quietL _ ?_ rfl hS rfl ?_ ?_
          rotate_left
          · rintro w' ⟨hS1, hS2, hS3⟩; go_simp; rfl
          simp only [Act.put, List.setIfInBounds_toArray, List.set_cons_zero, List.set_cons_succ]
          refine ord_quietL _ ?_ rfl hS rfl ?_ ?_
          rotate_left
          · rintro w' ⟨hS1, hS2, hS3⟩; go_simp; rfl
          simp only [Act.put, List.setIfInBounds_toArray, List.set_cons_zero, List.set_cons_succ]
          refine ord_quietL _ ?_ rfl hS rfl ?_ ?_
          rotate_left
          · rintro w' ⟨hS1, hS2, hS3⟩; go_simp; rfl
          simp only [Act.put, List.setIfInBounds_toArray, List.set_cons_zero, List.set_cons_succ]
          refine ord_quietL _ ?_ rfl hS rfl ?_ ?_
          rotate_left
          · rintro w' ⟨hS1, hS2, hS3⟩; go_simp; rfl
          simp only [Act.put, List.setIfInBounds_toArray, List.set_cons_zero, List.set_cons_succ]
          refine ord_quietL _ (rval vs vp R) rfl hS rfl ?_ ?_
          · rintro w' ⟨hS1, hS2, hS3⟩; exact run_load_quiet 30 _ w' rfl F 0 rfl _ hS1 Try.row30 Try.size30
          simp only [Act.put, List.setIfInBounds_toArray, List.set_cons_zero, List.set_cons_succ]
          refine ord_quietL _ ?_ rfl hS rfl ?_ ?_
          rotate_left
          · rintro w' ⟨hS1, hS2, hS3⟩; go_simp; rfl
          simp only [Act.put, List.setIfInBounds_toArray, List.set_cons_zero, List.set_cons_succ]
          refine ord_quietL _ ?_ rfl hS rfl ?_ ?_
          rotate_left
          · rintro w' ⟨hS1, hS2, hS3⟩; go_simp; rfl
          simp only [Act.put, List.setIfInBounds_toArray, List.set_cons_zero, List.set_cons_succ]
          refine ord_quietL _ ?_ rfl hS rfl ?_ ?_
          rotate_left
          · rintro w' ⟨hS1, hS2, hS3⟩; go_simp; rfl
          simp only [Act.put, List.setIfInBounds_toArray, List.set_cons_zero, List.set_cons_succ]
          refine ord_actL _ rfl (fun K1 hK1 => ?_)
          go_wp2_with fail
          refine (c_scan (f := f) (gen := gen) _ hX.dk (by omega) (by omega) hXl).mono ?_
          rintro e B19 ⟨u19x, rfl, hp19, hn_⟩
          have hX := hX.keep hn_
          obtain ⟨L19, hL19⟩ : ∃ L, Hid (L = D.scan f gen) := ⟨_, rfl⟩
          have hl19 : L19.length ≤ 4 := by rw [hL19.out]; exact scan_le D f gen
          rw [← hL19.out] at hp19
          obtain ⟨o19, c19, rfl, -, -⟩ := id hp19
          have hS := hX.chk
          clear hn_
          go_wp2
          refine hK1 _ _ hS ?_
          clear hK1 K1
          refine ord_actL _ rfl (fun K1 hK1 => ?_)
          go_wp2_with fail
          refine (c_rscan (f := f) (gen := gen) _ hX.rg (by omega) (by omega) hXr).mono ?_
          rintro e B24 ⟨u24x, rfl, hp24, hn_⟩
          rw [same_scan hsm] at hp24
          have hX := hX.keep hn_
          rw [← hL19.out] at hp24
          obtain ⟨o24, c24, rfl, -, -⟩ := id hp24
          have hp19 := (hp19.keep (below_of_nw hn_)).mono hn_.size
          have hS := hX.chk
          clear hn_
          go_wp2
          refine hK1 _ _ hS ?_
          clear hK1 K1
          refine ord_actL _ rfl (fun K1 hK1 => ?_)
          go_wp2_with fail
          refine (c_same _ _ _ _ _ _ hp19 hp24 (Nat.le_refl _) (by omega) (by omega)).mono ?_
          rintro e B25 ⟨rfl, hn_⟩
          rw [decide_eq_true rfl]
          have hX := hX.keep hn_
          have hS := hX.chk
          clear hn_ hp19 hp24
          go_wp2
          refine hK1 _ _ hS ?_
          clear hK1 K1
          refine ord_quietL _ ?_ rfl hS rfl ?_ ?_
          rotate_left
          · rintro w' ⟨hS1, hS2, hS3⟩; go_simp; rfl
          simp only [Act.put, List.setIfInBounds_toArray, List.set_cons_zero, List.set_cons_succ]
          refine ord_quietL _ ?_ rfl hS rfl ?_ ?_
          rotate_left
          · rintro w' ⟨hS1, hS2, hS3⟩; go_simp; rfl
          simp only [Act.put, List.setIfInBounds_toArray, List.set_cons_zero, List.set_cons_succ]
          refine ord_quietL _ ?_ rfl hS rfl ?_ ?_
          rotate_left
          · rintro w' ⟨hS1, hS2, hS3⟩; go_simp; rfl
          simp only [Act.put, List.setIfInBounds_toArray, List.set_cons_zero, List.set_cons_succ]
          refine ord_quietL _ ?_ rfl hS rfl ?_ ?_
          rotate_left
          · rintro w' ⟨hS1, hS2, hS3⟩; go_simp; rfl
          simp only [Act.put, List.setIfInBounds_toArray, List.set_cons_zero, List.set_cons_succ]
          refine ord_quietL _ ?_ rfl hS rfl ?_ ?_
          rotate_left
          · rintro w' ⟨hS1, hS2, hS3⟩; go_simp; rfl
          simp only [Act.put, List.setIfInBounds_toArray, List.set_cons_zero, List.set_cons_succ]
          refine ord_quietL _ ?_ rfl hS rfl ?_ ?_
          rotate_left
          · rintro w' ⟨hS1, hS2, hS3⟩; go_simp; rfl
          simp only [Act.put, List.setIfInBounds_toArray, List.set_cons_zero, List.set_cons_succ]
          refine ord_quietL _ ?_ rfl hS rfl ?_ ?_
          rotate_left
          · rintro w' ⟨hS1, hS2, hS3⟩; go_simp; rfl
          simp only [Act.put, List.setIfInBounds_toArray, List.set_cons_zero, List.set_cons_succ]
          refine ord_quietL _ ?_ rfl hS rfl ?_ ?_
          rotate_left
          · rintro w' ⟨hS1, hS2, hS3⟩; go_simp; rfl
          simp only [Act.put, List.setIfInBounds_toArray, List.set_cons_zero, List.set_cons_succ]
          refine ord_quietL _ ?_ rfl hS rfl ?_ ?_
          rotate_left
          · rintro w' ⟨hS1, hS2, hS3⟩; go_simp; rfl
          simp only [Act.put, List.setIfInBounds_toArray, List.set_cons_zero, List.set_cons_succ]
          refine ord_quietL _ ?_ rfl hS rfl ?_ ?_
          rotate_left
          · rintro w' ⟨hS1, hS2, hS3⟩; go_simp; rfl
          simp only [Act.put, List.setIfInBounds_toArray, List.set_cons_zero, List.set_cons_succ]
          refine ord_quietL _ ?_ rfl hS rfl ?_ ?_
          rotate_left
          · rintro w' ⟨hS1, hS2, hS3⟩; go_simp; rfl
          simp only [Act.put, List.setIfInBounds_toArray, List.set_cons_zero, List.set_cons_succ]
          refine ord_quietL _ ?_ rfl hS rfl ?_ ?_
          rotate_left
          · rintro w' ⟨hS1, hS2, hS3⟩; go_simp; rfl
          simp only [Act.put, List.setIfInBounds_toArray, List.set_cons_zero, List.set_cons_succ]
          refine ord_quietL _ (rval vs vp R) rfl hS rfl ?_ ?_
          · rintro w' ⟨hS1, hS2, hS3⟩; exact run_load_quiet 30 _ w' rfl F 0 rfl _ hS1 Try.row30 Try.size30
          simp only [Act.put, List.setIfInBounds_toArray, List.set_cons_zero, List.set_cons_succ]
          refine ord_quietL _ ?_ rfl hS rfl ?_ ?_
          rotate_left
          · rintro w' ⟨hS1, hS2, hS3⟩; go_simp; rfl
          simp only [Act.put, List.setIfInBounds_toArray, List.set_cons_zero, List.set_cons_succ]
          refine ord_quietL _ ?_ rfl hS rfl ?_ ?_
          rotate_left
          · rintro w' ⟨hS1, hS2, hS3⟩; go_simp; rfl
          simp only [Act.put, List.setIfInBounds_toArray, List.set_cons_zero, List.set_cons_succ]
          refine ord_quietL _ ?_ rfl hS rfl ?_ ?_
          rotate_left
          · rintro w' ⟨hS1, hS2, hS3⟩; go_simp; rfl
          simp only [Act.put, List.setIfInBounds_toArray, List.set_cons_zero, List.set_cons_succ]
          refine ord_quietL _ ?_ rfl hS rfl ?_ ?_
          rotate_left
          · rintro w' ⟨hS1, hS2, hS3⟩; go_simp; rfl
          simp only [Act.put, List.setIfInBounds_toArray, List.set_cons_zero, List.set_cons_succ]
          refine ord_actL _ rfl (fun K1 hK1 => ?_)
          go_wp2_with fail
          refine (c_scan (f := f) (gen := g1) _ hX.dk (by omega) (by omega) hXl).mono ?_
          rintro e B38 ⟨u38x, rfl, hp38, hn_⟩
          have hX := hX.keep hn_
          obtain ⟨L38, hL38⟩ : ∃ L, Hid (L = D.scan f g1) := ⟨_, rfl⟩
          have hl38 : L38.length ≤ 4 := by rw [hL38.out]; exact scan_le D f g1
          rw [← hL38.out] at hp38
          obtain ⟨o38, c38, rfl, -, -⟩ := id hp38
          have hS := hX.chk
          clear hn_
          go_wp2
          refine hK1 _ _ hS ?_
          clear hK1 K1
          refine ord_actL _ rfl (fun K1 hK1 => ?_)
          go_wp2_with fail
          refine (c_rscan (f := f) (gen := g1) _ hX.rg (by omega) (by omega) hXr).mono ?_
          rintro e B44 ⟨u44x, rfl, hp44, hn_⟩
          rw [same_scan hsm] at hp44
          have hX := hX.keep hn_
          rw [← hL38.out] at hp44
          obtain ⟨o44, c44, rfl, -, -⟩ := id hp44
          have hp38 := (hp38.keep (below_of_nw hn_)).mono hn_.size
          have hS := hX.chk
          clear hn_
          go_wp2
          refine hK1 _ _ hS ?_
          clear hK1 K1
          refine ord_actL _ rfl (fun K1 hK1 => ?_)
          go_wp2_with fail
          refine (c_same _ _ _ _ _ _ hp38 hp44 (Nat.le_refl _) (by omega) (by omega)).mono ?_
          rintro e B45 ⟨rfl, hn_⟩
          rw [decide_eq_true rfl]
          have hX := hX.keep hn_
          have hS := hX.chk
          clear hn_ hp38 hp44
          go_wp2
          refine hK1 _ _ hS ?_
          clear hK1 K1
          refine ord_quietL _ ?_ rfl hS rfl ?_ ?_
          rotate_left
          · rintro w' ⟨hS1, hS2, hS3⟩; go_simp; rfl
          simp only [Act.put, List.setIfInBounds_toArray, List.set_cons_zero, List.set_cons_succ]
          refine ord_quietL _ ?_ rfl hS rfl ?_ ?_
          rotate_left
          · rintro w' ⟨hS1, hS2, hS3⟩; go_simp; rfl
          simp only [Act.put, List.setIfInBounds_toArray, List.set_cons_zero, List.set_cons_succ]
          refine ord_tail ?_
          simp only [List.drop_succ_cons, List.drop_zero]
          clear hS
          go_wp2
          go_roundw
          case rel => exact ⟨k + 1, _, gen, cnt, _, _, _, _, _, by omega, by go_num, rfl, ⟨hg1, hg2⟩, hX, hsm, hL, hpd⟩
          case measure => simp [intOf]; omega
      as_aux_lemma =>
        have hcc : ((cnt : Int) != (cnt : Int)) = false := by simp
        have hXl : f + 16 ≤ D.st.length := by omega
        have hXr : f + 16 ≤ R.st.length := by rw [hsm.st]; omega
        clear hM2
        have hd1 : decide (1 < (gen : Int)) = false := decide_eq_false (by omega)
        go_wp2
        have hS : (fun w' : World => w'.rangeAt F 0 (rcells vs vp R) ∧ w'.cell? ⟨G, 1, none⟩ = some (.int .u64 (gen : Int)) ∧ w'.cell? ⟨G, 2, none⟩ = some (.int .i64 (cnt : Int))) wc.drew := ⟨(World.rangeAt_drew ..).2 (range_all hX.rb), cell_blk hX.kb rfl, cell_blk hX.kb rfl⟩
        have hX := hX.keep (w1 := wc.drew) ((Fr.refl (fun _ => False) wc).drew)
        refine wp_region_ord [] 48 [(0, true), (1, true), (2, true), (3, true), (4, true), (5, true), (6, true), (7, true), (8, true), (10, true), (11, true), (9, false), (12, true), (13, true), (14, true), (15, true), (16, true), (17, true), (18, true), (20, true), (21, true), (22, true), (23, true), (19, false), (24, false), (25, false), (26, true), (27, true), (28, true), (29, true), (30, true), (31, true), (32, true), (33, true), (34, true), (35, true), (36, true), (37, true), (39, true), (40, true), (41, true), (42, true), (43, true), (38, false), (44, false), (45, false), (46, true), (47, true)] (fun w' : World => w'.rangeAt F 0 (rcells vs vp R) ∧ w'.cell? ⟨G, 1, none⟩ = some (.int .u64 (gen : Int)) ∧ w'.cell? ⟨G, 2, none⟩ = some (.int .i64 (cnt : Int))) (by kernel_rfl) (by kernel_rfl) ?_
        generalize wc.drew = B0 at *
        refine ord_quietL _ ?_ rfl hS rfl ?_ ?_
        rotate_left
        · rintro w' ⟨hS1, hS2, hS3⟩; go_simp; rfl
        simp only [Act.put, List.setIfInBounds_toArray, List.set_cons_zero, List.set_cons_succ]
        refine ord_quietL _ ?_ rfl hS rfl ?_ ?_
        rotate_left
        · rintro w' ⟨hS1, hS2, hS3⟩; go_simp; rfl
        simp only [Act.put, List.setIfInBounds_toArray, List.set_cons_zero, List.set_cons_succ]
        refine ord_quietL _ ?_ rfl hS rfl ?_ ?_
        rotate_left
        · rintro w' ⟨hS1, hS2, hS3⟩; go_simp; rfl
        simp only [Act.put, List.setIfInBounds_toArray, List.set_cons_zero, List.set_cons_succ]
        refine ord_quietL _ ?_ rfl hS rfl ?_ ?_
        rotate_left
        · rintro w' ⟨hS1, hS2, hS3⟩; go_simp; rfl
        simp only [Act.put, List.setIfInBounds_toArray, List.set_cons_zero, List.set_cons_succ]
        refine ord_quietL _ ?_ rfl hS rfl ?_ ?_
        rotate_left
        · rintro w' ⟨hS1, hS2, hS3⟩; go_simp; rfl
        simp only [Act.put, List.setIfInBounds_toArray, List.set_cons_zero, List.set_cons_succ]
        refine ord_quietL _ ?_ rfl hS rfl ?_ ?_
        rotate_left
        · rintro w' ⟨hS1, hS2, hS3⟩; go_simp; rfl
        simp only [Act.put, List.setIfInBounds_toArray, List.set_cons_zero, List.set_cons_succ]
        refine ord_quietL _ ?_ rfl hS rfl ?_ ?_
        rotate_left
        · rintro w' ⟨hS1, hS2, hS3⟩; go_simp; rfl
        simp only [Act.put, List.setIfInBounds_toArray, List.set_cons_zero, List.set_cons_succ]
        refine ord_quietL _ ?_ rfl hS rfl ?_ ?_
        rotate_left
        · rintro w' ⟨hS1, hS2, hS3⟩; go_simp; rfl
        simp only [Act.put, List.setIfInBounds_toArray, List.set_cons_zero, List.set_cons_succ]
        refine ord_quietL _ ?_ rfl hS rfl ?_ ?_
        rotate_left
        · rintro w' ⟨hS1, hS2, hS3⟩; go_simp; rfl
        simp only [Act.put, List.setIfInBounds_toArray, List.set_cons_zero, List.set_cons_succ]
        refine ord_quietL _ ?_ rfl hS rfl ?_ ?_
        rotate_left
        · rintro w' ⟨hS1, hS2, hS3⟩; go_simp; rfl
        simp only [Act.put, List.setIfInBounds_toArray, List.set_cons_zero, List.set_cons_succ]
        refine ord_quietL _ ?_ rfl hS rfl ?_ ?_
        rotate_left
        · rintro w' ⟨hS1, hS2, hS3⟩; go_simp; rfl
        simp only [Act.put, List.setIfInBounds_toArray, List.set_cons_zero, List.set_cons_succ]
        refine ord_actL _ rfl (fun K1 hK1 => ?_)
        go_wp2_with fail
        refine (c_jlen _ hX.jr).mono ?_
        rintro e w' ⟨rfl, rfl⟩
        go_wp2
        refine hK1 _ _ hS ?_
        clear hK1 K1
        refine ord_quietL _ ?_ rfl hS rfl ?_ ?_
        rotate_left
        · rintro w' ⟨hS1, hS2, hS3⟩; go_simp; rfl
        simp only [Act.put, List.setIfInBounds_toArray, List.set_cons_zero, List.set_cons_succ]
        refine ord_quietL _ ?_ rfl hS rfl ?_ ?_
        rotate_left
        · rintro w' ⟨hS1, hS2, hS3⟩; go_simp; rfl
        simp only [Act.put, List.setIfInBounds_toArray, List.set_cons_zero, List.set_cons_succ]
        refine ord_quietL _ ?_ rfl hS rfl ?_ ?_
        rotate_left
        · rintro w' ⟨hS1, hS2, hS3⟩; go_simp; rfl
        simp only [Act.put, List.setIfInBounds_toArray, List.set_cons_zero, List.set_cons_succ]
        refine ord_quietL _ ?_ rfl hS rfl ?_ ?_
        rotate_left
        · rintro w' ⟨hS1, hS2, hS3⟩; go_simp; rfl
        simp only [Act.put, List.setIfInBounds_toArray, List.set_cons_zero, List.set_cons_succ]
        refine ord_quietL _ ?_ rfl hS rfl ?_ ?_
        rotate_left
        · rintro w' ⟨hS1, hS2, hS3⟩; go_simp; rfl
        simp only [Act.put, List.setIfInBounds_toArray, List.set_cons_zero, List.set_cons_succ]
        refine ord_quietL _ ?_ rfl hS rfl ?_ ?_
        rotate_left
        · rintro w' ⟨hS1, hS2, hS3⟩; go_simp; rfl
        simp only [Act.put, List.setIfInBounds_toArray, List.set_cons_zero, List.set_cons_succ]
        refine ord_quietL _ ?_ rfl hS rfl ?_ ?_
        rotate_left
        · rintro w' ⟨hS1, hS2, hS3⟩; go_simp; rfl
        simp only [Act.put, List.setIfInBounds_toArray, List.set_cons_zero, List.set_cons_succ]
        refine ord_quietL _ (rval vs vp R) rfl hS rfl ?_ ?_
        · rintro w' ⟨hS1, hS2, hS3⟩; exact run_load_quiet 30 _ w' rfl F 0 rfl _ hS1 Try.row30 Try.size30
        simp only [Act.put, List.setIfInBounds_toArray, List.set_cons_zero, List.set_cons_succ]
        refine ord_quietL _ ?_ rfl hS rfl ?_ ?_
        rotate_left
        · rintro w' ⟨hS1, hS2, hS3⟩; go_simp; rfl
        simp only [Act.put, List.setIfInBounds_toArray, List.set_cons_zero, List.set_cons_succ]
        refine ord_quietL _ ?_ rfl hS rfl ?_ ?_
        rotate_left
        · rintro w' ⟨hS1, hS2, hS3⟩; go_simp; rfl
        simp only [Act.put, List.setIfInBounds_toArray, List.set_cons_zero, List.set_cons_succ]
        refine ord_quietL _ ?_ rfl hS rfl ?_ ?_
        rotate_left
        · rintro w' ⟨hS1, hS2, hS3⟩; go_simp; rfl
        simp only [Act.put, List.setIfInBounds_toArray, List.set_cons_zero, List.set_cons_succ]
        refine ord_actL _ rfl (fun K1 hK1 => ?_)
        go_wp2_with fail
        refine (c_scan (f := f) (gen := gen) _ hX.dk (by omega) (by omega) hXl).mono ?_
        rintro e B19 ⟨u19x, rfl, hp19, hn_⟩
        have hX := hX.keep hn_
        obtain ⟨L19, hL19⟩ : ∃ L, Hid (L = D.scan f gen) := ⟨_, rfl⟩
        have hl19 : L19.length ≤ 4 := by rw [hL19.out]; exact scan_le D f gen
        rw [← hL19.out] at hp19
        obtain ⟨o19, c19, rfl, -, -⟩ := id hp19
        have hS := hX.chk
        clear hn_
        go_wp2
        refine hK1 _ _ hS ?_
        clear hK1 K1
        refine ord_actL _ rfl (fun K1 hK1 => ?_)
        go_wp2_with fail
        refine (c_rscan (f := f) (gen := gen) _ hX.rg (by omega) (by omega) hXr).mono ?_
        rintro e B24 ⟨u24x, rfl, hp24, hn_⟩
        rw [same_scan hsm] at hp24
        have hX := hX.keep hn_
        rw [← hL19.out] at hp24
        obtain ⟨o24, c24, rfl, -, -⟩ := id hp24
        have hp19 := (hp19.keep (below_of_nw hn_)).mono hn_.size
        have hS := hX.chk
        clear hn_
        go_wp2
        refine hK1 _ _ hS ?_
        clear hK1 K1
        refine ord_actL _ rfl (fun K1 hK1 => ?_)
        go_wp2_with fail
        refine (c_same _ _ _ _ _ _ hp19 hp24 (Nat.le_refl _) (by omega) (by omega)).mono ?_
        rintro e B25 ⟨rfl, hn_⟩
        rw [decide_eq_true rfl]
        have hX := hX.keep hn_
        have hS := hX.chk
        clear hn_ hp19 hp24
        go_wp2
        refine hK1 _ _ hS ?_
        clear hK1 K1
        refine ord_quietL _ ?_ rfl hS rfl ?_ ?_
        rotate_left
        · rintro w' ⟨hS1, hS2, hS3⟩; go_simp; rfl
        simp only [Act.put, List.setIfInBounds_toArray, List.set_cons_zero, List.set_cons_succ]
        refine ord_quietL _ ?_ rfl hS rfl ?_ ?_
        rotate_left
        · rintro w' ⟨hS1, hS2, hS3⟩; go_simp; rfl
        simp only [Act.put, List.setIfInBounds_toArray, List.set_cons_zero, List.set_cons_succ]
        refine ord_quietL _ ?_ rfl hS rfl ?_ ?_
        rotate_left
        · rintro w' ⟨hS1, hS2, hS3⟩; go_simp; rfl
        simp only [Act.put, List.setIfInBounds_toArray, List.set_cons_zero, List.set_cons_succ]
        refine ord_quietL _ ?_ rfl hS rfl ?_ ?_
        rotate_left
        · rintro w' ⟨hS1, hS2, hS3⟩; go_simp; rfl
        simp only [Act.put, List.setIfInBounds_toArray, List.set_cons_zero, List.set_cons_succ]
        refine ord_quietL _ ?_ rfl hS rfl ?_ ?_
        rotate_left
        · rintro w' ⟨hS1, hS2, hS3⟩; go_simp; rfl
        simp only [Act.put, List.setIfInBounds_toArray, List.set_cons_zero, List.set_cons_succ]
        refine ord_quietL _ ?_ rfl hS rfl ?_ ?_
        rotate_left
        · rintro w' ⟨hS1, hS2, hS3⟩; go_simp; rfl
        simp only [Act.put, List.setIfInBounds_toArray, List.set_cons_zero, List.set_cons_succ]
        refine ord_quietL _ ?_ rfl hS rfl ?_ ?_
        rotate_left
        · rintro w' ⟨hS1, hS2, hS3⟩; go_simp; rfl
        simp only [Act.put, List.setIfInBounds_toArray, List.set_cons_zero, List.set_cons_succ]
        refine ord_skipL _ rfl hS rfl ?_
        simp only [Act.put, List.setIfInBounds_toArray, List.set_cons_zero, List.set_cons_succ]
        refine ord_skipL _ rfl hS rfl ?_
        simp only [Act.put, List.setIfInBounds_toArray, List.set_cons_zero, List.set_cons_succ]
        refine ord_skipL _ rfl hS rfl ?_
        simp only [Act.put, List.setIfInBounds_toArray, List.set_cons_zero, List.set_cons_succ]
        refine ord_skipL _ rfl hS rfl ?_
        simp only [Act.put, List.setIfInBounds_toArray, List.set_cons_zero, List.set_cons_succ]
        refine ord_skipL _ rfl hS rfl ?_
        simp only [Act.put, List.setIfInBounds_toArray, List.set_cons_zero, List.set_cons_succ]
        refine ord_skipL _ rfl hS rfl ?_
        simp only [Act.put, List.setIfInBounds_toArray, List.set_cons_zero, List.set_cons_succ]
        refine ord_skipL _ rfl hS rfl ?_
        simp only [Act.put, List.setIfInBounds_toArray, List.set_cons_zero, List.set_cons_succ]
        refine ord_skipL _ rfl hS rfl ?_
        simp only [Act.put, List.setIfInBounds_toArray, List.set_cons_zero, List.set_cons_succ]
        refine ord_skipL _ rfl hS rfl ?_
        simp only [Act.put, List.setIfInBounds_toArray, List.set_cons_zero, List.set_cons_succ]
        refine ord_skipL _ rfl hS rfl ?_
        simp only [Act.put, List.setIfInBounds_toArray, List.set_cons_zero, List.set_cons_succ]
        refine ord_actL _ rfl (fun K1 hK1 => ?_)
        go_wp2
        refine hK1 _ _ hS ?_
        clear hK1 K1
        refine ord_actL _ rfl (fun K1 hK1 => ?_)
        go_wp2
        refine hK1 _ _ hS ?_
        clear hK1 K1
        refine ord_actL _ rfl (fun K1 hK1 => ?_)
        go_wp2
        refine hK1 _ _ hS ?_
        clear hK1 K1
        refine ord_skipL _ rfl hS rfl ?_
        simp only [Act.put, List.setIfInBounds_toArray, List.set_cons_zero, List.set_cons_succ]
        refine ord_quietL _ ?_ rfl hS rfl ?_ ?_
        rotate_left
        · rintro w' ⟨hS1, hS2, hS3⟩; go_simp; rfl
        simp only [Act.put, List.setIfInBounds_toArray, List.set_cons_zero, List.set_cons_succ]
        refine ord_tail ?_
        simp only [List.drop_succ_cons, List.drop_zero]
        clear hS
        go_wp2
        go_roundw
        case rel => exact ⟨k + 1, _, gen, cnt, _, _, _, _, _, by omega, by go_num, rfl, ⟨hg1, hg2⟩, hX, hsm, hL, hpd⟩
        case measure => simp [intOf]; omega

set_option maxRecDepth 100000 in
theorem lifted (os : Os) (started : os.Started) (H : Type) (enc : TypeId × Value → H) :
    ReturnsInHanded {} Try.checked os 4 .any (Rows.journalRunsSpec.pre6 enc Try.prog Try.f4 Rows.journalRunsRow.domain false) (Rows.journalRunsSpec.post enc Try.prog Try.f4 false true false false) := by
  refine returnsInHanded_of_change_sized (C := Try.checked) own started (by kernel_rfl) Try.func4
    (ChangeSpec.witness6 (enc := enc) (C := Try.checked) false ⟨#[], #[.int .i64 0, .int .u64 0, .slice none 0 0], []⟩ 8 (by kernel_rfl) (by kernel_rfl) (by kernel_rfl) (by kernel_rfl)) ?_
  intro W base args ds gs before hval0 hW hcnd hsz0 _
  have hval : ∀ (j : Nat) t v, Try.f4.params[j]? = some t → args[j]? = some v → Value.okWide Try.prog W .any base t v := hval0
  have hsz : (DataW.weightsEach Try.prog (Try.f4.params.toList ++ Rows.journalRunsSpec.plain.varTypes Try.prog) (ds ++ gs)).all (· ≤ reachBytes) = true := hsz0
  have hW' := hW
  obtain ⟨p, q, hA0, hV, rfl, hfz, hnd⟩ := hW
  have hA : DataW.TrodAll enc Try.prog W 0 (fun _ => true) true Try.f4.params.toList args.toList ds p := hA0
  rw [Try.params4] at hA hval hsz
  obtain ⟨v0, vs0, d0, ds0, p0, q0, hargs, rfl, rfl, h0, r0⟩ := trodAll_cons hA
  obtain ⟨v1, vs1, d1, ds1, p1, q1, rfl, rfl, rfl, h1, r1⟩ := trodAll_cons r0
  obtain ⟨v2, vs2, d2, ds2, p2, q2, rfl, rfl, rfl, h2, r2⟩ := trodAll_cons r1
  obtain ⟨rfl, rfl, rfl⟩ := trodAll_nil r2
  obtain rfl : args = #[v0, v1, v2] := by cases args; simp_all
  obtain ⟨rfl, rfl⟩ := trodVars_none hV
  obtain ⟨a0, rfl, rfl, rfl, w0⟩ := open_int Try.underlying3 (hval 0 3 v0 rfl rfl) h0
  have k1 := h1
  have lt1 : ∀ x ∈ p1, x.block < W.heap.size := by obtain ⟨m, hm⟩ := k1; exact DataW.trod_lt m _ _ _ hm
  obtain ⟨z1, e1, -, -, f1⟩ := open_int Try.underlying23 (hval 1 23 v1 rfl rfl) h1
  obtain ⟨a1, rfl, w1⟩ : ∃ a : Nat, v1 = .int .u64 (a : Int) ∧ a < 18446744073709551616 := ⟨z1.toNat, by rw [(u64_of_wf f1).1]; exact e1, (u64_of_wf f1).2⟩
  obtain ⟨a2, len2, cap2, rfl⟩ := okWide_slice Try.underlying24 (hval 2 24 v2 rfl rfl)
  have k2 := h2
  have lt2 : ∀ x ∈ p2, x.block < W.heap.size := by obtain ⟨m, hm⟩ := k2; exact DataW.trod_lt m _ _ _ hm
  obtain ⟨x2, w2, l2⟩ : ∃ xs : List JAct, JActsAt W.heap.size W (.slice a2 len2 cap2) xs ∧ xs.length ≤ 140737488351232 := by
    obtain ⟨fuel, hf⟩ := h2
    exact open_jacts (v := .slice a2 len2 cap2) hf (fun n hn => by have := List.all_eq_true.1 hsz n (DataW.weights_mem_each (j := 2) (t := 24) rfl rfl n hn); simpa using this)
  clear hA0 hval0
  refine (walk W a0 w0 a1 w1 _ x2 w2 l2).mono fun e W' ⟨he, bel⟩ => ?_
  subst he
  exact ⟨_, rfl, _, _, _, [], _, [], hW', trodAll_mk1 (shut_bool Try.underlying4 _), (trodAll_cons_mk (shut_int Try.underlying3 w0) (trodAll_cons_mk (Below.trod laidOut (by kernel_rfl) (of_decide_eq_true (by kernel_rfl)) k1 bel lt1) (trodAll_cons_mk (Below.trod laidOut (by kernel_rfl) (of_decide_eq_true (by kernel_rfl)) k2 bel lt2) trodAll_mk0))), rfl, bel.frame _, fun h => by cases h⟩

theorem over : Rows.journalRunsRow.holds Try.pinned (OpenSpec.ofChange Rows.journalRunsSpec) :=
  OpenClaim.holds_of_wide 4 Try.f4 rfl rfl rfl rfl rfl rfl rfl ⟨rfl, rfl, rfl, rfl, rfl⟩ rfl rfl rfl rfl rfl (by kernel_rfl) Try.func4 (by kernel_rfl)
    (of_decide_eq_true (by kernel_rfl)) (by unfold Func.isWrapper; first | (rw [if_pos (by decide +kernel)]; kernel_rfl) | (rw [if_neg (by decide +kernel)]; exact ⟨rfl, rfl⟩))
    (fun os started H enc _ => lifted os started H enc)
end Go.Proofs.Ytihdhlciblkbiaa.journalRuns
namespace Go.Proofs.Ytihdhlciblkbiaa
/-- The given statement. -/
theorem journalRuns_holds : Rows.JournalRunsSaid := journalRuns.over
end Go.Proofs.Ytihdhlciblkbiaa
