/-
  The document's Turn.
-/
import Derived.Test.YtimgelekpghklaaLabR7
import Derived.Test.YtimgelekpghklaaLabD8
import Derived.Deep.DeepCutAuto
import Derived.Deep.CutRange
import Derived.Deep.CutBlock
namespace Go.Proofs.Ytimgelekpghklaa
set_option linter.unusedVariables false
set_option linter.unusedSimpArgs false
set_option maxRecDepth 20000
open Go.RowKit

theorem turn_lev (a b d : Int) (xs : List Cat) (id : Int) : lev (tn a b d) (mgL (fun i => tn a b (lev d xs i)) (idsL xs [])) id = tn a b (lev d xs id) := by
  rw [mgL_lev]
  split
  · rfl
  · rename_i hid
    rw [(idsL_rs xs []).2.1 id] at hid
    rw [lev_none (fun c hc he => hid (.inl ⟨c, hc, he⟩))]

set_option maxHeartbeats 6400000 in
theorem c_rturn {X : Nat → Prop} {v : Value} {xs : List Cat} (d a b : Int) (w : World) (h : CSl X w v xs) (hl : xs.length ≤ 8796093022208) :
    Calls Try.prog 24 #[labV d v, .int .i64 a, .int .i64 b] w (MadeL w (tn a b d) (fun id => tn a b (lev d xs id)) xs.length) := by
  obtain ⟨i0, hj, hj0, hj1, hj2⟩ := info_parts3 Try.infoC
  obtain ⟨ao, cap, rfl, ha1, ha2⟩ := h.form
  obtain ⟨D, hD⟩ : ∃ D, Hid (D = tn a b d) := ⟨_, rfl⟩
  obtain ⟨f, hf⟩ : ∃ f, Hid (f = fun id => tn a b (lev d xs id)) := ⟨_, rfl⟩
  have hml : Hid (∀ id, lev D (mgL f (idsL xs [])) id = f id) := fun id => by rw [hD.out, hf.out]; exact turn_lev a b d xs id
  rw [← hD.out, ← hf.out]
  obtain ⟨W, hW⟩ : ∃ W, Hid (W = ((w.alloc (.cells #[.int .i64 d, .slice ao xs.length cap] 24)).alloc (.cells #[.int .i64 0, .slice none 0 0] 24)).alloc (.cells #[.int .i64 d, .slice none 0 0] 24)) := ⟨_, rfl⟩
  have nW : Nw w W := by rw [hW.out]; exact nw_alloc (nw_alloc (nw_alloc (nw_refl w) _) _) _
  have hA : W.heap[w.heap.size]? = some (.cells #[.int .i64 d, .slice ao xs.length cap] 24 (0, 0)) := by
    rw [hW.out, Below.heap_alloc _ _ _ (by simp; try omega)]; exact heap_alloc2_old w _ _
  have hZ : W.heap[w.heap.size + 1]? = some (.cells #[.int .i64 0, .slice none 0 0] 24 (0, 0)) := by
    rw [hW.out, Below.heap_alloc _ _ _ (by simp; try omega)]; exact heap_alloc2_new w _ _
  have hO : W.heap[w.heap.size + 1 + 1]? = some (.cells #[.int .i64 d, .slice none 0 0] 24 (0, 0)) := by
    rw [hW.out]
    have := heap_alloc_new ((w.alloc (.cells #[.int .i64 d, .slice ao xs.length cap] 24)).alloc (.cells #[.int .i64 0, .slice none 0 0] 24)) (.cells #[.int .i64 d, .slice none 0 0] 24)
    simpa using this
  have hsz : W.heap.size = w.heap.size + 1 + 1 + 1 := by rw [hW.out]; simp
  replace h := (h.mono (X' := fun b => b < w.heap.size) (fun b _ h => h)).nw nW
  unfold labV
  go_enter Try.func24, Try.ntmps24
  go_upto_region 2 with fail
  rw [← hW.out]
  clear hW
  generalize hNN : w.heap.size = N at *
  replace hNN : Hid _ := hNN
  have a0 : W.cell? ⟨N, 0, none⟩ = some (.int .i64 d) := cell_blk hA rfl
  have o0 : W.cell? ⟨N + 1 + 1, 0, none⟩ = some (.int .i64 d) := cell_blk hO rfl
  have of : W.frozen? ⟨N + 1 + 1, 0, none⟩ = false := free_blk hO
  go_upto_if 17 with fail
  go_cut [17] (fun _ wc => wc.heap[N + 1 + 1]? = some (.cells #[.int .i64 D, .slice none 0 0] 24 (0, 0)) ∧ Fr (fun q => q = N + 1 + 1) W wc)
  case first =>
    by_cases hda : d = a
    · have hb : (d == a) = true := by simp [hda]
      have hDb : Hid (D = b) := by unfold Hid; rw [hD.out]; unfold tn; rw [if_pos hda]
      have hO' : (W.setCell ⟨N + 1 + 1, 0, none⟩ (.int .i64 b)).heap[N + 1 + 1]? = some (.cells #[.int .i64 b, .slice none 0 0] 24 (0, 0)) := by rw [blk_setCell hO]; rfl
      have hf6 : Fr (fun q => q = N + 1 + 1) W (W.setCell ⟨N + 1 + 1, 0, none⟩ (.int .i64 b)) := (Fr.refl (fun q => q = N + 1 + 1) W).setCell (p := ⟨N + 1 + 1, 0, none⟩) (.inl rfl) _
      replace hda : Hid _ := hda
      go_wp2
      go_meet
      case rel => exact ⟨by rw [hDb.out]; exact hO', hf6⟩
    · have hb : (d == a) = false := by simp [hda]
      have hDb : Hid (D = d) := by unfold Hid; rw [hD.out]; unfold tn; rw [if_neg hda]
      replace hda : Hid _ := hda
      go_wp2
      go_meet
      case rel => exact ⟨by rw [hDb.out]; exact hO, Fr.refl _ _⟩
  case rest =>
    clear a0 o0 of hO
    obtain ⟨hO, hfc⟩ := hcut
    replace hA := (hfc.block _ (heap_lt hA) (by omega)).trans hA
    replace hZ := (hfc.block _ (heap_lt hZ) (by omega)).trans hZ
    replace h := h.keep (X' := fun b => b < N) hfc (fun q hq _ h => by omega) (fun q hq _ => hq)
    have nW' : Nw w wc := Fr.trans nW hfc (fun q hq => .inr (by rw [hNN.out]; omega))
    have hsz' := hfc.size
    clear hfc nW
    have hcon : Hid _ := c_ids d 0 wc h (csl_nil (fun _ => True) wc) (by simp; omega)
    have a0 : wc.cell? ⟨N, 0, none⟩ = some (.int .i64 d) := cell_blk hA rfl
    have a1 : wc.cell? ⟨N, 1, none⟩ = some (.slice ao xs.length cap) := cell_blk hA rfl
    have hidl := (idsL_rs xs []).2.2
    simp only [List.length_nil, Nat.add_zero] at hidl
    go_wp2_with (go_at_call 38; refine Calls.mono hcon.out ?_; rintro e W1 ⟨u, rfl, hu, n1⟩; refine stop_here ?_)
    unfold Hid
    clear hcon a0 a1
    replace hA := (n1.block _ (heap_lt hA) (fun h => h)).trans hA
    replace hZ := (n1.block _ (heap_lt hZ) (fun h => h)).trans hZ
    replace hO := (n1.block _ (heap_lt hO) (fun h => h)).trans hO
    replace h := h.nw n1
    have nW1 := nw_trans nW' n1
    have hs1 := n1.size
    clear n1 nW'
    obtain ⟨ua, uc, rfl, hu1, hu2⟩ := hu.form
    obtain ⟨S, hS⟩ : ∃ S, Hid (S = W1.heap.size) := ⟨_, rfl⟩
    have hS1 : N + 1 + 1 < S := by rw [hS.out]; omega
    replace hu := hu.mono (X' := fun b => N + 1 + 1 < b ∧ b < S) (fun b hb hlt => ⟨by omega, by rw [hS.out]; exact hlt⟩)
    have hrow0 : W1.ownsRow S 33 2 (.slice none 0 0) 0 [] := World.ownsRow_nil _ _ _ _
    go_wp2
    go_loopw [25] (fun kv wr => ∃ (k : Nat) (u : Value), k ≤ (idsL xs []).length ∧ kv = .int .i64 k ∧ wr.heap[N + 1 + 1]? = some (.cells #[.int .i64 D, u] 24 (0, 0)) ∧ wr.ownsRow S 33 2 u (mgL f ((idsL xs []).take k)).length (ccells (mgL f ((idsL xs []).take k))) ∧ Fr (fun q => q = N + 1 + 1 ∨ S ≤ q) W1 wr ∧ S ≤ wr.heap.size) (fun kv _ => (idsL xs []).length - (intOf kv).toNat)
    case atStart => exact ⟨0, _, Nat.zero_le _, rfl, hO, hrow0, Fr.refl _ _, by rw [hS.out]; exact Nat.le_refl _⟩
    case round =>
      clear hrow0 hO
      obtain ⟨k, ov, hk, rfl, hO, hrow, hfr, hSr⟩ := hrel
      obtain ⟨oa, oc, rfl⟩ := owns_form hrow
      have hAr := (hfr.block _ (heap_lt hA) (by omega)).trans hA
      have hZr := (hfr.block _ (heap_lt hZ) (by omega)).trans hZ
      by_cases hlt : k < (idsL xs []).length
      · obtain ⟨q, off, rfl, _, d1⟩ := (hu.keep (X' := fun _ => True) hfr (fun b hb _ h => by rcases h with h | h <;> omega) (fun _ _ _ => trivial)).get k hlt
        have hxr := h.keep (X' := fun b => b < N) hfr (fun b hb _ h => by rcases h with h | h <;> omega) (fun b hb _ => hb)
        have hstep := mgL_take f (idsL xs []) k hlt
        have hcl : (mgL f ((idsL xs []).take k)).length ≤ k := by rw [mgL_length]; simp; omega
        have hfx : Hid (f (idsL xs [])[k] = tn a b (lev d xs (idsL xs [])[k])) := by unfold Hid; rw [hf.out]
        generalize (idsL xs [])[k] = id at *
        generalize hes : mgL f ((idsL xs []).take k) = es at *
        replace hes : Hid _ := hes
        replace hstep : Hid _ := hstep
        have a0 : wr.cell? ⟨N, 0, none⟩ = some (.int .i64 d) := cell_blk hAr rfl
        have a1 : wr.cell? ⟨N, 1, none⟩ = some (.slice ao xs.length cap) := cell_blk hAr rfl
        have hcon : Hid _ := c_rlevel d id wr hxr
        unfold labV at hcon
        generalize lev d xs id = lx at *
        generalize hx : f id = x at *
        replace hx : Hid _ := hx
        go_wp2_with (go_at_call 39; refine Calls.mono hcon.out ?_; rintro e w3 ⟨rfl, n3⟩; refine stop_here ?_)
        unfold Hid
        clear hcon a0 a1 d1 hxr
        have hO3 := (n3.block _ (heap_lt hO) (fun h => h)).trans hO
        have hrow3 := owns_of_block (w' := w3) hrow (fun q hq => n3.block q (hrow.lt q hq).2 (fun h => h))
        have hfr3 := fr_nw hfr n3
        have hS3 := Nat.le_trans hSr n3.size
        clear hO hrow hfr hSr n3 hAr hZr
        go_upto_if 34 with fail
        go_cut [10] from 26 to 44 (fun y w4 => y = .int .i64 x ∧ w4 = w3)
        case first =>
          by_cases hla : lx = a
          · have hb : (lx == a) = true := by simp [hla]
            have hxb : Hid (x = b) := by unfold Hid; rw [hfx.out]; unfold tn; rw [if_pos hla]
            replace hla : Hid _ := hla
            go_wp2
            go_meet
            case rel => exact ⟨by rw [hxb.out], rfl⟩
          · have hb : (lx == a) = false := by simp [hla]
            have hxb : Hid (x = lx) := by unfold Hid; rw [hfx.out]; unfold tn; rw [if_neg hla]
            replace hla : Hid _ := hla
            go_wp2
            go_meet
            case rel => exact ⟨by rw [hxb.out], rfl⟩
        case rest =>
          obtain ⟨rfl, hww⟩ := hcut
          have hww' := hww.symm
          subst hww'
          clear hww
          have o1 : w3.cell? ⟨N + 1 + 1, 1, none⟩ = some (.slice oa es.length oc) := cell_blk hO3 rfl
          have hrA := World.ownsRow.alloc hrow3 (.cells #[.int .u64 id, .int .i64 x] 33)
          have hsl := sl_lit w3 #[.int .u64 id, .int .i64 x] 33 1 (by omega)
          go_wp2_with (at_builtin; refine wpList_append_sl _ rfl _ _ 22 rfl S 33 i0 _ 2 16 Try.underlying22 hj hj0 hj1 hj2 rfl (by decide) _ _ _ rfl hrA _ _ 1 _ rfl hsl rfl ?d1 ?d2 ?d3 ?d4 ?_)
          case d1 => first | (intro u hu; simp at hu; rcases hu with rfl | rfl <;> rfl) | simp [Value.oneCell']
          case d2 => unfold maxLen; omega
          case d3 => omega
          case d4 => (try simp); omega
          intro v9 w9 hown9 hgrow9 hat9
          have m9 : Fr (fun q => S ≤ q) w3 w9 := (Fr.alloc (Fr.refl _ w3) _).grown hgrow9 (fun q hq => .inl (hrow3.lt q hq).1)
          obtain ⟨a9, c9, rfl⟩ := owns_form hown9
          have hO9 := (m9.block _ (heap_lt hO3) (by omega)).trans hO3
          have hf9 : Fr (fun q => q = N + 1 + 1) w9 (w9.setCell ⟨N + 1 + 1, 1, none⟩ (.slice a9 (es.length + 1) c9)) := (Fr.refl (fun q => q = N + 1 + 1) w9).setCell (p := ⟨N + 1 + 1, 1, none⟩) (.inl rfl) _
          have hO' : (w9.setCell ⟨N + 1 + 1, 1, none⟩ (.slice a9 (es.length + 1) c9)).heap[N + 1 + 1]? = some (.cells #[.int .i64 D, .slice a9 (es.length + 1) c9] 24 (0, 0)) := by rw [blk_setCell hO9]; rfl
          have hrow' := owns_of_block (w' := w9.setCell ⟨N + 1 + 1, 1, none⟩ (.slice a9 (es.length + 1) c9)) hown9 (fun q hq => hf9.block q (hown9.lt q hq).2 (by have := (hown9.lt q hq).1; omega))
          have hrow'' : (w9.setCell ⟨N + 1 + 1, 1, none⟩ (.slice a9 (es.length + 1) c9)).ownsRow S 33 2 (.slice a9 (es.length + 1) c9) (es ++ [(id, x)]).length (ccells (es ++ [(id, x)])) := by
            rw [ccells_append, ccells_one, List.length_append]
            simpa [ccell] using hrow'
          have hfr' := (hfr3.trans m9 (fun q hq => .inl (.inr hq))).trans hf9 (fun q hq => .inl (.inl hq))
          have hS' : S ≤ (w9.setCell ⟨N + 1 + 1, 1, none⟩ (.slice a9 (es.length + 1) c9)).heap.size := Nat.le_trans hS3 (Nat.le_trans m9.size hf9.size)
          have p1 : w9.cell? ⟨N + 1 + 1, 1, none⟩ = some (.slice oa es.length oc) := cell_blk hO9 rfl
          have p2 : w9.frozen? ⟨N + 1 + 1, 1, none⟩ = false := free_blk hO9
          have hans : Hid _ := And.intro hO' (And.intro hrow'' (And.intro hfr' hS'))
          clear hO' hrow' hrow'' hfr' hS' hf9 hO9 hown9 hO3 hrow3 hfr3 m9 hgrow9 hat9 hrA hsl o1
          go_wp2
          go_roundw
          case rel => exact ⟨k + 1, _, by omega, by go_num, hans.out.1, by rw [hstep.out]; exact hans.out.2.1, hans.out.2.2.1, hans.out.2.2.2⟩
          case measure => simp [intOf]; omega
      · have hall : (idsL xs []).take k = idsL xs [] := List.take_of_length_le (by omega)
        rw [hall] at hrow hO
        have hcl : (mgL f (idsL xs [])).length ≤ xs.length := by rw [mgL_length]; exact hidl
        generalize mgL f (idsL xs []) = es at *
        have k1 := (mk_of_owns hrow).csl
        have o0 : wr.cell? ⟨N + 1 + 1, 0, none⟩ = some (.int .i64 D) := cell_blk hO rfl
        have o1 : wr.cell? ⟨N + 1 + 1, 1, none⟩ = some (.slice oa es.length oc) := cell_blk hO rfl
        have nwr : Nw w wr := Fr.trans nW1 hfr (fun q hq => .inr (by rw [hNN.out]; rcases hq with h | h <;> omega))
        have hcon : Hid _ := c_form D wr k1 (by omega)
        unfold labV at hcon
        clear k1 hAr hO hrow hfr hall
        go_wp2_with (go_at_call 37; refine Calls.mono hcon.out ?_; rintro e w2 ⟨u2, y2, rfl, q1, q2, q3, q4, q5⟩; refine stop_here ?_)
        unfold Hid labV
        clear hcon o0 o1
        obtain ⟨hans, hrr, z0, z1, zf⟩ := store_made (B := N + 1) (f := f) (N := xs.length) nwr hZr (Nat.le_refl _) (by rw [hNN.out]; omega) q1 q2 (fun id => (q3 id).trans (hml.out id)) (by omega) q5
        obtain ⟨fa, fc, rfl, _, _⟩ := q1.form
        replace hans : Hid _ := hans
        clear q1 q2 q3 q4 q5 hZr nwr
        go_wp2
        refine bodyPost_ret (results_cell1 rfl _ (N + 1) _ _ rfl rfl hrr Try.rowL Try.sizeL) rfl ?_
        exact hans.out
end Go.Proofs.Ytimgelekpghklaa
