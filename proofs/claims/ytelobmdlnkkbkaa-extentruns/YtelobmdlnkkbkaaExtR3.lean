/-
  The document's List.
-/
import Derived.Test.YtelobmdlnkkbkaaExtR2
namespace Go.Proofs.Ytelobmdlnkkbkaa
set_option linter.unusedVariables false
set_option linter.unusedSimpArgs false
set_option maxRecDepth 20000
open Go.RowKit

theorem Row.mono {base base' : Nat} {w : World} {v : Value} {es : List Ext} (h : Row base w v es) (hb : base' ≤ base) : Row base' w v es := by
  refine ⟨h.1, ?_⟩
  rcases h.2 with h2 | ⟨g, cap, cur, e1, e2, e3⟩
  · exact .inl h2
  · exact .inr ⟨g, cap, cur, e1, by omega, e3⟩

theorem Row.drewN {base : Nat} {w : World} {v : Value} {es : List Ext} (h : Row base w v es) (n : Nat) : Row base (w.drewN n) v es := h

set_option maxHeartbeats 1600000 in
theorem c_rlist {xs : List UInt8} (c : UInt8) (w : World) (hx : xs.length ≤ 1024) :
    Calls Try.prog 27 #[rmv xs, .int .u8 (c.toNat : Int)] w fun e w' => ∃ v, e = .returned v ∧ Row w.heap.size w' v (runs c xs) ∧ Nw w w' := by
  obtain ⟨i0, hj, hj0, hj1, hj2⟩ := info_parts3 Try.infoE
  obtain ⟨cc, hcc⟩ : ∃ cc : Int, Hid (cc = (c.toNat : Int)) := ⟨_, rfl⟩
  rw [← hcc.out]
  have hb : RAt (w.alloc (.cells (rmc xs).toArray 31)) w.heap.size xs := heap_alloc_new w _
  have hn : Nw w (w.alloc (.cells (rmc xs).toArray 31)) := (Fr.refl _ w).alloc _
  have hsz : w.heap.size ≤ (w.alloc (.cells (rmc xs).toArray 31)).heap.size := by simp
  generalize hW : w.alloc (.cells (rmc xs).toArray 31) = W at *
  have hWH : Hid (w.alloc (.cells (rmc xs).toArray 31) = W) := hW
  clear hW
  have hr0 : Row W.heap.size (W.alloc (.cells #[] 34)) (.slice (some ⟨W.heap.size, 0, none⟩) 0 0) [] := World.ownsRow_lit W #[] 0 (Nat.le_refl _) (by decide) rfl
  have hn0 : Nw W (W.alloc (.cells #[] 34)) := (Fr.refl _ W).alloc _
  go_enter Try.func27, Try.ntmps27
  go_wp2_with (refine wpList_box_agg rfl 31 _ rfl (rmv xs) _ rfl rfl ?_; rw [hWH.out])
  go_loopw [5, 6] (fun o i wr => ∃ k : Nat, k ≤ xs.length ∧ i = .int .i64 k ∧ Row W.heap.size wr o (runsTo c xs k) ∧ Nw W wr) (fun _ i _ => xs.length - (intOf i).toNat)
  case atStart => exact ⟨0, Nat.zero_le _, rfl, hr0, hn0⟩
  case round =>
    clear hr0 hn0
    obtain ⟨k, hk, rfl, hr, hnw⟩ := hrel
    have hbr := hb.nw hnw
    have c0 := hbr.c0
    have hll := runsTo_length c xs k hk
    have hszr := hnw.size
    by_cases hlt : k < xs.length
    · have hc := hbr.cell k hlt
      have hxk : xs[k]? = some xs[k] := List.getElem?_eq_getElem hlt
      by_cases hxc : xs[k] = c
      · have hxcH : Hid (xs[k]? = some c) := by unfold Hid; rw [hxk, hxc]
        have he : (((xs[k].toNat : Int) != cc)) = false := by rw [hcc.out, hxc]; simp
        clear hxk hxc
        generalize (xs[k].toNat : Int) = x at *
        by_cases ha : adj c xs k
        · obtain ⟨p, f, e1, e2, e3⟩ := runsTo_adj hxcH.out ha
          rw [e1] at hr
          obtain ⟨q, cap, rfl, hbq, hql, hcp, hcm, d0, d1, df, hrow, hfr⟩ := hr.last
          have hnew : ∀ n, Nw W ((wr.drewN n).setCell ⟨q, p.length * 2 + 1, none⟩ (.int .i64 ((f.2 : Int) + 1))) := fun n => Fr.setCell (nw_drewN hnw n) (p := ⟨q, _, none⟩) (.inr hbq) _
          have hrowN : ∀ n, Row W.heap.size ((wr.drewN n).setCell ⟨q, p.length * 2 + 1, none⟩ (.int .i64 ((f.2 : Int) + 1))) (.slice (some ⟨q, 0, none⟩) (p.length + 1) cap) (runsTo c xs (k + 1)) := fun n => by rw [e2]; exact hrow
          have e3b : (((f.1 : Int) + (f.2 : Int) == (k : Int)) : Bool) = true := by simp; omega
          have hf2 : f.2 ≤ 1024 := by omega
          have hf1 : f.1 ≤ 1024 := by omega
          have hpl : p.length ≤ 1024 := by rw [e1] at hll; simp at hll; omega
          clear e1 e2 e3 ha hr hfr hll hrow
          generalize hpL : p.length = pL at *
          clear hpL
          go_wp2
          go_quiet (fail)
          go_wp2
          go_roundw
          case rel => exact ⟨k + 1, by omega, by go_num, hrowN _, hnew _⟩
          case measure => simp [intOf]; omega
        · have e2 := runsTo_new hxcH.out ha
          obtain ⟨ao, cap, rfl⟩ := owns_form hr
          have hfin : ∀ n v9 w9, w9.ownsRow W.heap.size 34 2 v9 ((runsTo c xs k).length + 1) (ecells (runsTo c xs k) ++ [.int .i64 (k : Int), .int .i64 1]) → ((wr.drewN n).alloc (.cells #[.int .i64 (k : Int), .int .i64 1] 34)).grownBy w9 (Value.ownBlock (.slice ao (runsTo c xs k).length cap)) →
              Row W.heap.size w9 v9 (runsTo c xs (k + 1)) ∧ Nw W w9 := by
            intro n v9 w9 h1 h2
            refine ⟨?_, (Fr.alloc (nw_drewN hnw n) _).grown h2 (fun q hq => .inr (hr.lt q hq).1)⟩
            unfold Row
            rw [e2, ecells_append, ecells_one]
            simpa [ecell] using h1
          have hfinH : Hid _ := hfin
          clear hfin
          have hrA : ∀ n, ((wr.drewN n).alloc (.cells #[.int .i64 (k : Int), .int .i64 1] 34)).ownsRow W.heap.size 34 2 (.slice ao (runsTo c xs k).length cap) (runsTo c xs k).length (ecells (runsTo c xs k)) := fun n => World.ownsRow.alloc (hr.drewN n) _
          have hszD : ∀ n, (wr.drewN n).heap.size = wr.heap.size := fun n => rfl
          by_cases hnil : runsTo c xs k = []
          · have hd0 : decide ((0 : Int) < (((runsTo c xs k).length : Nat) : Int)) = false := by rw [hnil]; rfl
            have hlen0 : (runsTo c xs k).length = 0 := by rw [hnil]; rfl
            clear ha e2 hr hnil
            generalize ecells (runsTo c xs k) = cs at *
            generalize (runsTo c xs k).length = len at *
            subst hlen0
            go_wp2
            go_quiet (fail)
            go_wp2_with (at_builtin; refine wpList_append_sl _ rfl _ _ 26 rfl W.heap.size 34 i0 _ 2 16 Try.underlying26 hj hj0 hj1 hj2 rfl (by decide) _ _ _ rfl (hrA nq) _ _ 1 _ rfl (sl_litN (wr.drewN nq) _ 34 1 wr.heap.size rfl (by omega)) rfl ?d1 ?d2 ?d3 ?d4 ?_)
            case d1 => first | (intro u hu; simp at hu; rcases hu with rfl | rfl <;> rfl) | simp [Value.oneCell']
            case d2 => unfold maxLen; omega
            case d3 => omega
            case d4 => simp [hszD]; omega
            intro v9 w9 hown9 hgrow9 hat9
            obtain ⟨f1, f2⟩ := hfinH.out nq v9 w9 hown9 hgrow9
            clear hfinH hown9 hgrow9 hat9
            go_wp2
            go_roundw
            case rel => exact ⟨k + 1, by omega, by go_num, f1, f2⟩
            case measure => simp [intOf]; omega
          · obtain ⟨p, f, hpf⟩ : ∃ p f, runsTo c xs k = p ++ [f] := ⟨_, _, (List.dropLast_concat_getLast hnil).symm⟩
            have hend := runsTo_ends c xs k p f hpf
            have hmf := runsTo_mem c xs k f (by rw [hpf]; simp)
            have hlen : (runsTo c xs k).length = p.length + 1 := by rw [hpf]; simp
            have hr2 := hr
            rw [hpf] at hr2
            obtain ⟨q, cap', hv, hbq, hql, hcp, hcm, d0, d1, _⟩ := hr2.last
            simp only [Value.slice.injEq] at hv
            obtain ⟨rfl, _, rfl⟩ := hv
            have e3b : (((f.1 : Int) + (f.2 : Int) == (k : Int)) : Bool) = false := by
              have : ¬ (f.1 + f.2 = k) := fun h => ha (hend.1 h)
              simp; omega
            have hf2 : f.2 ≤ 1024 := by omega
            have hf1 : f.1 ≤ 1024 := by omega
            have hpl : p.length ≤ 1024 := by omega
            clear ha e2 hr hnil hend hmf hr2 hpf
            generalize ecells (runsTo c xs k) = cs at *
            generalize (runsTo c xs k).length = len at *
            subst hlen
            generalize p.length = pL at *
            go_wp2
            go_quiet (fail)
            go_wp2_with (at_builtin; refine wpList_append_sl _ rfl _ _ 26 rfl W.heap.size 34 i0 _ 2 16 Try.underlying26 hj hj0 hj1 hj2 rfl (by decide) _ _ _ rfl (hrA nq) _ _ 1 _ rfl (sl_litN (wr.drewN nq) _ 34 1 wr.heap.size rfl (by omega)) rfl ?d1 ?d2 ?d3 ?d4 ?_)
            case d1 => first | (intro u hu; simp at hu; rcases hu with rfl | rfl <;> rfl) | simp [Value.oneCell']
            case d2 => unfold maxLen; omega
            case d3 => omega
            case d4 => simp [hszD]; omega
            intro v9 w9 hown9 hgrow9 hat9
            obtain ⟨f1, f2⟩ := hfinH.out nq v9 w9 hown9 hgrow9
            clear hfinH hown9 hgrow9 hat9
            go_wp2
            go_roundw
            case rel => exact ⟨k + 1, by omega, by go_num, f1, f2⟩
            case measure => simp [intOf]; omega
      · have he : (((xs[k].toNat : Int) != cc)) = true := by
          rw [hcc.out, bne, u8_beq]; simp [hxc]
        have e2 : Hid (runsTo c xs (k + 1) = runsTo c xs k) := runsTo_skip (by rw [hxk]; simpa using hxc)
        clear hxk hxc
        generalize (xs[k].toNat : Int) = x at *
        go_wp2
        go_roundw
        case rel => exact ⟨k + 1, by omega, by go_num, by rw [e2.out]; exact hr, hnw⟩
        case measure => simp [intOf]; omega
    · go_wp2
      go_ret
      have : k = xs.length := by omega
      subst this
      exact ⟨_, rfl, hr.mono hsz, nw_trans hn hnw⟩
end Go.Proofs.Ytelobmdlnkkbkaa
