/-
  The document's IDs.
-/
import Derived.Test.YtimgelekpghklaaLabPlain6
import Derived.Test.YtimgelekpghklaaLabD2
namespace Go.Proofs.Ytimgelekpghklaa
set_option linter.unusedVariables false
set_option linter.unusedSimpArgs false
set_option maxRecDepth 20000
open Go.RowKit

theorem Try.infoU : (Try.prog.info? 31).map (fun i => (i.zero, i.size, i.bytes)) = some (some (.int .u64 0), 1, 8) := by kernel_rfl

def uv (x : Int) : Value := .int .u64 x
/-- The slice v holds the numbers xs. -/
def USl (X : Nat → Prop) (w : World) (v : Value) (xs : List Int) : Prop := Slp X w v xs.length (xs.map uv)

theorem USl.form {X : Nat → Prop} {w : World} {v : Value} {es : List Int} (h : USl X w v es) : ∃ ao cap, v = .slice ao es.length cap ∧ es.length ≤ cap ∧ cap ≤ 9223372036854775807 := by
  obtain ⟨ao, cap, rfl, ⟨h1, h2⟩, _⟩ := h
  exact ⟨ao, cap, rfl, h1, h2⟩

theorem USl.get {X : Nat → Prop} {w : World} {ao : Option Addr} {n cap : Nat} {es : List Int} (h : USl X w (.slice ao n cap) es) (k : Nat) (hk : k < es.length) :
    ∃ q off, ao = some ⟨q, off, none⟩ ∧ X q ∧ w.cell? ⟨q, off + k, none⟩ = some (.int .u64 es[k]) := by
  obtain ⟨ao', cap', hv, _, _, hcs⟩ := h
  simp only [Value.slice.injEq] at hv
  obtain ⟨rfl, _, rfl⟩ := hv
  obtain ⟨q, off, h3, h4, h5⟩ := hcs k (uv es[k]) (by simp [hk])
  exact ⟨q, off, h3, h4, h5⟩

theorem USl.keep {X X' : Nat → Prop} {w w' : World} {v : Value} {es : List Int} (h : USl X w v es) {T : Nat → Prop} (hf : Fr T w w') (hT : ∀ b, X b → b < w.heap.size → ¬ T b) (hX : ∀ b, X b → b < w.heap.size → X' b) : USl X' w' v es := by
  obtain ⟨ao, cap, hv, hc, hn, hcs⟩ := h
  refine ⟨ao, cap, hv, hc, hn, fun i c hi => ?_⟩
  obtain ⟨b, off, h1, h2, h3⟩ := hcs i c hi
  have hb : b < w.heap.size := World.block_lt_of_cell? w _ h3
  exact ⟨b, off, h1, hX b h2 hb, by rw [World.cell?_of_block (w := w) (hf.block b hb (hT b h2 hb))]; exact h3⟩

theorem USl.nw {X : Nat → Prop} {w w' : World} {v : Value} {es : List Int} (h : USl X w v es) (hf : Nw w w') : USl X w' v es := h.keep hf (fun _ _ _ => fun h => h) (fun _ h _ => h)
theorem USl.mono {X X' : Nat → Prop} {w : World} {v : Value} {es : List Int} (h : USl X w v es) (hX : ∀ b, X b → b < w.heap.size → X' b) : USl X' w v es := h.keep (Fr.refl (fun _ => False) w) (fun _ _ _ => fun h => h) hX

theorem usl_owns {base : Nat} {w : World} {v : Value} {xs : List Int} (h : w.ownsRow base 31 1 v xs.length (xs.map uv)) : USl (fun b => base ≤ b) w v xs := by
  obtain ⟨ao, cap, hv, hc, hn, hcs⟩ := slp_of_owns h
  refine ⟨ao, cap, hv, hc, hn, fun i c hi => ?_⟩
  obtain ⟨b, off, h1, h2, h3⟩ := hcs i c hi
  exact ⟨b, off, h1, (h.lt b h2).1, h3⟩

def URow (base : Nat) (w : World) (v : Value) (xs : List Int) : Prop := w.ownsRow base 31 1 v xs.length (xs.map uv)

/-- What an append of one has left. -/
theorem URow.snoc {base : Nat} {w w1 w9 : World} {v v9 : Value} {xs : List Int} {x : Int} {W : World} (h : URow base w v xs) (hf : Fr (fun k => base ≤ k) W w) (o : Obj) (h1 : w1 = w.alloc o) (h9 : w9.ownsRow base 31 1 v9 (xs.length + 1) (xs.map uv ++ [.int .u64 x])) (hg : w1.grownBy w9 v.ownBlock) :
    URow base w9 v9 (xs ++ [x]) ∧ Fr (fun k => base ≤ k) W w9 := by
  subst h1
  refine ⟨?_, (hf.alloc o).grown hg (fun q hq => .inl (h.lt q hq).1)⟩
  unfold URow
  rw [List.length_append, List.map_append]
  simpa [uv] using h9

theorem insS_cases (c : Int) (n : List Int) (id : Int) :
    (id = c → insS c (n, true) id = (n, true)) ∧ (¬ id = c → insS c (n, true) id = (n ++ [id], true)) ∧ (c ≤ id → id = c → insS c (n, false) id = (n ++ [c], true)) ∧ (c ≤ id → ¬ id = c → insS c (n, false) id = (n ++ [c] ++ [id], true)) ∧ (¬ c ≤ id → insS c (n, false) id = (n ++ [id], false)) := by
  refine ⟨fun h => ?_, fun h => ?_, fun h1 h2 => ?_, fun h1 h2 => ?_, fun h1 => ?_⟩
  · simp [insS, h]
  · simp [insS, h]
  · simp [insS, h1, h2]
  · simp [insS, h1, h2]
  · have : ¬ id = c := by omega
    simp [insS, h1, this]

def idsAt (xa xb : List Cat) (i : Nat) : List Int := if i = 0 then [] else if i = 1 then idsF xa [] else idsL xa xb

theorem ids_sel {da db : Int} {aa ba : Option Addr} {ac bc : Nat} (xa xb : List Cat) (i : Nat) (hi : i < 2) : ∃ (z : Int) (xs : List Cat) (la : Option Addr) (lc : Nat) (prev : List Int), (∀ w : World, (Instr.index 51 (.agg #[.int .i64 da, .slice aa xa.length ac, .int .i64 db, .slice ba xb.length bc]) (.int .i64 (i : Int))).run Try.prog w = .ok (.agg #[.int .i64 z, .slice la xs.length lc]) w) ∧
    ((xs = xa ∧ la = aa ∧ lc = ac ∧ i = 0) ∨ (xs = xb ∧ la = ba ∧ lc = bc ∧ i = 1)) ∧ prev = idsAt xa xb i ∧ idsF xs prev = idsAt xa xb (i + 1) ∧ prev.Pairwise (· < ·) ∧ prev.length + xs.length ≤ xa.length + xb.length := by
  have h1 := idsF_rs xa (out := []) List.Pairwise.nil
  match i, hi with
  | 0, _ => exact ⟨da, xa, aa, ac, [], fun w => by kernel_rfl, .inl ⟨rfl, rfl, rfl, rfl⟩, rfl, rfl, List.Pairwise.nil, by simp⟩
  | 1, _ => exact ⟨db, xb, ba, bc, idsF xa [], fun w => by kernel_rfl, .inr ⟨rfl, rfl, rfl, rfl⟩, rfl, rfl, h1.1, by have := h1.2.2; simp at this; omega⟩

set_option maxHeartbeats 6400000 in
theorem c_ids {X Y : Nat → Prop} {va vb : Value} {xa xb : List Cat} (da db : Int) (w : World) (ha : CSl X w va xa) (hb : CSl Y w vb xb) (hl : xa.length + xb.length ≤ 17592186044416) :
    Calls Try.prog 38 #[.agg #[.int .i64 da, va, .int .i64 db, vb]] w fun e w' => ∃ u, e = .returned u ∧ USl (fun b => w.heap.size ≤ b) w' u (idsL xa xb) ∧ Nw w w' := by
  obtain ⟨i0, hj, hj0, hj1, hj2⟩ := info_parts3 Try.infoU
  obtain ⟨aa, ac, rfl, ha1, ha2⟩ := ha.form
  obtain ⟨ba, bc, rfl, hb1, hb2⟩ := hb.form
  obtain ⟨W0, hW0⟩ : ∃ W0, Hid (W0 = (w.alloc (.cells #[.int .i64 da, .slice aa xa.length ac, .int .i64 db, .slice ba xb.length bc] 51)).alloc (.cells #[] 31)) := ⟨_, rfl⟩
  have n0 : Nw w W0 := by rw [hW0.out]; exact nw_alloc (nw_alloc (nw_refl w) _) _
  have hB : W0.heap[w.heap.size]? = some (.cells #[.int .i64 da, .slice aa xa.length ac, .int .i64 db, .slice ba xb.length bc] 51 (0, 0)) := by rw [hW0.out]; exact heap_alloc2_old w _ _
  replace ha := ha.any
  replace hb := hb.any
  have hout0 : USl (fun b => w.heap.size ≤ b) W0 (.slice (some ⟨w.heap.size + 1, 0, none⟩) 0 0) [] := ⟨_, 0, rfl, ⟨Nat.le_refl _, Nat.zero_le _⟩, fun h => by simp at h, fun i c hi => by simp at hi⟩
  go_enter Try.func38, Try.ntmps38
  go_upto_region 2 with (refine wpList_buildSlice0 rfl 49 31 rfl Try.underlying49 (by kernel_rfl) ?_)
  rw [← hW0.out]
  have b0 : W0.cell? ⟨w.heap.size, 0, none⟩ = some (.int .i64 da) := cell_blk hB rfl
  have b1 : W0.cell? ⟨w.heap.size, 1, none⟩ = some (.slice aa xa.length ac) := cell_blk hB rfl
  have b2 : W0.cell? ⟨w.heap.size, 2, none⟩ = some (.int .i64 db) := cell_blk hB rfl
  have b3 : W0.cell? ⟨w.heap.size, 3, none⟩ = some (.slice ba xb.length bc) := cell_blk hB rfl
  clear hW0
  go_wp2
  clear b0 b1 b2 b3 hB
  generalize hN : w.heap.size = N at *
  replace hN : Hid _ := hN
  go_loopw [3, 14] (fun ov iv wr => ∃ i : Nat, i ≤ 2 ∧ iv = .int .i64 i ∧ USl (fun b => N ≤ b) wr ov (idsAt xa xb i) ∧ Nw w wr) (fun _ iv _ => 2 - (intOf iv).toNat)
  case atStart => exact ⟨0, by omega, rfl, hout0, n0⟩
  case round =>
    clear hout0 n0
    obtain ⟨i, hi, rfl, hov, nr⟩ := hrel
    by_cases hlt : i < 2
    · obtain ⟨z, xs, la, lc, prev, hidx, hsel, hprev, hnx, hprs, hpl⟩ := ids_sel (da := da) (db := db) (aa := aa) (ba := ba) (ac := ac) (bc := bc) xa xb i hlt
      have hxs : CSl (fun _ => True) w (.slice la xs.length lc) xs := by
        rcases hsel with ⟨rfl, rfl, rfl, _⟩ | ⟨rfl, rfl, rfl, _⟩
        · exact ha
        · exact hb
      rw [← hprev] at hov
      replace hnx : Hid _ := hnx
      replace hprs : Hid _ := hprs
      clear hsel hprev
      have hxf := hxs.form
      obtain ⟨oa, oc, rfl, _, _⟩ := hov.form
      have hxl2 : xs.length ≤ lc ∧ lc ≤ 9223372036854775807 := by
        obtain ⟨a', c', h1, h2, h3⟩ := hxf
        simp only [Value.slice.injEq, true_and] at h1
        obtain ⟨_, rfl⟩ := h1
        exact ⟨h2, h3⟩
      obtain ⟨hx2, hx3⟩ := hxl2
      clear hxf
      have nA : Hid (∀ o, Nw w (wr.alloc o)) := fun o => nw_alloc nr o
      have hovA : Hid (∀ o, USl (fun b => N ≤ b) (wr.alloc o) (.slice oa prev.length oc) prev) := fun o => hov.nw (nw_alloc (nw_refl wr) o)
      go_wp2
      clear hidx
      generalize hWW : wr.alloc (.cells #[.int .i64 z, .slice la xs.length lc] 24) = W1 at *
      have hov1 : USl (fun b => N ≤ b) W1 (.slice oa prev.length oc) prev := by rw [← hWW]; exact hovA.out _
      have n1 : Nw w W1 := by rw [← hWW]; exact nA.out _
      clear hov nr nA hovA hWW
      have hdi : decide ((i : Int) < 2) = true := by simp; omega
      rw [hdi]
      clear hdi
      replace hlt : Hid (i < 2) := hlt
      replace hi : Hid _ := hi
      go_loopw [3, 20] (fun ov kv wr => ∃ k : Nat, k ≤ xs.length ∧ kv = .int .i64 k ∧ USl (fun b => N ≤ b) wr ov (idsF (xs.take k) prev) ∧ Nw w wr) (fun _ kv _ => xs.length - (intOf kv).toNat)
      case atStart => exact ⟨0, Nat.zero_le _, rfl, hov1, n1⟩
      case round =>
        clear hov1 n1
        obtain ⟨k, hk, rfl, hov, nr⟩ := hrel
        by_cases hlt2 : k < xs.length
        · obtain ⟨q, off, rfl, _, d1, d2⟩ := (hxs.nw nr).get k hlt2
          have hids := idsF_rs (xs.take k) hprs.out
          have hnext : Hid (idsF (xs.take (k + 1)) prev = insI xs[k].1 (idsF (xs.take k) prev)) := by unfold Hid; rw [List.take_succ_eq_append_getElem hlt2, idsF_snoc]
          have hrs : Hid _ := hids.1
          have hol := hids.2.2
          rw [List.length_take, Nat.min_eq_left hk] at hol
          clear hids
          generalize xs[k] = c at *
          generalize idsF (xs.take k) prev = out at *
          obtain ⟨oa, oc, rfl, _, _⟩ := hov.form
          obtain ⟨W, hW⟩ : ∃ W, Hid (W = (wr.alloc (.cells #[.int .u64 c.1, .int .i64 c.2] 33)).alloc (.cells #[] 31)) := ⟨_, rfl⟩
          have nW : Nw wr W := by rw [hW.out]; exact nw_alloc (nw_alloc (nw_refl wr) _) _
          have hV : W.heap[wr.heap.size]? = some (.cells #[.int .u64 c.1, .int .i64 c.2] 33 (0, 0)) := by rw [hW.out]; exact heap_alloc2_old wr _ _
          have hrow0 : URow (wr.heap.size + 1) W (.slice (some ⟨wr.heap.size + 1, 0, none⟩) 0 0) [] := ⟨rfl, .inr ⟨wr.heap.size + 1, 0, #[], rfl, Nat.le_refl _, by rw [hW.out]; exact heap_alloc2_new wr _ _, Nat.le_refl _, Nat.zero_le _, rfl, rfl⟩⟩
          have hout := (hov.mono (X' := fun b => b < wr.heap.size + 1) (fun b _ h => Nat.lt_succ_of_lt h)).nw nW
          have nWH : Hid (Nw w W) := nw_trans nr nW
          have hNV : N ≤ wr.heap.size := by rw [← hN.out]; exact nr.size
          have hVl := heap_lt hV
          have hWs : W.heap.size = wr.heap.size + 1 + 1 := by rw [hW.out]; simp
          clear hov nr nW
          go_upto_region 9 with (refine wpList_buildSlice0 rfl 49 31 rfl Try.underlying49 (by kernel_rfl) ?_)
          rw [← hW.out]
          clear hW d1 d2
          generalize wr.heap.size = V at *
          go_wp2
          go_loopw [8, 9, 27] (fun nv dv mv wr => ∃ m : Nat, m ≤ out.length ∧ mv = .int .i64 m ∧ dv = .bool (insF c.1 out m).2 ∧ URow (V + 1) wr nv (insF c.1 out m).1 ∧ Fr (fun k => V + 1 ≤ k) W wr) (fun _ _ mv _ => out.length - (intOf mv).toNat)
          case atStart => exact ⟨0, Nat.zero_le _, rfl, rfl, hrow0, Fr.refl _ _⟩
          case round =>
            as_aux_lemma =>
              clear hrow0
              obtain ⟨m, hm, rfl, rfl, hrow, hfr⟩ := hrel
              have hinv := insF_inv (c := c.1) hrs.out m hm
              obtain ⟨na, nc, rfl⟩ := owns_form hrow
              have hc0 : wr.cell? ⟨V, 0, none⟩ = some (.int .u64 c.1) := cell_blk ((hfr.block V (heap_lt hV) (by omega)).trans hV) rfl
              have hlen := hinv.len
              have hSs := hfr.size
              rw [List.length_take, Nat.min_eq_left hm] at hlen
              by_cases hlt : m < out.length
              · obtain ⟨q, off, rfl, hqS, d1⟩ := (hout.keep (X' := fun b => b < V + 1) hfr (fun b hb _ h => by omega) (fun b hb _ => hb)).get m hlt
                have hsucc := insF_succ c.1 out m hlt
                obtain ⟨k1, k2, k3, k4, k5⟩ := insS_cases c.1 (insF c.1 out m).1 out[m]
                generalize out[m] = id at *
                generalize hst : insF c.1 out m = st at *
                obtain ⟨n, d⟩ := st
                replace hst : Hid _ := hst
                simp only at k1 k2 k3 k4 k5 hlen hrow hsucc
                clear hinv
                cases d with
                | true =>
                  by_cases he : id = c.1
                  · have hb : (id != c.1) = false := by simp [he]
                    have hs9 : Hid (insF c.1 out (m + 1) = (n, true)) := by unfold Hid; rw [hsucc]; exact k1 he
                    clear k1 k2 k3 k4 k5 hsucc he
                    go_wp2
                    go_roundw
                    case rel => exact ⟨m + 1, by omega, by go_num, by rw [hs9.out], by rw [hs9.out]; exact hrow, hfr⟩
                    case measure => simp [intOf]; omega
                  · have hb : (id != c.1) = true := by simp [he]
                    have hs9 : Hid (insF c.1 out (m + 1) = (n ++ [id], true)) := by unfold Hid; rw [hsucc]; exact k2 he
                    replace hlen := hlen.1
                    clear k1 k2 k3 k4 k5 hsucc he
                    go_wp2_with (at_builtin; refine wpList_append_sl _ rfl _ _ 49 rfl (V + 1) 31 i0 _ 1 8 Try.underlying49 hj hj0 hj1 hj2 rfl (by decide) _ _ _ rfl (World.ownsRow.alloc hrow (.cells #[.int .u64 (id)] 31)) _ _ 1 _ rfl (sl_lit _ #[.int .u64 (id)] 31 1 (by omega)) rfl ?d1 ?d2 ?d3 ?d4 ?_)
                    case d1 => first | (intro u hu; simp at hu; rcases hu with rfl | rfl <;> rfl) | simp [Value.oneCell', uv]
                    case d2 => unfold maxLen; (try simp); omega
                    case d3 => (try simp); omega
                    case d4 => have := hfr.size; simp; omega
                    intro v9 w9 hown9 hgrow9 hat9
                    obtain ⟨hrow9, hfr9⟩ := URow.snoc (x := id) (xs := n) hrow hfr _ rfl (by first | exact hown9 | simpa [uv, List.length_append, List.map_append] using hown9) hgrow9
                    obtain ⟨a9, c9, rfl⟩ := owns_form hrow9
                    have hl9 : (n ++ [id]).length = (n).length + 1 := by simp
                    rw [hl9] at hrow9 ⊢
                    clear hown9 hgrow9 hat9
                    go_wp2
                    go_roundw
                    case rel => exact ⟨m + 1, by omega, by go_num, by rw [hs9.out], by rw [hs9.out]; exact hrow9, hfr9⟩
                    case measure => simp [intOf]; omega
                | false =>
                  replace hlen := hlen.2 rfl
                  by_cases hge : c.1 ≤ id
                  · by_cases he : id = c.1
                    · have hb : (id != c.1) = false := by simp [he]
                      have hs9 : Hid (insF c.1 out (m + 1) = (n ++ [c.1], true)) := by unfold Hid; rw [hsucc]; exact k3 hge he
                      clear k1 k2 k3 k4 k5 hsucc
                      replace he : Hid _ := he
                      go_wp2_with (at_builtin; refine wpList_append_sl _ rfl _ _ 49 rfl (V + 1) 31 i0 _ 1 8 Try.underlying49 hj hj0 hj1 hj2 rfl (by decide) _ _ _ rfl (World.ownsRow.alloc hrow (.cells #[.int .u64 (c.1)] 31)) _ _ 1 _ rfl (sl_lit _ #[.int .u64 (c.1)] 31 1 (by omega)) rfl ?d1 ?d2 ?d3 ?d4 ?_)
                      case d1 => first | (intro u hu; simp at hu; rcases hu with rfl | rfl <;> rfl) | simp [Value.oneCell', uv]
                      case d2 => unfold maxLen; (try simp); omega
                      case d3 => (try simp); omega
                      case d4 => have := hfr.size; simp; omega
                      intro v9 w9 hown9 hgrow9 hat9
                      obtain ⟨hrow9, hfr9⟩ := URow.snoc (x := c.1) (xs := n) hrow hfr _ rfl (by first | exact hown9 | simpa [uv, List.length_append, List.map_append] using hown9) hgrow9
                      obtain ⟨a9, c9, rfl⟩ := owns_form hrow9
                      have hl9 : (n ++ [c.1]).length = (n).length + 1 := by simp
                      rw [hl9] at hrow9 ⊢
                      clear hown9 hgrow9 hat9
                      have hc9 : w9.cell? ⟨V, 0, none⟩ = some (.int .u64 c.1) := cell_blk ((hfr9.block V (heap_lt hV) (by omega)).trans hV) rfl
                      go_wp2
                      go_roundw
                      case rel => exact ⟨m + 1, by omega, by go_num, by rw [hs9.out], by rw [hs9.out]; exact hrow9, hfr9⟩
                      case measure => simp [intOf]; omega
                    · have hb : (id != c.1) = true := by simp [he]
                      have hs9 : Hid (insF c.1 out (m + 1) = (n ++ [c.1] ++ [id], true)) := by unfold Hid; rw [hsucc]; exact k4 hge he
                      clear k1 k2 k3 k4 k5 hsucc
                      replace he : Hid _ := he
                      go_wp2_with (at_builtin; refine wpList_append_sl _ rfl _ _ 49 rfl (V + 1) 31 i0 _ 1 8 Try.underlying49 hj hj0 hj1 hj2 rfl (by decide) _ _ _ rfl (World.ownsRow.alloc hrow (.cells #[.int .u64 (c.1)] 31)) _ _ 1 _ rfl (sl_lit _ #[.int .u64 (c.1)] 31 1 (by omega)) rfl ?d1 ?d2 ?d3 ?d4 ?_)
                      case d1 => first | (intro u hu; simp at hu; rcases hu with rfl | rfl <;> rfl) | simp [Value.oneCell', uv]
                      case d2 => unfold maxLen; (try simp); omega
                      case d3 => (try simp); omega
                      case d4 => have := hfr.size; simp; omega
                      intro v9 w9 hown9 hgrow9 hat9
                      obtain ⟨hrow9, hfr9⟩ := URow.snoc (x := c.1) (xs := n) hrow hfr _ rfl (by first | exact hown9 | simpa [uv, List.length_append, List.map_append] using hown9) hgrow9
                      obtain ⟨a9, c9, rfl⟩ := owns_form hrow9
                      have hl9 : (n ++ [c.1]).length = (n).length + 1 := by simp
                      rw [hl9] at hrow9 ⊢
                      clear hown9 hgrow9 hat9
                      have hc9 : w9.cell? ⟨V, 0, none⟩ = some (.int .u64 c.1) := cell_blk ((hfr9.block V (heap_lt hV) (by omega)).trans hV) rfl
                      clear hrow hfr hc0
                      go_wp2_with (at_builtin; refine wpList_append_sl _ rfl _ _ 49 rfl (V + 1) 31 i0 _ 1 8 Try.underlying49 hj hj0 hj1 hj2 rfl (by decide) _ _ _ rfl (World.ownsRow.alloc hrow9 (.cells #[.int .u64 (id)] 31)) _ _ 1 _ rfl (sl_lit _ #[.int .u64 (id)] 31 1 (by omega)) rfl ?d1 ?d2 ?d3 ?d4 ?_)
                      case d1 => first | (intro u hu; simp at hu; rcases hu with rfl | rfl <;> rfl) | simp [Value.oneCell', uv]
                      case d2 => unfold maxLen; (try simp); omega
                      case d3 => (try simp); omega
                      case d4 => have := hfr9.size; simp; omega
                      intro v8 w8 hown8 hgrow8 hat8
                      obtain ⟨hrow8, hfr8⟩ := URow.snoc (x := id) (xs := n ++ [c.1]) hrow9 hfr9 _ rfl (by first | exact hown8 | simpa [uv, List.length_append, List.map_append] using hown8) hgrow8
                      obtain ⟨a8, c8, rfl⟩ := owns_form hrow8
                      have hl8 : (n ++ [c.1] ++ [id]).length = (n ++ [c.1]).length + 1 := by simp
                      rw [hl8, hl9] at hrow8
                      rw [hl8, hl9]
                      clear hown8 hgrow8 hat8
                      go_wp2
                      go_roundw
                      case rel => exact ⟨m + 1, by omega, by go_num, by rw [hs9.out], by rw [hs9.out]; exact hrow8, hfr8⟩
                      case measure => simp [intOf]; omega
                  · have hb : (id != c.1) = true := by simp; omega
                    have hs9 : Hid (insF c.1 out (m + 1) = (n ++ [id], false)) := by unfold Hid; rw [hsucc]; exact k5 hge
                    clear k1 k2 k3 k4 k5 hsucc
                    go_wp2_with (at_builtin; refine wpList_append_sl _ rfl _ _ 49 rfl (V + 1) 31 i0 _ 1 8 Try.underlying49 hj hj0 hj1 hj2 rfl (by decide) _ _ _ rfl (World.ownsRow.alloc hrow (.cells #[.int .u64 (id)] 31)) _ _ 1 _ rfl (sl_lit _ #[.int .u64 (id)] 31 1 (by omega)) rfl ?d1 ?d2 ?d3 ?d4 ?_)
                    case d1 => first | (intro u hu; simp at hu; rcases hu with rfl | rfl <;> rfl) | simp [Value.oneCell', uv]
                    case d2 => unfold maxLen; (try simp); omega
                    case d3 => (try simp); omega
                    case d4 => have := hfr.size; simp; omega
                    intro v9 w9 hown9 hgrow9 hat9
                    obtain ⟨hrow9, hfr9⟩ := URow.snoc (x := id) (xs := n) hrow hfr _ rfl (by first | exact hown9 | simpa [uv, List.length_append, List.map_append] using hown9) hgrow9
                    obtain ⟨a9, c9, rfl⟩ := owns_form hrow9
                    have hl9 : (n ++ [id]).length = (n).length + 1 := by simp
                    rw [hl9] at hrow9 ⊢
                    clear hown9 hgrow9 hat9
                    go_wp2
                    go_roundw
                    case rel => exact ⟨m + 1, by omega, by go_num, by rw [hs9.out], by rw [hs9.out]; exact hrow9, hfr9⟩
                    case measure => simp [intOf]; omega
              · have hmn : m = out.length := by omega
                subst hmn
                have hfin : Hid (∀ (u : Value) (w' : World), URow (V + 1) w' u (insI c.1 out) → Fr (fun k => V + 1 ≤ k) W w' → USl (fun b => N ≤ b) w' u (idsF (xs.take (k + 1)) prev) ∧ Nw w w') := fun u w' r1 r2 => ⟨by rw [hnext.out]; exact (usl_owns r1).mono (fun b hb _ => by omega), Fr.trans nWH.out r2 (fun q hq => .inr (by rw [hN.out]; omega))⟩
                generalize hst : insF c.1 out out.length = st at *
                obtain ⟨n, d⟩ := st
                have hII : insI c.1 out = if d = true then n else n ++ [c.1] := by unfold insI; rw [hst]
                replace hst : Hid _ := hst
                simp only at hlen hrow
                clear hinv
                cases d with
                | true =>
                  rw [if_pos rfl] at hII
                  replace hII : Hid _ := hII
                  go_wp2
                  go_roundw
                  case rel => exact ⟨k + 1, by omega, by go_num, (hfin.out _ _ (by rw [hII.out]; exact hrow) hfr).1, (hfin.out _ _ (by rw [hII.out]; exact hrow) hfr).2⟩
                  case measure => simp [intOf]; omega
                | false =>
                  replace hlen := hlen.2 rfl
                  rw [if_neg (by simp)] at hII
                  replace hII : Hid _ := hII
                  go_wp2_with (at_builtin; refine wpList_append_sl _ rfl _ _ 49 rfl (V + 1) 31 i0 _ 1 8 Try.underlying49 hj hj0 hj1 hj2 rfl (by decide) _ _ _ rfl (World.ownsRow.alloc hrow (.cells #[.int .u64 (c.1)] 31)) _ _ 1 _ rfl (sl_lit _ #[.int .u64 (c.1)] 31 1 (by omega)) rfl ?d1 ?d2 ?d3 ?d4 ?_)
                  case d1 => first | (intro u hu; simp at hu; rcases hu with rfl | rfl <;> rfl) | simp [Value.oneCell', uv]
                  case d2 => unfold maxLen; (try simp); omega
                  case d3 => (try simp); omega
                  case d4 => have := hfr.size; simp; omega
                  intro v9 w9 hown9 hgrow9 hat9
                  obtain ⟨hrow9, hfr9⟩ := URow.snoc (x := c.1) (xs := n) hrow hfr _ rfl (by first | exact hown9 | simpa [uv, List.length_append, List.map_append] using hown9) hgrow9
                  obtain ⟨a9, c9, rfl⟩ := owns_form hrow9
                  have hl9 : (n ++ [c.1]).length = (n).length + 1 := by simp
                  rw [hl9] at hrow9 ⊢
                  clear hown9 hgrow9 hat9
                  go_wp2
                  go_roundw
                  case rel => exact ⟨k + 1, by omega, by go_num, (hfin.out _ _ (by rw [hII.out]; exact hrow9) hfr9).1, (hfin.out _ _ (by rw [hII.out]; exact hrow9) hfr9).2⟩
                  case measure => simp [intOf]; omega
        · have hkn : k = xs.length := by omega
          rw [hkn, List.take_length, hnx.out] at hov
          obtain ⟨oa, oc, rfl, _, _⟩ := hov.form
          go_wp2
          go_roundw
          case rel => exact ⟨i + 1, hlt.out, by go_num, hov, nr⟩
          case measure => have := hlt.out; simp [intOf]; omega
    · have hi2 : i = 2 := by omega
      subst hi2
      have e2 : idsAt xa xb 2 = idsL xa xb := rfl
      rw [e2] at hov
      obtain ⟨oa, oc, rfl, _, _⟩ := hov.form
      go_wp2
      go_ret
      exact ⟨_, rfl, hov.mono (fun b hb _ => by rw [hN.out]; exact hb), nr⟩
end Go.Proofs.Ytimgelekpghklaa
