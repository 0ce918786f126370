/-
  Fields copied; fields compared.
-/
import Derived.Test.YtfnokdgfbhlccaaRows
import Derived.Test.YtfnokdgfbhlccaaR2
namespace Go.Proofs.Ytfnokdgfbhlccaa
set_option linter.unusedVariables false
set_option linter.unusedSimpArgs false
open Go.RowKit

theorem Try.info40 : (Try.prog.info? 40).map (fun i => (i.zero, i.size, i.bytes)) = some (some (.agg #[.int .u64 0, .slice none 0 0]), 2, 32) := by kernel_rfl

/-- A slice whose cells lie in blocks of one class. -/
def Slp (X : Nat → Prop) (w : World) (v : Value) (n : Nat) (cs : List Value) : Prop :=
  ∃ ao cap, v = .slice ao n cap ∧ (n ≤ cap ∧ cap ≤ maxLen) ∧ (ao = none → cap = 0) ∧
    ∀ i c, cs[i]? = some c → ∃ b off, ao = some ⟨b, off, none⟩ ∧ X b ∧ w.cell? ⟨b, off + i, none⟩ = some c

theorem Slp.sl {X : Nat → Prop} {w : World} {v : Value} {n : Nat} {cs : List Value} (h : Slp X w v n cs) {K : Nat} (hX : ∀ b, X b → b < K) : Sl K w v n cs := by
  obtain ⟨ao, cap, hv, hc, hn, hcs⟩ := h
  refine ⟨ao, cap, hv, hc, hn, fun i c hi => ?_⟩
  obtain ⟨b, off, h1, h2, h3⟩ := hcs i c hi
  exact ⟨b, off, h1, hX b h2, h3⟩

theorem Slp.keep {X X' : Nat → Prop} {w w' : World} {v : Value} {n : Nat} {cs : List Value} (h : Slp X w v n cs) (hX : ∀ b, X b → X' b ∧ w'.heap[b]? = w.heap[b]?) : Slp X' w' v n cs := by
  obtain ⟨ao, cap, hv, hc, hn, hcs⟩ := h
  refine ⟨ao, cap, hv, hc, hn, fun i c hi => ?_⟩
  obtain ⟨b, off, h1, h2, h3⟩ := hcs i c hi
  obtain ⟨h4, h5⟩ := hX b h2
  exact ⟨b, off, h1, h4, by rw [World.cell?_of_block (w := w) h5]; exact h3⟩

theorem slp_of_owns {w : World} {base e size n : Nat} {v : Value} {xs : List Value} (h : w.ownsRow base e size v n xs) : Slp (fun b => v.ownBlock = some b) w v n xs := by
  obtain ⟨h1, h2⟩ := h
  rcases h2 with ⟨rfl, rfl⟩ | ⟨g, cap, cur, rfl, hb, hg, hn, hm, hs, ht⟩
  · have : xs = [] := List.eq_nil_of_length_eq_zero (by simpa using h1)
    subst this
    exact ⟨none, 0, rfl, ⟨Nat.le_refl _, Nat.zero_le _⟩, fun _ => rfl, fun i c h => by simp at h⟩
  · refine ⟨_, cap, rfl, ⟨hn, hm⟩, fun h => by simp at h, fun i c hi => ⟨g, 0, rfl, rfl, ?_⟩⟩
    rw [Nat.zero_add, cell_of_row w g i cur e (0, 0) hg]
    rw [← ht, List.getElem?_take] at hi
    split at hi
    · simpa using hi
    · cases hi

/-- Cells of fields: two a field, the bytes in blocks of one class. -/
def FldX (X : Nat → Prop) (w : World) (fs : List Fld) (cs : List Value) : Prop :=
  cs.length = fs.length * 2 ∧ ∀ i f, fs[i]? = some f → ∃ bvv, cs[i * 2]? = some (.int .u64 (f.num : Nat)) ∧ cs[i * 2 + 1]? = some bvv ∧
    Slp X w bvv f.bytes.length (f.bytes.map bv) ∧ f.num < 18446744073709551616 ∧ f.bytes.length ≤ 140737488355328

theorem FldX.nil (X : Nat → Prop) (w : World) : FldX X w [] [] := ⟨rfl, fun i f h => by simp at h⟩

theorem FldX.keep {X X' : Nat → Prop} {w w' : World} {fs : List Fld} {cs : List Value} (h : FldX X w fs cs) (hX : ∀ b, X b → X' b ∧ w'.heap[b]? = w.heap[b]?) : FldX X' w' fs cs := by
  refine ⟨h.1, fun i f hi => ?_⟩
  obtain ⟨bvv, h1, h2, h3, h4⟩ := h.2 i f hi
  exact ⟨bvv, h1, h2, h3.keep hX, h4⟩

theorem FldX.push {X : Nat → Prop} {w : World} {fs : List Fld} {cs : List Value} (h : FldX X w fs cs) (f : Fld) (bvv : Value) (hs : Slp X w bvv f.bytes.length (f.bytes.map bv)) (hn : f.num < 18446744073709551616) (hl : f.bytes.length ≤ 140737488355328) :
    FldX X w (fs ++ [f]) (cs ++ [.int .u64 (f.num : Nat), bvv]) := by
  refine ⟨by simp [h.1]; omega, fun i g hi => ?_⟩
  by_cases hlt : i < fs.length
  · rw [List.getElem?_append_left hlt] at hi
    obtain ⟨b1, h1, h2, h3⟩ := h.2 i g hi
    exact ⟨b1, by rw [List.getElem?_append_left (by rw [h.1]; omega)]; exact h1, by rw [List.getElem?_append_left (by rw [h.1]; omega)]; exact h2, h3⟩
  · have hil : i < (fs ++ [f]).length := (List.getElem?_eq_some_iff.1 hi).1
    have : i = fs.length := by simp at hil; omega
    subst this
    simp at hi
    subst hi
    refine ⟨bvv, ?_, ?_, hs, hn, hl⟩
    · rw [← h.1]; simp
    · rw [← h.1, List.getElem?_append_right (by omega)]; simp

theorem fieldsAt_of_own {X : Nat → Prop} {w : World} {base : Nat} {v : Value} {fs : List Fld} {cs : List Value} (ho : w.ownsRow base 40 2 v fs.length cs) (h : FldX X w fs cs) (hX : ∀ b, X b → b < w.heap.size) : FieldsAt w.heap.size w v fs := by
  have hs := sl_of_owns ho
  obtain ⟨ao, cap, rfl, hc, hn, hcs⟩ := hs
  refine ⟨ao, cap, rfl, hc.1, hn, fun i f hi => ?_⟩
  obtain ⟨bvv, h1, h2, h3, h4⟩ := h.2 i f hi
  obtain ⟨b, off, ha, hb, hcell⟩ := hcs _ _ h1
  obtain ⟨b', off', ha', _, hcell'⟩ := hcs _ _ h2
  rw [ha] at ha'
  simp only [Option.some.injEq, Addr.mk.injEq, and_true] at ha'
  obtain ⟨rfl, rfl⟩ := ha'
  exact ⟨b, off, bvv, ha, hb, hcell, by rw [Nat.add_assoc]; exact hcell', h3.sl hX, h4⟩

theorem owns_ne2 {w : World} {base e size n g l cap F : Nat} {xs : List Value} (_h : w.ownsRow base e size (.slice (some ⟨g, 0, none⟩) l cap) n xs) (hF : F < g) : some F ≠ (Value.slice (some ⟨g, 0, none⟩) l cap).ownBlock := by
  simp [Value.ownBlock]
  omega

/-- What a round of a copy keeps. -/
structure CopyAt (w wr : World) (o : Value) (fs : List Fld) (cs : List Value) : Prop where
  own : wr.ownsRow w.heap.size 40 2 o fs.length cs
  fld : FldX (fun b => b < wr.heap.size ∧ o.ownBlock ≠ some b) wr fs cs
  bel : Below w.heap.size w wr

theorem copyAt_start (w : World) : CopyAt w (w.alloc (.cells #[] 40)) (.slice (some ⟨w.heap.size, 0, none⟩) 0 0) [] [] :=
  ⟨World.ownsRow_lit w #[] 0 (Nat.le_refl _) (by decide) rfl, FldX.nil _ _, (Below.refl _ _).alloc (Nat.le_refl _) _⟩

/-- A field more: w6 holds the new bytes at a block that was not there in wr; w9 is what the append leaves. -/
theorem copyAt_step {w wr w6 w9 : World} {o v6 v9 : Value} {fs : List Fld} {cs : List Value} (f : Fld) (h : CopyAt w wr o fs cs) (hb : Below wr.heap.size wr w6)
    {X6 : Nat → Prop} (hs6 : Slp X6 w6 v6 f.bytes.length (f.bytes.map bv)) (h6 : ∀ b, X6 b → wr.heap.size ≤ b ∧ b < w6.heap.size) (hn : f.num < 18446744073709551616) (hl : f.bytes.length ≤ 140737488355328)
    (obj : Obj) (ho9 : w9.ownsRow w.heap.size 40 2 v9 (fs ++ [f]).length (cs ++ [.int .u64 (f.num : Nat), v6])) (hg : (w6.alloc obj).grownBy w9 o.ownBlock) (hat : v9.ownBlock = o.ownBlock ∨ v9.ownBlock = some (w6.heap.size + 1)) :
    CopyAt w w9 v9 (fs ++ [f]) (cs ++ [.int .u64 (f.num : Nat), v6]) := by
  have hsz6 := hb.size
  have hsz9 := hg.size
  simp only [World.size_alloc] at hsz9
  have hoo : ∀ b, o.ownBlock = some b → w.heap.size ≤ b ∧ b < wr.heap.size := fun b hb' => h.own.lt b hb'
  have keep6 : ∀ b, b < w6.heap.size → o.ownBlock ≠ some b → w9.heap[b]? = w6.heap[b]? := fun b hb1 hb2 =>
    (hg.block b (by simp; omega) (Ne.symm hb2)).trans (Below.heap_alloc w6 obj b hb1)
  have hne9 : ∀ b, b < w6.heap.size → o.ownBlock ≠ some b → v9.ownBlock ≠ some b := by
    intro b hb1 hb2 he
    rcases hat with h1 | h1
    · exact hb2 (h1.symm.trans he)
    · rw [h1] at he
      simp at he
      omega
  refine ⟨ho9, FldX.push ?_ f v6 ?_ hn hl, ?_⟩
  · refine h.fld.keep fun b hx => ?_
    have hb1 : b < w6.heap.size := by omega
    exact ⟨⟨by omega, hne9 b hb1 hx.2⟩, (keep6 b hb1 hx.2).trans (hb.block b hx.1)⟩
  · refine hs6.keep fun b hx => ?_
    obtain ⟨h1, h2⟩ := h6 b hx
    have hb2 : o.ownBlock ≠ some b := fun e => by have := (hoo b e).2; omega
    exact ⟨⟨by omega, hne9 b h2 hb2⟩, keep6 b h2 hb2⟩
  · have h1 : Below w.heap.size w w6 := h.bel.trans (hb.mono h.bel.size)
    have := h.bel.size
    refine (h1.alloc (by omega) obj).grown hg (by simp; omega) (fun b hb' => (hoo b hb').1)

set_option maxHeartbeats 3200000 in
theorem c_copy (K : Nat) (v : Value) (fs : List Fld) (w : World) (hf : FieldsAt K w v fs) (hK : K ≤ w.heap.size) (hl : fs.length * 32 ≤ 140737488355328) :
    Calls Try.prog 12 #[v] w fun e w' => ∃ v', e = .returned v' ∧ FieldsAt w'.heap.size w' v' fs ∧ Below w.heap.size w w' := by
  obtain ⟨i0, hi, hi0, hi1, hi2⟩ := info_parts Try.info5
  obtain ⟨i4, hj, hj0, hj1, hj2⟩ := info_parts Try.info40
  obtain ⟨ao, cap, rfl, h1⟩ := hf
  have hf : FieldsAt K w (.slice ao fs.length cap) fs := ⟨ao, cap, rfl, h1⟩
  clear h1
  go_enter Try.func12, Try.ntmps12
  go_wp2
  go_loopw [3, 9] (fun o i wr => ∃ (k : Nat) (cs : List Value), k ≤ fs.length ∧ i = .int .i64 k ∧ CopyAt w wr o (fs.take k) cs) (fun _ i _ => fs.length - (intOf i).toNat)
  case atStart => exact ⟨0, [], Nat.zero_le _, rfl, copyAt_start w⟩
  case round =>
    obtain ⟨k, cs, hk, rfl, hat⟩ := hrel
    by_cases hlt : k < fs.length
    · obtain ⟨b, off, bvv, rfl, hbK, hcn, hcb, hsb, hnum, hbl⟩ := fields_get hf k hlt
      obtain ⟨bo, bc, rfl⟩ : ∃ bo bc, bvv = .slice bo (fs[k].bytes.length) bc := sl_form hsb
      have hcn : wr.cell? ⟨b, off + k * 2, none⟩ = some (.int .u64 (fs[k].num : Nat)) := by rw [hat.bel.cell (p := ⟨b, _, none⟩) (by show b < _; omega)]; exact hcn
      have hcb : wr.cell? ⟨b, off + k * 2 + 1, none⟩ = some (.slice bo (fs[k].bytes.length) bc) := by rw [hat.bel.cell (p := ⟨b, _, none⟩) (by show b < _; omega)]; exact hcb
      have hsz := hat.bel.size
      have hbl' : fs[k].bytes.length ≤ 140737488355328 := hbl
      go_wp2
      generalize hWf : wr.alloc (Obj.cells #[Value.int IntKind.u64 ↑fs[k].num, Value.slice bo fs[k].bytes.length bc] 40) = Wf
      have hszF : wr.heap.size + 1 = Wf.heap.size := by subst hWf; simp
      have hbF : Below wr.heap.size wr Wf := by subst hWf; exact (Below.refl _ _).alloc (Nat.le_refl _) _
      have hS : (fun w' : World => w'.cell? ⟨wr.heap.size, 0, none⟩ = some (.int .u64 (fs[k].num : Nat)) ∧ w'.cell? ⟨wr.heap.size, 1, none⟩ = some (.slice bo (fs[k].bytes.length) bc)) Wf.drew := by subst hWf; exact ⟨by simp [go_sem], by simp [go_sem]⟩
      have hb3 : Below wr.heap.size wr (Wf.alloc (.cells #[] 5)).drew := (hbF.alloc (by omega) _).drew
      have hS3 : (fun w' : World => w'.cell? ⟨wr.heap.size, 0, none⟩ = some (.int .u64 (fs[k].num : Nat)) ∧ w'.cell? ⟨wr.heap.size, 1, none⟩ = some (.slice bo (fs[k].bytes.length) bc)) (Wf.alloc (.cells #[] 5)).drew := by
        refine ⟨?_, ?_⟩ <;> rw [World.cell?_drew, World.cell?_alloc_past _ _ _ (by show wr.heap.size < _; omega)]
        · exact hS.1
        · exact hS.2
      have hlit : (Wf.alloc (.cells #[] 5)).drew.ownsRow wr.heap.size 5 1 (.slice (some ⟨Wf.heap.size, 0, none⟩) 0 0) 0 [] := (World.ownsRow_lit Wf #[] 0 (by omega) (by decide) rfl).drew
      have hsb3 := hsb.keep ((hat.bel.mono hK).trans (hb3.mono (by omega)))
      have hszF' : Hid (wr.heap.size + 1 = Wf.heap.size) := hszF
      have hszG : wr.heap.size < Wf.heap.size := by omega
      clear hszF hbF hcn hcb hsb
      refine wp_region_ord [] 9 [(0, true), (1, true), (2, true), (4, true), (5, true), (3, false), (6, false), (7, false), (8, false)] (fun w' : World => w'.cell? ⟨wr.heap.size, 0, none⟩ = some (.int .u64 (fs[k].num : Nat)) ∧ w'.cell? ⟨wr.heap.size, 1, none⟩ = some (.slice bo (fs[k].bytes.length) bc)) (by kernel_rfl) (by kernel_rfl) ?_
      refine ord_quiet _ ?_ rfl hS rfl ?_ ?_
      rotate_left
      · rintro w' ⟨hS1, hS2⟩; go_simp; rfl
      refine ord_quiet _ ?_ rfl hS rfl ?_ ?_
      rotate_left
      · rintro w' ⟨hS1, hS2⟩; go_simp; rfl
      refine ord_quiet _ ?_ rfl hS rfl ?_ ?_
      rotate_left
      · rintro w' ⟨hS1, hS2⟩; go_simp; rfl
      refine ord_quiet _ ?_ rfl hS rfl ?_ ?_
      rotate_left
      · rintro w' ⟨hS1, hS2⟩; go_simp; rfl
      refine ord_quiet _ ?_ rfl hS rfl ?_ ?_
      rotate_left
      · rintro w' ⟨hS1, hS2⟩; go_simp; rfl
      refine ord_act _ rfl fun K1 hK1 => ?_
      go_wp2
      refine hK1 _ _ hS3 ?_
      clear hK1 K1 hS
      refine ord_act _ rfl fun K1 hK1 => ?_
      simp only [List.getElem_toArray, List.getElem_cons_succ, List.getElem_cons_zero]
      go_wp2_with (at_builtin; refine wpList_append_sl _ rfl _ _ 22 rfl wr.heap.size 5 i0 (.int .u8 0) 1 1 Try.underlying22 hi hi0 hi1 hi2 rfl (by decide) _ _ _ rfl hlit K _ _ _ rfl hsb3 (by simp) (bv_oneCell _) ?c1 ?c2 ?c3 ?_)
      case c1 => unfold maxLen; omega
      case c2 => omega
      case c3 => simp; omega
      intro v6 w6 hown6 hgrow6 hat6
      have hsz3 := hb3.size
      have hg3 := hgrow6.size
      have hb6 : Below wr.heap.size wr w6 := hb3.grown hgrow6 (by omega) (owns_ge hlit)
      have hown6 : w6.ownsRow wr.heap.size 5 1 v6 fs[k].bytes.length (fs[k].bytes.map bv) := by simpa using hown6
      have hS6 : (fun w' : World => w'.cell? ⟨wr.heap.size, 0, none⟩ = some (.int .u64 (fs[k].num : Nat)) ∧ w'.cell? ⟨wr.heap.size, 1, none⟩ = some (.slice bo (fs[k].bytes.length) bc)) w6 := ⟨hgrow6.cell hS3.1 (owns_ne2 hlit hszG), hgrow6.cell hS3.2 (owns_ne2 hlit hszG)⟩
      obtain ⟨a6, c6, rfl⟩ : ∃ a6 c6, v6 = .slice a6 fs[k].bytes.length c6 := owns_form hown6
      have hs6 := slp_of_owns hown6
      have h6 := hown6.lt
      clear hgrow6 hat6 hlit hS3 hsb3 hb3
      go_wp2
      refine hK1 _ _ hS6 ?_
      clear hK1 K1
      refine ord_act _ rfl fun K1 hK1 => ?_
      go_wp2
      refine hK1 _ _ hS6 ?_
      clear hK1 K1
      refine ord_act _ rfl fun K1 hK1 => ?_
      go_wp2
      have hS8 : (fun w' : World => w'.cell? ⟨wr.heap.size, 0, none⟩ = some (.int .u64 (fs[k].num : Nat)) ∧ w'.cell? ⟨wr.heap.size, 1, none⟩ = some (.slice bo (fs[k].bytes.length) bc)) (w6.alloc (.cells #[.int .u64 (fs[k].num : Nat), .slice a6 fs[k].bytes.length c6] 40)) := by
        refine ⟨?_, ?_⟩ <;> rw [World.cell?_alloc_past _ _ _ (by show wr.heap.size < _; exact World.block_lt_of_cell? w6 _ hS6.1)]
        · exact hS6.1
        · exact hS6.2
      refine hK1 _ _ hS8 ?_
      clear hK1 K1
      refine ord_tail ?_
      simp only [List.drop_succ_cons, List.drop_zero]
      have hown8 := (owns_keep hat.own hb6).alloc (.cells #[.int .u64 (fs[k].num : Nat), .slice a6 fs[k].bytes.length c6] 40)
      have hsz6 := hb6.size
      go_wp2_with (at_builtin; refine wpList_append_sl _ rfl _ _ 26 rfl w.heap.size 40 i4 _ 2 32 Try.underlying26 hj hj0 hj1 hj2 rfl (by decide) _ _ _ rfl hown8 _ _ 1 _ rfl (sl_lit w6 _ 40 1 (by omega)) rfl ?d1 ?d2 ?d3 ?d4 ?_)
      case d1 => first | (intro u hu; simp at hu; rcases hu with rfl | rfl <;> rfl) | simp [Value.oneCell']
      case d2 => unfold maxLen; simp; omega
      case d3 => first | omega | (simp; omega)
      case d4 => first | omega | (simp; omega)
      intro v9 w9 hown9 hgrow9 hat9
      have hown9 : w9.ownsRow w.heap.size 40 2 v9 (fs.take k ++ [fs[k]]).length (cs ++ [.int .u64 (fs[k].num : Nat), .slice a6 fs[k].bytes.length c6]) := by
        rw [show (fs.take k ++ [fs[k]]).length = k + 1 by simp; omega]
        simpa using hown9
      have hnew := copyAt_step fs[k] hat hb6 hs6 h6 hnum hbl' _ hown9 hgrow9 hat9
      rw [← List.take_succ_eq_append_getElem hlt] at hnew
      clear hat hb6 hs6 h6 hown9 hgrow9 hat9 hown8 hS8 hS6 hown6
      go_wp2
      go_roundw
      case rel => exact ⟨k + 1, _, by omega, by go_num, hnew⟩
      case measure => simp [intOf]; omega
    · go_wp2
      go_ret
      rw [List.take_of_length_le (by omega)] at hat
      exact ⟨_, rfl, fieldsAt_of_own hat.own hat.fld (fun b hb => hb.1), hat.bel⟩
end Go.Proofs.Ytfnokdgfbhlccaa
