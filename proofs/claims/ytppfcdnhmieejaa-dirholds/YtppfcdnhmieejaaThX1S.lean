/-
  The document's Right: its small words; where it says no ahead of the kinds.
-/
import Derived.Test.YtppfcdnhmieejaaThX0S
import Derived.Test.YtppfcdnhmieejaaThC4S
import Derived.Test.YtppfcdnhmieejaaLabS
namespace Go.Proofs.Ytppfcdnhmieejaa
set_option linter.unusedVariables false
set_option linter.unusedSimpArgs false
set_option maxRecDepth 20000
open Go.RowKit

theorem c_rid (x : Int) (w : World) : Calls Try.prog 33 #[.int .u64 x] w (AnsP (idOk x) w) := by
  by_cases h1 : 1 ≤ x
  · have b1 : decide (1 ≤ x) = true := decide_eq_true h1
    by_cases h2 : x ≤ 281474976710655
    · have b2 : decide (x < 281474976710656) = true := decide_eq_true (by omega)
      have hP : Hid (idOk x) := ⟨h1, h2⟩
      clear h1 h2
      go_enter Try.func33, Try.ntmps33
      go_wp2
      go_ret
      exact ans_yes hP.out (nw_refl w)
    · have b2 : decide (x < 281474976710656) = false := decide_eq_false (by omega)
      have hP : Hid (¬ idOk x) := fun h => h2 h.2
      clear h1 h2
      go_enter Try.func33, Try.ntmps33
      go_wp2
      go_ret
      exact ans_no hP.out (nw_refl w)
  · have b1 : decide (1 ≤ x) = false := decide_eq_false h1
    have hP : Hid (¬ idOk x) := fun h => h1 h.1
    clear h1
    go_enter Try.func33, Try.ntmps33
    go_wp2
    go_ret
    exact ans_no hP.out (nw_refl w)

theorem c_rclean {X : Nat → Prop} {v : Value} {xs : List Cat} (d : Int) (w : World) (h : CSl X w v xs) (hl : xs.length ≤ 8796093022208) :
    Calls Try.prog 37 #[labV d v] w (AnsP (Rgt d xs ∧ Pu d xs) w) := by
  obtain ⟨ao, cap, rfl, ha1, ha2⟩ := h.form
  have hA : (w.alloc (.cells #[.int .i64 d, .slice ao xs.length cap] 26)).heap[w.heap.size]? = some (.cells #[.int .i64 d, .slice ao xs.length cap] 26 (0, 0)) := heap_alloc_new w _
  have nW : Nw w (w.alloc (.cells #[.int .i64 d, .slice ao xs.length cap] 26)) := nw_alloc (nw_refl w) _
  have hW := h.nw nW
  unfold labV
  have hq1 : Hid _ := c_rright d _ hW hl
  unfold RgtP labV at hq1
  generalize hgw : w.alloc (.cells #[.int .i64 d, .slice ao xs.length cap] 26) = W at *
  have a0 : W.cell? ⟨w.heap.size, 0, none⟩ = some (.int .i64 d) := cell_blk hA rfl
  have a1 : W.cell? ⟨w.heap.size, 1, none⟩ = some (.slice ao xs.length cap) := cell_blk hA rfl
  generalize hn : xs.length = n at *
  replace hn : Hid _ := hn
  go_enter Try.func37, Try.ntmps37
  go_wp2_with (go_at_call 34; refine Calls.mono hq1.out ?_; rintro e W1 ⟨r, rfl, q, n1⟩; refine stop_here ?_)
  unfold Hid
  clear hq1 a0 a1 hgw
  replace hA := (n1.block _ (heap_lt hA) (fun h => h)).trans hA
  have a0 : W1.cell? ⟨w.heap.size, 0, none⟩ = some (.int .i64 d) := cell_blk hA rfl
  have a1 : W1.cell? ⟨w.heap.size, 1, none⟩ = some (.slice ao n cap) := cell_blk hA rfl
  replace hW := hW.nw n1
  replace nW := nw_trans nW n1
  cases r with
  | false =>
    have hno : Hid (¬ (Rgt d xs ∧ Pu d xs)) := fun h => Bool.noConfusion (q.2 h.1)
    clear q hW
    go_wp2
    go_ret
    exact ans_no hno.out nW
  | true =>
    have hr : Hid (Rgt d xs) := q.1 rfl
    have hq1 : Hid _ := c_rpure d W1 hW
    unfold AnsP labV at hq1

    clear q
    go_wp2_with (go_at_call 35; refine Calls.mono hq1.out ?_; rintro e W2 ⟨r, rfl, q, n2⟩; refine stop_here ?_)
    unfold Hid
    have fin : Hid (AnsP (Rgt d xs ∧ Pu d xs) w (.returned (.bool r)) W2) := ⟨r, rfl, ⟨fun h => ⟨hr.out, q.1 h⟩, fun h => q.2 h.2⟩, nw_trans nW n2⟩
    clear q hW hq1 a0 a1 hA
    go_wp2
    go_ret
    exact fin.out

theorem builtThV {xa : Option Addr} {n xc : Nat} (t : Th) (v : Value) (h : Hid (v = .slice xa n xc)) : Try.prog.built 34 [(0, .int .u64 t.id), (1, .int .i64 t.kind), (2, .agg #[.int .i64 t.df, v]), (4, .int .i64 t.quota)] = some (thC (baseT t) v (.slice none 0 0) (.slice none 0 0) (.slice none 0 0)).toArray := builtTh t v xa n xc h.out
theorem tb_base {X : Nat → Prop} {w : World} {t : Th} {uL uC uK uD : Value} (h : ThAt X w t uL uC uK uD) : ThAt X w (baseT t) uL (.slice none 0 0) (.slice none 0 0) (.slice none 0 0) := ⟨h.l, csl_nil _ _, csl_nil _ _, bsl_nil _ _⟩

set_option maxHeartbeats 6400000 in
theorem c_rno1 {X : Nat → Prop} {t : Th} {uL uC uK uD : Value} (w : World) (h : ThAt X w t uL uC uK uD) (l1 : t.cats.length ≤ 8796093022208) (h1 : ¬ idOk t.id) :
    Calls Try.prog 26 #[(thV t uL uC uK uD)] w (AnsP (RightT t) w) := by
  have hno : Hid (¬ RightT t) := fun h => h1 h.id
  replace h1 : Hid _ := h1
  obtain ⟨W, hW⟩ : ∃ W, Hid (W = w.alloc (.cells (thC t uL uC uK uD).toArray 34)) := ⟨_, rfl⟩
  have nW : Nw w W := by rw [hW.out]; exact nw_alloc (nw_refl w) _
  have hA : W.heap[w.heap.size]? = some (.cells (thC t uL uC uK uD).toArray 34 (0, 0)) := by rw [hW.out]; exact heap_alloc_new w _
  have ht := (h.mono (X' := fun b => b < w.heap.size) (fun b _ hb => hb)).nw nW
  clear h
  go_enter Try.func26, Try.ntmps26
  go_upto_region 1 with (refine wpList_box_agg rfl 34 _ rfl (thV t uL uC uK uD) _ rfl rfl ?_)
  rw [← hW.out]
  clear hW
  have hq1 : Hid _ := c_rid t.id W
  unfold AnsP at hq1
  have a0 : W.cell? ⟨w.heap.size, 0, none⟩ = some (.int .u64 t.id) := cell_blk hA rfl
  have a1 : W.cell? ⟨w.heap.size, 1, none⟩ = some (.int .i64 t.kind) := cell_blk hA rfl
  have a2 : W.cell? ⟨w.heap.size, 2, none⟩ = some (.int .i64 t.df) := cell_blk hA rfl
  have a3 : W.cell? ⟨w.heap.size, 3, none⟩ = some (uL) := cell_blk hA rfl
  go_wp2_with (first | (go_at_call 33; refine Calls.mono hq1.out ?_; rintro e W1 ⟨r, rfl, q, n1⟩; obtain rfl : r = false := (by cases r; rfl; exact absurd (q.1 rfl) h1.out); refine stop_here ?_))
  unfold Hid
  clear hq1 q a0 a1 a2 a3 hA ht
  replace nW := nw_trans nW n1
  go_wp2
  go_ret
  exact ans_no hno.out nW

set_option maxHeartbeats 6400000 in
theorem c_rno2 {X : Nat → Prop} {t : Th} {uL uC uK uD : Value} (w : World) (h : ThAt X w t uL uC uK uD) (l1 : t.cats.length ≤ 8796093022208) (h1 : idOk t.id) (h2 : ¬ Rgt t.df t.cats) :
    Calls Try.prog 26 #[(thV t uL uC uK uD)] w (AnsP (RightT t) w) := by
  have hno : Hid (¬ RightT t) := fun h => h2 h.rgt
  replace h1 : Hid _ := h1
  replace h2 : Hid _ := h2
  obtain ⟨W, hW⟩ : ∃ W, Hid (W = w.alloc (.cells (thC t uL uC uK uD).toArray 34)) := ⟨_, rfl⟩
  have nW : Nw w W := by rw [hW.out]; exact nw_alloc (nw_refl w) _
  have hA : W.heap[w.heap.size]? = some (.cells (thC t uL uC uK uD).toArray 34 (0, 0)) := by rw [hW.out]; exact heap_alloc_new w _
  have ht := (h.mono (X' := fun b => b < w.heap.size) (fun b _ hb => hb)).nw nW
  clear h
  go_enter Try.func26, Try.ntmps26
  go_upto_region 1 with (refine wpList_box_agg rfl 34 _ rfl (thV t uL uC uK uD) _ rfl rfl ?_)
  rw [← hW.out]
  clear hW
  have hq1 : Hid _ := c_rid t.id W
  unfold AnsP at hq1
  have a0 : W.cell? ⟨w.heap.size, 0, none⟩ = some (.int .u64 t.id) := cell_blk hA rfl
  have a1 : W.cell? ⟨w.heap.size, 1, none⟩ = some (.int .i64 t.kind) := cell_blk hA rfl
  have a2 : W.cell? ⟨w.heap.size, 2, none⟩ = some (.int .i64 t.df) := cell_blk hA rfl
  have a3 : W.cell? ⟨w.heap.size, 3, none⟩ = some (uL) := cell_blk hA rfl
  go_wp2_with (first | (go_at_call 33; refine Calls.mono hq1.out ?_; rintro e W1 ⟨r, rfl, q, n1⟩; obtain rfl := q.2 h1.out; refine stop_here ?_))
  unfold Hid
  clear hq1 q a0 a1 a2 a3
  replace hA := (n1.block _ (heap_lt hA) (fun h => h)).trans hA
  replace ht := ht.nw n1
  replace nW := nw_trans nW n1
  have hq1 : Hid _ := c_rright t.df W1 ht.l (by omega)
  unfold RgtP labV at hq1
  have a0 : W1.cell? ⟨w.heap.size, 0, none⟩ = some (.int .u64 t.id) := cell_blk hA rfl
  have a1 : W1.cell? ⟨w.heap.size, 1, none⟩ = some (.int .i64 t.kind) := cell_blk hA rfl
  have a2 : W1.cell? ⟨w.heap.size, 2, none⟩ = some (.int .i64 t.df) := cell_blk hA rfl
  have a3 : W1.cell? ⟨w.heap.size, 3, none⟩ = some (uL) := cell_blk hA rfl
  go_wp2_with (first | (go_at_call 34; refine Calls.mono hq1.out ?_; rintro e W2 ⟨r, rfl, q, n2⟩; obtain rfl : r = false := (by cases r; rfl; exact absurd (q.1 rfl) h2.out); refine stop_here ?_))
  unfold Hid
  clear hq1 q a0 a1 a2 a3 hA ht
  replace nW := nw_trans nW n2
  go_wp2
  go_ret
  exact ans_no hno.out nW

set_option maxHeartbeats 6400000 in
theorem c_rno3 {X : Nat → Prop} {t : Th} {uL uC uK uD : Value} (w : World) (h : ThAt X w t uL uC uK uD) (l1 : t.cats.length ≤ 8796093022208) (h1 : idOk t.id) (h2 : Rgt t.df t.cats) (k2 : ¬ t.kind = 2) (k3 : ¬ t.kind = 3) (h3 : ¬ Pu t.df t.cats) :
    Calls Try.prog 26 #[(thV t uL uC uK uD)] w (AnsP (RightT t) w) := by
  have hno : Hid (¬ RightT t) := fun h => by rcases h.pu with e | e | e; exact k2 e; exact k3 e; exact h3 e
  have bn2 : (t.kind != 2) = true := by simp [k2]
  have bn3 : (t.kind != 3) = true := by simp [k3]
  clear k2 k3
  replace h1 : Hid _ := h1
  replace h2 : Hid _ := h2
  replace h3 : Hid _ := h3
  obtain ⟨W, hW⟩ : ∃ W, Hid (W = w.alloc (.cells (thC t uL uC uK uD).toArray 34)) := ⟨_, rfl⟩
  have nW : Nw w W := by rw [hW.out]; exact nw_alloc (nw_refl w) _
  have hA : W.heap[w.heap.size]? = some (.cells (thC t uL uC uK uD).toArray 34 (0, 0)) := by rw [hW.out]; exact heap_alloc_new w _
  have ht := (h.mono (X' := fun b => b < w.heap.size) (fun b _ hb => hb)).nw nW
  clear h
  go_enter Try.func26, Try.ntmps26
  go_upto_region 1 with (refine wpList_box_agg rfl 34 _ rfl (thV t uL uC uK uD) _ rfl rfl ?_)
  rw [← hW.out]
  clear hW
  have hq1 : Hid _ := c_rid t.id W
  unfold AnsP at hq1
  have a0 : W.cell? ⟨w.heap.size, 0, none⟩ = some (.int .u64 t.id) := cell_blk hA rfl
  have a1 : W.cell? ⟨w.heap.size, 1, none⟩ = some (.int .i64 t.kind) := cell_blk hA rfl
  have a2 : W.cell? ⟨w.heap.size, 2, none⟩ = some (.int .i64 t.df) := cell_blk hA rfl
  have a3 : W.cell? ⟨w.heap.size, 3, none⟩ = some (uL) := cell_blk hA rfl
  go_wp2_with (first | (go_at_call 33; refine Calls.mono hq1.out ?_; rintro e W1 ⟨r, rfl, q, n1⟩; obtain rfl := q.2 h1.out; refine stop_here ?_))
  unfold Hid
  clear hq1 q a0 a1 a2 a3
  replace hA := (n1.block _ (heap_lt hA) (fun h => h)).trans hA
  replace ht := ht.nw n1
  replace nW := nw_trans nW n1
  have hq1 : Hid _ := c_rright t.df W1 ht.l (by omega)
  unfold RgtP labV at hq1
  have a0 : W1.cell? ⟨w.heap.size, 0, none⟩ = some (.int .u64 t.id) := cell_blk hA rfl
  have a1 : W1.cell? ⟨w.heap.size, 1, none⟩ = some (.int .i64 t.kind) := cell_blk hA rfl
  have a2 : W1.cell? ⟨w.heap.size, 2, none⟩ = some (.int .i64 t.df) := cell_blk hA rfl
  have a3 : W1.cell? ⟨w.heap.size, 3, none⟩ = some (uL) := cell_blk hA rfl
  go_wp2_with (first | (go_at_call 34; refine Calls.mono hq1.out ?_; rintro e W2 ⟨r, rfl, q, n2⟩; obtain rfl := q.2 h2.out; refine stop_here ?_))
  unfold Hid
  clear hq1 q a0 a1 a2 a3
  replace hA := (n2.block _ (heap_lt hA) (fun h => h)).trans hA
  replace ht := ht.nw n2
  replace nW := nw_trans nW n2
  have hq1 : Hid _ := c_rpure t.df W2 ht.l
  unfold AnsP labV at hq1
  have a1 : W2.cell? ⟨w.heap.size, 1, none⟩ = some (.int .i64 t.kind) := cell_blk hA rfl
  have a2 : W2.cell? ⟨w.heap.size, 2, none⟩ = some (.int .i64 t.df) := cell_blk hA rfl
  have a3 : W2.cell? ⟨w.heap.size, 3, none⟩ = some (uL) := cell_blk hA rfl
  go_wp2_with (first | (go_at_call 35; refine Calls.mono hq1.out ?_; rintro e W3 ⟨r, rfl, q, n3⟩; obtain rfl : r = false := (by cases r; rfl; exact absurd (q.1 rfl) h3.out); refine stop_here ?_))
  unfold Hid
  clear hq1 q a1 a2 a3 hA ht
  replace nW := nw_trans nW n3
  go_wp2
  go_ret
  exact ans_no hno.out nW

end Go.Proofs.Ytppfcdnhmieejaa
