/-
  The document's Right, as a whole.
-/
import Derived.Test.YtppfcdnhmieejaaThX6S
namespace Go.Proofs.Ytppfcdnhmieejaa
set_option linter.unusedVariables false
set_option linter.unusedSimpArgs false
set_option maxRecDepth 20000
open Go.RowKit

theorem ans_iff {P Q : Prop} (h : P ↔ Q) {w w' : World} {e : Ending} (hp : AnsP P w e w') : AnsP Q w e w' := by
  obtain ⟨r, h1, h2, h3⟩ := hp
  exact ⟨r, h1, h2.trans h, h3⟩

set_option maxRecDepth 100000 in
set_option maxHeartbeats 6400000 in
theorem c_rk0 {X : Nat → Prop} {t : Th} {uL uC uK uD : Value} (w : World) (h : ThAt X w t uL uC uK uD) (l1 : t.cats.length ≤ 8796093022208) (h1 : idOk t.id) (h2 : Rgt t.df t.cats) (h3 : Pu t.df t.cats) (k1 : ¬ t.kind = 1) (k2 : ¬ t.kind = 2) (k3 : ¬ t.kind = 3) (k4 : ¬ t.kind = 4) (k5 : ¬ t.kind = 5) (k6 : ¬ t.kind = 6) :
    Calls Try.prog 26 #[(thV t uL uC uK uD)] w (AnsP (t = ofK t ∧ KindOk t) w) := by
  have bk1 : (t.kind == 1) = false := by simp [k1]
  have bk2 : (t.kind == 2) = false := by simp [k2]
  have bk3 : (t.kind == 3) = false := by simp [k3]
  have bk4 : (t.kind == 4) = false := by simp [k4]
  have bk5 : (t.kind == 5) = false := by simp [k5]
  have bk6 : (t.kind == 6) = false := by simp [k6]
  have bn2 : (t.kind != 2) = true := by simp [k2]
  have bn3 : (t.kind != 3) = true := by simp [k3]
  have hno : Hid (¬ (t = ofK t ∧ KindOk t)) := fun h => by rcases kind_of h.2 with e | e | e | e | e | e; exact k1 e; exact k2 e; exact k3 e; exact k4 e; exact k5 e; exact k6 e
  clear k1 k2 k3 k4 k5 k6
  replace h1 : Hid _ := h1
  replace h2 : Hid _ := h2
  replace h3 : Hid _ := h3
  obtain ⟨W, hW⟩ : ∃ W, Hid (W = w.alloc (.cells (thC t uL uC uK uD).toArray 34)) := ⟨_, rfl⟩
  have nW : Nw w W := by rw [hW.out]; exact nw_alloc (nw_refl w) _
  have hA : W.heap[w.heap.size]? = some (.cells (thC t uL uC uK uD).toArray 34 (0, 0)) := by rw [hW.out]; exact heap_alloc_new w _
  have ht := (h.mono (X' := fun b => b < w.heap.size) (fun b _ hb => hb)).nw nW
  clear h
  go_enter Try.func26, Try.ntmps26
  go_upto_region 1 with (refine wpList_box_agg rfl 34 _ rfl (thV t uL uC uK uD) _ rfl rfl ?_)
  rw [← hW.out]
  clear hW
  have hPl : Hid (w.heap.size < W.heap.size) := heap_lt hA
  have hq1 : Hid _ := c_rid t.id W
  unfold AnsP at hq1
  have a0 : W.cell? ⟨w.heap.size, 0, none⟩ = some (.int .u64 t.id) := cell_blk hA rfl
  have a1 : W.cell? ⟨w.heap.size, 1, none⟩ = some (.int .i64 t.kind) := cell_blk hA rfl
  have a2 : W.cell? ⟨w.heap.size, 2, none⟩ = some (.int .i64 t.df) := cell_blk hA rfl
  have a3 : W.cell? ⟨w.heap.size, 3, none⟩ = some (uL) := cell_blk hA rfl
  go_wp2_with (first | (go_at_call 33; refine Calls.mono hq1.out ?_; rintro e W1 ⟨r, rfl, q, n1⟩; obtain rfl := q.2 h1.out; refine stop_here ?_))
  unfold Hid
  clear hq1 q a0 a1 a2 a3
  replace hA := (n1.block _ (heap_lt hA) (fun h => h)).trans hA
  replace ht := ht.nw n1
  replace nW := nw_trans nW n1
  have hq1 : Hid _ := c_rright t.df W1 ht.l (by omega)
  unfold RgtP labV at hq1
  have a0 : W1.cell? ⟨w.heap.size, 0, none⟩ = some (.int .u64 t.id) := cell_blk hA rfl
  have a1 : W1.cell? ⟨w.heap.size, 1, none⟩ = some (.int .i64 t.kind) := cell_blk hA rfl
  have a2 : W1.cell? ⟨w.heap.size, 2, none⟩ = some (.int .i64 t.df) := cell_blk hA rfl
  have a3 : W1.cell? ⟨w.heap.size, 3, none⟩ = some (uL) := cell_blk hA rfl
  go_wp2_with (first | (go_at_call 34; refine Calls.mono hq1.out ?_; rintro e W2 ⟨r, rfl, q, n2⟩; obtain rfl := q.2 h2.out; refine stop_here ?_))
  unfold Hid
  clear hq1 q a0 a1 a2 a3
  replace hA := (n2.block _ (heap_lt hA) (fun h => h)).trans hA
  replace ht := ht.nw n2
  replace nW := nw_trans nW n2
  have hq1 : Hid _ := c_rpure t.df W2 ht.l
  unfold AnsP labV at hq1
  have a1 : W2.cell? ⟨w.heap.size, 1, none⟩ = some (.int .i64 t.kind) := cell_blk hA rfl
  have a2 : W2.cell? ⟨w.heap.size, 2, none⟩ = some (.int .i64 t.df) := cell_blk hA rfl
  have a3 : W2.cell? ⟨w.heap.size, 3, none⟩ = some (uL) := cell_blk hA rfl
  go_wp2_with (first | (go_at_call 35; refine Calls.mono hq1.out ?_; rintro e W3 ⟨r, rfl, q, n3⟩; obtain rfl := q.2 h3.out; refine stop_here ?_))
  unfold Hid
  clear hq1 q a1 a2 a3
  replace hA := (n3.block _ (heap_lt hA) (fun h => h)).trans hA
  replace ht := ht.nw n3
  replace nW := nw_trans nW n3
  have a1 : W3.cell? ⟨w.heap.size, 1, none⟩ = some (.int .i64 t.kind) := cell_blk hA rfl
  go_upto_region 3 with fail
  clear a1
  replace hPl : Hid (w.heap.size < W3.heap.size) := heap_lt hA
  have hrA := range_all hA
  obtain ⟨Y, hY⟩ : ∃ Y, Hid (Y = W3.alloc (.cells (thC zeroT (.slice none 0 0) (.slice none 0 0) (.slice none 0 0) (.slice none 0 0)).toArray 34)) := ⟨_, rfl⟩
  have hP : Y.heap[W3.heap.size]? = some (.cells (thC zeroT (.slice none 0 0) (.slice none 0 0) (.slice none 0 0) (.slice none 0 0)).toArray 34 (0, 0)) := by rw [hY.out]; exact heap_alloc_new W3 _
  have nY : Nw W3 Y := by rw [hY.out]; exact nw_alloc (nw_refl _) _
  obtain ⟨V, hV⟩ : ∃ V, Hid (V = Y.setRow W3.heap.size (thC t uL uC uK uD).toArray) := ⟨_, rfl⟩
  have hB : V.heap[W3.heap.size]? = some (.cells (thC t uL uC uK uD).toArray 34 (0, 0)) := by rw [hV.out]; exact setRow_heap _ _ _ _ _ _ hP
  have nV : Nw W3 V := by rw [hV.out]; exact Fr.setRow nY (.inr (Nat.le_refl _)) _
  have hone := ht.one
  replace hA := (nV.block _ (heap_lt hA) (fun h => h)).trans hA
  replace ht := ht.nw nV
  replace nW := nw_trans nW nV
  go_wp2_with (first | (refine wpList_load_as rfl 34 _ rfl (w.heap.size) 0 rfl (thV t uL uC uK uD) _ rfl hrA Try.rowT Try.sizeT ?_) | (refine wpList_alloc_agg rfl 34 rfl _ Try.zeroTh ?_; rw [← hY.out]; refine stop_here ?_))
  unfold Hid
  refine wpList_store_all rfl 34 _ _ rfl W3.heap.size rfl (thV t uL uC uK uD) rfl (thC t uL uC uK uD) rfl (thC zeroT (.slice none 0 0) (.slice none 0 0) (.slice none 0 0) (.slice none 0 0)) 34 hP rfl hone Try.sizeT ?_
  rw [← hV.out]
  have hPA : Hid (w.heap.size < W3.heap.size) := by have := nV.size; have := heap_lt hA; have := heap_lt hB; have h9 := hPl.out; unfold Hid; omega
  have hPw : Hid (w.heap.size ≤ W3.heap.size) := Nat.le_of_lt hPA.out
  generalize W3.heap.size = P at *
  clear hY hV hP nY nV hone hrA
  have a1 : V.cell? ⟨w.heap.size, 1, none⟩ = some (.int .i64 t.kind) := cell_blk hA rfl
  clear ht hA hB
  go_wp2
  go_ret
  exact ans_no hno.out nW

theorem c_rtright {X : Nat → Prop} {t : Th} {uL uC uK uD : Value} (w : World) (h : ThAt X w t uL uC uK uD) (hwf : WfT t) (l1 : t.cats.length ≤ 8796093022208) (l2 : t.ccats.length ≤ 8796093022208) :
    Calls Try.prog 26 #[(thV t uL uC uK uD)] w (AnsP (RightT t) w) := by
  by_cases h1 : idOk t.id
  · by_cases h2 : Rgt t.df t.cats
    · have key : (t.kind = 2 ∨ t.kind = 3 ∨ Pu t.df t.cats) → ((t = ofK t ∧ KindOk t) ↔ RightT t) := fun h3 => ⟨fun ⟨a, b⟩ => ⟨h1, h2, h3, a, b⟩, fun h => ⟨h.same, h.parts⟩⟩
      by_cases k2 : t.kind = 2
      · exact (c_rk2 w h hwf l1 l2 h1 h2 k2).mono (fun e w' hp => ans_iff (key (.inl k2)) hp)
      by_cases k3 : t.kind = 3
      · exact (c_rk3 w h hwf l1 l2 h1 h2 k3).mono (fun e w' hp => ans_iff (key (.inr (.inl k3))) hp)
      by_cases h3 : Pu t.df t.cats
      · have key := key (.inr (.inr h3))
        by_cases k1 : t.kind = 1
        · exact (c_rk1 w h hwf l1 l2 h1 h2 h3 k1).mono (fun e w' hp => ans_iff key hp)
        by_cases k4 : t.kind = 4
        · exact (c_rk4 w h hwf l1 l2 h1 h2 h3 k4).mono (fun e w' hp => ans_iff key hp)
        by_cases k5 : t.kind = 5
        · exact (c_rk5 w h hwf l1 l2 h1 h2 h3 k5).mono (fun e w' hp => ans_iff key hp)
        by_cases k6 : t.kind = 6
        · exact (c_rk6 w h hwf l1 l2 h1 h2 h3 k6).mono (fun e w' hp => ans_iff key hp)
        exact (c_rk0 w h l1 h1 h2 h3 k1 k2 k3 k4 k5 k6).mono (fun e w' hp => ans_iff key hp)
      · exact c_rno3 w h l1 h1 h2 k2 k3 h3
    · exact c_rno2 w h l1 h1 h2
  · exact c_rno1 w h l1 h1
end Go.Proofs.Ytppfcdnhmieejaa
