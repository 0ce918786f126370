/-
  Package extent: choose, lay, has.
-/
import Derived.Test.YtelobmdlnkkbkaaExtW1
import Derived.Deep.QuietTactic
import Derived.BigQuiet
namespace Go.Proofs.Ytelobmdlnkkbkaa
set_option linter.unusedVariables false
set_option linter.unusedSimpArgs false
set_option maxRecDepth 20000
open Go.RowKit

/-- The two variables of choose. -/
structure Two2 (w wr : World) (lg : Ext) : Prop where
  a : wr.heap[w.heap.size]? = some (.cells #[.int .i64 0, .int .i64 0] 34 (0, 0))
  l : wr.heap[w.heap.size + 1]? = some (.cells #[.int .i64 (lg.1 : Int), .int .i64 (lg.2 : Int)] 34 (0, 0))
  nw : Nw w wr

theorem two2 (w : World) : Two2 w ((w.alloc (.cells #[.int .i64 0, .int .i64 0] 34)).alloc (.cells #[.int .i64 0, .int .i64 0] 34)) (0, 0) :=
  ⟨heap_alloc2_old w _ _, heap_alloc2_new w _ _, ((Fr.refl _ w).alloc _).alloc _⟩

theorem Two2.step {w wr : World} {lg : Ext} (h : Two2 w wr lg) (o : Obj) : Two2 w (wr.alloc o) lg :=
  ⟨(Below.heap_alloc _ _ _ (heap_lt h.a)).trans h.a, (Below.heap_alloc _ _ _ (heap_lt h.l)).trans h.l, h.nw.alloc _⟩

theorem Two2.set {w wr : World} {lg : Ext} (h : Two2 w wr lg) (e : Ext) : Two2 w ((wr.setCell ⟨w.heap.size + 1, 0, none⟩ (.int .i64 (e.1 : Int))).setCell ⟨w.heap.size + 1, 1, none⟩ (.int .i64 (e.2 : Int))) e := by
  have f1 : Fr (fun k => k = w.heap.size + 1) wr ((wr.setCell ⟨w.heap.size + 1, 0, none⟩ (.int .i64 (e.1 : Int))).setCell ⟨w.heap.size + 1, 1, none⟩ (.int .i64 (e.2 : Int))) :=
    ((Fr.refl (fun k => k = w.heap.size + 1) wr).setCell (p := ⟨w.heap.size + 1, 0, none⟩) (.inl rfl) _).setCell (p := ⟨w.heap.size + 1, 1, none⟩) (.inl rfl) _
  refine ⟨(f1.block _ (heap_lt h.a) (by omega)).trans h.a, ?_, Fr.trans h.nw f1 (fun i hi => .inr (by omega))⟩
  rw [blk_setCell (blk_setCell h.l)]
  rfl

theorem choose_drop {n : Nat} {es : List Ext} {k : Nat} {lg : Ext} (hk : k < es.length) : choose n (es.drop k) lg = if n ≤ es[k].2 then (es[k].1, n) else choose n (es.drop (k + 1)) (if lg.2 < es[k].2 then es[k] else lg) := by
  rw [List.drop_eq_getElem_cons hk]; rfl

/-- The result's cells, written. -/
theorem Two2.ret {w wr : World} {lg : Ext} (h : Two2 w wr lg) (x y : Int) :
    ((wr.setCell ⟨w.heap.size, 0, none⟩ (.int .i64 x)).setCell ⟨w.heap.size, 1, none⟩ (.int .i64 y)).heap[w.heap.size]? = some (.cells #[.int .i64 x, .int .i64 y] 34 (0, 0)) ∧
    Nw w ((wr.setCell ⟨w.heap.size, 0, none⟩ (.int .i64 x)).setCell ⟨w.heap.size, 1, none⟩ (.int .i64 y)) := by
  refine ⟨?_, (h.nw.setCell (p := ⟨w.heap.size, 0, none⟩) (.inr (Nat.le_refl _)) _).setCell (p := ⟨w.heap.size, 1, none⟩) (.inr (Nat.le_refl _)) _⟩
  rw [blk_setCell (blk_setCell h.a)]
  rfl

theorem Try.rowE : (Try.prog.underlying 34).map TypeDesc.isRow = some true := by kernel_rfl
theorem Try.sizeE : (Try.prog.info? 34).map (·.size) = some 2 := by kernel_rfl
theorem sizeE (x y : Int) : (Try.prog.info? 34).map (·.size) = some ([.int .i64 x, .int .i64 y] : List Value).length := Try.sizeE

set_option maxHeartbeats 1600000 in
theorem c_choose {X : Nat → Prop} {v : Value} {es : List Ext} {n : Nat} (w : World) (h : ESl X w v es) (hn1 : 1 ≤ n) (hn : n ≤ 9223372036854775807) (hb : ∀ e ∈ es, e.1 ≤ 1024 ∧ e.2 ≤ 1024) (hl : es.length ≤ 1024) :
    Calls Try.prog 30 #[v, .int .i64 (n : Int)] w fun e w' => e = .returned (ext (choose n es (0, 0)).1 (choose n es (0, 0)).2) ∧ Nw w w' := by
  obtain ⟨ao, cap, rfl, hc1, hc2⟩ := h.form
  obtain ⟨R, hR⟩ : ∃ R, Hid (R = choose n es (0, 0)) := ⟨_, rfl⟩
  rw [← hR.out]
  have h2 := two2 w
  go_enter Try.func30, Try.ntmps30
  go_wp2
  go_loopw [10] (fun i wr => ∃ (k : Nat) (lg : Ext), k ≤ es.length ∧ i = .int .i64 k ∧ Two2 w wr lg ∧ R = choose n (es.drop k) lg ∧ lg.1 ≤ 1024 ∧ lg.2 ≤ 1024) (fun i _ => es.length - (intOf i).toNat)
  case atStart => exact ⟨0, (0, 0), Nat.zero_le _, rfl, h2, hR.out, by simp, by simp⟩
  case round =>
    clear h2
    obtain ⟨k, lg, hk, rfl, h2, hRk, hg1, hg2⟩ := hrel
    have hRk' : Hid (R = choose n (es.drop k) lg) := hRk
    clear hRk
    by_cases hlt : k < es.length
    · have h' := (h.keep h2.nw (fun _ _ => id) (fun _ hb _ => hb) : ESl X wr _ es)
      obtain ⟨q, off, rfl, hXq, d0, d1⟩ := h'.get k hlt
      have hee := hb es[k] (List.getElem_mem hlt)
      have hst := choose_drop (n := n) (lg := lg) hlt
      have h3 := h2.step (.cells #[.int .i64 (es[k].1 : Int), .int .i64 (es[k].2 : Int)] 34)
      have hRs : Hid (R = if n ≤ es[k].2 then (es[k].1, n) else choose n (es.drop (k + 1)) (if lg.2 < es[k].2 then es[k] else lg)) := by unfold Hid; rw [hRk'.out, hst]
      clear hst hRk' h' hR
      generalize es[k] = ek at *
      have hlt0 : w.heap.size < wr.heap.size := heap_lt h2.a
      have hlt1 : w.heap.size + 1 < wr.heap.size := heap_lt h2.l
      have a0 : wr.cell? ⟨w.heap.size, 0, none⟩ = some (.int .i64 0) := cell_blk h2.a rfl
      have a1 : wr.cell? ⟨w.heap.size, 1, none⟩ = some (.int .i64 0) := cell_blk h2.a rfl
      have af : ∀ i, wr.frozen? ⟨w.heap.size, i, none⟩ = false := fun i => free_blk h2.a
      have l0 : wr.cell? ⟨w.heap.size + 1, 0, none⟩ = some (.int .i64 (lg.1 : Int)) := cell_blk h2.l rfl
      have l1 : wr.cell? ⟨w.heap.size + 1, 1, none⟩ = some (.int .i64 (lg.2 : Int)) := cell_blk h2.l rfl
      have lf : ∀ i, wr.frozen? ⟨w.heap.size + 1, i, none⟩ = false := fun i => free_blk h2.l
      by_cases hge : n ≤ ek.2
      · have hRe : Hid (R = (ek.1, n)) := by unfold Hid; rw [hRs.out, if_pos hge]
        clear hRs l0 l1 lf hlt1
        go_wp2
        have hrt := h2.ret (ek.1 : Int) (n : Int)
        refine bodyPost_ret (results_cell1 rfl _ w.heap.size _ _ rfl rfl (range_all ((Below.heap_alloc _ _ _ (heap_lt hrt.1)).trans hrt.1)) Try.rowE (sizeE _ _)) rfl ?_
        rw [hRe.out]
        exact ⟨rfl, Fr.alloc hrt.2 _⟩
      · have hRe : Hid (R = choose n (es.drop (k + 1)) (if lg.2 < ek.2 then ek else lg)) := by unfold Hid; rw [hRs.out, if_neg hge]
        clear hRs a0 a1 af hlt0
        by_cases hgt : lg.2 < ek.2
        · have hRf : Hid (R = choose n (es.drop (k + 1)) ek) := by unfold Hid; rw [hRe.out, if_pos hgt]
          clear hRe
          go_wp2
          go_roundw
          case rel => exact ⟨k + 1, ek, by omega, by go_num, (h2.set ek).step _, hRf.out, hee.1, hee.2⟩
          case measure => simp [intOf]; omega
        · have hRf : Hid (R = choose n (es.drop (k + 1)) lg) := by unfold Hid; rw [hRe.out, if_neg hgt]
          clear hRe
          go_wp2
          go_roundw
          case rel => exact ⟨k + 1, lg, by omega, by go_num, h3, hRf.out, hg1, hg2⟩
          case measure => simp [intOf]; omega
    · have hRe : Hid (R = lg) := by
        unfold Hid
        rw [hRk'.out, List.drop_eq_nil_of_le (by omega)]
        rfl
      have hlt0 : w.heap.size < wr.heap.size := heap_lt h2.a
      have a0 : wr.cell? ⟨w.heap.size, 0, none⟩ = some (.int .i64 0) := cell_blk h2.a rfl
      have a1 : wr.cell? ⟨w.heap.size, 1, none⟩ = some (.int .i64 0) := cell_blk h2.a rfl
      have af : ∀ i, wr.frozen? ⟨w.heap.size, i, none⟩ = false := fun i => free_blk h2.a
      have l0 : wr.cell? ⟨w.heap.size + 1, 0, none⟩ = some (.int .i64 (lg.1 : Int)) := cell_blk h2.l rfl
      have l1 : wr.cell? ⟨w.heap.size + 1, 1, none⟩ = some (.int .i64 (lg.2 : Int)) := cell_blk h2.l rfl
      clear hRk' hR
      go_wp2
      refine bodyPost_ret (results_cell1 rfl _ w.heap.size _ _ rfl rfl (range_all (h2.ret _ _).1) Try.rowE (sizeE _ _)) rfl ?_
      rw [hRe.out]
      exact ⟨rfl, (h2.ret _ _).2⟩

/-! ### lay -/
structure LayAt (w wr : World) (b g : Nat) (s l : Int) (xs : List UInt8) : Prop where
  map : MapAt wr b g xs
  var : wr.heap[w.heap.size]? = some (.cells #[.int .i64 s, .int .i64 l] 34 (0, 0))
  fr : Fr (fun k => k = g) w wr

theorem layAt {w : World} {b g : Nat} {xs : List UInt8} (h : MapAt w b g xs) (s l : Int) : LayAt w (w.alloc (.cells #[.int .i64 s, .int .i64 l] 34)) b g s l xs :=
  ⟨h.nw ((Fr.refl _ w).alloc _), heap_alloc_new w _, (Fr.refl _ w).alloc _⟩

theorem LayAt.set {w wr : World} {b g : Nat} {s l : Int} {xs : List UInt8} (h : LayAt w wr b g s l xs) (hg : g < w.heap.size) (k : Nat) (x : UInt8) : LayAt w (wr.drew.setCell ⟨g, k, none⟩ (bv x)) b g s l (xs.set k x) := by
  have hm : MapAt wr.drew b g xs := ⟨h.map.obj, h.map.st, h.map.n⟩
  have hf := MapAt.setFr (w := wr.drew) (g := g) k (bv x)
  exact ⟨hm.set k x, (hf.block _ (heap_lt h.var) (by omega)).trans h.var, h.fr.drew.trans hf (fun i hi => .inl hi)⟩

set_option maxHeartbeats 1600000 in
theorem c_lay {b g : Nat} {xs : List UInt8} (w : World) (h : MapAt w b g xs) (s l : Nat) (v : UInt8) (hsl : s + l ≤ xs.length) :
    Calls Try.prog 31 #[.pointer (some ⟨b, 0, none⟩), ext s l, .int .u8 (v.toNat : Int)] w fun e w' => e = .returned (.tuple #[]) ∧ MapAt w' b g (layx xs s l v) ∧ Fr (fun k => k = g) w w' := by
  have hgl := h.lt.2
  have hn := h.n
  have h0 := layAt h s l
  unfold ext
  go_enter Try.func31, Try.ntmps31
  go_wp2
  go_loopw [9] (fun i wr => ∃ k : Nat, k ≤ l ∧ i = .int .i64 k ∧ LayAt w wr b g s l (layx xs s k v)) (fun i _ => l - (intOf i).toNat)
  case atStart => exact ⟨0, Nat.zero_le _, rfl, h0⟩
  case round =>
    clear h0
    obtain ⟨k, hk, rfl, h1⟩ := hrel
    have hll := layx_length xs s k v
    by_cases hlt : k < l
    · go_wp2
      have hS : (fun w' : World => w'.cell? ⟨b, 0, none⟩ = some (.slice (some ⟨g, 0, none⟩) xs.length xs.length) ∧ w'.cell? ⟨w.heap.size, 0, none⟩ = some (.int .i64 (s : Int))) wr.drew := ⟨by rw [World.cell?_drew, ← hll]; exact h1.map.c0, by rw [World.cell?_drew]; exact cell_blk h1.var rfl⟩
      obtain ⟨old, hcell⟩ : ∃ old : Int, wr.drew.cell? ⟨g, s + k, none⟩ = some (.int .u8 old) := ⟨_, by rw [World.cell?_drew]; exact h1.map.cell _ (by omega)⟩
      have hfz : wr.drew.frozen? ⟨g, s + k, none⟩ = false := h1.map.free _
      have hnew := h1.set hgl (s + k) v
      unfold bv at hnew
      clear h1 hll
      have hwr : IntKind.i64.wrap ((s : Int) + (k : Int)) = ((s + k : Nat) : Int) := by rw [IntKind.wrap_i64]; omega
      refine wp_region_ord [] 9 [(0, true), (1, true), (2, true), (3, true), (4, true), (5, true), (6, true), (7, true), (8, true)] (fun w' : World => w'.cell? ⟨b, 0, none⟩ = some (.slice (some ⟨g, 0, none⟩) xs.length xs.length) ∧ w'.cell? ⟨w.heap.size, 0, none⟩ = some (.int .i64 (s : Int))) (by kernel_rfl) (by kernel_rfl) ?_
      refine ord_quietL _ ?_ rfl hS rfl ?_ ?_
      rotate_left
      · rintro w' ⟨hS1, hS2⟩; go_simp; rfl
      simp only [Act.put, List.setIfInBounds_toArray, List.set_cons_zero, List.set_cons_succ]
      refine ord_quietL _ ?_ rfl hS rfl ?_ ?_
      rotate_left
      · rintro w' ⟨hS1, hS2⟩; go_simp; rfl
      simp only [Act.put, List.setIfInBounds_toArray, List.set_cons_zero, List.set_cons_succ]
      refine ord_quietL _ ?_ rfl hS rfl ?_ ?_
      rotate_left
      · rintro w' ⟨hS1, hS2⟩; go_simp; rfl
      simp only [Act.put, List.setIfInBounds_toArray, List.set_cons_zero, List.set_cons_succ]
      refine ord_quietL _ ?_ rfl hS rfl ?_ ?_
      rotate_left
      · rintro w' ⟨hS1, hS2⟩; go_simp; rfl
      simp only [Act.put, List.setIfInBounds_toArray, List.set_cons_zero, List.set_cons_succ]
      refine ord_quietL _ ?_ rfl hS rfl ?_ ?_
      rotate_left
      · rintro w' ⟨hS1, hS2⟩; go_simp; rfl
      simp only [Act.put, List.setIfInBounds_toArray, List.set_cons_zero, List.set_cons_succ]
      refine ord_quietL _ ?_ rfl hS rfl ?_ ?_
      rotate_left
      · rintro w' ⟨hS1, hS2⟩; go_simp; rfl
      simp only [Act.put, List.setIfInBounds_toArray, List.set_cons_zero, List.set_cons_succ]
      refine ord_quietL _ ?_ rfl hS rfl ?_ ?_
      rotate_left
      · rintro w' ⟨hS1, hS2⟩; go_simp; rfl
      simp only [Act.put, List.setIfInBounds_toArray, List.set_cons_zero, List.set_cons_succ]
      refine ord_quietL _ ?_ rfl hS rfl ?_ ?_
      rotate_left
      · rintro w' ⟨hS1, hS2⟩; go_simp; rfl
      simp only [Act.put, List.setIfInBounds_toArray, List.set_cons_zero, List.set_cons_succ]
      refine ord_quietL _ ?_ rfl hS rfl ?_ ?_
      rotate_left
      · rintro w' ⟨hS1, hS2⟩; go_simp; rfl
      simp only [Act.put, List.setIfInBounds_toArray, List.set_cons_zero, List.set_cons_succ]
      refine ord_tail ?_
      simp only [List.drop_succ_cons, List.drop_zero]
      go_wp2
      go_roundw
      case rel => exact ⟨k + 1, by omega, by go_num, hnew⟩
      case measure => simp [intOf]; omega
    · go_wp2
      go_end0
      have : k = l := by omega
      subst this
      exact ⟨rfl, h1.map, h1.fr⟩
end Go.Proofs.Ytelobmdlnkkbkaa
