/-
  Package label: holds, Leq, Same.
-/
import Derived.Test.YtimgelekpghklaaLabD5
namespace Go.Proofs.Ytimgelekpghklaa
set_option linter.unusedVariables false
set_option linter.unusedSimpArgs false
set_option maxRecDepth 20000
open Go.RowKit

theorem c_fLeq (x y : Int) (w : World) : Calls Try.prog 34 #[.int .i64 x, .int .i64 y] w fun e w' => e = .returned (.bool (decide (x ≤ y))) ∧ w = w' := by
  go_enter Try.func34, Try.ntmps34
  go_wp2
  go_ret
  exact ⟨rfl, rfl⟩

set_option maxHeartbeats 1600000 in
theorem c_vLeq (id x y : Int) (b : Bool) (p1 p2 : Nat) (w : World) (h1 : w.heap[p1]? = some (.cells #[.bool b] 4 (0, 0))) (h2 : w.heap[p2]? = some (.cells #[.func (.func 34) #[] #[]] 48 (0, 0))) :
    Calls Try.prog 54 #[.int .u64 id, .int .i64 x, .int .i64 y, .pointer (some ⟨p1, 0, none⟩), .pointer (some ⟨p2, 0, none⟩)] w fun e w' => e = .returned (.tuple #[]) ∧ w'.heap[p1]? = some (.cells #[.bool (b && (decide (x ≤ y)))] 4 (0, 0)) ∧ Fr (fun k => k = p1) w w' := by
  have c1 : w.cell? ⟨p1, 0, none⟩ = some (.bool b) := cell_blk h1 rfl
  have c2 : w.cell? ⟨p2, 0, none⟩ = some (.func (.func 34) #[] #[]) := cell_blk h2 rfl
  have f1 : w.frozen? ⟨p1, 0, none⟩ = false := free_blk h1
  have hs : Hid (∀ v, (w.setCell ⟨p1, 0, none⟩ v).heap[p1]? = some (.cells #[v] 4 (0, 0)) ∧ Fr (fun k => k = p1) w (w.setCell ⟨p1, 0, none⟩ v)) := fun v => ⟨by rw [blk_setCell h1]; rfl, (Fr.refl (fun k => k = p1) w).setCell (p := ⟨p1, 0, none⟩) (.inl rfl) _⟩
  clear h1 h2
  cases b with
  | true =>
    go_enter Try.func54, Try.ntmps54
    go_wp2_with (go_at_call 34; refine Calls.mono (c_fLeq _ _ _) ?_; rintro e w2 ⟨rfl, rfl⟩)
    go_end0
    exact ⟨rfl, by rw [Bool.true_and]; exact (hs.out _).1, (hs.out _).2⟩
  | false =>
    go_enter Try.func54, Try.ntmps54
    go_wp2
    go_end0
    exact ⟨rfl, by rw [Bool.false_and]; exact (hs.out _).1, (hs.out _).2⟩

set_option maxHeartbeats 1600000 in
theorem c_holdsLeq {X Y : Nat → Prop} {va vb : Value} {xa xb : List Cat} (da db : Int) (w : World) (ha : CSl X w va xa) (hb : CSl Y w vb xb) (la : xa.length ≤ 8796093022208) (lb : xb.length ≤ 8796093022208) :
    Calls Try.prog 33 #[labV da va, labV db vb, .func (.func 34) #[] #[]] w fun e w' => ∃ r : Bool, e = .returned (.bool r) ∧ (r = true ↔ ∀ id, (decide ((lev da xa id) ≤ (lev db xb id))) = true) ∧ Nw w w' := by
  have hmf : ∀ (fn : Fn) (first cap : Array Value) (w : World), (Instr.makeFunc fn first cap).run Try.prog w = .ok (.func fn first cap) w := fun _ _ _ _ => rfl
  obtain ⟨aa, ac, rfl, ha1, ha2⟩ := ha.form
  obtain ⟨ba, bc, rfl, hb1, hb2⟩ := hb.form
  have ha' := ha.mono (X' := fun b => b < w.heap.size) (fun b _ h => h)
  have hb' := hb.mono (X' := fun b => b < w.heap.size) (fun b _ h => h)
  clear ha hb
  obtain ⟨W, hW⟩ : ∃ W, Hid (W = (((w.alloc (.cells #[.int .i64 da, .slice aa xa.length ac] 24)).alloc (.cells #[.int .i64 db, .slice ba xb.length bc] 24)).alloc (.cells #[.func (.func 34) #[] #[]] 48)).alloc (.cells #[.bool (decide (da ≤ db))] 4)) := ⟨_, rfl⟩
  have hnw : Nw w W := by rw [hW.out]; exact nw_alloc (nw_alloc (nw_alloc (nw_alloc (nw_refl w) _) _) _) _
  have hA : W.heap[w.heap.size]? = some (.cells #[.int .i64 da, .slice aa xa.length ac] 24 (0, 0)) := by
    rw [hW.out, Below.heap_alloc _ _ _ (by simp; omega), Below.heap_alloc _ _ _ (by simp; omega)]; exact heap_alloc2_old w _ _
  have hB : W.heap[w.heap.size + 1]? = some (.cells #[.int .i64 db, .slice ba xb.length bc] 24 (0, 0)) := by
    rw [hW.out, Below.heap_alloc _ _ _ (by simp), Below.heap_alloc _ _ _ (by simp)]; exact heap_alloc2_new w _ _
  have hH : W.heap[w.heap.size + 1 + 1]? = some (.cells #[.func (.func 34) #[] #[]] 48 (0, 0)) := by
    rw [hW.out, Below.heap_alloc _ _ _ (by simp)]
    have := heap_alloc_new ((w.alloc (.cells #[.int .i64 da, .slice aa xa.length ac] 24)).alloc (.cells #[.int .i64 db, .slice ba xb.length bc] 24)) (.cells #[.func (.func 34) #[] #[]] 48)
    simpa using this
  have hL : W.heap[w.heap.size + 1 + 1 + 1]? = some (.cells #[.bool (decide (da ≤ db))] 4 (0, 0)) := by
    rw [hW.out]
    have := heap_alloc_new (((w.alloc (.cells #[.int .i64 da, .slice aa xa.length ac] 24)).alloc (.cells #[.int .i64 db, .slice ba xb.length bc] 24)).alloc (.cells #[.func (.func 34) #[] #[]] 48)) (.cells #[.bool (decide (da ≤ db))] 4)
    simpa using this
  have haW := ha'.nw hnw
  have hbW := hb'.nw hnw
  have hlL := heap_lt hL
  have hcon : Hid _ := c_walkH (X := fun b => b < w.heap.size) (fun _ D w1 => w1.heap[w.heap.size + 1 + 1 + 1]? = some (.cells #[.bool ((decide (da ≤ db)) && D.all (fun v => (decide (v.2.1 ≤ v.2.2))))] 4 (0, 0)) ∧ w1.heap[w.heap.size + 1 + 1]? = some (.cells #[.func (.func 34) #[] #[]] 48 (0, 0)))
    (w.heap.size + 1 + 1 + 1) (w.heap.size + 1 + 1) (w.heap.size + 1 + 1 + 1) da db W haW hbW (fun b hb => by omega) hlL la lb
    (fun w' h => ⟨by rw [(h.block _ hlL (fun h => h)), hL]; simp, (h.block _ (heap_lt hH) (fun h => h)).trans hH⟩)
    (fun S D w1 w2 h1 h2 => ⟨(h2.block _ (heap_lt h1.1) (fun h => h)).trans h1.1, (h2.block _ (heap_lt h1.2) (fun h => h)).trans h1.2⟩)
    (fun S D id x y w1 h1 hS1 hS2 _ => by
      refine Calls.mono (c_vLeq id x y _ _ _ w1 h1.1 h1.2) ?_
      rintro e w2 ⟨rfl, q1, q2⟩
      refine ⟨rfl, ⟨?_, (q2.block _ (heap_lt h1.2) (by omega)).trans h1.2⟩, q2.mono (fun k hk => .inl hk)⟩
      rw [q1, List.all_append, ← Bool.and_assoc]
      simp)
  have a0 : W.cell? ⟨w.heap.size, 0, none⟩ = some (.int .i64 da) := cell_blk hA rfl
  have a1 : W.cell? ⟨w.heap.size, 1, none⟩ = some (.slice aa xa.length ac) := cell_blk hA rfl
  have b0 : W.cell? ⟨w.heap.size + 1, 0, none⟩ = some (.int .i64 db) := cell_blk hB rfl
  have b1 : W.cell? ⟨w.heap.size + 1, 1, none⟩ = some (.slice ba xb.length bc) := cell_blk hB rfl
  unfold labV at *
  clear haW hbW ha' hb' hA hB hH hL hlL
  go_enter Try.func33, Try.ntmps33
  go_upto_region 2 with (go_at_call 34; refine Calls.mono (c_fLeq _ _ _) ?_; rintro e w2 ⟨rfl, rfl⟩)
  rw [← hW.out]
  go_wp2_with (go_at_call 50; refine Calls.mono hcon.out ?_; rintro e w2 ⟨rfl, S, D, h1, h2, ⟨h3, _⟩, h4, _, h5⟩; refine stop_here ?_)
  unfold Hid
  clear hcon a0 a1 b0 b1 hW
  have l0 : w2.cell? ⟨w.heap.size + 1 + 1 + 1, 0, none⟩ = some (.bool ((decide (da ≤ db)) && D.all (fun v => (decide (v.2.1 ≤ v.2.2))))) := cell_blk h3 rfl
  have hiff : Hid _ := h4.holds (fun x y => (decide (x ≤ y)))
  have hsz := hnw.size
  have hnw2 : Nw w w2 := Fr.trans hnw h5 (fun k hk => hk.elim (fun h => .inr (by omega)) (fun h => .inr (by omega)))
  generalize ((decide (da ≤ db)) && D.all (fun v => (decide (v.2.1 ≤ v.2.2)))) = R at *
  clear h3 h4 h5
  go_wp2
  go_ret
  exact ⟨R, rfl, hiff.out, hnw2⟩

set_option maxHeartbeats 1600000 in
theorem c_leq {X Y : Nat → Prop} {va vb : Value} {xa xb : List Cat} (da db : Int) (w : World) (ha : CSl X w va xa) (hb : CSl Y w vb xb) (la : xa.length ≤ 8796093022208) (lb : xb.length ≤ 8796093022208) :
    Calls Try.prog 18 #[labV da va, labV db vb] w fun e w' => ∃ r : Bool, e = .returned (.bool r) ∧ (r = true ↔ ∀ id, (decide ((lev da xa id) ≤ (lev db xb id))) = true) ∧ Nw w w' := by
  obtain ⟨aa, ac, rfl, ha1, ha2⟩ := ha.form
  obtain ⟨ba, bc, rfl, hb1, hb2⟩ := hb.form
  have hA : ((w.alloc (.cells #[.int .i64 da, .slice aa xa.length ac] 24)).alloc (.cells #[.int .i64 db, .slice ba xb.length bc] 24)).heap[w.heap.size]? = some (.cells #[.int .i64 da, .slice aa xa.length ac] 24 (0, 0)) := heap_alloc2_old w _ _
  have hB : ((w.alloc (.cells #[.int .i64 da, .slice aa xa.length ac] 24)).alloc (.cells #[.int .i64 db, .slice ba xb.length bc] 24)).heap[w.heap.size + 1]? = some (.cells #[.int .i64 db, .slice ba xb.length bc] 24 (0, 0)) := heap_alloc2_new w _ _
  have hnw : Nw w ((w.alloc (.cells #[.int .i64 da, .slice aa xa.length ac] 24)).alloc (.cells #[.int .i64 db, .slice ba xb.length bc] 24)) := nw_alloc (nw_alloc (nw_refl w) _) _
  have hcon : Hid _ := c_holdsLeq da db _ (ha.nw hnw) (hb.nw hnw) la lb
  clear ha hb la lb
  unfold labV at *
  go_enter Try.func18, Try.ntmps18
  go_upto_region 1 with fail
  generalize (w.alloc (.cells #[.int .i64 da, .slice aa xa.length ac] 24)).alloc (.cells #[.int .i64 db, .slice ba xb.length bc] 24) = W at *
  have a0 : W.cell? ⟨w.heap.size, 0, none⟩ = some (.int .i64 da) := cell_blk hA rfl
  have a1 : W.cell? ⟨w.heap.size, 1, none⟩ = some (.slice aa xa.length ac) := cell_blk hA rfl
  have b0 : W.cell? ⟨w.heap.size + 1, 0, none⟩ = some (.int .i64 db) := cell_blk hB rfl
  have b1 : W.cell? ⟨w.heap.size + 1, 1, none⟩ = some (.slice ba xb.length bc) := cell_blk hB rfl
  go_wp2_with (go_at_call 33; refine Calls.mono hcon.out ?_; rintro e w2 ⟨r, rfl, h1, h2⟩; refine stop_here ?_)
  unfold Hid
  clear hcon a0 a1 b0 b1 hA hB
  have h1 : Hid _ := h1
  go_wp2
  go_ret
  exact ⟨r, rfl, h1.out, nw_trans hnw h2⟩

end Go.Proofs.Ytimgelekpghklaa
