/-
  Pack.
-/
import Derived.Test.YtihdhlciblkbiaaRows
import Derived.Test.YtihdhlciblkbiaaCodecFld
namespace Go.Proofs.Ytihdhlciblkbiaa
set_option linter.unusedVariables false
set_option linter.unusedSimpArgs false
set_option maxRecDepth 20000
open Go.RowKit

theorem catch_panicking (p q : Addr) (x y : Value) (u : TypeId) (pv : Value) (older : List PanicEntry) (w : World) (hc : w.cell? p = some x) (hz : w.frozen? p = false) (hc2 : w.cell? q = some y) (hz2 : w.frozen? q = false) (hpq : q ≠ p) :
    CallsD Try.prog 57 #[.pointer (some p), .pointer (some q)] (.panicking ({ v := .iface u pv, recovered := false } :: older)) w fun e u' w' =>
      e = .returned (.tuple #[]) ∧ u' = .panicking ({ v := .iface u pv, recovered := true } :: older) ∧ w' = (w.setCell p (.slice none 0 0)).setCell q (.int .i64 21) := by
  have hc3 : (w.setCell p (.slice none 0 0)).cell? q = some y := by rw [World.cell?_setCell_other _ _ _ _ (Ne.symm hpq)]; exact hc2
  refine callsD_of_wpS Try.func57 rfl fun c₀ cs hu => ?_
  apply wpS_seq
  apply wpS_region
  simp [wpOpsS, go_sem, recoverD, hu, Try.ntmps57, Exit.thenS]
  refine wpS_cond (t := true) (by simp [Act.eval, Array.replicate]) ?_
  simp only [if_true]
  apply wpS_region
  simp [wpOpsS, go_sem, hc, hz, hc3, hz2, bodyPostS, results, Try.results57]

theorem catch_idle (p q : Addr) (w : World) :
    CallsD Try.prog 57 #[.pointer (some p), .pointer (some q)] .returning w fun e u' w' => e = .returned (.tuple #[]) ∧ u' = .returning ∧ w' = w := by
  refine callsD_of_wpS Try.func57 rfl fun c₀ cs hu => ?_
  apply wpS_seq
  apply wpS_region
  simp [wpOpsS, go_sem, recoverD, hu, Try.ntmps57, Exit.thenS]
  refine wpS_cond (t := false) (by simp [Act.eval, Array.replicate]) ?_
  simp only [Bool.false_eq_true, if_false]
  refine wpS_of_wp (wp_skip ?_)
  cases c₀
  simp_all [bodyPostS, results, Try.results57]

/-- The door, when the body gave up: nothing, and the error. -/
theorem door_panic (R : Ending → World → Prop) (tmps : Array Value) (N : Nat) (W : World) (x y : Value) (hc : W.cell? ⟨N, 0, none⟩ = some x) (hz : W.frozen? ⟨N, 0, none⟩ = false) (hc2 : W.cell? ⟨N + 1, 0, none⟩ = some y) (hz2 : W.frozen? ⟨N + 1, 0, none⟩ = false)
    (h4 : tmps.getD 4 undef = .pointer (some ⟨N, 0, none⟩)) (h5 : tmps.getD 5 undef = .pointer (some ⟨N + 1, 0, none⟩))
    (hR : R (.returned (.tuple #[.slice none 0 0, .int .i64 21])) ((W.setCell ⟨N, 0, none⟩ (.slice none 0 0)).setCell ⟨N + 1, 0, none⟩ (.int .i64 21))) :
    bodyPostD Try.prog Try.f45 R (.panic [err21]) { tmps := tmps, defers := [{ target := .fn (.func 57) #[.pointer (some ⟨N, 0, none⟩), .pointer (some ⟨N + 1, 0, none⟩)], args := #[] }] } W := by
  refine leaves_cons (f := 57) (args := #[.pointer (some ⟨N, 0, none⟩), .pointer (some ⟨N + 1, 0, none⟩)]) (by simp) (by simp [go_sem]) ?_
  refine (catch_panicking ⟨N, 0, none⟩ ⟨N + 1, 0, none⟩ x y _ _ [] _ hc hz hc2 hz2 (by simp)).mono ?_
  rintro e u' w'' ⟨rfl, rfl, rfl⟩
  have e1 : ((W.setCell ⟨N, 0, none⟩ (.slice none 0 0)).setCell ⟨N + 1, 0, none⟩ (.int .i64 21)).cell? ⟨N, 0, none⟩ = some (.slice none 0 0) := by
    rw [World.cell?_setCell_other _ _ _ _ (by simp)]; exact World.cell?_setCell_same _ _ _ hc
  have e2 : ((W.setCell ⟨N, 0, none⟩ (.slice none 0 0)).setCell ⟨N + 1, 0, none⟩ (.int .i64 21)).cell? ⟨N + 1, 0, none⟩ = some (.int .i64 21) :=
    World.cell?_setCell_same _ _ _ (by rw [World.cell?_setCell_other _ _ _ _ (by simp)]; exact hc2)
  have h4' : tmps[4]?.getD undef = .pointer (some ⟨N, 0, none⟩) := by simpa using h4
  have h5' : tmps[5]?.getD undef = .pointer (some ⟨N + 1, 0, none⟩) := by simpa using h5
  simp [Leaves, settle, results, Try.results45, go_sem, h4', h5', e1, e2]
  exact hR

/-- The door, when the body came to its end. -/
theorem door_return (R : Ending → World → Prop) (tmps : Array Value) (N : Nat) (W : World) (x y : Value) (hc : W.cell? ⟨N, 0, none⟩ = some x) (hc2 : W.cell? ⟨N + 1, 0, none⟩ = some y)
    (h4 : tmps.getD 4 undef = .pointer (some ⟨N, 0, none⟩)) (h5 : tmps.getD 5 undef = .pointer (some ⟨N + 1, 0, none⟩))
    (hR : R (.returned (.tuple #[x, y])) W) :
    bodyPostD Try.prog Try.f45 R .ret { tmps := tmps, defers := [{ target := .fn (.func 57) #[.pointer (some ⟨N, 0, none⟩), .pointer (some ⟨N + 1, 0, none⟩)], args := #[] }] } W := by
  refine leaves_cons (f := 57) (args := #[.pointer (some ⟨N, 0, none⟩), .pointer (some ⟨N + 1, 0, none⟩)]) (by simp) (by simp [go_sem]) ?_
  refine (catch_idle ⟨N, 0, none⟩ ⟨N + 1, 0, none⟩ _).mono ?_
  rintro e u' w'' ⟨rfl, rfl, rfl⟩
  have h4' : tmps[4]?.getD undef = .pointer (some ⟨N, 0, none⟩) := by simpa using h4
  have h5' : tmps[5]?.getD undef = .pointer (some ⟨N + 1, 0, none⟩) := by simpa using h5
  simp [Leaves, settle, results, Try.results45, go_sem, h4', h5', hc, hc2]
  exact hR

set_option maxHeartbeats 1600000 in
theorem c_pack_refused (sh : ByteArray) (ao : Option Addr) (len cap : Nat) (w : World) (hs : sh.size ≤ maxLen) (hl : len ≤ maxLen) (h : ¬ (sh.size ≤ 200 ∧ len = sh.size)) :
    Calls Try.prog 45 #[.string sh, .slice ao len cap] w fun e w' => e = .returned (.tuple #[.slice none 0 0, .int .i64 21]) ∧ Below w.heap.size w w' := by
  have hmf : ∀ (fn : Fn) (first cap : Array Value) (w : World), (Instr.makeFunc fn first cap).run Try.prog w = .ok (.func fn first cap) w := fun _ _ _ _ => rfl
  unfold maxLen at hs hl
  by_cases h1 : sh.size ≤ 200
  · have hd1 : decide ((sh.size : Int) ≤ 200) = true := decide_eq_true (by omega)
    have hd2 : ((len : Int) == (sh.size : Int)) = false := beq_eq_false_iff_ne.2 (by omega)
    go_enter_defers Try.func45, Try.ntmps45
    go_wp2_with (go_at_call 58; refine (c_must_no _).mono ?_; rintro e w' ⟨rfl, rfl⟩)
    refine door_panic _ _ w.heap.size _ (.slice none 0 0) (.int .i64 0) (by simp [go_sem]) (by simp [go_sem]) (by simp [go_sem]) (by simp [go_sem]) rfl rfl ⟨rfl, ?_⟩
    exact ((((Below.refl _ _).alloc (Nat.le_refl _) _).alloc (by simp) _).setCell (Nat.le_refl _) _).setCell (by simp) _
  · have hd1 : decide ((sh.size : Int) ≤ 200) = false := decide_eq_false (by omega)
    go_enter_defers Try.func45, Try.ntmps45
    go_wp2_with (go_at_call 58; refine (c_must_no _).mono ?_; rintro e w' ⟨rfl, rfl⟩)
    refine door_panic _ _ w.heap.size _ (.slice none 0 0) (.int .i64 0) (by simp [go_sem]) (by simp [go_sem]) (by simp [go_sem]) (by simp [go_sem]) rfl rfl ⟨rfl, ?_⟩
    exact ((((Below.refl _ _).alloc (Nat.le_refl _) _).alloc (by simp) _).setCell (Nat.le_refl _) _).setCell (by simp) _

theorem fields_get {K : Nat} {w : World} {ao : Option Addr} {cap : Nat} {fs : List Fld} (h : FieldsAt K w (.slice ao fs.length cap) fs) (k : Nat) (hk : k < fs.length) :
    ∃ b off bvv, ao = some ⟨b, off, none⟩ ∧ b < K ∧ w.cell? ⟨b, off + k * 2, none⟩ = some (.int .u64 (fs[k].num : Nat)) ∧ w.cell? ⟨b, off + k * 2 + 1, none⟩ = some bvv ∧
      Sl K w bvv fs[k].bytes.length (fs[k].bytes.map bv) ∧ fs[k].num < 18446744073709551616 ∧ fs[k].bytes.length ≤ 140737488355328 := by
  obtain ⟨ao', cap', hv, _, _, hcs⟩ := h
  simp only [Value.slice.injEq, true_and] at hv
  obtain ⟨rfl, rfl⟩ := hv
  exact hcs k fs[k] (by simp [hk])

/-- What a round of Pack keeps. -/
structure PackAt (N : Nat) (w wr : World) (v : Value) (acc : List UInt8) : Prop where
  b0 : wr.heap[N]? = some (.cells #[v] 37 (0, 0))
  b1 : wr.heap[N + 1]? = some (.cells #[.int .i64 0] 41 (0, 0))
  own : wr.ownsRow (N + 2) 5 1 v acc.length (acc.map bv)
  bel : Below N w wr

theorem packAt_start (w : World) : PackAt w.heap.size w ((w.alloc (.cells #[.slice none 0 0] 37)).alloc (.cells #[.int .i64 0] 41)) (.slice none 0 0) [] := by
  refine ⟨?_, ?_, World.ownsRow_nil _ _ _ _, ((Below.refl _ _).alloc (Nat.le_refl _) _).alloc (by simp) _⟩
  · rw [Below.heap_alloc _ _ _ (by simp)]; exact heap_alloc_new w _
  · have := heap_alloc_new (w.alloc (.cells #[.slice none 0 0] 37)) (.cells #[.int .i64 0] 41)
    simpa using this

theorem packAt_end {N : Nat} {w wr : World} {v : Value} {acc : List UInt8} (h : PackAt N w wr v acc) :
    ((wr.setCell ⟨N, 0, none⟩ v).setCell ⟨N + 1, 0, none⟩ (.int .i64 0)).cell? ⟨N, 0, none⟩ = some v ∧ ((wr.setCell ⟨N, 0, none⟩ v).setCell ⟨N + 1, 0, none⟩ (.int .i64 0)).cell? ⟨N + 1, 0, none⟩ = some (.int .i64 0) ∧
    Below N w ((wr.setCell ⟨N, 0, none⟩ v).setCell ⟨N + 1, 0, none⟩ (.int .i64 0)) ∧
    Sl ((wr.setCell ⟨N, 0, none⟩ v).setCell ⟨N + 1, 0, none⟩ (.int .i64 0)).heap.size ((wr.setCell ⟨N, 0, none⟩ v).setCell ⟨N + 1, 0, none⟩ (.int .i64 0)) v acc.length (acc.map bv) := by
  refine ⟨?_, ?_, (h.bel.setCell (Nat.le_refl _) _).setCell (by simp) _, ?_⟩
  · rw [World.cell?_setCell_other _ _ _ _ (by simp)]
    exact World.cell?_setCell_same _ _ _ (cell_of_one h.b0)
  · exact World.cell?_setCell_same _ _ _ (by rw [World.cell?_setCell_other _ _ _ _ (by simp)]; exact cell_of_one h.b1)
  · exact sl_of_owns (ownsRow_setCell_below (ownsRow_setCell_below h.own (by simp) _) (by simp) _)

theorem packAt_alloc {N : Nat} {w wr : World} {v : Value} {acc : List UInt8} (h : PackAt N w wr v acc) (o : Obj) : PackAt N w (wr.alloc o).drew v acc := by
  have hN := lt_of_block h.b1
  have hN0 := lt_of_block h.b0
  exact ⟨(Below.heap_alloc wr o N hN0).trans h.b0, (Below.heap_alloc wr o (N + 1) hN).trans h.b1, (h.own.alloc o).drew, (h.bel.alloc (by omega) o).drew⟩

theorem packAt_step {N : Nat} {w W w1 : World} {v v1 : Value} {acc acc1 : List UInt8} (h : PackAt N w W v acc) (hb : Below (N + 2) W w1) (ho : w1.ownsRow (N + 2) 5 1 v1 acc1.length (acc1.map bv)) : PackAt N w (w1.setCell ⟨N, 0, none⟩ v1) v1 acc1 := by
  refine ⟨one_setCell ((hb.block N (by omega)).trans h.b0), ?_, ownsRow_setCell_below ho (by show N < _; omega) _, (h.bel.trans (hb.mono (by omega))).setCell (Nat.le_refl _) _⟩
  rw [Below.heap_setCell _ _ _ _ (by simp)]
  exact (hb.block (N + 1) (by omega)).trans h.b1

theorem packAt_door {N : Nat} {w W w1 : World} {v : Value} {acc : List UInt8} (h : PackAt N w W v acc) (hb : Below (N + 2) W w1) :
    w1.cell? ⟨N, 0, none⟩ = some v ∧ w1.frozen? ⟨N, 0, none⟩ = false ∧ w1.cell? ⟨N + 1, 0, none⟩ = some (.int .i64 0) ∧ w1.frozen? ⟨N + 1, 0, none⟩ = false ∧
    Below N w ((w1.setCell ⟨N, 0, none⟩ (.slice none 0 0)).setCell ⟨N + 1, 0, none⟩ (.int .i64 21)) := by
  have b0 := (hb.block N (by omega)).trans h.b0
  have b1 := (hb.block (N + 1) (by omega)).trans h.b1
  exact ⟨cell_of_one b0, free_of_one b0, cell_of_one b1, free_of_one b1, ((h.bel.trans (hb.mono (by omega))).setCell (Nat.le_refl _) _).setCell (by simp) _⟩

theorem zip_get (sh : ByteArray) (fs : List Fld) (k : Nat) (h1 : k < fs.length) (h2 : k < sh.size) : (sh.data.toList.zip fs)[k]? = some (sh[k], fs[k]) := by
  have h3 : sh.data.toList[k]? = some sh[k] := by
    rw [List.getElem?_eq_getElem (by simpa using h2)]; rfl
  simp [List.getElem?_zip_eq_some, h3, h1]

theorem packL_round {sh : ByteArray} {fs : List Fld} {k : Nat} {acc ys : List UInt8} (h1 : k < fs.length) (h2 : k < sh.size) (ha : packL ((sh.data.toList.zip fs).take k) = some acc) (hp : packF sh[k] fs[k] = some ys) :
    packL ((sh.data.toList.zip fs).take (k + 1)) = some (acc ++ ys) := by
  rw [List.take_add_one, zip_get sh fs k h1 h2]
  simp only [Option.toList_some]
  rw [packL_snoc, ha]
  simp [hp]

theorem packL_stop {sh : ByteArray} {fs : List Fld} {k : Nat} {acc : List UInt8} (h1 : k < fs.length) (h2 : k < sh.size) (ha : packL ((sh.data.toList.zip fs).take k) = some acc) (hp : packF sh[k] fs[k] = none) :
    packL (sh.data.toList.zip fs) = none := by
  have e : sh.data.toList.zip fs = ((sh.data.toList.zip fs).take k ++ [(sh[k], fs[k])]) ++ (sh.data.toList.zip fs).drop (k + 1) := by
    have := List.take_append_drop (k + 1) (sh.data.toList.zip fs)
    rw [List.take_add_one, zip_get sh fs k h1 h2] at this
    simpa using this.symm
  rw [e, packL_append, packL_snoc, ha]
  simp [hp]

theorem packF_length {c : UInt8} {f : Fld} {ys : List UInt8} (h : packF c f = some ys) : ys.length ≤ 1026 := by
  unfold packF at h
  split at h
  · split at h
    · simp at h; subst h; simp [be_length]; omega
    · cases h
  · split at h
    · rename_i k hk
      split at h
      · simp at h; subst h
        rw [be_length]
        have := wdt_int hk
        omega
      · cases h
    · cases h

set_option maxHeartbeats 1600000 in
theorem c_pack_run (sh : ByteArray) (K : Nat) (ao : Option Addr) (cap : Nat) (fs : List Fld) (w : World) (hs : sh.size ≤ 200) (hl : fs.length = sh.size) (hf : FieldsAt K w (.slice ao fs.length cap) fs) (hK : K ≤ w.heap.size) :
    Calls Try.prog 45 #[.string sh, .slice ao fs.length cap] w fun e w' => Below w.heap.size w w' ∧
      ((∃ ys v, packL (sh.data.toList.zip fs) = some ys ∧ e = .returned (.tuple #[v, .int .i64 0]) ∧ Sl w'.heap.size w' v ys.length (ys.map bv)) ∨
       (packL (sh.data.toList.zip fs) = none ∧ e = .returned (.tuple #[.slice none 0 0, .int .i64 21]))) := by
  have hmf : ∀ (fn : Fn) (first cap : Array Value) (w : World), (Instr.makeFunc fn first cap).run Try.prog w = .ok (.func fn first cap) w := fun _ _ _ _ => rfl
  have hd1 : decide ((sh.size : Int) ≤ 200) = true := decide_eq_true (by omega)
  have hd2 : ((fs.length : Int) == (sh.size : Int)) = true := beq_iff_eq.2 (by omega)
  have hl' : Hid (fs.length = sh.size) := hl
  have hls : fs.length ≤ 200 := by omega
  clear hl
  go_enter_defers Try.func45, Try.ntmps45
  go_wp2_with (go_at_call 58; refine (c_must_yes _).mono ?_; rintro e w' ⟨rfl, rfl⟩)
  go_loopw [22] (fun i wr => ∃ (k : Nat) (v : Value) (acc : List UInt8), k ≤ fs.length ∧ i = .int .i64 k ∧ Hid (packL ((sh.data.toList.zip fs).take k) = some acc) ∧ acc.length ≤ k * 1026 ∧ PackAt w.heap.size w wr v acc) (fun i _ => fs.length - (intOf i).toNat)
  case atStart => exact ⟨0, _, [], Nat.zero_le _, rfl, rfl, Nat.zero_le _, packAt_start w⟩
  case round =>
    obtain ⟨k, v, acc, hk, rfl, hacc, hlen, hat⟩ := hrel
    have hc0 := cell_of_one hat.b0
    have hz0 := free_of_one hat.b0
    have hc1 := cell_of_one hat.b1
    have hz1 := free_of_one hat.b1
    have hN := lt_of_block hat.b1
    obtain ⟨ao', cap', rfl⟩ : ∃ ao' cap', v = .slice ao' acc.length cap' := owns_form hat.own
    by_cases hlt : k < fs.length
    · obtain ⟨b, off, bvv, rfl, hbK, hcn, hcb, hsb, hnum, hbl⟩ := fields_get hf k hlt
      obtain ⟨bo, bc, rfl⟩ : ∃ bo bc, bvv = .slice bo (fs[k].bytes.length) bc := sl_form hsb
      have hcn : wr.cell? ⟨b, off + k * 2, none⟩ = some (.int .u64 (fs[k].num : Nat)) := by rw [hat.bel.cell (p := ⟨b, _, none⟩) (by show b < _; omega)]; exact hcn
      have hcb : wr.cell? ⟨b, off + k * 2 + 1, none⟩ = some (.slice bo (fs[k].bytes.length) bc) := by rw [hat.bel.cell (p := ⟨b, _, none⟩) (by show b < _; omega)]; exact hcb
      have hks : k < sh.size := by have := hl'.out; omega
      have hks' : (k : Int) < (sh.size : Int) := by omega
      have hk0 : (0 : Int) ≤ (k : Int) := by omega
      go_wp2
      generalize hWf : wr.alloc (Obj.cells #[Value.int IntKind.u64 ↑fs[k].num, Value.slice bo fs[k].bytes.length bc] 79) = Wf
      have hS : (fun w' : World => w'.cell? ⟨w.heap.size, 0, none⟩ = some (.slice ao' acc.length cap') ∧ w'.cell? ⟨wr.heap.size, 0, none⟩ = some (.int .u64 (fs[k].num : Nat)) ∧ w'.cell? ⟨wr.heap.size, 1, none⟩ = some (.slice bo (fs[k].bytes.length) bc)) Wf.drew := by
        subst hWf
        refine ⟨?_, by simp [go_sem], by simp [go_sem]⟩
        rw [World.cell?_drew, World.cell?_alloc_past _ _ _ (by show w.heap.size < _; omega)]
        exact hc0
      refine wp_region_ord [] 5 [(0, true), (1, true), (2, true), (3, true), (4, true)] (fun w' => w'.cell? ⟨w.heap.size, 0, none⟩ = some (.slice ao' acc.length cap') ∧ w'.cell? ⟨wr.heap.size, 0, none⟩ = some (.int .u64 (fs[k].num : Nat)) ∧ w'.cell? ⟨wr.heap.size, 1, none⟩ = some (.slice bo (fs[k].bytes.length) bc)) (by kernel_rfl) (by kernel_rfl) ?_
      refine ord_quiet _ ?_ rfl hS rfl ?_ ?_
      rotate_left
      · rintro w' ⟨hS1, hS2, hS3⟩; go_simp; rfl
      refine ord_quiet _ ?_ rfl hS rfl ?_ ?_
      rotate_left
      · rintro w' ⟨hS1, hS2, hS3⟩; go_simp; rfl
      refine ord_quiet _ ?_ rfl hS rfl ?_ ?_
      rotate_left
      · rintro w' ⟨hS1, hS2, hS3⟩; go_simp; rfl
      refine ord_quiet _ ?_ rfl hS rfl ?_ ?_
      rotate_left
      · rintro w' ⟨hS1, hS2, hS3⟩; go_simp; rfl
      refine ord_quiet _ ?_ rfl hS rfl ?_ ?_
      rotate_left
      · rintro w' ⟨hS1, hS2, hS3⟩; go_simp; rfl
      refine ord_tail ?_
      simp only [List.drop_succ_cons, List.drop_zero]
      have hatF : PackAt w.heap.size w Wf.drew (.slice ao' acc.length cap') acc := by subst hWf; exact packAt_alloc hat _
      have hszF : w.heap.size + 2 ≤ Wf.drew.heap.size := by subst hWf; simp; omega
      have hsbF := hsb.keep (hatF.bel.mono hK)
      have hlen1 : acc.length ≤ 1000000000 := by omega
      go_wp2_with fail
      refine (c_appendField (w.heap.size + 2) K sh[k] fs[k] _ _ acc _ hatF.own hszF hsbF (by omega) hnum hbl hlen1).mono ?_
      rintro e w1 ⟨⟨ys, v1, hp, rfl, hown1⟩ | ⟨hp, rfl⟩, hb1⟩
      · obtain ⟨ao1, cap1, rfl⟩ : ∃ ao1 cap1, v1 = .slice ao1 (acc ++ ys).length cap1 := owns_form hown1
        have hnew := packAt_step hatF hb1 hown1
        have hacc1 : Hid (packL ((sh.data.toList.zip fs).take (k + 1)) = some (acc ++ ys)) := packL_round hlt hks hacc.out hp
        have hlen2 := packF_length hp
        have hc0' : w1.cell? ⟨w.heap.size, 0, none⟩ = some (.slice ao' acc.length cap') := by rw [hb1.cell (p := ⟨w.heap.size, 0, none⟩) (by show w.heap.size < w.heap.size + 2; omega)]; exact cell_of_one hatF.b0
        have hz0' : w1.frozen? ⟨w.heap.size, 0, none⟩ = false := by rw [hb1.frozen (p := ⟨w.heap.size, 0, none⟩) (by show w.heap.size < w.heap.size + 2; omega)]; exact free_of_one hatF.b0
        have hlen3 : Hid ((acc ++ ys).length ≤ (k + 1) * 1026) := by unfold Hid; rw [List.length_append]; omega
        clear hS hatF hown1 hb1 hp hacc hat hsbF hsb hcn hcb hc0 hz0 hc1 hz1
        generalize acc ++ ys = acc1 at *
        go_wp2
        go_roundw
        case rel => exact ⟨k + 1, _, _, by omega, by go_num, hacc1, hlen3.out, hnew⟩
        case measure => simp [intOf]; omega
      · have hnone : packL (sh.data.toList.zip fs) = none := packL_stop hlt hks hacc.out hp
        have hd := packAt_door hatF hb1
        exact door_panic _ _ w.heap.size _ _ _ hd.1 hd.2.1 hd.2.2.1 hd.2.2.2.1 rfl rfl ⟨hd.2.2.2.2, .inr ⟨hnone, rfl⟩⟩
    · have hend := packAt_end hat
      have htk : packL (sh.data.toList.zip fs) = some acc := by
        have e := hacc.out
        rw [List.take_of_length_le (by rw [List.length_zip]; omega)] at e
        exact e
      go_wp2
      exact door_return _ _ w.heap.size _ (.slice ao' acc.length cap') (.int .i64 0) hend.1 hend.2.1 rfl rfl ⟨hend.2.2.1, .inl ⟨acc, _, htk, rfl, hend.2.2.2⟩⟩
end Go.Proofs.Ytihdhlciblkbiaa
