/-
  Unpack.
-/
import Derived.Test.YtihdhlciblkbiaaRows
import Derived.Test.YtihdhlciblkbiaaCodecU2
namespace Go.Proofs.Ytihdhlciblkbiaa
set_option linter.unusedVariables false
set_option linter.unusedSimpArgs false
set_option maxRecDepth 20000
open Go.RowKit

theorem catch_panickingU (p q : Addr) (x y : Value) (u : TypeId) (pv : Value) (older : List PanicEntry) (w : World) (hc : w.cell? p = some x) (hz : w.frozen? p = false) (hc2 : w.cell? q = some y) (hz2 : w.frozen? q = false) (hpq : q ≠ p) :
    CallsD Try.prog 63 #[.pointer (some p), .pointer (some q)] (.panicking ({ v := .iface u pv, recovered := false } :: older)) w fun e u' w' =>
      e = .returned (.tuple #[]) ∧ u' = .panicking ({ v := .iface u pv, recovered := true } :: older) ∧ w' = (w.setCell p (.slice none 0 0)).setCell q (.int .i64 21) := by
  have hc3 : (w.setCell p (.slice none 0 0)).cell? q = some y := by rw [World.cell?_setCell_other _ _ _ _ (Ne.symm hpq)]; exact hc2
  refine callsD_of_wpS Try.func63 rfl fun c₀ cs hu => ?_
  apply wpS_seq
  apply wpS_region
  simp [wpOpsS, go_sem, recoverD, hu, Try.ntmps63, Exit.thenS]
  refine wpS_cond (t := true) (by simp [Act.eval, Array.replicate]) ?_
  simp only [if_true]
  apply wpS_region
  simp [wpOpsS, go_sem, hc, hz, hc3, hz2, bodyPostS, results, Try.results63]

theorem catch_idleU (p q : Addr) (w : World) :
    CallsD Try.prog 63 #[.pointer (some p), .pointer (some q)] .returning w fun e u' w' => e = .returned (.tuple #[]) ∧ u' = .returning ∧ w' = w := by
  refine callsD_of_wpS Try.func63 rfl fun c₀ cs hu => ?_
  apply wpS_seq
  apply wpS_region
  simp [wpOpsS, go_sem, recoverD, hu, Try.ntmps63, Exit.thenS]
  refine wpS_cond (t := false) (by simp [Act.eval, Array.replicate]) ?_
  simp only [Bool.false_eq_true, if_false]
  refine wpS_of_wp (wp_skip ?_)
  cases c₀
  simp_all [bodyPostS, results, Try.results63]

/-- The door, when the body gave up: nothing, and the error. -/
theorem door_panicU (R : Ending → World → Prop) (tmps : Array Value) (N : Nat) (W : World) (x y : Value) (hc : W.cell? ⟨N, 0, none⟩ = some x) (hz : W.frozen? ⟨N, 0, none⟩ = false) (hc2 : W.cell? ⟨N + 1, 0, none⟩ = some y) (hz2 : W.frozen? ⟨N + 1, 0, none⟩ = false)
    (h4 : tmps.getD 4 undef = .pointer (some ⟨N, 0, none⟩)) (h5 : tmps.getD 5 undef = .pointer (some ⟨N + 1, 0, none⟩))
    (hR : R (.returned (.tuple #[.slice none 0 0, .int .i64 21])) ((W.setCell ⟨N, 0, none⟩ (.slice none 0 0)).setCell ⟨N + 1, 0, none⟩ (.int .i64 21))) :
    bodyPostD Try.prog Try.f54 R (.panic [err21]) { tmps := tmps, defers := [{ target := .fn (.func 63) #[.pointer (some ⟨N, 0, none⟩), .pointer (some ⟨N + 1, 0, none⟩)], args := #[] }] } W := by
  refine leaves_cons (f := 63) (args := #[.pointer (some ⟨N, 0, none⟩), .pointer (some ⟨N + 1, 0, none⟩)]) (by simp) (by simp [go_sem]) ?_
  refine (catch_panickingU ⟨N, 0, none⟩ ⟨N + 1, 0, none⟩ x y _ _ [] _ hc hz hc2 hz2 (by simp)).mono ?_
  rintro e u' w'' ⟨rfl, rfl, rfl⟩
  have e1 : ((W.setCell ⟨N, 0, none⟩ (.slice none 0 0)).setCell ⟨N + 1, 0, none⟩ (.int .i64 21)).cell? ⟨N, 0, none⟩ = some (.slice none 0 0) := by
    rw [World.cell?_setCell_other _ _ _ _ (by simp)]; exact World.cell?_setCell_same _ _ _ hc
  have e2 : ((W.setCell ⟨N, 0, none⟩ (.slice none 0 0)).setCell ⟨N + 1, 0, none⟩ (.int .i64 21)).cell? ⟨N + 1, 0, none⟩ = some (.int .i64 21) :=
    World.cell?_setCell_same _ _ _ (by rw [World.cell?_setCell_other _ _ _ _ (by simp)]; exact hc2)
  have h4' : tmps[4]?.getD undef = .pointer (some ⟨N, 0, none⟩) := by simpa using h4
  have h5' : tmps[5]?.getD undef = .pointer (some ⟨N + 1, 0, none⟩) := by simpa using h5
  simp [Leaves, settle, results, Try.results54, go_sem, h4', h5', e1, e2]
  exact hR

/-- The door, when the body came to its end. -/
theorem door_returnU (R : Ending → World → Prop) (tmps : Array Value) (N : Nat) (W : World) (x y : Value) (hc : W.cell? ⟨N, 0, none⟩ = some x) (hc2 : W.cell? ⟨N + 1, 0, none⟩ = some y)
    (h4 : tmps.getD 4 undef = .pointer (some ⟨N, 0, none⟩)) (h5 : tmps.getD 5 undef = .pointer (some ⟨N + 1, 0, none⟩))
    (hR : R (.returned (.tuple #[x, y])) W) :
    bodyPostD Try.prog Try.f54 R .ret { tmps := tmps, defers := [{ target := .fn (.func 63) #[.pointer (some ⟨N, 0, none⟩), .pointer (some ⟨N + 1, 0, none⟩)], args := #[] }] } W := by
  refine leaves_cons (f := 63) (args := #[.pointer (some ⟨N, 0, none⟩), .pointer (some ⟨N + 1, 0, none⟩)]) (by simp) (by simp [go_sem]) ?_
  refine (catch_idleU ⟨N, 0, none⟩ ⟨N + 1, 0, none⟩ _).mono ?_
  rintro e u' w'' ⟨rfl, rfl, rfl⟩
  have h4' : tmps[4]?.getD undef = .pointer (some ⟨N, 0, none⟩) := by simpa using h4
  have h5' : tmps[5]?.getD undef = .pointer (some ⟨N + 1, 0, none⟩) := by simpa using h5
  simp [Leaves, settle, results, Try.results54, go_sem, h4', h5', hc, hc2]
  exact hR


/-- What a round of Unpack keeps. -/
structure UnpAt (N K : Nat) (w wr : World) (v : Value) (fs : List Fld) (cs : List Value) (r : List UInt8) (ao : Option Addr) (cap : Nat) : Prop where
  b0 : wr.heap[N]? = some (.cells #[v] 82 (0, 0))
  b1 : wr.heap[N + 1]? = some (.cells #[.int .i64 0] 41 (0, 0))
  rd : RdAt K (N + 2) wr r ao cap
  own : wr.ownsRow (N + 3) 79 2 v fs.length cs
  fld : FldX (fun b => N + 3 ≤ b ∧ b < wr.heap.size ∧ v.ownBlock ≠ some b) wr fs cs
  bel : Below N w wr

theorem unpAt_start (K : Nat) (w : World) (ao : Option Addr) (cap : Nat) (xs : List UInt8) (hs : Sl K w (.slice ao xs.length cap) xs.length (xs.map bv)) (hK : K ≤ w.heap.size) (hc : xs.length ≤ cap) (hm : cap ≤ maxLen) :
    UnpAt w.heap.size K w (((w.alloc (.cells #[.slice none 0 0] 82)).alloc (.cells #[.int .i64 0] 41)).alloc (.cells #[.slice ao xs.length cap] 120)) (.slice none 0 0) [] [] xs ao cap := by
  have hb : Below w.heap.size w (((w.alloc (.cells #[.slice none 0 0] 82)).alloc (.cells #[.int .i64 0] 41)).alloc (.cells #[.slice ao xs.length cap] 120)) :=
    (((Below.refl _ _).alloc (Nat.le_refl _) _).alloc (by simp) _).alloc (by simp; omega) _
  refine ⟨?_, ?_, ⟨?_, hs.keep (hb.mono hK), by omega, hc, hm⟩, World.ownsRow_nil _ _ _ _, FldX.nil _ _, hb⟩
  · rw [Below.heap_alloc _ _ _ (by simp; omega), Below.heap_alloc _ _ _ (by simp)]; exact heap_alloc_new w _
  · rw [Below.heap_alloc _ _ _ (by simp)]
    have := heap_alloc_new (w.alloc (.cells #[.slice none 0 0] 82)) (.cells #[.int .i64 0] 41)
    simpa using this
  · have := heap_alloc_new ((w.alloc (.cells #[.slice none 0 0] 82)).alloc (.cells #[.int .i64 0] 41)) (.cells #[.slice ao xs.length cap] 120)
    simpa using this

theorem unpAt_door {N K : Nat} {w wr w1 : World} {v : Value} {fs : List Fld} {cs : List Value} {r : List UInt8} {ao : Option Addr} {cap : Nat} (h : UnpAt N K w wr v fs cs r ao cap) (hg : wr.grownBy w1 (some (N + 2))) :
    w1.cell? ⟨N, 0, none⟩ = some v ∧ w1.frozen? ⟨N, 0, none⟩ = false ∧ w1.cell? ⟨N + 1, 0, none⟩ = some (.int .i64 0) ∧ w1.frozen? ⟨N + 1, 0, none⟩ = false ∧
    Below N w ((w1.setCell ⟨N, 0, none⟩ (.slice none 0 0)).setCell ⟨N + 1, 0, none⟩ (.int .i64 21)) := by
  have hN := lt_of_block h.rd.blk
  have b0 := (hg.block N (by omega) (by simp)).trans h.b0
  have b1 := (hg.block (N + 1) (by omega) (by simp)).trans h.b1
  exact ⟨cell_of_one b0, free_of_one b0, cell_of_one b1, free_of_one b1, ((h.bel.trans (below_of_grown hg (by omega) (by omega))).setCell (Nat.le_refl _) _).setCell (by simp) _⟩

theorem unpAt_step {N K : Nat} {w wr w1 w6 : World} {v v6 bvv : Value} {fs : List Fld} {cs : List Value} {r r' : List UInt8} {ao ao' : Option Addr} {cap cap' : Nat} (f : Fld) (h : UnpAt N K w wr v fs cs r ao cap) (hK : K ≤ N)
    (hg : wr.grownBy w1 (some (N + 2))) (hf : Fresh wr w1 bvv f.bytes) (hr : RdAt K (N + 2) w1 r' ao' cap') (hn : f.num < 18446744073709551616) (hl : f.bytes.length ≤ 1024)
    (obj : Obj) (ho : w6.ownsRow (N + 3) 79 2 v6 (fs ++ [f]).length (cs ++ [.int .u64 (f.num : Nat), bvv])) (hg6 : (w1.alloc obj).grownBy w6 v.ownBlock) (hat : v6.ownBlock = v.ownBlock ∨ v6.ownBlock = some (w1.heap.size + 1)) :
    UnpAt N K w (w6.setCell ⟨N, 0, none⟩ v6) v6 (fs ++ [f]) (cs ++ [.int .u64 (f.num : Nat), bvv]) r' ao' cap' := by
  have hN := lt_of_block h.rd.blk
  have hs1 := hg.size
  have hs6 := hg6.size
  simp only [World.size_alloc] at hs6
  have hsS : (w6.setCell ⟨N, 0, none⟩ v6).heap.size = w6.heap.size := by simp [World.setCell]
  have hov : ∀ b, v.ownBlock = some b → N + 3 ≤ b ∧ b < wr.heap.size := fun b hb => h.own.lt b hb
  have keep : ∀ b, b < w1.heap.size → v.ownBlock ≠ some b → b ≠ N → (w6.setCell ⟨N, 0, none⟩ v6).heap[b]? = w1.heap[b]? := fun b h1 h2 h3 => by
    rw [Below.heap_setCell _ _ _ _ h3, hg6.block b (by simp; omega) (Ne.symm h2), Below.heap_alloc w1 obj b h1]
  have hnv : ∀ b, b < N + 3 → v.ownBlock ≠ some b := fun b hb e => by have := (hov b e).1; omega
  have hne : ∀ b, b < w1.heap.size → v.ownBlock ≠ some b → v6.ownBlock ≠ some b := by
    intro b hb1 hb2 he
    rcases hat with h1 | h1
    · exact hb2 (h1.symm.trans he)
    · rw [h1] at he; simp at he; omega
  have hbN : w6.heap[N]? = some (.cells #[v] 82 (0, 0)) := by
    rw [hg6.block N (by simp; omega) (Ne.symm (hnv N (by omega))), Below.heap_alloc w1 obj N (by omega), hg.block N (by omega) (by simp)]; exact h.b0
  refine ⟨one_setCell hbN, ?_, ?_, ownsRow_setCell_below ho (by show N < _; omega) _, ?_, ?_⟩
  · rw [keep (N + 1) (by omega) (hnv _ (by omega)) (by omega), hg.block (N + 1) (by omega) (by simp)]; exact h.b1
  · refine ⟨(keep (N + 2) (by omega) (hnv _ (by omega)) (by omega)).trans hr.blk, hr.sl.keep ⟨?_, ?_, ?_, by rw [hsS]; omega, fun b hb => keep b (by omega) (hnv b (by omega)) (by omega)⟩, hr.le, hr.lec, hr.max⟩
    · exact hg6.os
    · exact hg6.tape
    · exact hg6.output
  · refine FldX.push ?_ f bvv ?_ hn (by omega)
    · refine h.fld.keep fun b hx => ?_
      have hb1 : b < w1.heap.size := by omega
      refine ⟨⟨hx.1, by rw [hsS]; omega, hne b hb1 hx.2.2⟩, ?_⟩
      rw [keep b hb1 hx.2.2 (by omega), hg.block b hx.2.1 (by simp; omega)]
    · refine Slp.keep hf fun b hx => ?_
      have hb2 : v.ownBlock ≠ some b := fun e => by have := (hov b e).2; omega
      exact ⟨⟨by omega, by rw [hsS]; omega, hne b hx.2 hb2⟩, keep b hx.2 hb2 (by omega)⟩
  · have h1 : Below N w w1 := h.bel.trans (below_of_grown hg (by omega) (by omega))
    exact ((h1.alloc (by omega) obj).grown hg6 (by simp; omega) (fun b hb => by have := (hov b hb).1; omega)).setCell (Nat.le_refl _) _

theorem unpAt_end {N K : Nat} {w wr : World} {v : Value} {fs : List Fld} {cs : List Value} {r : List UInt8} {ao : Option Addr} {cap : Nat} (h : UnpAt N K w wr v fs cs r ao cap) :
    ((wr.setCell ⟨N, 0, none⟩ v).setCell ⟨N + 1, 0, none⟩ (.int .i64 0)).cell? ⟨N, 0, none⟩ = some v ∧ ((wr.setCell ⟨N, 0, none⟩ v).setCell ⟨N + 1, 0, none⟩ (.int .i64 0)).cell? ⟨N + 1, 0, none⟩ = some (.int .i64 0) ∧
    Below N w ((wr.setCell ⟨N, 0, none⟩ v).setCell ⟨N + 1, 0, none⟩ (.int .i64 0)) ∧
    FieldsAt ((wr.setCell ⟨N, 0, none⟩ v).setCell ⟨N + 1, 0, none⟩ (.int .i64 0)).heap.size ((wr.setCell ⟨N, 0, none⟩ v).setCell ⟨N + 1, 0, none⟩ (.int .i64 0)) v fs := by
  have hs : ((wr.setCell ⟨N, 0, none⟩ v).setCell ⟨N + 1, 0, none⟩ (.int .i64 0)).heap.size = wr.heap.size := by simp [World.setCell]
  refine ⟨?_, ?_, (h.bel.setCell (Nat.le_refl _) _).setCell (by simp) _, ?_⟩
  · rw [World.cell?_setCell_other _ _ _ _ (by simp)]
    exact World.cell?_setCell_same _ _ _ (cell_of_one h.b0)
  · exact World.cell?_setCell_same _ _ _ (by rw [World.cell?_setCell_other _ _ _ _ (by simp)]; exact cell_of_one h.b1)
  · refine fieldsAt_of_own (X := fun b => b < wr.heap.size) (ownsRow_setCell_below (ownsRow_setCell_below h.own (by show N < _; omega) _) (by show N + 1 < _; omega) _) ?_ (fun b hb => by rw [hs]; exact hb)
    refine h.fld.keep fun b hx => ⟨hx.2.1, ?_⟩
    rw [Below.heap_setCell _ _ _ _ (by show b ≠ N + 1; omega), Below.heap_setCell _ _ _ _ (by show b ≠ N; omega)]

/-- What both ways of unpacking come to. -/
def Unpacked (s xs : List UInt8) (w : World) (e : Ending) (w' : World) : Prop :=
  Below w.heap.size w w' ∧ ((∃ fs v, unpack s xs = some fs ∧ e = .returned (.tuple #[v, .int .i64 0]) ∧ FieldsAt w'.heap.size w' v fs) ∨
    (unpack s xs = none ∧ e = .returned (.tuple #[.slice none 0 0, .int .i64 21])))

set_option maxHeartbeats 1600000 in
theorem c_unpack_refused (sh : ByteArray) (v : Value) (w : World) (hs : sh.size ≤ maxLen) (h : ¬ sh.size ≤ 200) :
    Calls Try.prog 54 #[.string sh, v] w fun e w' => e = .returned (.tuple #[.slice none 0 0, .int .i64 21]) ∧ Below w.heap.size w w' := by
  have hmf : ∀ (fn : Fn) (first cap : Array Value) (w : World), (Instr.makeFunc fn first cap).run Try.prog w = .ok (.func fn first cap) w := fun _ _ _ _ => rfl
  unfold maxLen at hs
  have hd1 : decide ((sh.size : Int) ≤ 200) = false := decide_eq_false (by omega)
  go_enter_defers Try.func54, Try.ntmps54
  go_wp2_with (go_at_call 58; refine (c_must_no _).mono ?_; rintro e w' ⟨rfl, rfl⟩)
  refine door_panicU _ _ w.heap.size _ (.slice none 0 0) (.int .i64 0) (by simp [go_sem]) (by simp [go_sem]) (by simp [go_sem]) (by simp [go_sem]) rfl rfl ⟨rfl, ?_⟩
  exact ((((Below.refl _ _).alloc (Nat.le_refl _) _).alloc (by simp) _).setCell (Nat.le_refl _) _).setCell (by simp) _
end Go.Proofs.Ytihdhlciblkbiaa
