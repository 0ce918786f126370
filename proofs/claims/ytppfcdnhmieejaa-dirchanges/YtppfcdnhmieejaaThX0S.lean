/-
  A thing with no more than its kind has, as it is built.
-/
import Derived.Test.YtppfcdnhmieejaaThMS
import Derived.Test.YtppfcdnhmieejaaThW3S
import Derived.Test.YtppfcdnhmieejaaThC2S
namespace Go.Proofs.Ytppfcdnhmieejaa
set_option linter.unusedVariables false
set_option linter.unusedSimpArgs false
set_option maxRecDepth 20000
open Go.RowKit

theorem builtTh (t : Th) (v : Value) (a : Option Addr) (n c : Nat) (hv : v = .slice a n c) : Try.prog.built 34 [(0, .int .u64 t.id), (1, .int .i64 t.kind), (2, .agg #[.int .i64 t.df, v]), (4, .int .i64 t.quota)] = some (thC (baseT t) v (.slice none 0 0) (.slice none 0 0) (.slice none 0 0)).toArray := by
  subst hv
  kernel_rfl
theorem run_rem32 (n : Nat) (w : World) : (binOp .rem 3 (.int .i64 n) (.int .i64 32)).run Try.prog w = .ok (.int .i64 ((n % 32 : Nat) : Int)) w := by
  simp [go_sem]
  exact Int.tmod_eq_emod_of_nonneg (by omega)
theorem run_quo32 (n : Nat) (hn : n ≤ 9223372036854775807) (w : World) : (binOp .quo 3 (.int .i64 n) (.int .i64 32)).run Try.prog w = .ok (.int .i64 ((n / 32 : Nat) : Int)) w := by
  simp [go_sem]
  rw [IntKind.wrap_i64]
  omega
theorem kd {t : Th} {k : Int} (h : t.kind = k) : KindOk t ↔ ((k = 1 ∧ DirOk t) ∨ (k = 2 ∧ ThrOk t) ∨ (k = 3 ∧ GatOk t) ∨ (k = 4 ∧ SegOk t) ∨ (k = 5 ∧ SpcOk t) ∨ (k = 6 ∧ t.quota = 1)) := by
  unfold KindOk; rw [h]
theorem kd1 {t : Th} (h : t.kind = 1) : KindOk t ↔ DirOk t := by rw [kd h]; simp
theorem kd2 {t : Th} (h : t.kind = 2) : KindOk t ↔ ThrOk t := by rw [kd h]; simp
theorem kd3 {t : Th} (h : t.kind = 3) : KindOk t ↔ GatOk t := by rw [kd h]; simp
theorem kd4 {t : Th} (h : t.kind = 4) : KindOk t ↔ SegOk t := by rw [kd h]; simp
theorem kd5 {t : Th} (h : t.kind = 5) : KindOk t ↔ SpcOk t := by rw [kd h]; simp
theorem kd6 {t : Th} (h : t.kind = 6) : KindOk t ↔ t.quota = 1 := by rw [kd h]; simp

theorem run_add1 (n : Nat) (hn : n ≤ 9223372036854775807) (w : World) : (binOp .add 3 (.int .i64 1) (.int .i64 ((n / 32 : Nat) : Int))).run Try.prog w = .ok (.int .i64 (1 + ((n / 32 : Nat) : Int))) w := by
  simp [go_sem]
  try rw [IntKind.wrap_i64]
  omega

theorem CSl.one {X : Nat → Prop} {w : World} {v : Value} {xs : List Cat} (h : CSl X w v xs) : v.oneCell' = true := by obtain ⟨_, _, rfl, _⟩ := h.form; rfl
theorem BSl.one {X : Nat → Prop} {w : World} {v : Value} {xs : List UInt8} (h : BSl X w v xs) : v.oneCell' = true := by obtain ⟨_, _, rfl, _⟩ := h.form; rfl
theorem ThAt.one {X : Nat → Prop} {w : World} {t : Th} {uL uC uK uD : Value} (h : ThAt X w t uL uC uK uD) : ∀ v ∈ thC t uL uC uK uD, v.oneCell' = true := th_one t uL uC uK uD h.l.one h.c.one h.k.one h.d.one

theorem idx8 (s0 s1 s2 s3 s4 s5 s6 s7 : Int) (k : Nat) (hk : k < 4) : ∃ x y, (∀ w, (Instr.index 32 (.agg #[.int .u64 s0, .int .u64 s1, .int .u64 s2, .int .u64 s3, .int .u64 s4, .int .u64 s5, .int .u64 s6, .int .u64 s7]) (.int .i64 (k : Int))).run Try.prog w = .ok (.agg #[.int .u64 x, .int .u64 y]) w) ∧ [(s0, s1), (s2, s3), (s4, s5), (s6, s7)][k]? = some (x, y) := by
  rcases k with _ | _ | _ | _ | k
  · exact ⟨s0, s1, fun w => by simp [Instr.index, go_sem], rfl⟩
  · exact ⟨s2, s3, fun w => by simp [Instr.index, go_sem], rfl⟩
  · exact ⟨s4, s5, fun w => by simp [Instr.index, go_sem], rfl⟩
  · exact ⟨s6, s7, fun w => by simp [Instr.index, go_sem], rfl⟩
  · omega

theorem run_neq_slot (x y : Int) (w : World) : (binOp .neq 31 (.agg #[.int .u64 x, .int .u64 y]) (.agg #[.int .u64 0, .int .u64 0])).run Try.prog w = .ok (.bool (!(x == 0 && y == 0))) w := by
  simp [go_sem]
  by_cases h1 : x = 0 <;> by_cases h2 : y = 0 <;> simp [h1, h2]

/-- The first slots are as they must be. -/
def okTo (l : List (Int × Int)) (k : Nat) : Prop := ∀ j p, j < k → l[j]? = some p → slOk p.1 p.2
theorem okTo_succ {l : List (Int × Int)} {k : Nat} {p : Int × Int} (h : okTo l k) (hp : l[k]? = some p) (h2 : slOk p.1 p.2) : okTo l (k + 1) := fun j q hj hq => by
  by_cases e : j = k
  · subst e; rw [hp] at hq; cases hq; exact h2
  · exact h j q (by omega) hq
def slotsL (s0 s1 s2 s3 s4 s5 s6 s7 : Int) : List (Int × Int) := [(s0, s1), (s2, s3), (s4, s5), (s6, s7)]
theorem okTo_all (s0 s1 s2 s3 s4 s5 s6 s7 : Int) : okTo (slotsL s0 s1 s2 s3 s4 s5 s6 s7) 4 ↔ (slOk s0 s1 ∧ slOk s2 s3 ∧ slOk s4 s5 ∧ slOk s6 s7) :=
  ⟨fun h => ⟨h 0 _ (by decide) rfl, h 1 _ (by decide) rfl, h 2 _ (by decide) rfl, h 3 _ (by decide) rfl⟩, fun ⟨h0, h1, h2, h3⟩ j p hj hp => by
    rcases j with _ | _ | _ | _ | j
    · cases hp; exact h0
    · cases hp; exact h1
    · cases hp; exact h2
    · cases hp; exact h3
    · omega⟩

/-- The first k links are as they must be. -/
def LkTo (ls : List Cat) (k : Nat) : Prop := (∀ i (h : i < ls.length), i < k → idOk ls[i].1 ∧ btw 1 ls[i].2 48) ∧ ∀ i (h : i + 1 < ls.length), i + 1 < k → ls[i].1 < ls[i + 1].1
def lastOf (ls : List Cat) (k : Nat) : Int := match k with
  | 0 => 0
  | k + 1 => (ls[k]?.map (·.1)).getD 0

theorem lkTo_zero (ls : List Cat) : LkTo ls 0 := ⟨fun i h hi => by omega, fun i h hi => by omega⟩
theorem sumL_take {ls : List Cat} {k : Nat} (h : k < ls.length) : sumL (ls.take (k + 1)) = sumL (ls.take k) + ls[k].2 := by
  unfold sumL
  rw [List.take_succ_eq_append_getElem h, List.map_append, List.sum_append]
  simp
theorem lkTo_succ {ls : List Cat} {k : Nat} {last used : Int} (hlt : k < ls.length) (h : LkTo ls k ∧ last = lastOf ls k ∧ used = 1 + sumL (ls.take k)) (h1 : last < ls[k].1) (h2 : idOk ls[k].1) (h3 : btw 1 ls[k].2 48) :
    LkTo ls (k + 1) ∧ ls[k].1 = lastOf ls (k + 1) ∧ used + ls[k].2 = 1 + sumL (ls.take (k + 1)) := by
  obtain ⟨⟨a1, a2⟩, a3, a4⟩ := h
  refine ⟨⟨fun i hi hik => ?_, fun i hi hik => ?_⟩, by simp [lastOf, hlt], by rw [sumL_take hlt, a4]; omega⟩
  · by_cases e : i = k
    · subst e; exact ⟨h2, h3⟩
    · exact a1 i hi (by omega)
  · by_cases e : i + 1 = k
    · subst e
      have : lastOf ls (i + 1) = ls[i].1 := by simp [lastOf, show i < ls.length by omega]
      rw [a3, this] at h1
      exact h1
    · exact a2 i hi (by omega)
theorem lkTo_must {ls : List Cat} {k : Nat} {last : Int} (hlt : k < ls.length) (h : LkOk ls) (hl : last = lastOf ls k) : last < ls[k].1 ∧ idOk ls[k].1 ∧ btw 1 ls[k].2 48 := by
  obtain ⟨h1, h2⟩ := h.each k hlt
  refine ⟨?_, h1, h2⟩
  cases k with
  | zero => rw [hl]; unfold idOk at h1; simp only [lastOf]; omega
  | succ k =>
    have : lastOf ls (k + 1) = ls[k].1 := by simp [lastOf, show k < ls.length by omega]
    rw [hl, this]
    exact h.rise k hlt

theorem fr_cell {S : Nat → Prop} {w w' : World} (h : Fr S w w') {b i : Nat} (hb : b < w.heap.size) (hS : ¬ S b) : w'.cell? ⟨b, i, none⟩ = w.cell? ⟨b, i, none⟩ := World.cell?_of_block (w := w) (h.block b hb hS)

end Go.Proofs.Ytppfcdnhmieejaa
