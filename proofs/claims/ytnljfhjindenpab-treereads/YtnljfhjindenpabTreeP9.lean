/-
  Package tree: Of, where joined answers as it should.
-/
import Derived.Test.YtnljfhjindenpabTreeP8
import Derived.Test.YtnljfhjindenpabTreeA1
namespace Go.Proofs.Ytnljfhjindenpab
set_option linter.unusedVariables false
set_option linter.unusedSimpArgs false
set_option maxRecDepth 20000
open Go.RowKit

/-- What joined answers. -/
def JPost (nds : List Nv) (e : Ending) (w' : World) : Prop :=
  match joinL nds with
  | none => e = .returned (.tuple #[.pointer none, .bool false])
  | some b => ∃ g, e = .returned (.tuple #[.pointer (some ⟨g, 0, none⟩), .bool true]) ∧ NAt w' b.2.1 b.2.2 g

/-- What Of answers. -/
def OfPost (nds : List Nv) (e : Ending) (w' : World) : Prop :=
  match readL nds with
  | none => e = .returned (.tuple #[.pointer none, .int .i64 81])
  | some ps => ∃ g n, ∃ t : Tr n, e = .returned (.tuple #[.pointer (some ⟨g, 0, none⟩), .int .i64 0]) ∧ TAt w' g n t ∧ Top n t ∧ flat n t = ps

set_option maxHeartbeats 1600000 in
theorem c_OfG {v : Value} {nds : List Nv} (w : World) (hk : ∀ nd ∈ nds, ∀ k ∈ nd.1, 0 ≤ k ∧ k < 18446744073709551616) (hv : ∃ ao cap, v = .slice ao nds.length cap)
    (hj : Calls Try.prog 45 #[v] w fun e w' => Nw w w' ∧ JPost nds e w') : Calls Try.prog 22 #[v] w fun e w' => Nw w w' ∧ OfPost nds e w' := by
  obtain ⟨ao, cap, rfl⟩ := hv
  obtain ⟨hoi1, hoi2⟩ := of_iff hk
  unfold JPost at hj
  cases hjl : joinL nds with
  | none =>
    rw [hjl] at hj
    have hr : Hid (readL nds = none) := by
      unfold Hid
      cases hq : readL nds with
      | none => rfl
      | some ps => obtain ⟨b, hb, _⟩ := hoi2 (by rw [hq]; simp); rw [hjl] at hb; cases hb
    clear hoi1 hoi2 hk
    go_enter Try.func22, Try.ntmps22
    go_wp2_with (go_at_call 45; refine hj.mono ?_; rintro e w2 ⟨hn, rfl⟩; refine stop_here ?_)
    unfold Hid
    clear hj
    go_wp2
    go_ret2
    refine ⟨hn, ?_⟩
    unfold OfPost
    rw [hr.out]
    rfl
  | some b =>
    rw [hjl] at hj
    have hsound := joinL_sound hk hjl
    have hshp : Shp b.2.1 b.2.2 := shp_fm hsound.2
    have hcW : Hid (∀ w' g, NAt w' b.2.1 b.2.2 g → Calls Try.prog 46 #[.pointer (some ⟨g, 0, none⟩), .agg #[.int .u64 0, .int .u64 0, .bool true]] w' fun r w2 => ∃ x : Bool, r = .returned (.bool x) ∧ (x = true ↔ Wb b.2.1 b.2.2 0 0 true) ∧ Nw w' w2) := fun w' g hg => c_within (lo := 0) (e := 0) (bl := true) w' hg hshp
    have hyes : Hid (Wb b.2.1 b.2.2 0 0 true → Top b.2.1 b.2.2 ∧ readL nds = some (flat b.2.1 b.2.2)) := hoi1 b hjl
    have hno : Hid (¬ Wb b.2.1 b.2.2 0 0 true → readL nds = none) := fun hw => by
      cases hq : readL nds with
      | none => rfl
      | some ps =>
        obtain ⟨b', hb', hw'⟩ := hoi2 (by rw [hq]; simp)
        rw [hjl] at hb'
        simp only [Option.some.injEq] at hb'
        subst hb'
        exact absurd hw' hw
    replace hj : Hid (Calls Try.prog 45 #[.slice ao nds.length cap] w fun e w' => Nw w w' ∧ ∃ g, e = .returned (.tuple #[.pointer (some ⟨g, 0, none⟩), .bool true]) ∧ NAt w' b.2.1 b.2.2 g) := hj
    clear hoi1 hoi2 hk hsound hshp hjl
    go_enter Try.func22, Try.ntmps22
    go_wp2_with (first | (go_at_call 45; refine hj.out.mono ?_; rintro e w2 ⟨hn, g, rfl, hg⟩) | (go_at_call 46; refine (hcW.out _ _ (by assumption)).mono ?_; rintro e w3 ⟨x, rfl, hx, hn3⟩; refine stop_here ?_))
    unfold Hid
    clear hj hcW
    cases x with
    | false =>
      have hr : Hid (readL nds = none) := hno.out (fun h9 => by have := hx.2 h9; cases this)
      clear hx
      go_wp2
      go_ret2
      refine ⟨nw_trans hn hn3, ?_⟩
      unfold OfPost
      rw [hr.out]
      rfl
    | true =>
      have hw := hx.1 rfl
      obtain ⟨h1, h2⟩ := hyes.out hw
      replace h2 : Hid (readL nds = some (flat b.2.1 b.2.2)) := h2
      replace h1 : Hid (Top b.2.1 b.2.2) := h1
      replace hg : Hid (NAt w2 b.2.1 b.2.2 g) := hg
      clear hx hw hno hyes
      go_wp2
      go_ret2
      refine ⟨nw_trans hn (nw_trans hn3 (nw_alloc (nw_refl _) _)), ?_⟩
      unfold OfPost
      rw [h2.out]
      exact ⟨_, _, _, rfl, ⟨g, heap_alloc_new w3 _, hg.out.nw (nw_trans hn3 (nw_alloc (nw_refl _) _))⟩, h1.out, rfl⟩
end Go.Proofs.Ytnljfhjindenpab
