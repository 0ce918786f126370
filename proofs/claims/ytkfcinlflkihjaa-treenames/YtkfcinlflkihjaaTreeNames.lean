/-
  TreeNames returns true: the chapter's example is answered as it says, the error and the limits have their numbers, and a tree without keys is one leaf.
  Conditions: none; the statement is the given one, for every input.
-/
import Derived.Test.YtkfcinlflkihjaaRows
import Derived.Test.YtkfcinlflkihjaaTreeA1
import Derived.WalkKit
import Derived.ProofKit
import Derived.OpenShut
import Derived.ShutString
import Derived.ChangeOld
import Derived.Below
import Derived.SizedLaws
namespace Go.Proofs.Ytkfcinlflkihjaa.treeNames
open Go.ChangeShapes Go.WideShapes Go.ChangeAt Go.RowKit
open Go.ChangeMaps (open_string shut_string)
set_option linter.unusedVariables false
set_option linter.unusedSimpArgs false

theorem own : ownKnob Try.prog.godebug = none := by kernel_rfl
theorem laidOut : laidOutB Try.prog = true := by kernel_rfl

set_option maxHeartbeats 1600000 in
/-- The law's own walk. -/
theorem walk (w : World)  :
    Calls Try.prog 3 #[] w fun e w' => e = .returned (.bool true) ∧ Below w.heap.size w w' := by
  go_enter Try.func3, Try.ntmps3
  go_wp2_with (go_at_call 9; refine (c_new _).mono ?_; rintro e w1 ⟨b1, rfl, h1, n1⟩; refine stop_here ?_)
  unfold Hid
  have a1 := c_Nodes w1 h1 top_nil (by decide)
  rw [show nodesT 0 [] 0 = [([], [], [])] from rfl] at a1
  go_wp2_with (go_at_call 10; refine a1.mono ?_; rintro e w2 ⟨v2, rfl, h2, n2⟩; refine stop_here ?_)
  unfold Hid
  obtain ⟨xs, h3, h4⟩ := h2
  have hx1 : xs.length = 1 := h4.length
  obtain ⟨x, rfl⟩ := List.length_eq_one_iff.1 hx1
  obtain ⟨x0, x1, x2⟩ := x
  obtain ⟨⟨g0, g1, g2⟩, _⟩ := h4
  obtain ⟨ak, ck, hek, _, _⟩ := g0.hs.form
  obtain ⟨ap, cp, hep, _, _⟩ := g2.hs.form
  simp only [List.length_nil] at hek hep
  subst hek
  subst hep
  obtain ⟨ao, cap, rfl, hc1, hc2⟩ := h3.form
  obtain ⟨vb, vo, rfl, k0⟩ := Hs.get h3 (i := 0) (c := .slice ak 0 ck) rfl
  obtain ⟨vb', vo', hvv, k2⟩ := Hs.get h3 (i := 2) (c := .slice ap 0 cp) rfl
  simp only [Option.some.injEq, Addr.mk.injEq, and_true] at hvv
  obtain ⟨rfl, rfl⟩ := hvv
  simp only [Nat.add_zero, List.length_cons, List.length_nil, Nat.zero_add] at k0 hc1 ⊢
  clear a1 h3 g0 g1 g2 hx1
  have hn12 := nw_trans n1 n2
  go_wp2
  have hSof : ∀ w', Nw w2 w' → (fun w' : World => Nw w2 w' ∧ w'.cell? ⟨vb, vo, none⟩ = some (.slice ak 0 ck) ∧ w'.cell? ⟨vb, vo + 2, none⟩ = some (.slice ap 0 cp)) w' := fun w' hw => ⟨hw, hw.cell k0, hw.cell k2⟩
  refine wp_region_ord [] 26 [(0, false), (1, true), (2, true), (3, true), (4, true), (5, true), (6, true), (7, true), (8, true), (9, true), (10, true), (11, true), (12, true), (13, true), (14, true), (15, true), (16, true), (17, true), (18, true), (19, true), (20, true), (21, true), (22, true), (23, true), (24, true), (25, true)] (fun w' : World => Nw w2 w' ∧ w'.cell? ⟨vb, vo, none⟩ = some (.slice ak 0 ck) ∧ w'.cell? ⟨vb, vo + 2, none⟩ = some (.slice ap 0 cp)) (by kernel_rfl) (by kernel_rfl) ?_
  refine ord_actL _ rfl (fun K1 hK1 => ?_)
  go_wp2_with (go_at_call 11; refine (c_alive _).mono ?_; rintro e w3 ⟨rfl, n3⟩; refine stop_here ?_)
  unfold Hid
  have hw3 : Nw w2 w3 := nw_trans (nw_drew (nw_refl w2)) n3
  go_wp2
  refine hK1 _ _ (hSof _ hw3) ?_
  clear hK1 K1
  have hS := hSof _ hw3
  refine ord_quietL _ ?_ rfl hS rfl ?_ ?_
  rotate_left
  · rintro w' ⟨hS1, hS2, hS3⟩; go_simp; rfl
  simp only [Act.put, List.setIfInBounds_toArray, List.set_cons_zero, List.set_cons_succ]
  refine ord_quietL _ ?_ rfl hS rfl ?_ ?_
  rotate_left
  · rintro w' ⟨hS1, hS2, hS3⟩; go_simp; rfl
  simp only [Act.put, List.setIfInBounds_toArray, List.set_cons_zero, List.set_cons_succ]
  refine ord_quietL _ ?_ rfl hS rfl ?_ ?_
  rotate_left
  · rintro w' ⟨hS1, hS2, hS3⟩; go_simp; rfl
  simp only [Act.put, List.setIfInBounds_toArray, List.set_cons_zero, List.set_cons_succ]
  refine ord_quietL _ ?_ rfl hS rfl ?_ ?_
  rotate_left
  · rintro w' ⟨hS1, hS2, hS3⟩; go_simp; rfl
  simp only [Act.put, List.setIfInBounds_toArray, List.set_cons_zero, List.set_cons_succ]
  refine ord_quietL _ ?_ rfl hS rfl ?_ ?_
  rotate_left
  · rintro w' ⟨hS1, hS2, hS3⟩; go_simp; rfl
  simp only [Act.put, List.setIfInBounds_toArray, List.set_cons_zero, List.set_cons_succ]
  refine ord_quietL _ ?_ rfl hS rfl ?_ ?_
  rotate_left
  · rintro w' ⟨hS1, hS2, hS3⟩; go_simp; rfl
  simp only [Act.put, List.setIfInBounds_toArray, List.set_cons_zero, List.set_cons_succ]
  refine ord_quietL _ ?_ rfl hS rfl ?_ ?_
  rotate_left
  · rintro w' ⟨hS1, hS2, hS3⟩; go_simp; rfl
  simp only [Act.put, List.setIfInBounds_toArray, List.set_cons_zero, List.set_cons_succ]
  refine ord_quietL _ ?_ rfl hS rfl ?_ ?_
  rotate_left
  · rintro w' ⟨hS1, hS2, hS3⟩; go_simp; rfl
  simp only [Act.put, List.setIfInBounds_toArray, List.set_cons_zero, List.set_cons_succ]
  refine ord_quietL _ ?_ rfl hS rfl ?_ ?_
  rotate_left
  · rintro w' ⟨hS1, hS2, hS3⟩; go_simp; rfl
  simp only [Act.put, List.setIfInBounds_toArray, List.set_cons_zero, List.set_cons_succ]
  refine ord_quietL _ ?_ rfl hS rfl ?_ ?_
  rotate_left
  · rintro w' ⟨hS1, hS2, hS3⟩; go_simp; rfl
  simp only [Act.put, List.setIfInBounds_toArray, List.set_cons_zero, List.set_cons_succ]
  refine ord_quietL _ ?_ rfl hS rfl ?_ ?_
  rotate_left
  · rintro w' ⟨hS1, hS2, hS3⟩; go_simp; rfl
  simp only [Act.put, List.setIfInBounds_toArray, List.set_cons_zero, List.set_cons_succ]
  refine ord_quietL _ ?_ rfl hS rfl ?_ ?_
  rotate_left
  · rintro w' ⟨hS1, hS2, hS3⟩; go_simp; rfl
  simp only [Act.put, List.setIfInBounds_toArray, List.set_cons_zero, List.set_cons_succ]
  refine ord_quietL _ ?_ rfl hS rfl ?_ ?_
  rotate_left
  · rintro w' ⟨hS1, hS2, hS3⟩; go_simp; rfl
  simp only [Act.put, List.setIfInBounds_toArray, List.set_cons_zero, List.set_cons_succ]
  refine ord_quietL _ ?_ rfl hS rfl ?_ ?_
  rotate_left
  · rintro w' ⟨hS1, hS2, hS3⟩; go_simp; rfl
  simp only [Act.put, List.setIfInBounds_toArray, List.set_cons_zero, List.set_cons_succ]
  refine ord_quietL _ ?_ rfl hS rfl ?_ ?_
  rotate_left
  · rintro w' ⟨hS1, hS2, hS3⟩; go_simp; rfl
  simp only [Act.put, List.setIfInBounds_toArray, List.set_cons_zero, List.set_cons_succ]
  refine ord_quietL _ ?_ rfl hS rfl ?_ ?_
  rotate_left
  · rintro w' ⟨hS1, hS2, hS3⟩; go_simp; rfl
  simp only [Act.put, List.setIfInBounds_toArray, List.set_cons_zero, List.set_cons_succ]
  refine ord_quietL _ ?_ rfl hS rfl ?_ ?_
  rotate_left
  · rintro w' ⟨hS1, hS2, hS3⟩; go_simp; rfl
  simp only [Act.put, List.setIfInBounds_toArray, List.set_cons_zero, List.set_cons_succ]
  refine ord_quietL _ ?_ rfl hS rfl ?_ ?_
  rotate_left
  · rintro w' ⟨hS1, hS2, hS3⟩; go_simp; rfl
  simp only [Act.put, List.setIfInBounds_toArray, List.set_cons_zero, List.set_cons_succ]
  refine ord_quietL _ ?_ rfl hS rfl ?_ ?_
  rotate_left
  · rintro w' ⟨hS1, hS2, hS3⟩; go_simp; rfl
  simp only [Act.put, List.setIfInBounds_toArray, List.set_cons_zero, List.set_cons_succ]
  refine ord_quietL _ ?_ rfl hS rfl ?_ ?_
  rotate_left
  · rintro w' ⟨hS1, hS2, hS3⟩; go_simp; rfl
  simp only [Act.put, List.setIfInBounds_toArray, List.set_cons_zero, List.set_cons_succ]
  refine ord_quietL _ ?_ rfl hS rfl ?_ ?_
  rotate_left
  · rintro w' ⟨hS1, hS2, hS3⟩; go_simp; rfl
  simp only [Act.put, List.setIfInBounds_toArray, List.set_cons_zero, List.set_cons_succ]
  refine ord_quietL _ ?_ rfl hS rfl ?_ ?_
  rotate_left
  · rintro w' ⟨hS1, hS2, hS3⟩; go_simp; rfl
  simp only [Act.put, List.setIfInBounds_toArray, List.set_cons_zero, List.set_cons_succ]
  refine ord_quietL _ ?_ rfl hS rfl ?_ ?_
  rotate_left
  · rintro w' ⟨hS1, hS2, hS3⟩; go_simp; rfl
  simp only [Act.put, List.setIfInBounds_toArray, List.set_cons_zero, List.set_cons_succ]
  refine ord_quietL _ ?_ rfl hS rfl ?_ ?_
  rotate_left
  · rintro w' ⟨hS1, hS2, hS3⟩; go_simp; rfl
  simp only [Act.put, List.setIfInBounds_toArray, List.set_cons_zero, List.set_cons_succ]
  refine ord_quietL _ ?_ rfl hS rfl ?_ ?_
  rotate_left
  · rintro w' ⟨hS1, hS2, hS3⟩; go_simp; rfl
  simp only [Act.put, List.setIfInBounds_toArray, List.set_cons_zero, List.set_cons_succ]
  refine ord_tail ?_
  simp only [List.drop_succ_cons, List.drop_zero]
  have hfin := below_of_nw (nw_trans hn12 hw3)
  go_wp2
  go_ret
  exact ⟨rfl, hfin⟩

set_option maxRecDepth 100000 in
theorem lifted (os : Os) (started : os.Started) (H : Type) (enc : TypeId × Value → H) :
    ReturnsInHanded {} Try.checked os 3 .any (Rows.treeNamesSpec.pre6 enc Try.prog Try.f3 Rows.treeNamesRow.domain false) (Rows.treeNamesSpec.post enc Try.prog Try.f3 false true false false) := by
  refine returnsInHanded_of_change_sized (C := Try.checked) own started (by kernel_rfl) Try.func3
    (ChangeSpec.witness6 (enc := enc) (C := Try.checked) false ⟨#[], #[], []⟩ 8 (by kernel_rfl) (by kernel_rfl) (by kernel_rfl) (by kernel_rfl)) ?_
  intro W base args ds gs before hval0 hW hcnd hsz0 _
  have hval : ∀ (j : Nat) t v, Try.f3.params[j]? = some t → args[j]? = some v → Value.okWide Try.prog W .any base t v := hval0
  have hsz : (DataW.weightsEach Try.prog (Try.f3.params.toList ++ Rows.treeNamesSpec.plain.varTypes Try.prog) (ds ++ gs)).all (· ≤ reachBytes) = true := hsz0
  have hW' := hW
  obtain ⟨p, q, hA0, hV, rfl, hfz, hnd⟩ := hW
  have hA : DataW.TrodAll enc Try.prog W 0 (fun _ => true) true Try.f3.params.toList args.toList ds p := hA0
  rw [Try.params3] at hA hval hsz
  obtain ⟨rfl, rfl, rfl⟩ := trodAll_none hA
  obtain ⟨rfl, rfl⟩ := trodVars_none hV
  clear hA0 hval0
  refine (walk W ).mono fun e W' ⟨he, bel⟩ => ?_
  subst he
  exact ⟨_, rfl, _, _, _, [], _, [], hW', trodAll_mk1 (shut_bool Try.underlying4 _), rfl, rfl, bel.frame _, fun h => by cases h⟩

theorem over : Rows.treeNamesRow.holds Try.pinned (OpenSpec.ofChange Rows.treeNamesSpec) :=
  OpenClaim.holds_of_wide 3 Try.f3 rfl rfl rfl rfl rfl rfl rfl ⟨rfl, rfl, rfl, rfl, rfl⟩ rfl rfl rfl rfl rfl (by kernel_rfl) Try.func3 (by kernel_rfl)
    (of_decide_eq_true (by kernel_rfl)) (by unfold Func.isWrapper; first | (rw [if_pos (by decide +kernel)]; kernel_rfl) | (rw [if_neg (by decide +kernel)]; exact ⟨rfl, rfl⟩))
    (fun os started H enc _ => lifted os started H enc)
end Go.Proofs.Ytkfcinlflkihjaa.treeNames
namespace Go.Proofs.Ytkfcinlflkihjaa
/-- The given statement. -/
theorem treeNames_holds : Rows.TreeNamesSaid := treeNames.over
end Go.Proofs.Ytkfcinlflkihjaa
