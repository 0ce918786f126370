/-
  Package tree: spliced, at keys, extents and nodes.
-/
import Derived.Test.YtnljfhjindenpabTreeW3
namespace Go.Proofs.Ytnljfhjindenpab
set_option linter.unusedVariables false
set_option linter.unusedSimpArgs false
set_option maxRecDepth 20000
open Go.RowKit

theorem sliced0 (ao : Option Addr) (r cap s : Nat) : sliced ao 0 r cap s = .slice ao r cap := by
  unfold sliced
  cases ao <;> simp [Addr.add]

theorem sl_form0 (ao : Option Addr) (l r cap s : Nat) : ∃ ao', sliced ao l r cap s = .slice ao' (r - l) (cap - l) := ⟨_, rfl⟩

theorem Ks.len {w : World} {ao : Option Addr} {n cap : Nat} {ks : List Int} (h : Ks w (.slice ao n cap) ks) : n = ks.length := by obtain ⟨_, _, hv, _⟩ := h; simp only [Value.slice.injEq] at hv; exact hv.2.1
theorem Vs.len {w : World} {ao : Option Addr} {n cap : Nat} {ks : List Ext} (h : Vs w (.slice ao n cap) ks) : n = ks.length := by obtain ⟨_, _, hv, _⟩ := h; simp only [Value.slice.injEq] at hv; exact hv.2.1
theorem Ps.len {w : World} {ao : Option Addr} {n cap : Nat} {ks : List Nat} (h : Ps w (.slice ao n cap) ks) : n = ks.length := by obtain ⟨_, _, hv, _⟩ := h; simp only [Value.slice.injEq] at hv; exact hv.2.1

theorem ks_ok {w : World} {v : Value} {ks : List Int} (h : Ks w v ks) (hl : ks.length ≤ 100) : PartOk 1 w (v, ks.length, ks.map kcell) := ⟨h, by simp, kcell_oneCell _, hl⟩
theorem es_ok {w : World} {v : Value} {ks : List Ext} (h : Vs w v ks) (hl : ks.length ≤ 100) : PartOk 2 w (v, ks.length, ecells ks) := ⟨h, ecells_length _, ecells_oneCell _, hl⟩
theorem ps_ok {w : World} {v : Value} {ks : List Nat} (h : Ps w v ks) (hl : ks.length ≤ 100) : PartOk 1 w (v, ks.length, ks.map pcell) := ⟨h, by simp, pcell_oneCell _, hl⟩

theorem PartOk.nw {s : Nat} {w w' : World} {p : Part} (h : PartOk s w p) (hw : Nw w w') : PartOk s w' p := ⟨h.1.nw hw, h.2⟩

set_option maxHeartbeats 1600000 in
theorem c_splicedK {v o : Value} {ks os : List Int} {i j : Nat} (w : World) (h : Ks w v ks) (ho : Ks w o os) (hij : i ≤ j) (hj : j ≤ ks.length) (hk : ks.length ≤ 100) (hol : os.length ≤ 100) :
    Calls Try.prog 82 #[v, .int .i64 (i : Int), .int .i64 (j : Int), o] w fun e w' => ∃ u, e = .returned u ∧ Ks w' u (ks.take i ++ os ++ ks.drop j) ∧ Nw w w' := by
  obtain ⟨ao, cap, rfl, hc, hm⟩ := Hs.form h
  have hA := Ks.cut h 0 i (Nat.zero_le _) (by omega)
  have hB := Ks.cut h j ks.length hj (Nat.le_refl _)
  rw [List.drop_zero, Nat.sub_zero, sliced0] at hA
  rw [List.take_of_length_le (by simp)] at hB
  have hic : i ≤ cap := by omega
  obtain ⟨ab, hab⟩ : ∃ ab, Hid (ab = if cap = j then ao else Option.map (fun x => x.add (j * 1)) ao) := ⟨_, rfl⟩
  have hB : Ks w (.slice ab (ks.length - j) (cap - j)) (ks.drop j) := by rw [hab.out]; exact hB
  obtain ⟨ao2, cap2, rfl, hc2, hm2⟩ := Hs.form ho
  go_enter Try.func82, Try.ntmps82
  go_wp2
  have hS : (fun w' : World => Nw w w') w.drew := nw_drew (nw_refl w)
  refine wp_region_ord [] 9 [(0, true), (1, true), (2, true), (3, true), (4, true), (5, true), (6, true), (7, false), (8, false)] (fun w' : World => Nw w w') (by kernel_rfl) (by kernel_rfl) ?_
  refine ord_quietL _ ?_ rfl hS rfl ?_ ?_
  rotate_left
  · rintro w' hS1; go_simp; first | rfl | (rw [if_pos (by omega)]; done) | (rw [if_pos (by omega)]; rfl) | (rw [if_pos (by omega)]; go_simp; rfl)
  simp only [Act.put, List.setIfInBounds_toArray, List.set_cons_zero, List.set_cons_succ]
  refine ord_quietL _ ?_ rfl hS rfl ?_ ?_
  rotate_left
  · rintro w' hS1; go_simp; first | rfl | (rw [if_pos (by omega)]; done) | (rw [if_pos (by omega)]; rfl) | (rw [if_pos (by omega)]; go_simp; rfl)
  simp only [Act.put, List.setIfInBounds_toArray, List.set_cons_zero, List.set_cons_succ]
  refine ord_quietL _ (.slice ao i cap) rfl hS rfl ?_ ?_
  · rintro w' hS1; go_simp
  simp only [Act.put, List.setIfInBounds_toArray, List.set_cons_zero, List.set_cons_succ]
  refine ord_quietL _ ?_ rfl hS rfl ?_ ?_
  rotate_left
  · rintro w' hS1; go_simp; first | rfl | (rw [if_pos (by omega)]; done) | (rw [if_pos (by omega)]; rfl) | (rw [if_pos (by omega)]; go_simp; rfl)
  simp only [Act.put, List.setIfInBounds_toArray, List.set_cons_zero, List.set_cons_succ]
  refine ord_quietL _ ?_ rfl hS rfl ?_ ?_
  rotate_left
  · rintro w' hS1; go_simp; first | rfl | (rw [if_pos (by omega)]; done) | (rw [if_pos (by omega)]; rfl) | (rw [if_pos (by omega)]; go_simp; rfl)
  simp only [Act.put, List.setIfInBounds_toArray, List.set_cons_zero, List.set_cons_succ]
  refine ord_quietL _ ?_ rfl hS rfl ?_ ?_
  rotate_left
  · rintro w' hS1; go_simp; first | rfl | (rw [if_pos (by omega)]; done) | (rw [if_pos (by omega)]; rfl) | (rw [if_pos (by omega)]; go_simp; rfl)
  simp only [Act.put, List.setIfInBounds_toArray, List.set_cons_zero, List.set_cons_succ]
  refine ord_quietL _ (.slice ab (ks.length - j) (cap - j)) rfl hS rfl ?_ ?_
  · rintro w' hS1; go_simp; rw [hab.out]; try simp
  simp only [Act.put, List.setIfInBounds_toArray, List.set_cons_zero, List.set_cons_succ]
  refine ord_actL _ rfl (fun K1 hK1 => ?_)
  go_wp2
  have hS2 : Nw w (w.drew.alloc (.cells #[.slice ao i cap, .slice ao2 os.length cap2, .slice ab (ks.length - j) (cap - j)] 88)) := nw_alloc hS _
  have hL := hs_lit w.drew #[.slice ao i cap, .slice ao2 os.length cap2, .slice ab (ks.length - j) (cap - j)] 88 3 (by omega)
  have hall : ∀ p ∈ ([(.slice ao i cap, (ks.take i).length, List.map kcell (ks.take i)), (.slice ao2 os.length cap2, os.length, List.map kcell os), (.slice ab (ks.length - j) (cap - j), (ks.drop j).length, List.map kcell (ks.drop j))] : List Part), PartOk 1 w p := by
    intro p hp
    simp only [List.mem_cons, List.not_mem_nil, or_false] at hp
    rcases hp with rfl | rfl | rfl
    · exact ks_ok hA (by simp; omega)
    · exact ks_ok ho hol
    · exact ks_ok hB (by simp; omega)
  refine hK1 _ _ hS2 ?_
  clear hK1 K1
  refine ord_actL _ rfl (fun K1 hK1 => ?_)
  go_wp2_with (go_at_call 98; refine (c_concatK (ps := [(.slice ao i cap, (ks.take i).length, List.map kcell (ks.take i)), (.slice ao2 os.length cap2, os.length, List.map kcell os), (.slice ab (ks.length - j) (cap - j), (ks.drop j).length, List.map kcell (ks.drop j))]) _ hL (fun p hp => (hall p hp).nw hS2) (by simp)).mono ?_; rintro e w3 ⟨u3, rfl, hr3, hn3⟩; refine stop_here ?_)
  unfold Hid
  go_wp2
  refine hK1 _ _ (nw_trans hS2 hn3) ?_
  clear hK1 K1
  refine ord_tail ?_
  simp only [List.drop_succ_cons, List.drop_zero]
  go_wp2
  go_ret
  refine ⟨_, rfl, ?_, nw_trans hS2 hn3⟩
  have := hs_of_owns hr3
  unfold Ks
  simpa [total, List.map_append, Nat.add_assoc] using this

set_option maxHeartbeats 1600000 in
theorem c_splicedE {v o : Value} {ks os : List Ext} {i j : Nat} (w : World) (h : Vs w v ks) (ho : Vs w o os) (hij : i ≤ j) (hj : j ≤ ks.length) (hk : ks.length ≤ 100) (hol : os.length ≤ 100) :
    Calls Try.prog 83 #[v, .int .i64 (i : Int), .int .i64 (j : Int), o] w fun e w' => ∃ u, e = .returned u ∧ Vs w' u (ks.take i ++ os ++ ks.drop j) ∧ Nw w w' := by
  obtain ⟨ao, cap, rfl, hc, hm⟩ := Hs.form h
  have hA := Vs.cut h 0 i (Nat.zero_le _) (by omega)
  have hB := Vs.cut h j ks.length hj (Nat.le_refl _)
  rw [List.drop_zero, Nat.sub_zero, sliced0] at hA
  rw [List.take_of_length_le (by simp)] at hB
  have hic : i ≤ cap := by omega
  obtain ⟨ab, hab⟩ : ∃ ab, Hid (ab = if cap = j then ao else Option.map (fun x => x.add (j * 2)) ao) := ⟨_, rfl⟩
  have hB : Vs w (.slice ab (ks.length - j) (cap - j)) (ks.drop j) := by rw [hab.out]; exact hB
  obtain ⟨ao2, cap2, rfl, hc2, hm2⟩ := Hs.form ho
  go_enter Try.func83, Try.ntmps83
  go_wp2
  have hS : (fun w' : World => Nw w w') w.drew := nw_drew (nw_refl w)
  refine wp_region_ord [] 9 [(0, true), (1, true), (2, true), (3, true), (4, true), (5, true), (6, true), (7, false), (8, false)] (fun w' : World => Nw w w') (by kernel_rfl) (by kernel_rfl) ?_
  refine ord_quietL _ ?_ rfl hS rfl ?_ ?_
  rotate_left
  · rintro w' hS1; go_simp; first | rfl | (rw [if_pos (by omega)]; done) | (rw [if_pos (by omega)]; rfl) | (rw [if_pos (by omega)]; go_simp; rfl)
  simp only [Act.put, List.setIfInBounds_toArray, List.set_cons_zero, List.set_cons_succ]
  refine ord_quietL _ ?_ rfl hS rfl ?_ ?_
  rotate_left
  · rintro w' hS1; go_simp; first | rfl | (rw [if_pos (by omega)]; done) | (rw [if_pos (by omega)]; rfl) | (rw [if_pos (by omega)]; go_simp; rfl)
  simp only [Act.put, List.setIfInBounds_toArray, List.set_cons_zero, List.set_cons_succ]
  refine ord_quietL _ (.slice ao i cap) rfl hS rfl ?_ ?_
  · rintro w' hS1; go_simp
  simp only [Act.put, List.setIfInBounds_toArray, List.set_cons_zero, List.set_cons_succ]
  refine ord_quietL _ ?_ rfl hS rfl ?_ ?_
  rotate_left
  · rintro w' hS1; go_simp; first | rfl | (rw [if_pos (by omega)]; done) | (rw [if_pos (by omega)]; rfl) | (rw [if_pos (by omega)]; go_simp; rfl)
  simp only [Act.put, List.setIfInBounds_toArray, List.set_cons_zero, List.set_cons_succ]
  refine ord_quietL _ ?_ rfl hS rfl ?_ ?_
  rotate_left
  · rintro w' hS1; go_simp; first | rfl | (rw [if_pos (by omega)]; done) | (rw [if_pos (by omega)]; rfl) | (rw [if_pos (by omega)]; go_simp; rfl)
  simp only [Act.put, List.setIfInBounds_toArray, List.set_cons_zero, List.set_cons_succ]
  refine ord_quietL _ ?_ rfl hS rfl ?_ ?_
  rotate_left
  · rintro w' hS1; go_simp; first | rfl | (rw [if_pos (by omega)]; done) | (rw [if_pos (by omega)]; rfl) | (rw [if_pos (by omega)]; go_simp; rfl)
  simp only [Act.put, List.setIfInBounds_toArray, List.set_cons_zero, List.set_cons_succ]
  refine ord_quietL _ (.slice ab (ks.length - j) (cap - j)) rfl hS rfl ?_ ?_
  · rintro w' hS1; go_simp; rw [hab.out]; try simp
  simp only [Act.put, List.setIfInBounds_toArray, List.set_cons_zero, List.set_cons_succ]
  refine ord_actL _ rfl (fun K1 hK1 => ?_)
  go_wp2
  have hS2 : Nw w (w.drew.alloc (.cells #[.slice ao i cap, .slice ao2 os.length cap2, .slice ab (ks.length - j) (cap - j)] 89)) := nw_alloc hS _
  have hL := hs_lit w.drew #[.slice ao i cap, .slice ao2 os.length cap2, .slice ab (ks.length - j) (cap - j)] 89 3 (by omega)
  have hall : ∀ p ∈ ([(.slice ao i cap, (ks.take i).length, ecells (ks.take i)), (.slice ao2 os.length cap2, os.length, ecells os), (.slice ab (ks.length - j) (cap - j), (ks.drop j).length, ecells (ks.drop j))] : List Part), PartOk 2 w p := by
    intro p hp
    simp only [List.mem_cons, List.not_mem_nil, or_false] at hp
    rcases hp with rfl | rfl | rfl
    · exact es_ok hA (by simp; omega)
    · exact es_ok ho hol
    · exact es_ok hB (by simp; omega)
  refine hK1 _ _ hS2 ?_
  clear hK1 K1
  refine ord_actL _ rfl (fun K1 hK1 => ?_)
  go_wp2_with (go_at_call 99; refine (c_concatE (ps := [(.slice ao i cap, (ks.take i).length, ecells (ks.take i)), (.slice ao2 os.length cap2, os.length, ecells os), (.slice ab (ks.length - j) (cap - j), (ks.drop j).length, ecells (ks.drop j))]) _ hL (fun p hp => (hall p hp).nw hS2) (by simp)).mono ?_; rintro e w3 ⟨u3, rfl, hr3, hn3⟩; refine stop_here ?_)
  unfold Hid
  go_wp2
  refine hK1 _ _ (nw_trans hS2 hn3) ?_
  clear hK1 K1
  refine ord_tail ?_
  simp only [List.drop_succ_cons, List.drop_zero]
  go_wp2
  go_ret
  refine ⟨_, rfl, ?_, nw_trans hS2 hn3⟩
  have := hs_of_owns hr3
  unfold Vs
  simpa [total, ecells_append, Nat.add_assoc] using this

set_option maxHeartbeats 1600000 in
theorem c_splicedP {v o : Value} {ks os : List Nat} {i j : Nat} (w : World) (h : Ps w v ks) (ho : Ps w o os) (hij : i ≤ j) (hj : j ≤ ks.length) (hk : ks.length ≤ 100) (hol : os.length ≤ 100) :
    Calls Try.prog 96 #[v, .int .i64 (i : Int), .int .i64 (j : Int), o] w fun e w' => ∃ u, e = .returned u ∧ Ps w' u (ks.take i ++ os ++ ks.drop j) ∧ Nw w w' := by
  obtain ⟨ao, cap, rfl, hc, hm⟩ := Hs.form h
  have hA := Ps.cut h 0 i (Nat.zero_le _) (by omega)
  have hB := Ps.cut h j ks.length hj (Nat.le_refl _)
  rw [List.drop_zero, Nat.sub_zero, sliced0] at hA
  rw [List.take_of_length_le (by simp)] at hB
  have hic : i ≤ cap := by omega
  obtain ⟨ab, hab⟩ : ∃ ab, Hid (ab = if cap = j then ao else Option.map (fun x => x.add (j * 1)) ao) := ⟨_, rfl⟩
  have hB : Ps w (.slice ab (ks.length - j) (cap - j)) (ks.drop j) := by rw [hab.out]; exact hB
  obtain ⟨ao2, cap2, rfl, hc2, hm2⟩ := Hs.form ho
  go_enter Try.func96, Try.ntmps96
  go_wp2
  have hS : (fun w' : World => Nw w w') w.drew := nw_drew (nw_refl w)
  refine wp_region_ord [] 9 [(0, true), (1, true), (2, true), (3, true), (4, true), (5, true), (6, true), (7, false), (8, false)] (fun w' : World => Nw w w') (by kernel_rfl) (by kernel_rfl) ?_
  refine ord_quietL _ ?_ rfl hS rfl ?_ ?_
  rotate_left
  · rintro w' hS1; go_simp; first | rfl | (rw [if_pos (by omega)]; done) | (rw [if_pos (by omega)]; rfl) | (rw [if_pos (by omega)]; go_simp; rfl)
  simp only [Act.put, List.setIfInBounds_toArray, List.set_cons_zero, List.set_cons_succ]
  refine ord_quietL _ ?_ rfl hS rfl ?_ ?_
  rotate_left
  · rintro w' hS1; go_simp; first | rfl | (rw [if_pos (by omega)]; done) | (rw [if_pos (by omega)]; rfl) | (rw [if_pos (by omega)]; go_simp; rfl)
  simp only [Act.put, List.setIfInBounds_toArray, List.set_cons_zero, List.set_cons_succ]
  refine ord_quietL _ (.slice ao i cap) rfl hS rfl ?_ ?_
  · rintro w' hS1; go_simp
  simp only [Act.put, List.setIfInBounds_toArray, List.set_cons_zero, List.set_cons_succ]
  refine ord_quietL _ ?_ rfl hS rfl ?_ ?_
  rotate_left
  · rintro w' hS1; go_simp; first | rfl | (rw [if_pos (by omega)]; done) | (rw [if_pos (by omega)]; rfl) | (rw [if_pos (by omega)]; go_simp; rfl)
  simp only [Act.put, List.setIfInBounds_toArray, List.set_cons_zero, List.set_cons_succ]
  refine ord_quietL _ ?_ rfl hS rfl ?_ ?_
  rotate_left
  · rintro w' hS1; go_simp; first | rfl | (rw [if_pos (by omega)]; done) | (rw [if_pos (by omega)]; rfl) | (rw [if_pos (by omega)]; go_simp; rfl)
  simp only [Act.put, List.setIfInBounds_toArray, List.set_cons_zero, List.set_cons_succ]
  refine ord_quietL _ ?_ rfl hS rfl ?_ ?_
  rotate_left
  · rintro w' hS1; go_simp; first | rfl | (rw [if_pos (by omega)]; done) | (rw [if_pos (by omega)]; rfl) | (rw [if_pos (by omega)]; go_simp; rfl)
  simp only [Act.put, List.setIfInBounds_toArray, List.set_cons_zero, List.set_cons_succ]
  refine ord_quietL _ (.slice ab (ks.length - j) (cap - j)) rfl hS rfl ?_ ?_
  · rintro w' hS1; go_simp; rw [hab.out]; try simp
  simp only [Act.put, List.setIfInBounds_toArray, List.set_cons_zero, List.set_cons_succ]
  refine ord_actL _ rfl (fun K1 hK1 => ?_)
  go_wp2
  have hS2 : Nw w (w.drew.alloc (.cells #[.slice ao i cap, .slice ao2 os.length cap2, .slice ab (ks.length - j) (cap - j)] 93)) := nw_alloc hS _
  have hL := hs_lit w.drew #[.slice ao i cap, .slice ao2 os.length cap2, .slice ab (ks.length - j) (cap - j)] 93 3 (by omega)
  have hall : ∀ p ∈ ([(.slice ao i cap, (ks.take i).length, List.map pcell (ks.take i)), (.slice ao2 os.length cap2, os.length, List.map pcell os), (.slice ab (ks.length - j) (cap - j), (ks.drop j).length, List.map pcell (ks.drop j))] : List Part), PartOk 1 w p := by
    intro p hp
    simp only [List.mem_cons, List.not_mem_nil, or_false] at hp
    rcases hp with rfl | rfl | rfl
    · exact ps_ok hA (by simp; omega)
    · exact ps_ok ho hol
    · exact ps_ok hB (by simp; omega)
  refine hK1 _ _ hS2 ?_
  clear hK1 K1
  refine ord_actL _ rfl (fun K1 hK1 => ?_)
  go_wp2_with (go_at_call 100; refine (c_concatP (ps := [(.slice ao i cap, (ks.take i).length, List.map pcell (ks.take i)), (.slice ao2 os.length cap2, os.length, List.map pcell os), (.slice ab (ks.length - j) (cap - j), (ks.drop j).length, List.map pcell (ks.drop j))]) _ hL (fun p hp => (hall p hp).nw hS2) (by simp)).mono ?_; rintro e w3 ⟨u3, rfl, hr3, hn3⟩; refine stop_here ?_)
  unfold Hid
  go_wp2
  refine hK1 _ _ (nw_trans hS2 hn3) ?_
  clear hK1 K1
  refine ord_tail ?_
  simp only [List.drop_succ_cons, List.drop_zero]
  go_wp2
  go_ret
  refine ⟨_, rfl, ?_, nw_trans hS2 hn3⟩
  have := hs_of_owns hr3
  unfold Ps
  simpa [total, List.map_append, Nat.add_assoc] using this
end Go.Proofs.Ytnljfhjindenpab
