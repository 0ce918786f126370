/-
  Package label: turned, Raise, Lower.
-/
import Derived.Test.YtimgelekpghklaaLabD7
namespace Go.Proofs.Ytimgelekpghklaa
set_option linter.unusedVariables false
set_option linter.unusedSimpArgs false
set_option maxRecDepth 20000
open Go.RowKit

def tn (a b x : Int) : Int := if x = a then b else x
def tnC (a b : Int) (c : Cat) : Cat := (c.1, tn a b c.2)

theorem lev_tn (a b d id : Int) : ∀ xs : List Cat, lev (tn a b d) (xs.map (tnC a b)) id = tn a b (lev d xs id)
  | [] => rfl
  | c :: r => by
    rw [List.map_cons, lev, lev]
    show (if c.1 = id then tn a b c.2 else _) = _
    split
    · rfl
    · exact lev_tn a b d id r

theorem c_turn (a b x : Int) (p q : Nat) (w : World) (h1 : w.cell? ⟨p, 0, none⟩ = some (.int .i64 a)) (h2 : w.cell? ⟨q, 0, none⟩ = some (.int .i64 b)) : Calls Try.prog 58 #[.int .i64 x, .pointer (some ⟨p, 0, none⟩), .pointer (some ⟨q, 0, none⟩)] w fun e w' => e = .returned (.int .i64 (tn a b x)) ∧ w = w' := by
  by_cases hx : x = a
  · have hb : (x == a) = true := by simp [hx]
    have ht : Hid (tn a b x = b) := by unfold Hid tn; rw [if_pos hx]
    clear hx
    go_enter Try.func58, Try.ntmps58
    go_wp2
    go_ret
    exact ⟨by rw [ht.out]; rfl, rfl⟩
  · have hb : (x == a) = false := by simp [hx]
    have ht : Hid (tn a b x = x) := by unfold Hid tn; rw [if_neg hx]
    clear hx
    go_enter Try.func58, Try.ntmps58
    go_wp2
    go_ret
    exact ⟨by rw [ht.out]; rfl, rfl⟩

/-- The categories of the label that is turned, so far. -/
def TnAt (a b : Int) (xs : List Cat) (k : Nat) : List Cat := (xs.take k).map (tnC a b) ++ List.replicate (xs.length - k) (0, 0)

theorem tn_length (a b : Int) (xs : List Cat) (k : Nat) (h : k ≤ xs.length) : (TnAt a b xs k).length = xs.length := by simp [TnAt]; omega

theorem tn_set (a b : Int) (xs : List Cat) (k : Nat) (h : k < xs.length) : (TnAt a b xs k).set k (tnC a b xs[k]) = TnAt a b xs (k + 1) := by
  unfold TnAt
  rw [List.take_succ_eq_append_getElem h, List.map_append, show xs.length - k = (xs.length - (k + 1)) + 1 by omega, List.replicate_succ, List.set_append, if_neg (by simp; omega)]
  simp [Nat.min_eq_left (Nat.le_of_lt h)]

theorem madeCells_cat (n : Nat) : (madeCells (Value.agg #[.int .u64 0, .int .i64 0]).cells (n * 2)).toList = ccells (List.replicate n (0, 0)) := zeroCells_two n

theorem run_make_cat (n : Nat) (hn : n ≤ 8796093022208) (w : World) : (Instr.makeSlice 22 (.int .i64 (n : Int)) (.int .i64 (n : Int))).run Try.prog w = .ok (.slice (some ⟨w.heap.size, 0, none⟩) n n) (w.alloc (.cells (ccells (List.replicate n (0, 0))).toArray 33)) := by
  obtain ⟨i0, hi, hiz, his, hib⟩ := info_parts3 Try.infoC
  have hr := run_make (P := Try.prog) w 22 33 i0 (.agg #[.int .u64 0, .int .i64 0]) Try.underlying22 hi hiz .i64 .i64 (n : Int) (n : Int) (by omega) (by omega) (by rw [hib]; omega) (by omega)
  rw [his, Int.toNat_natCast] at hr
  rw [hr]
  congr 2
  congr 1
  apply Array.toList_inj.1
  exact madeCells_cat n

set_option maxHeartbeats 3200000 in
theorem c_turned {X : Nat → Prop} {v : Value} {xs : List Cat} (d a b : Int) (w : World) (h : CSl X w v xs) (hl : xs.length ≤ 8796093022208) :
    Calls Try.prog 49 #[labV d v, .int .i64 a, .int .i64 b] w (MadeL w (tn a b d) (fun id => tn a b (lev d xs id)) xs.length) := by
  have hmf : ∀ (fn : Fn) (first cap : Array Value) (w : World), (Instr.makeFunc fn first cap).run Try.prog w = .ok (.func fn first cap) w := fun _ _ _ _ => rfl
  obtain ⟨ao, cap, rfl, ha1, ha2⟩ := h.form
  have hmk := run_make_cat xs.length hl
  have h' := h.mono (X' := fun b => b < w.heap.size) (fun b _ h => h)
  clear h
  obtain ⟨W, hW⟩ : ∃ W, Hid (W = ((((w.alloc (.cells #[.int .i64 d, .slice ao xs.length cap] 24)).alloc (.cells #[.int .i64 a] 3)).alloc (.cells #[.int .i64 b] 3)).alloc (.cells #[.int .i64 0, .slice none 0 0] 24)).alloc (.cells (ccells (List.replicate xs.length (0, 0))).toArray 33)) := ⟨_, rfl⟩
  have hnw : Nw w W := by rw [hW.out]; exact nw_alloc (nw_alloc (nw_alloc (nw_alloc (nw_alloc (nw_refl w) _) _) _) _) _
  have hA : W.heap[w.heap.size]? = some (.cells #[.int .i64 d, .slice ao xs.length cap] 24 (0, 0)) := by
    rw [hW.out, Below.heap_alloc _ _ _ (by simp; try omega), Below.heap_alloc _ _ _ (by simp; try omega), Below.heap_alloc _ _ _ (by simp; try omega)]; exact heap_alloc2_old w _ _
  have hP : W.heap[w.heap.size + 1]? = some (.cells #[.int .i64 a] 3 (0, 0)) := by
    rw [hW.out, Below.heap_alloc _ _ _ (by simp; try omega), Below.heap_alloc _ _ _ (by simp; try omega), Below.heap_alloc _ _ _ (by simp; try omega)]; exact heap_alloc2_new w _ _
  have hQ : W.heap[w.heap.size + 1 + 1]? = some (.cells #[.int .i64 b] 3 (0, 0)) := by
    rw [hW.out, Below.heap_alloc _ _ _ (by simp; try omega), Below.heap_alloc _ _ _ (by simp; try omega)]
    have := heap_alloc_new ((w.alloc (.cells #[.int .i64 d, .slice ao xs.length cap] 24)).alloc (.cells #[.int .i64 a] 3)) (.cells #[.int .i64 b] 3)
    simpa using this
  have hZ : W.heap[w.heap.size + 1 + 1 + 1]? = some (.cells #[.int .i64 0, .slice none 0 0] 24 (0, 0)) := by
    rw [hW.out, Below.heap_alloc _ _ _ (by simp; try omega)]
    have := heap_alloc_new (((w.alloc (.cells #[.int .i64 d, .slice ao xs.length cap] 24)).alloc (.cells #[.int .i64 a] 3)).alloc (.cells #[.int .i64 b] 3)) (.cells #[.int .i64 0, .slice none 0 0] 24)
    simpa using this
  have hG : CB W (w.heap.size + 1 + 1 + 1 + 1) (TnAt a b xs 0) [] := by
    unfold CB TnAt
    rw [hW.out]
    have := heap_alloc_new ((((w.alloc (.cells #[.int .i64 d, .slice ao xs.length cap] 24)).alloc (.cells #[.int .i64 a] 3)).alloc (.cells #[.int .i64 b] 3)).alloc (.cells #[.int .i64 0, .slice none 0 0] 24)) (.cells (ccells (List.replicate xs.length (0, 0))).toArray 33)
    simpa using this
  have hW1 : Hid (W = ((((w.alloc (.cells #[.int .i64 d, .slice ao xs.length cap] 24)).alloc (.cells #[.int .i64 a] 3)).alloc (.cells #[.int .i64 b] 3)).alloc (.cells #[.int .i64 0, .slice none 0 0] 24)).alloc (.cells (ccells (List.replicate xs.length (0, 0))).toArray 33)) := hW
  unfold labV
  have hlc : Hid (xs.length ≤ 8796093022208) := hl
  go_enter Try.func49, Try.ntmps49
  go_upto_region 3 with fail
  rw [← hW.out]
  clear hmk hW hW1
  have a1 : W.cell? ⟨w.heap.size, 1, none⟩ = some (.slice ao xs.length cap) := cell_blk hA rfl
  go_wp2
  clear a1
  generalize hN : w.heap.size = N at *
  replace hN : Hid _ := hN
  go_loopw [19] (fun kv wr => ∃ k : Nat, k ≤ xs.length ∧ kv = .int .i64 k ∧ CB wr (N + 1 + 1 + 1 + 1) (TnAt a b xs k) [] ∧ Fr (fun q => q = N + 1 + 1 + 1 + 1) W wr) (fun kv _ => xs.length - (intOf kv).toNat)
  case atStart => exact ⟨0, Nat.zero_le _, rfl, hG, Fr.refl _ _⟩
  case round =>
    clear hG
    obtain ⟨k, hk, rfl, hcb, hfr⟩ := hrel
    have hcs := (h'.nw hnw).keep (X' := fun b => b < N) hfr (fun q hq _ h => by omega) (fun q hq _ => hq)
    have hPr := (hfr.block _ (heap_lt hP) (by omega)).trans hP
    have hQr := (hfr.block _ (heap_lt hQ) (by omega)).trans hQ
    have hZr := (hfr.block _ (heap_lt hZ) (by omega)).trans hZ
    have hAr := (hfr.block _ (heap_lt hA) (by omega)).trans hA
    by_cases hlt : k < xs.length
    · obtain ⟨q, off, rfl, _, d1, d2⟩ := hcs.get k hlt
      have hst := tn_set a b xs k hlt
      have htl := tn_length a b xs k (by omega)
      generalize xs[k] = c at *
      have hV : (wr.alloc (.cells #[.int .u64 c.1, .int .i64 c.2] 33)).heap[wr.heap.size]? = some (.cells #[.int .u64 c.1, .int .i64 c.2] 33 (0, 0)) := heap_alloc_new wr _
      have hcbA := hcb.nw (nw_alloc (nw_refl wr) (.cells #[.int .u64 c.1, .int .i64 c.2] 33))
      have hfrA := hfr.alloc (.cells #[.int .u64 c.1, .int .i64 c.2] 33)
      have hPA := (Below.heap_alloc wr (.cells #[.int .u64 c.1, .int .i64 c.2] 33) _ (heap_lt hPr)).trans hPr
      have hQA := (Below.heap_alloc wr (.cells #[.int .u64 c.1, .int .i64 c.2] 33) _ (heap_lt hQr)).trans hQr
      clear hcb hfr hPr hQr hZr hAr hcs
      go_upto_region 6 with fail
      generalize wr.alloc (.cells #[.int .u64 c.1, .int .i64 c.2] 33) = U at *
      generalize wr.heap.size = V at *
      clear d1 d2
      have v0 : U.cell? ⟨V, 0, none⟩ = some (.int .u64 c.1) := cell_blk hV rfl
      have v1 : U.cell? ⟨V, 1, none⟩ = some (.int .i64 c.2) := cell_blk hV rfl
      have p0 : U.cell? ⟨N + 1, 0, none⟩ = some (.int .i64 a) := cell_blk hPA rfl
      have p1 : U.cell? ⟨N + 1 + 1, 0, none⟩ = some (.int .i64 b) := cell_blk hQA rfl
      have hcon : Hid _ := c_turn a b c.2 (N + 1) (N + 1 + 1) U.drew p0 p1
      have hS : (fun w' : World => w'.cell? ⟨V, 0, none⟩ = some (.int .u64 c.1) ∧ w'.cell? ⟨V, 1, none⟩ = some (.int .i64 c.2)) U.drew := ⟨v0, v1⟩
      have hcb4 := hcbA.set k (by rw [htl]; exact hlt) (tnC a b c)
      rw [hst] at hcb4
      have hcb4 : Hid _ := hcb4
      unfold tnC at hcb4
      obtain ⟨e1, e2⟩ := hcbA.gets k (by rw [htl]; exact hlt)
      generalize gt (TnAt a b xs k) k = z at *
      have f1 : ∀ k, U.frozen? ⟨N + 1 + 1 + 1 + 1, k, none⟩ = false := fun k => hcbA.free k
      have hfr4 : Hid (∀ u1 u2, Fr (fun q => q = N + 1 + 1 + 1 + 1) W ((U.drew.setCell ⟨N + 1 + 1 + 1 + 1, k * 2, none⟩ u1).setCell ⟨N + 1 + 1 + 1 + 1, k * 2 + 1, none⟩ u2)) := fun u1 u2 => (hfrA.drew.setCell (p := ⟨N + 1 + 1 + 1 + 1, _, none⟩) (.inl rfl) _).setCell (p := ⟨N + 1 + 1 + 1 + 1, _, none⟩) (.inl rfl) _
      generalize tn a b c.2 = t at *
      clear hst htl hV hcbA hfrA hPA hQA p0 p1
      refine wp_region_ord [] 9 [(0, true), (1, true), (2, true), (3, true), (4, true), (5, true), (6, true), (7, false), (8, true)] (fun w' : World => w'.cell? ⟨V, 0, none⟩ = some (.int .u64 c.1) ∧ w'.cell? ⟨V, 1, none⟩ = some (.int .i64 c.2)) (by kernel_rfl) (by kernel_rfl) ?_
      refine ord_quietL _ ?_ rfl hS rfl ?_ ?_
      rotate_left
      · rintro w' ⟨hS1, hS2⟩; go_simp; first | rfl | (rw [if_pos (by omega)]; done) | (rw [if_pos (by omega)]; rfl) | (rw [if_pos (by omega)]; go_simp; rfl)
      simp only [Act.put, List.setIfInBounds_toArray, List.set_cons_zero, List.set_cons_succ]
      refine ord_quietL _ ?_ rfl hS rfl ?_ ?_
      rotate_left
      · rintro w' ⟨hS1, hS2⟩; go_simp; first | rfl | (rw [if_pos (by omega)]; done) | (rw [if_pos (by omega)]; rfl) | (rw [if_pos (by omega)]; go_simp; rfl)
      simp only [Act.put, List.setIfInBounds_toArray, List.set_cons_zero, List.set_cons_succ]
      refine ord_quietL _ ?_ rfl hS rfl ?_ ?_
      rotate_left
      · rintro w' ⟨hS1, hS2⟩; go_simp; first | rfl | (rw [if_pos (by omega)]; done) | (rw [if_pos (by omega)]; rfl) | (rw [if_pos (by omega)]; go_simp; rfl)
      simp only [Act.put, List.setIfInBounds_toArray, List.set_cons_zero, List.set_cons_succ]
      refine ord_quietL _ ?_ rfl hS rfl ?_ ?_
      rotate_left
      · rintro w' ⟨hS1, hS2⟩; go_simp; first | rfl | (rw [if_pos (by omega)]; done) | (rw [if_pos (by omega)]; rfl) | (rw [if_pos (by omega)]; go_simp; rfl)
      simp only [Act.put, List.setIfInBounds_toArray, List.set_cons_zero, List.set_cons_succ]
      refine ord_quietL _ ?_ rfl hS rfl ?_ ?_
      rotate_left
      · rintro w' ⟨hS1, hS2⟩; go_simp; first | rfl | (rw [if_pos (by omega)]; done) | (rw [if_pos (by omega)]; rfl) | (rw [if_pos (by omega)]; go_simp; rfl)
      simp only [Act.put, List.setIfInBounds_toArray, List.set_cons_zero, List.set_cons_succ]
      refine ord_quietL _ ?_ rfl hS rfl ?_ ?_
      rotate_left
      · rintro w' ⟨hS1, hS2⟩; go_simp; first | rfl | (rw [if_pos (by omega)]; done) | (rw [if_pos (by omega)]; rfl) | (rw [if_pos (by omega)]; go_simp; rfl)
      simp only [Act.put, List.setIfInBounds_toArray, List.set_cons_zero, List.set_cons_succ]
      refine ord_quietL _ ?_ rfl hS rfl ?_ ?_
      rotate_left
      · rintro w' ⟨hS1, hS2⟩; go_simp; first | rfl | (rw [if_pos (by omega)]; done) | (rw [if_pos (by omega)]; rfl) | (rw [if_pos (by omega)]; go_simp; rfl)
      simp only [Act.put, List.setIfInBounds_toArray, List.set_cons_zero, List.set_cons_succ]
      refine ord_actL _ rfl (fun K1 hK1 => ?_)
      go_wp2_with (go_at_call 58; refine Calls.mono hcon.out ?_; rintro e w3 ⟨rfl, rfl⟩)
      refine hK1 _ _ hS ?_
      clear hK1 K1
      refine ord_quietL _ ?_ rfl hS rfl ?_ ?_
      rotate_left
      · rintro w' ⟨hS1, hS2⟩; go_simp; first | rfl | (rw [if_pos (by omega)]; done) | (rw [if_pos (by omega)]; rfl) | (rw [if_pos (by omega)]; go_simp; rfl)
      simp only [Act.put, List.setIfInBounds_toArray, List.set_cons_zero, List.set_cons_succ]
      refine ord_tail ?_
      simp only [List.drop_succ_cons, List.drop_zero]
      have g1 : U.drew.cell? ⟨N + 1 + 1 + 1 + 1, k * 2, none⟩ = some (.int .u64 z.1) := e1
      have g2 : U.drew.cell? ⟨N + 1 + 1 + 1 + 1, k * 2 + 1, none⟩ = some (.int .i64 z.2) := e2
      have f2 : ∀ k, U.drew.frozen? ⟨N + 1 + 1 + 1 + 1, k, none⟩ = false := f1
      go_wp2
      go_roundw
      case rel => exact ⟨k + 1, by omega, by go_num, hcb4.out, hfr4.out _ _⟩
      case measure => simp [intOf]; omega
    · have hkn : k = xs.length := by omega
      have hxs : TnAt a b xs k = xs.map (tnC a b) := by unfold TnAt; rw [hkn, List.take_length, Nat.sub_self]; simp
      rw [hxs] at hcb
      have hmk2 : MkAt (N + 1 + 1 + 1 + 1) wr (.slice (some ⟨N + 1 + 1 + 1 + 1, 0, none⟩) xs.length xs.length) (xs.map (tnC a b)) := .inr ⟨_, _, _, _, rfl, by unfold Hid; simp, Nat.le_refl _, by have := hlc.out; omega, Nat.le_refl _, hcb⟩
      have hnwr : Nw w wr := Fr.trans hnw hfr (fun q hq => .inr (by rw [hN.out]; omega))
      have p0 : wr.cell? ⟨N + 1, 0, none⟩ = some (.int .i64 a) := cell_blk hPr rfl
      have p1 : wr.cell? ⟨N + 1 + 1, 0, none⟩ = some (.int .i64 b) := cell_blk hQr rfl
      have a0 : wr.cell? ⟨N, 0, none⟩ = some (.int .i64 d) := cell_blk hAr rfl
      have hcon1 : Hid _ := c_turn a b d (N + 1) (N + 1 + 1) wr p0 p1
      have hcon2 : Hid _ := c_make (tn a b d) wr hmk2.csl (by rw [List.length_map]; exact hlc.out)
      have hlv : Hid (∀ id, lev (tn a b d) (xs.map (tnC a b)) id = tn a b (lev d xs id)) := fun id => lev_tn a b d id xs
      clear hcb hfr hPr hQr hAr hcs hmk2 hA hP hQ hxs
      generalize ht : tn a b d = t at *
      replace ht : Hid _ := ht
      go_wp2_with (first | (go_at_call 58; refine Calls.mono hcon1.out ?_; rintro e w3 ⟨rfl, rfl⟩) | (go_at_call 28; refine Calls.mono hcon2.out ?_; rintro e w2 ⟨u, ys, rfl, q1, q2, q3, q4, q5⟩; refine stop_here ?_))
      unfold Hid labV
      obtain ⟨hans, hrr, z0, z1, zf⟩ := store_made (B := N + 1 + 1 + 1) (f := fun id => tn a b (lev d xs id)) (N := xs.length) hnwr hZr (Nat.le_refl _) (by rw [hN.out]; omega) q1 q2 (fun id => (q3 id).trans (hlv.out id)) (by rw [List.length_map] at q4; exact q4) q5
      obtain ⟨ua, uc, rfl, _, _⟩ := q1.form
      replace hans : Hid _ := hans
      clear q1 q2 q3 q4 q5 hZr hnwr hcon1 hcon2 hZ
      go_wp2
      refine bodyPost_ret (results_cell1 rfl _ (N + 1 + 1 + 1) _ _ rfl rfl hrr Try.rowL Try.sizeL) rfl ?_
      have ht := ht.out
      subst ht
      exact hans.out
set_option maxHeartbeats 1600000 in
theorem c_raise {X : Nat → Prop} {v : Value} {xs : List Cat} (d : Int) (w : World) (h : CSl X w v xs) (hl : xs.length ≤ 8796093022208) :
    Calls Try.prog 29 #[labV d v] w (MadeL w (tn 0 5 d) (fun id => tn 0 5 (lev d xs id)) xs.length) := by
  obtain ⟨ao, cap, rfl, ha1, ha2⟩ := h.form
  have hA : ((w.alloc (.cells #[.int .i64 d, .slice ao xs.length cap] 24)).alloc (.cells #[.int .i64 0, .slice none 0 0] 24)).heap[w.heap.size]? = some (.cells #[.int .i64 d, .slice ao xs.length cap] 24 (0, 0)) := heap_alloc2_old w _ _
  have hZ : ((w.alloc (.cells #[.int .i64 d, .slice ao xs.length cap] 24)).alloc (.cells #[.int .i64 0, .slice none 0 0] 24)).heap[w.heap.size + 1]? = some (.cells #[.int .i64 0, .slice none 0 0] 24 (0, 0)) := heap_alloc2_new w _ _
  have hnw : Nw w ((w.alloc (.cells #[.int .i64 d, .slice ao xs.length cap] 24)).alloc (.cells #[.int .i64 0, .slice none 0 0] 24)) := nw_alloc (nw_alloc (nw_refl w) _) _
  have hcon : Hid _ := c_turned d 0 5 _ (h.nw hnw) hl
  clear h
  unfold labV at *
  go_enter Try.func29, Try.ntmps29
  go_upto_region 1 with fail
  generalize (w.alloc (.cells #[.int .i64 d, .slice ao xs.length cap] 24)).alloc (.cells #[.int .i64 0, .slice none 0 0] 24) = W at *
  have a0 : W.cell? ⟨w.heap.size, 0, none⟩ = some (.int .i64 d) := cell_blk hA rfl
  have a1 : W.cell? ⟨w.heap.size, 1, none⟩ = some (.slice ao xs.length cap) := cell_blk hA rfl
  generalize ht : tn 0 5 d = t at *
  replace ht : Hid _ := ht
  go_wp2_with (go_at_call 49; refine Calls.mono hcon.out ?_; rintro e w2 ⟨u, ys, rfl, q1, q2, q3, q4, q5⟩; refine stop_here ?_)
  unfold Hid labV
  clear hcon a0 a1
  obtain ⟨hans, hrr, z0, z1, zf⟩ := store_made (B := w.heap.size + 1) hnw hZ (Nat.le_refl _) (by omega) q1 q2 q3 q4 q5
  obtain ⟨ua, uc, rfl, _, _⟩ := q1.form
  replace hans : Hid _ := hans
  clear q1 q2 q3 q4 q5 hZ hnw hA
  go_wp2
  refine bodyPost_ret (results_cell1 rfl _ (w.heap.size + 1) _ _ rfl rfl hrr Try.rowL Try.sizeL) rfl ?_
  have ht := ht.out
  subst ht
  exact hans.out

set_option maxHeartbeats 1600000 in
theorem c_lower {X : Nat → Prop} {v : Value} {xs : List Cat} (d : Int) (w : World) (h : CSl X w v xs) (hl : xs.length ≤ 8796093022208) :
    Calls Try.prog 35 #[labV d v] w (MadeL w (tn 5 0 d) (fun id => tn 5 0 (lev d xs id)) xs.length) := by
  obtain ⟨ao, cap, rfl, ha1, ha2⟩ := h.form
  have hA : ((w.alloc (.cells #[.int .i64 d, .slice ao xs.length cap] 24)).alloc (.cells #[.int .i64 0, .slice none 0 0] 24)).heap[w.heap.size]? = some (.cells #[.int .i64 d, .slice ao xs.length cap] 24 (0, 0)) := heap_alloc2_old w _ _
  have hZ : ((w.alloc (.cells #[.int .i64 d, .slice ao xs.length cap] 24)).alloc (.cells #[.int .i64 0, .slice none 0 0] 24)).heap[w.heap.size + 1]? = some (.cells #[.int .i64 0, .slice none 0 0] 24 (0, 0)) := heap_alloc2_new w _ _
  have hnw : Nw w ((w.alloc (.cells #[.int .i64 d, .slice ao xs.length cap] 24)).alloc (.cells #[.int .i64 0, .slice none 0 0] 24)) := nw_alloc (nw_alloc (nw_refl w) _) _
  have hcon : Hid _ := c_turned d 5 0 _ (h.nw hnw) hl
  clear h
  unfold labV at *
  go_enter Try.func35, Try.ntmps35
  go_upto_region 1 with fail
  generalize (w.alloc (.cells #[.int .i64 d, .slice ao xs.length cap] 24)).alloc (.cells #[.int .i64 0, .slice none 0 0] 24) = W at *
  have a0 : W.cell? ⟨w.heap.size, 0, none⟩ = some (.int .i64 d) := cell_blk hA rfl
  have a1 : W.cell? ⟨w.heap.size, 1, none⟩ = some (.slice ao xs.length cap) := cell_blk hA rfl
  generalize ht : tn 5 0 d = t at *
  replace ht : Hid _ := ht
  go_wp2_with (go_at_call 49; refine Calls.mono hcon.out ?_; rintro e w2 ⟨u, ys, rfl, q1, q2, q3, q4, q5⟩; refine stop_here ?_)
  unfold Hid labV
  clear hcon a0 a1
  obtain ⟨hans, hrr, z0, z1, zf⟩ := store_made (B := w.heap.size + 1) hnw hZ (Nat.le_refl _) (by omega) q1 q2 q3 q4 q5
  obtain ⟨ua, uc, rfl, _, _⟩ := q1.form
  replace hans : Hid _ := hans
  clear q1 q2 q3 q4 q5 hZ hnw hA
  go_wp2
  refine bodyPost_ret (results_cell1 rfl _ (w.heap.size + 1) _ _ rfl rfl hrr Try.rowL Try.sizeL) rfl ?_
  have ht := ht.out
  subst ht
  exact hans.out
end Go.Proofs.Ytimgelekpghklaa
