/-
  An act done with a disk.
-/
import Derived.Test.YtmhojkbnfiknpaaL1
namespace Go.Proofs.Ytmhojkbnfiknpaa
set_option linter.unusedVariables false
set_option linter.unusedSimpArgs false
open Go.RowKit

def Dk.act (D : Dk) (a : Actt) : Dk :=
  if a.kind = 1 then D.write a.place a.data else if a.kind = 2 then D.flush else if a.kind = 3 then D.brk a.place else if a.kind = 4 then D.crash a.keep a.place a.cut else D
def Dk.ans (D : Dk) (a : Actt) : List UInt8 := if a.kind = 0 then D.read a.place else z128
def Dk.rerr (D : Dk) (i : Int) : Int := if D.has i = true then 0 else 41
def Dk.aerr (D : Dk) (a : Actt) : Int := if a.kind = 0 then D.rerr a.place else if a.kind = 1 then D.werr a.place else if a.kind = 2 then D.ferr else 0

theorem Dk.Ok.ans {D : Dk} (h : D.Ok) (a : Actt) : (D.ans a).length = 128 := by
  unfold Dk.ans
  split
  · exact h.read _
  · exact z128_length

theorem done_do {base : Nat} {w W w3 : World} {b R : Nat} {S : Nat → Prop} {D' : Dk} (hf : Nw w W) (hx : Done base W b S D' w3) (hR : w.heap.size ≤ R) (hRW : R < W.heap.size) (hS : ¬ S R) (cs : Array Value) : Done base w b S D' (w3.setRow R cs) := by
  obtain ⟨S', hd, hfr, hn⟩ := hx
  have hS' : ¬ S' R := fun h => by
    rcases hn R h with h1 | h1
    · exact hS h1
    · omega
  have hf6 : Fr (fun k => k = R) w3 (w3.setRow R cs) := (Fr.refl (fun k => k = R) w3).setRow (.inl rfl) _
  have hsz := hf.size
  refine ⟨S', hd.keep hf6 (fun k hk e => hS' (e ▸ hk)), ((hf.mono (fun _ => False.elim)).trans hfr (fun _ h => .inl h)).trans hf6 (fun k e => .inr (by omega)), fun k hk => ?_⟩
  rcases hn k hk with h1 | h1
  · exact .inl h1
  · exact .inr (by omega)

theorem done_refl {base : Nat} {w : World} {b : Nat} {S : Nat → Prop} {D : Dk} (h : DiskAt base w b S D) : Done base w b S D w := ⟨S, h, Fr.refl _ _, fun _ h => .inl h⟩

theorem done_nw {base : Nat} {w W : World} {b : Nat} {S : Nat → Prop} {D : Dk} (h : DiskAt base w b S D) (hf : Nw w W) : Done base w b S D W := ⟨S, h.keep hf (fun _ _ => id), hf.mono (fun _ => False.elim), fun _ h => .inl h⟩

theorem done_trans {base : Nat} {w w1 w2 : World} {b : Nat} {S : Nat → Prop} {D D' : Dk} (h : DiskAt base w b S D) (hf : Nw w w1) (hx : Done base w1 b S D' w2) : Done base w b S D' w2 := by
  obtain ⟨S', hd, hfr, hn⟩ := hx
  refine ⟨S', hd, (hf.mono (fun _ => False.elim)).trans hfr (fun _ h => .inl h), fun k hk => ?_⟩
  rcases hn k hk with h1 | h1
  · exact .inl h1
  · exact .inr (by have := hf.size; omega)

/-- The two variables that the function lays. -/
structure Laid (w W : World) (a : Actt) : Prop where
  var : W.heap[w.heap.size]? = some (.cells (acell a).toArray 36 (0, 0))
  res : W.heap[w.heap.size + 1]? = some (.cells (z128.map bv).toArray 33 (0, 0))
  fr : Nw w W
  size : W.heap.size = w.heap.size + 2

theorem laid (w : World) (a : Actt) : Laid w ((w.alloc (.cells (acell a).toArray 36)).alloc (.cells (z128.map bv).toArray 33)) a :=
  ⟨heap_alloc2_old w _ _, heap_alloc2_new w _ _, ((Fr.refl _ w).alloc _).alloc _, by simp⟩

theorem Try.info4 : (Try.prog.info? 4).map (fun i => (i.zero, i.size, i.bytes)) = some (some (.bool false), 1, 1) := by kernel_rfl
theorem info4 : ∃ i, Try.prog.info? 4 = some i ∧ i.zero = some (.bool false) ∧ i.size = 1 ∧ i.bytes = 1 := by
  have := Try.info4
  cases hq : Try.prog.info? 4 with
  | none => rw [hq] at this; cases this
  | some i => rw [hq] at this; exact ⟨i, rfl, by simpa using this⟩

theorem bool_oneCell (xs : List Bool) : ∀ u ∈ xs.map Value.bool, u.oneCell' = true := by
  intro u hu
  obtain ⟨x, _, rfl⟩ := List.mem_map.1 hu
  rfl

set_option maxHeartbeats 3200000 in
theorem c_do {base : Nat} {b K : Nat} {S : Nat → Prop} {D : Dk} (a : Actt) (w : World) (h : DiskAt base w b S D) (hok : a.Ok K w) (hK : K ≤ base) (hpl : D.pd.length ≤ 1000000) :
    Calls Try.prog 12 #[.pointer (some ⟨b, 0, none⟩), actv a] w fun e w' => e = .returned (.tuple #[sec (D.ans a), .int .i64 (D.aerr a)]) ∧ Done base w b S (D.act a) w' := by
  have hL := laid w a
  have hone := acell_oneCell hok
  have hdat := hok.d
  have hS0 : ¬ S w.heap.size := fun hs => by have := (h.ge _ hs).2; omega
  have hS1 : ¬ S (w.heap.size + 1) := fun hs => by have := (h.ge _ hs).2; omega
  have hans := h.ok.ans a
  have hd := h.keep hL.fr (fun _ _ => id)
  have hbz : base ≤ w.heap.size := by
    obtain ⟨g, vp, hg, _⟩ := h
    have := hg.bb
    have := heap_lt hg.obj
    omega
  generalize hW : (w.alloc (.cells (acell a).toArray 36)).alloc (.cells (z128.map bv).toArray 33) = W at *
  have hW : Hid ((w.alloc (.cells (acell a).toArray 36)).alloc (.cells (z128.map bv).toArray 33) = W) := hW
  obtain ⟨c0, c1, c2, c3, c4, -⟩ := act_cells hL.var hdat
  have hsz := hL.size
  have hz1 : (w.alloc (.cells (acell a).toArray 36)).heap.size = w.heap.size + 1 := by simp
  by_cases hk0 : a.kind = 0
  · have e0 : (a.kind == 0) = true := by simpa using hk0
    have q1 : D.ans a = D.read a.place := by unfold Dk.ans; simp [hk0]
    have q2 : D.aerr a = D.rerr a.place := by unfold Dk.aerr; simp [hk0]
    have q3 : D.act a = D := by unfold Dk.act; simp [hk0]
    rw [q1] at hans
    rw [q1, q2, q3]
    clear q1 q2 q3
    go_enter Try.func12, Try.ntmps12
    go_wp2_with (first
      | (refine wpList_box_agg rfl 36 _ rfl (actv a) _ rfl rfl ?_)
      | (refine wpList_alloc_agg rfl 33 rfl _ Try.zero33 ?_; rw [hW.out])
      | (go_at_call 26; refine stop_here ?_))
    unfold Hid
    refine (c_read a.place _ hd).mono ?_
    rw [show (if D.has a.place = true then (0 : Int) else 41) = D.rerr a.place from rfl]
    rintro e w3 ⟨rfl, hf3⟩
    have hx := done_nw hd hf3
    obtain ⟨S9, -, -, hoth⟩ := hx.other
    obtain ⟨hR3, -⟩ := hoth (w.heap.size + 1) (by omega) hS1
    replace hR3 := hR3.trans hL.res
    have hfin := done_do hL.fr hx (by omega) (by omega) hS1 ((D.read a.place).map bv).toArray
    clear hoth hx
    go_wp2_with (first
      | (refine wpList_build_as rfl 33 #[] rfl (sec z128) _ rfl Try.built33 ?_)
      | (refine wpList_store_all rfl 33 _ _ rfl (w.heap.size + 1) rfl (sec (D.read a.place)) rfl _ rfl _ 33 hR3 (sec_fit hans) (bv_oneCell _) (size33 hans) ?_))
    refine bodyPost_ret (results_cell2 rfl _ (w.heap.size + 1) _ _ rfl rfl (range_all (setRow_heap _ _ _ _ 33 _ hR3)) Try.row33 (size33 hans)) rfl ?_
    exact ⟨rfl, hfin⟩
  · skip
    by_cases hk1 : a.kind = 1
    · have e0 : (a.kind == 0) = false := by simpa using hk0
      have e1 : (a.kind == 1) = true := by simpa using hk1
      have q1 : D.ans a = z128 := by unfold Dk.ans; simp [hk0]
      have q2 : D.aerr a = D.werr a.place := by unfold Dk.aerr; simp [hk0, hk1]
      have q3 : D.act a = D.write a.place a.data := by unfold Dk.act; simp [hk0, hk1]
      rw [q1] at hans
      rw [q1, q2, q3]
      clear q1 q2 q3
      go_enter Try.func12, Try.ntmps12
      go_wp2_with (first
        | (refine wpList_box_agg rfl 36 _ rfl (actv a) _ rfl rfl ?_)
        | (refine wpList_alloc_agg rfl 33 rfl _ Try.zero33 ?_; rw [hW.out])
        | (refine wpList_build_as rfl 33 #[] rfl (sec z128) _ rfl Try.built33 ?_)
        | (refine wpList_load_as rfl 33 _ rfl w.heap.size 3 rfl (sec a.data) _ rfl c3 Try.row33 (size33 hdat) ?_)
        | (go_at_call 22; refine stop_here ?_))
      unfold Hid
      refine (c_write a.place a.data _ hd hdat hpl).mono ?_
      rintro e w3 ⟨rfl, hx⟩
      obtain ⟨S9, -, -, hoth⟩ := hx.other
      obtain ⟨hR3, -⟩ := hoth (w.heap.size + 1) (by omega) hS1
      replace hR3 := hR3.trans hL.res
      have hfin := done_do hL.fr hx (by omega) (by omega) hS1 ((z128).map bv).toArray
      clear hoth hx
      go_wp2_with (first
        | (refine wpList_build_as rfl 33 #[] rfl (sec z128) _ rfl Try.built33 ?_)
        | (refine wpList_store_all rfl 33 _ _ rfl (w.heap.size + 1) rfl (sec (z128)) rfl _ rfl _ 33 hR3 (sec_fit z128_length) (bv_oneCell _) (size33 z128_length) ?_))
      refine bodyPost_ret (results_cell2 rfl _ (w.heap.size + 1) _ _ rfl rfl (range_all (setRow_heap _ _ _ _ 33 _ hR3)) Try.row33 (size33 z128_length)) rfl ?_
      exact ⟨rfl, hfin⟩
    · skip
      by_cases hk2 : a.kind = 2
      · have e0 : (a.kind == 0) = false := by simpa using hk0
        have e1 : (a.kind == 1) = false := by simpa using hk1
        have e2 : (a.kind == 2) = true := by simpa using hk2
        have q1 : D.ans a = z128 := by unfold Dk.ans; simp [hk0]
        have q2 : D.aerr a = D.ferr := by unfold Dk.aerr; simp [hk0, hk1, hk2]
        have q3 : D.act a = D.flush := by unfold Dk.act; simp [hk0, hk1, hk2]
        rw [q1] at hans
        rw [q1, q2, q3]
        clear q1 q2 q3
        go_enter Try.func12, Try.ntmps12
        go_wp2_with (first
          | (refine wpList_box_agg rfl 36 _ rfl (actv a) _ rfl rfl ?_)
          | (refine wpList_alloc_agg rfl 33 rfl _ Try.zero33 ?_; rw [hW.out])
          | (refine wpList_build_as rfl 33 #[] rfl (sec z128) _ rfl Try.built33 ?_)
          | (go_at_call 23; refine stop_here ?_))
        unfold Hid
        refine (c_flush _ hd).mono ?_
        rintro e w3 ⟨rfl, hx⟩
        obtain ⟨S9, -, -, hoth⟩ := hx.other
        obtain ⟨hR3, -⟩ := hoth (w.heap.size + 1) (by omega) hS1
        replace hR3 := hR3.trans hL.res
        have hfin := done_do hL.fr hx (by omega) (by omega) hS1 ((z128).map bv).toArray
        clear hoth hx
        go_wp2_with (first
          | (refine wpList_build_as rfl 33 #[] rfl (sec z128) _ rfl Try.built33 ?_)
          | (refine wpList_store_all rfl 33 _ _ rfl (w.heap.size + 1) rfl (sec (z128)) rfl _ rfl _ 33 hR3 (sec_fit z128_length) (bv_oneCell _) (size33 z128_length) ?_))
        refine bodyPost_ret (results_cell2 rfl _ (w.heap.size + 1) _ _ rfl rfl (range_all (setRow_heap _ _ _ _ 33 _ hR3)) Try.row33 (size33 z128_length)) rfl ?_
        exact ⟨rfl, hfin⟩
      · skip
        by_cases hk3 : a.kind = 3
        · have e0 : (a.kind == 0) = false := by simpa using hk0
          have e1 : (a.kind == 1) = false := by simpa using hk1
          have e2 : (a.kind == 2) = false := by simpa using hk2
          have e3 : (a.kind == 3) = true := by simpa using hk3
          have q1 : D.ans a = z128 := by unfold Dk.ans; simp [hk0]
          have q2 : D.aerr a = 0 := by unfold Dk.aerr; simp [hk0, hk1, hk2, hk3]
          have q3 : D.act a = D.brk a.place := by unfold Dk.act; simp [hk0, hk1, hk2, hk3]
          rw [q1] at hans
          rw [q1, q2, q3]
          clear q1 q2 q3
          go_enter Try.func12, Try.ntmps12
          go_wp2_with (first
            | (refine wpList_box_agg rfl 36 _ rfl (actv a) _ rfl rfl ?_)
            | (refine wpList_alloc_agg rfl 33 rfl _ Try.zero33 ?_; rw [hW.out])
            | (go_at_call 24; refine stop_here ?_))
          unfold Hid
          refine (c_break a.place _ hd hok.p.1 hok.p.2).mono ?_
          rintro e w3 ⟨rfl, hx⟩
          obtain ⟨S9, -, -, hoth⟩ := hx.other
          obtain ⟨hR3, -⟩ := hoth (w.heap.size + 1) (by omega) hS1
          replace hR3 := hR3.trans hL.res
          have hfin := done_do hL.fr hx (by omega) (by omega) hS1 ((z128).map bv).toArray
          clear hoth hx
          go_wp2_with (first
            | (refine wpList_build_as rfl 33 #[] rfl (sec z128) _ rfl Try.built33 ?_)
            | (refine wpList_store_all rfl 33 _ _ rfl (w.heap.size + 1) rfl (sec (z128)) rfl _ rfl _ 33 hR3 (sec_fit z128_length) (bv_oneCell _) (size33 z128_length) ?_))
          refine bodyPost_ret (results_cell2 rfl _ (w.heap.size + 1) _ _ rfl rfl (range_all (setRow_heap _ _ _ _ 33 _ hR3)) Try.row33 (size33 z128_length)) rfl ?_
          exact ⟨rfl, hfin⟩
        · skip
          by_cases hk4 : a.kind = 4
          · have e0 : (a.kind == 0) = false := by simpa using hk0
            have e1 : (a.kind == 1) = false := by simpa using hk1
            have e2 : (a.kind == 2) = false := by simpa using hk2
            have e3 : (a.kind == 3) = false := by simpa using hk3
            have e4 : (a.kind == 4) = true := by simpa using hk4
            have q1 : D.ans a = z128 := by unfold Dk.ans; simp [hk0]
            have q2 : D.aerr a = 0 := by unfold Dk.aerr; simp [hk0, hk1, hk2, hk3, hk4]
            have q3 : D.act a = D.crash a.keep a.place a.cut := by unfold Dk.act; simp [hk0, hk1, hk2, hk3, hk4]
            rw [q1] at hans
            rw [q1, q2, q3]
            clear q1 q2 q3
            obtain ⟨ko, kc, hkv⟩ : ∃ ko kc, a.kv = .slice ko a.keep.length kc := by obtain ⟨ao, cap, hv, _⟩ := hok.s; exact ⟨ao, cap, hv⟩
            obtain ⟨i4, hi4, hi5, hi6, hi7⟩ := info4
            go_enter Try.func12, Try.ntmps12
            go_wp2_with (first
              | (refine wpList_box_agg rfl 36 _ rfl (actv a) _ rfl rfl ?_)
              | (refine wpList_alloc_agg rfl 33 rfl _ Try.zero33 ?_; rw [hW.out]))
            have hQ : (fun w' : World => w'.cell? ⟨w.heap.size, 1, none⟩ = some (.int .i64 a.place) ∧ w'.cell? ⟨w.heap.size, 2, none⟩ = some (.int .i64 a.cut) ∧ w'.cell? ⟨w.heap.size, 131, none⟩ = some a.kv) W.drew := ⟨by rw [World.cell?_drew]; exact c1, by rw [World.cell?_drew]; exact c2, by rw [World.cell?_drew]; exact c4⟩
            refine wp_region_ord [] 9 [(0, true), (2, true), (3, true), (5, true), (6, true), (7, true), (8, true), (1, false), (4, false)] (fun w' : World => w'.cell? ⟨w.heap.size, 1, none⟩ = some (.int .i64 a.place) ∧ w'.cell? ⟨w.heap.size, 2, none⟩ = some (.int .i64 a.cut) ∧ w'.cell? ⟨w.heap.size, 131, none⟩ = some a.kv) (by kernel_rfl) (by kernel_rfl) ?_
            refine ord_quietL _ ?_ rfl hQ rfl ?_ ?_
            rotate_left
            · rintro w' ⟨hQ1, hQ2, hQ3⟩; go_simp; rfl
            simp only [Act.put, List.setIfInBounds_toArray, List.set_cons_zero, List.set_cons_succ]
            refine ord_quietL _ ?_ rfl hQ rfl ?_ ?_
            rotate_left
            · rintro w' ⟨hQ1, hQ2, hQ3⟩; go_simp; rfl
            simp only [Act.put, List.setIfInBounds_toArray, List.set_cons_zero, List.set_cons_succ]
            refine ord_quietL _ ?_ rfl hQ rfl ?_ ?_
            rotate_left
            · rintro w' ⟨hQ1, hQ2, hQ3⟩; go_simp; rfl
            simp only [Act.put, List.setIfInBounds_toArray, List.set_cons_zero, List.set_cons_succ]
            refine ord_quietL _ ?_ rfl hQ rfl ?_ ?_
            rotate_left
            · rintro w' ⟨hQ1, hQ2, hQ3⟩; go_simp; rfl
            simp only [Act.put, List.setIfInBounds_toArray, List.set_cons_zero, List.set_cons_succ]
            refine ord_quietL _ ?_ rfl hQ rfl ?_ ?_
            rotate_left
            · rintro w' ⟨hQ1, hQ2, hQ3⟩; go_simp; rfl
            simp only [Act.put, List.setIfInBounds_toArray, List.set_cons_zero, List.set_cons_succ]
            refine ord_quietL _ ?_ rfl hQ rfl ?_ ?_
            rotate_left
            · rintro w' ⟨hQ1, hQ2, hQ3⟩; go_simp; rfl
            simp only [Act.put, List.setIfInBounds_toArray, List.set_cons_zero, List.set_cons_succ]
            refine ord_quietL _ ?_ rfl hQ rfl ?_ ?_
            rotate_left
            · rintro w' ⟨hQ1, hQ2, hQ3⟩; go_simp; rfl
            simp only [Act.put, List.setIfInBounds_toArray, List.set_cons_zero, List.set_cons_succ]
            refine ord_actL _ rfl (fun K1 hK1 => ?_)
            refine wpList_buildSlice0 rfl 34 4 rfl Try.underlying34 (by kernel_rfl) ?_
            have hown1 : (W.drew.alloc (.cells #[] 4)).ownsRow w.heap.size 4 1 (.slice (some ⟨W.drew.heap.size, 0, none⟩) 0 0) 0 [] := World.ownsRow_lit W.drew #[] 0 (by simp; omega) (by decide) rfl
            have hkl := hok.l
            have hB1 : Below w.heap.size w (W.drew.alloc (.cells #[] 4)) := ((nw_below hL.fr).drew).alloc (by simp; omega) _
            have hs1 : Sl K (W.drew.alloc (.cells #[] 4)) a.kv a.keep.length (a.keep.map Value.bool) := hok.s.keep (hB1.mono (by omega))
            have hQ1 : (fun w' : World => w'.cell? ⟨w.heap.size, 1, none⟩ = some (.int .i64 a.place) ∧ w'.cell? ⟨w.heap.size, 2, none⟩ = some (.int .i64 a.cut) ∧ w'.cell? ⟨w.heap.size, 131, none⟩ = some a.kv) (W.drew.alloc (.cells #[] 4)) := by
              refine ⟨?_, ?_, ?_⟩
              · rw [World.cell?_alloc_lt _ _ _ (by show w.heap.size < W.heap.size; omega)]; exact hQ.1
              · rw [World.cell?_alloc_lt _ _ _ (by show w.heap.size < W.heap.size; omega)]; exact hQ.2.1
              · rw [World.cell?_alloc_lt _ _ _ (by show w.heap.size < W.heap.size; omega)]; exact hQ.2.2
            have hsz1 : (W.drew.alloc (.cells #[] 4)).heap.size = w.heap.size + 3 := by simp; omega
            have hd1 : DiskAt base (W.drew.alloc (.cells #[] 4)) b S D := hd.keep (((Fr.refl (fun _ => False) W).drew).alloc _) (fun _ _ => id)
            have hN1 : W.drew.heap.size = w.heap.size + 2 := by show W.heap.size = _; omega
            have hW1R : (W.drew.alloc (.cells #[] 4)).heap[w.heap.size + 1]? = some (.cells (z128.map bv).toArray 33 (0, 0)) := by rw [Below.heap_alloc W.drew _ _ (by show _ < W.heap.size; omega)]; exact hL.res
            generalize W.drew.alloc (.cells #[] 4) = W1 at *
            rw [hN1] at hown1
            rw [hN1]
            refine wpList_nil (hK1 _ _ hQ1 ?_)
            simp only [Act.put, List.setIfInBounds_toArray, List.set_cons_zero, List.set_cons_succ]
            rw [hkv] at hs1
            refine ord_actL _ rfl (fun K4 hK4 => ?_)
            refine wpList_append_sl _ rfl _ _ 34 rfl w.heap.size 4 i4 _ 1 1 Try.underlying34 hi4 hi5 hi6 hi7 rfl (by decide) (.slice (some ⟨w.heap.size + 2, 0, none⟩) 0 0) 0 [] rfl hown1 K _ a.keep.length _ rfl hs1 (by simp) (bool_oneCell _) ?d1 ?d2 (by omega) ?_
            case d1 => unfold maxLen; omega
            case d2 => omega
            intro v4 w4 hown4 hg4 hat4
            have hblk : ∀ k, k < w.heap.size + 2 → w4.heap[k]? = W1.heap[k]? := fun k hk => hg4.block k (by omega) (by simp [Value.ownBlock]; omega)
            have hQ4 : (fun w' : World => w'.cell? ⟨w.heap.size, 1, none⟩ = some (.int .i64 a.place) ∧ w'.cell? ⟨w.heap.size, 2, none⟩ = some (.int .i64 a.cut) ∧ w'.cell? ⟨w.heap.size, 131, none⟩ = some a.kv) w4 := ⟨(World.cell?_of_block (w := W1) (hblk w.heap.size (by omega))).trans hQ1.1, (World.cell?_of_block (w := W1) (hblk w.heap.size (by omega))).trans hQ1.2.1, (World.cell?_of_block (w := W1) (hblk w.heap.size (by omega))).trans hQ1.2.2⟩
            have hd4 : DiskAt base w4 b S D := hd1.keep (T := fun k => k = w.heap.size + 2) ((Fr.refl (fun k => k = w.heap.size + 2) W1).grown hg4 (fun k e => by simp [Value.ownBlock] at e; exact .inl e.symm)) (fun k hk e => by have := (h.ge k hk).2; omega)
            have hkp : Slp (fun k => ¬ S k) w4 v4 a.keep.length (a.keep.map Value.bool) := by
              have hs4 := slp_of_owns hown4
              simp only [Nat.zero_add, List.nil_append] at hs4
              refine hs4.keep (fun k hk _ => ⟨fun hs => ?_, rfl⟩)
              have := (h.ge k hs).2
              rcases hat4 with e | e
              · rw [e] at hk; simp [Value.ownBlock] at hk; omega
              · rw [e] at hk; simp at hk; omega
            have hnw4 : Nw w w4 := by
              refine ⟨hg4.os.trans hB1.os, hg4.tape.trans hB1.tape, hg4.output.trans hB1.output, by have := hg4.size; omega, fun k hk _ => (hblk k (by omega)).trans (hB1.block k hk)⟩
            have hR4 : w4.heap[w.heap.size + 1]? = some (.cells (z128.map bv).toArray 33 (0, 0)) := by
              rw [hblk _ (by omega), hW1R]
            have hz4 : w.heap.size + 1 < w4.heap.size := by have := hg4.size; omega
            obtain ⟨vo, vc, rfl⟩ := owns_form hown4
            simp only [Nat.zero_add] at hkp
            refine wpList_nil (hK4 _ _ hQ4 ?_)
            refine ord_tail ?_
            simp only [Nat.zero_add, List.drop_succ_cons, List.drop_zero, Act.put, List.setIfInBounds_toArray, List.set_cons_zero, List.set_cons_succ]
            clear hK4 hK1 hQ4 hQ1 hQ hblk hown4 hg4 hat4 hown1 hs1 hd1 hB1 hW1R
            go_wp2_with (go_at_call 25; refine stop_here ?_)
            unfold Hid
            refine (c_crash _ a.keep a.place a.cut _ hd4 hkp).mono ?_
            rintro e w3 ⟨rfl, hx⟩
            obtain ⟨S9, -, -, hoth⟩ := hx.other
            obtain ⟨hR3, -⟩ := hoth (w.heap.size + 1) hz4 hS1
            replace hR3 := hR3.trans hR4
            have hfin := done_do hnw4 hx (by omega) hz4 hS1 ((z128).map bv).toArray
            clear hoth hx
            go_wp2_with (first
              | (refine wpList_build_as rfl 33 #[] rfl (sec z128) _ rfl Try.built33 ?_)
              | (refine wpList_store_all rfl 33 _ _ rfl (w.heap.size + 1) rfl (sec z128) rfl _ rfl _ 33 hR3 rfl (bv_oneCell _) (size33 z128_length) ?_))
            refine bodyPost_ret (results_cell2 rfl _ (w.heap.size + 1) _ _ rfl rfl (range_all (setRow_heap _ _ _ _ 33 _ hR3)) Try.row33 (size33 z128_length)) rfl ?_
            exact ⟨rfl, hfin⟩
          · skip
            have e0 : (a.kind == 0) = false := by simpa using hk0
            have e1 : (a.kind == 1) = false := by simpa using hk1
            have e2 : (a.kind == 2) = false := by simpa using hk2
            have e3 : (a.kind == 3) = false := by simpa using hk3
            have e4 : (a.kind == 4) = false := by simpa using hk4
            have q1 : D.ans a = z128 := by unfold Dk.ans; simp [hk0]
            have q2 : D.aerr a = 0 := by unfold Dk.aerr; simp [hk0, hk1, hk2, hk3, hk4]
            have q3 : D.act a = D := by unfold Dk.act; simp [hk0, hk1, hk2, hk3, hk4]
            rw [q1] at hans
            rw [q1, q2, q3]
            clear q1 q2 q3
            have hx := done_refl hd
            have hR3 := hL.res
            have hfin := done_do hL.fr hx (by omega) (by omega) hS1 (z128.map bv).toArray
            clear hx
            go_enter Try.func12, Try.ntmps12
            go_wp2_with (first
              | (refine wpList_box_agg rfl 36 _ rfl (actv a) _ rfl rfl ?_)
              | (refine wpList_alloc_agg rfl 33 rfl _ Try.zero33 ?_; rw [hW.out])
              | (refine wpList_build_as rfl 33 #[] rfl (sec z128) _ rfl Try.built33 ?_)
              | (refine wpList_store_all rfl 33 _ _ rfl (w.heap.size + 1) rfl (sec z128) rfl _ rfl _ 33 hR3 rfl (bv_oneCell _) (size33 z128_length) ?_))
            refine bodyPost_ret (results_cell2 rfl _ (w.heap.size + 1) _ _ rfl rfl (range_all (setRow_heap _ _ _ _ 33 _ hR3)) Try.row33 (size33 z128_length)) rfl ?_
            exact ⟨rfl, hfin⟩
end Go.Proofs.Ytmhojkbnfiknpaa
