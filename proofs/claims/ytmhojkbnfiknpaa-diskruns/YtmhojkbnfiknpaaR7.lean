/-
  The document's disk: Crash.
-/
import Derived.Test.YtmhojkbnfiknpaaR6
namespace Go.Proofs.Ytmhojkbnfiknpaa
set_option linter.unusedVariables false
set_option linter.unusedSimpArgs false
open Go.RowKit

theorem lay_all {old new : List UInt8} (h1 : old.length = 128) (h2 : new.length = 128) : lay old new 128 = new := by
  unfold lay
  rw [List.take_of_length_le (by omega), List.drop_eq_nil_of_le (by omega), List.append_nil]

theorem crash_torn {st : List (List UInt8)} {pd : List (Nat × List UInt8)} {keep : List Bool} {torn cut : Int} {k : Nat} (hk : k < pd.length) (ht : (k : Int) = torn) (A : List (List UInt8)) (hA : crashN st pd (size1 keep torn cut) k = A) (hp : pd[k].1 < A.length) :
    crashN st pd (size1 keep torn cut) (k + 1) = A.set pd[k].1 (lay A[pd[k].1] pd[k].2 (clamp cut 128).toNat) := by
  rw [crashN_succ st pd _ k hk A hA hp]
  unfold size1
  rw [if_pos ht]

theorem crash_keep {st : List (List UInt8)} {pd : List (Nat × List UInt8)} {keep : List Bool} {torn cut : Int} {k : Nat} (hk : k < pd.length) (ht : (k : Int) ≠ torn) (A : List (List UInt8)) (hA : crashN st pd (size1 keep torn cut) k = A) (hp : pd[k].1 < A.length) (hs : A[pd[k].1].length = 128) (hd : pd[k].2.length = 128) (hkk : keep.getD k false = true) :
    crashN st pd (size1 keep torn cut) (k + 1) = A.set pd[k].1 pd[k].2 := by
  rw [crashN_succ st pd _ k hk A hA hp]
  unfold size1
  rw [if_neg ht, if_pos hkk, lay_all hs hd]

theorem crash_not {st : List (List UInt8)} {pd : List (Nat × List UInt8)} {keep : List Bool} {torn cut : Int} {k : Nat} (hk : k < pd.length) (ht : (k : Int) ≠ torn) (A : List (List UInt8)) (hA : crashN st pd (size1 keep torn cut) k = A) (hp : pd[k].1 < A.length) (hkk : keep.getD k false = false) :
    crashN st pd (size1 keep torn cut) (k + 1) = A := by
  rw [crashN_succ st pd _ k hk A hA hp]
  unfold size1
  rw [if_neg ht, hkk, if_neg (by simp), lay_zero, List.set_getElem_self]

theorem crashN_all {st : List (List UInt8)} {pd : List (Nat × List UInt8)} {sz : Nat → Nat} (h : ∀ s ∈ st, s.length = 128) (hp : ∀ p ∈ pd, p.2.length = 128) (hs : ∀ n, sz n ≤ 128) : ∀ N, ∀ s ∈ crashN st pd sz N, s.length = 128 := by
  intro N
  induction N with
  | zero => exact h
  | succ N ih =>
    intro s hm
    rw [crashN] at hm
    rcases List.mem_or_eq_of_mem_set hm with h1 | rfl
    · exact ih s h1
    · refine lay_length ?_ ?_ (hs N)
      · rw [List.getD_eq_getElem?_getD]
        cases hq : (crashN st pd sz N)[(pd.getD N (0, z128)).1]? with
        | none => exact z128_length
        | some t => exact ih t (List.mem_of_getElem? hq)
      · rw [List.getD_eq_getElem?_getD]
        cases hq : pd[N]? with
        | none => exact z128_length
        | some p => exact hp p (List.mem_of_getElem? hq)

set_option maxHeartbeats 6400000 in
theorem c_rcrash {X : Nat → Prop} {vs vp : Value} {D : Dk} (kv : Value) (keep : List Bool) (torn cut : Int) (w : World) (h : RefG X w vs vp D) (hk : Slp (fun _ => True) w kv keep.length (keep.map Value.bool)) :
    Calls Try.prog 17 #[rval vs vp D, kv, .int .i64 torn, .int .i64 cut] w fun e w' => ∃ vs' vp', e = .returned (rval vs' vp' (D.crash keep torn cut)) ∧ RefG (fun b => X b ∨ w.heap.size ≤ b) w' vs' vp' (D.crash keep torn cut) ∧ Nw w w' := by
  obtain ⟨so, sc, po, pc, rfl, rfl, h1, h2, h3, h4⟩ := h.form
  obtain ⟨ko, kc, rfl, hkc, hkm⟩ := hk.form
  have hT := two w (.slice so D.st.length sc) (.slice po D.pd.length pc) D
  generalize hW : (w.alloc (.cells (rcells (.slice so D.st.length sc) (.slice po D.pd.length pc) D).toArray 30)).alloc (.cells #[.slice none 0 0, .slice none 0 0, .int .i64 0, .bool false] 30) = W4 at *
  have hW : Hid ((w.alloc (.cells (rcells (.slice so D.st.length sc) (.slice po D.pd.length pc) D).toArray 30)).alloc (.cells #[.slice none 0 0, .slice none 0 0, .int .i64 0, .bool false] 30) = W4) := hW
  have hg4 := h.nw hT.fr
  have hvar4 := hT.var
  have hres4 := hT.res
  have hfr4 := hT.fr
  obtain ⟨d0, -, -, -, -, -⟩ := r_cells hvar4
  obtain ⟨j0, hj, hj0, hj1, hj2⟩ := info33
  have hn := h.ok.n
  have hz4 := heap_lt hres4
  have hown5 : (W4.alloc (.cells #[] 33)).ownsRow w.heap.size 33 128 (.slice (some ⟨W4.heap.size, 0, none⟩) 0 0) 0 [] := World.ownsRow_lit W4 #[] 0 (by omega) (by decide) rfl
  have hsl5 : Sl W4.heap.size (W4.alloc (.cells #[] 33)) (.slice so D.st.length sc) D.st.length (flat D.st) := (hg4.st.toSl).keep ((Below.refl _ _).alloc (Nat.le_refl _) _)
  have hc5 : (W4.alloc (.cells #[] 33)).cell? ⟨w.heap.size, 0, none⟩ = some (.slice so D.st.length sc) := by rw [World.cell?_alloc_lt _ _ _ (by show w.heap.size < _; omega)]; exact d0
  have hz5 : (W4.alloc (.cells #[] 33)).heap.size = W4.heap.size + 1 := by simp
  generalize hW5 : W4.alloc (.cells #[] 33) = W5 at *
  have hW5 : Hid (W4.alloc (.cells #[] 33) = W5) := hW5
  clear hT d0
  go_enter Try.func17, Try.ntmps17
  go_wp2_with (first
    | (refine wpList_box_agg rfl 30 _ rfl (rval (.slice so D.st.length sc) (.slice po D.pd.length pc) D) _ rfl rfl ?_)
    | (refine wpList_alloc_agg rfl 30 rfl _ Try.zero30 ?_; rw [hW.out])
    | (refine wpList_buildSlice0 rfl 27 33 rfl Try.underlying27 (by kernel_rfl) ?_; rw [hW5.out])
    | (at_builtin; refine wpList_append_sl _ rfl _ _ 27 rfl w.heap.size 33 j0 _ 128 128 Try.underlying27 hj hj0 hj1 hj2 (by rw [show (sec z128).cells.size = (z128.map bv).length from rfl, List.length_map, z128_length]) (by decide) (.slice (some ⟨W4.heap.size, 0, none⟩) 0 0) 0 [] rfl hown5 W4.heap.size _ D.st.length _ rfl hsl5 (flat_length h.ok.sec) flat_one (by unfold maxLen; omega) (by omega) (by omega) (fun v6 w6 hown6 hg6 hat6 => stop_here ?_)))
  unfold Hid
  simp only [Nat.zero_add, List.nil_append] at hown6
  have hR : RowAt w w6 (.slice so D.st.length sc) (.slice po D.pd.length pc) v6 D D.st := row_start hvar4 hres4 hfr4 hown6 (by rw [hW5.out]; exact hg6) (by rw [hW5.out]; exact hat6)
  obtain ⟨-, f1, -, -, -, -⟩ := r_cells hR.var
  obtain ⟨o6, q6, hv6⟩ := owns_form hown6
  subst hv6
  clear hown5 hsl5 hc5 hg6 hat6 hW5 hown6 hg4 hvar4 hres4 hfr4 hW
  go_wp2
  go_loopw [19] (fun j wr => ∃ k : Nat, k ≤ D.pd.length ∧ j = .int .i64 k ∧ RowAt w wr (.slice so D.st.length sc) (.slice po D.pd.length pc) (.slice o6 D.st.length q6) D (crashN D.st D.pd (size1 keep torn cut) k)) (fun j _ => D.pd.length - (intOf j).toNat)
  case atStart => exact ⟨0, Nat.zero_le _, rfl, hR⟩
  case round =>
    obtain ⟨k, hkl, rfl, hRk⟩ := hrel
    clear hR
    have hal : (crashN D.st D.pd (size1 keep torn cut) k).length = D.st.length := crashN_length _ _ _ _
    have has : ∀ s ∈ crashN D.st D.pd (size1 keep torn cut) k, s.length = 128 := crashN_all h.ok.sec (fun p hp => (h.ok.wr p hp).2) (size1_le keep torn cut) k
    by_cases hlt : k < D.pd.length
    · obtain ⟨pb, poff, hpo, hpr, hp4, hp5⟩ := (h.nw hRk.fr).prange rfl k hlt
      subst hpo
      have hpA : D.pd[k].1 < (crashN D.st D.pd (size1 keep torn cut) k).length := by omega
      have hsA := has _ (List.getElem_mem hpA)
      have HT : (k : Int) = torn → Hid (crashN D.st D.pd (size1 keep torn cut) (k + 1) = (crashN D.st D.pd (size1 keep torn cut) k).set D.pd[k].1 (lay ((crashN D.st D.pd (size1 keep torn cut) k)[D.pd[k].1]'hpA) D.pd[k].2 (clamp cut 128).toNat)) := fun ht => crash_torn hlt ht _ rfl hpA
      have HK : (k : Int) ≠ torn → keep.getD k false = true → Hid (crashN D.st D.pd (size1 keep torn cut) (k + 1) = (crashN D.st D.pd (size1 keep torn cut) k).set D.pd[k].1 D.pd[k].2) := fun ht hkk => crash_keep hlt ht _ rfl hpA hsA hp4 hkk
      have HN : (k : Int) ≠ torn → keep.getD k false = false → Hid (crashN D.st D.pd (size1 keep torn cut) (k + 1) = crashN D.st D.pd (size1 keep torn cut) k) := fun ht hkk => crash_not hlt ht _ rfl hpA hkk
      generalize hAA : crashN D.st D.pd (size1 keep torn cut) k = AA at *
      generalize D.pd[k] = p at *
      obtain ⟨g, cap, hgf, hgc, hgm⟩ := hRk.form (by omega)
      simp only [Value.slice.injEq] at hgf
      obtain ⟨e6, -, e7⟩ := hgf
      subst e6
      subst e7
      have hv := varW wr (wcell (0, z128)).toArray p 50
      generalize hWv : (wr.alloc (.cells (wcell (0, z128)).toArray 50)).setRow wr.heap.size (wcell p).toArray = Wv at *
      have hWv : Hid ((wr.alloc (.cells (wcell (0, z128)).toArray 50)).setRow wr.heap.size (wcell p).toArray = Wv) := hWv
      obtain ⟨c0, c1⟩ := hv.at
      have hRv := hRk.nw hv.fr
      have hkv : Slp (fun _ => True) Wv (.slice ko keep.length kc) keep.length (keep.map Value.bool) := hk.keep (fun b _ hb => ⟨trivial, hRv.fr.block b hb id⟩)
      have hpI : (p.1 : Int) < (D.st.length : Int) := by omega
      have hMl : wr.heap.size < Wv.heap.size := heap_lt hv.blk
      clear hv hRk
      by_cases ht : (k : Int) = torn
      · have H1 := HT ht
        have e1 : ((k : Int) == torn) = true := by simpa using ht
        clear HT HK HN hkv
        have hro := hRv.range hal.symm has p.1 hpA
        generalize (AA[p.1]'hpA) = old at *
        clear ht
        have hQ : (fun w' : World => w'.cell? ⟨wr.heap.size, 0, none⟩ = some (.int .i64 (p.1 : Int)) ∧ w'.rangeAt wr.heap.size 1 (p.2.map bv) ∧ w'.rangeAt g (p.1 * 128) (old.map bv)) Wv.drew := ⟨by rw [World.cell?_drew]; exact c0, (World.rangeAt_drew ..).2 c1, (World.rangeAt_drew ..).2 hro⟩
        have hRd := hRv.nw (wr' := Wv.drew) (Fr.refl (fun _ => False) Wv).drew
        go_wp2_with (first
          | (refine wpList_load_as rfl 50 _ rfl pb (poff + k * 129) rfl (wrv p) _ rfl hpr Try.row50 (size50 hp4) ?_)
          | (refine wpList_alloc_agg rfl 50 rfl _ Try.zero50 ?_)
          | (refine wpList_store_all rfl 50 _ _ rfl wr.heap.size rfl (wrv p) rfl _ rfl _ 50 (heap_alloc_new wr _) (wr_fit hp4) (wcell_oneCell _) (size50 hp4) ?_; rw [hWv.out]))
        refine wp_region_ord [] 12 [(0, true), (1, true), (2, true), (3, true), (4, true), (5, true), (6, true), (7, true), (8, true), (9, true), (10, true), (11, false)] (fun w' : World => w'.cell? ⟨wr.heap.size, 0, none⟩ = some (.int .i64 (p.1 : Int)) ∧ w'.rangeAt wr.heap.size 1 (p.2.map bv) ∧ w'.rangeAt g (p.1 * 128) (old.map bv)) (by kernel_rfl) (by kernel_rfl) ?_
        refine ord_quietL _ ?_ rfl hQ rfl ?_ ?_
        rotate_left
        · rintro w' ⟨hQ1, hQ2, hQ3⟩; go_simp; rfl
        simp only [Act.put, List.setIfInBounds_toArray, List.set_cons_zero, List.set_cons_succ]
        refine ord_quietL _ ?_ rfl hQ rfl ?_ ?_
        rotate_left
        · rintro w' ⟨hQ1, hQ2, hQ3⟩; go_simp; rfl
        simp only [Act.put, List.setIfInBounds_toArray, List.set_cons_zero, List.set_cons_succ]
        refine ord_quietL _ ?_ rfl hQ rfl ?_ ?_
        rotate_left
        · rintro w' ⟨hQ1, hQ2, hQ3⟩; go_simp; rfl
        simp only [Act.put, List.setIfInBounds_toArray, List.set_cons_zero, List.set_cons_succ]
        refine ord_quietL _ ?_ rfl hQ rfl ?_ ?_
        rotate_left
        · rintro w' ⟨hQ1, hQ2, hQ3⟩; go_simp; rfl
        simp only [Act.put, List.setIfInBounds_toArray, List.set_cons_zero, List.set_cons_succ]
        refine ord_quietL _ ?_ rfl hQ rfl ?_ ?_
        rotate_left
        · rintro w' ⟨hQ1, hQ2, hQ3⟩; go_simp; rfl
        simp only [Act.put, List.setIfInBounds_toArray, List.set_cons_zero, List.set_cons_succ]
        refine ord_quietL _ ?_ rfl hQ rfl ?_ ?_
        rotate_left
        · rintro w' ⟨hQ1, hQ2, hQ3⟩; go_simp; rfl
        simp only [Act.put, List.setIfInBounds_toArray, List.set_cons_zero, List.set_cons_succ]
        refine ord_quietL _ ?_ rfl hQ rfl ?_ ?_
        rotate_left
        · rintro w' ⟨hQ1, hQ2, hQ3⟩; go_simp; rfl
        simp only [Act.put, List.setIfInBounds_toArray, List.set_cons_zero, List.set_cons_succ]
        refine ord_quietL _ (sec old) rfl hQ rfl ?_ ?_
        · rintro w' ⟨hQ1, hQ2, hQ3⟩
          exact run_load_quiet 33 _ w' rfl g (p.1 * 128) rfl _ hQ3 Try.row33 (size33 hsA)
        simp only [Act.put, List.setIfInBounds_toArray, List.set_cons_zero, List.set_cons_succ]
        refine ord_quietL _ ?_ rfl hQ rfl ?_ ?_
        rotate_left
        · rintro w' ⟨hQ1, hQ2, hQ3⟩; go_simp; rfl
        simp only [Act.put, List.setIfInBounds_toArray, List.set_cons_zero, List.set_cons_succ]
        refine ord_quietL _ (sec p.2) rfl hQ rfl ?_ ?_
        · rintro w' ⟨hQ1, hQ2, hQ3⟩
          exact run_load_quiet 33 _ w' rfl wr.heap.size 1 rfl _ hQ2 Try.row33 (size33 hp4)
        simp only [Act.put, List.setIfInBounds_toArray, List.set_cons_zero, List.set_cons_succ]
        refine ord_quietL _ ?_ rfl hQ rfl ?_ ?_
        rotate_left
        · rintro w' ⟨hQ1, hQ2, hQ3⟩; go_simp; rfl
        simp only [Act.put, List.setIfInBounds_toArray, List.set_cons_zero, List.set_cons_succ]
        refine ord_actL _ rfl (fun K1 hK1 => ?_)
        go_wp2_with (go_at_call 30; refine stop_here ?_)
        unfold Hid
        refine (c_torn old p.2 cut _ hsA hp4).mono ?_
        have hlen : (lay old p.2 (clamp cut 128).toNat).length = 128 := lay_length hsA hp4 (by have := clamp_range cut 128 (by omega); omega)
        generalize lay old p.2 (clamp cut 128).toNat = L at *
        rintro e w7 ⟨rfl, hf7⟩
        have hR7 := hRd.nw hf7
        have hQ7 : (fun w' : World => w'.cell? ⟨wr.heap.size, 0, none⟩ = some (.int .i64 (p.1 : Int)) ∧ w'.rangeAt wr.heap.size 1 (p.2.map bv) ∧ w'.rangeAt g (p.1 * 128) (old.map bv)) w7 := by
          refine ⟨?_, fun j v hv => ?_, fun j v hv => ?_⟩
          · exact (World.cell?_of_block (w := Wv.drew) (a := ⟨wr.heap.size, 0, none⟩) (hf7.block _ hMl id)).trans hQ.1
          · exact (World.cell?_of_block (w := Wv.drew) (a := ⟨wr.heap.size, 1 + j, none⟩) (hf7.block _ hMl id)).trans (hQ.2.1 j v hv)
          · have := hQ.2.2 j v hv
            exact (World.cell?_of_block (w := Wv.drew) (a := ⟨g, p.1 * 128 + j, none⟩) (hf7.block _ (World.block_lt_of_cell? Wv.drew ⟨g, p.1 * 128 + j, none⟩ this) id)).trans this
        obtain ⟨cur, hcur, hcl, hRn⟩ := hR7.store hal.symm has p.1 hpA L hlen
        go_wp2
        refine hK1 _ _ hQ7 ?_
        refine ord_tail ?_
        simp only [List.drop_succ_cons, List.drop_zero]
        clear hK1 hQ7 hQ hRd hR7 hRv hf7
        go_wp2_with (refine wpList_store_as rfl 33 _ _ rfl g (p.1 * 128) rfl (sec L) rfl _ rfl _ 33 hcur hcl (bv_oneCell _) (size33 hlen) ?_)
        go_roundw
        case rel => exact ⟨k + 1, by omega, by go_num, by rw [H1.out]; exact hRn⟩
        case measure => simp [intOf]; omega
      · have e1 : ((k : Int) == torn) = false := by simpa using ht
        by_cases hkk : k < keep.length
        · obtain ⟨kb, koff, hko, -, hkcell⟩ := hkv.get k (.bool keep[k]) (by simp [hkk])
          subst hko
          have hkI : (k : Int) < (keep.length : Int) := by omega
          have hgd : keep.getD k false = keep[k] := by rw [List.getD_eq_getElem?_getD, List.getElem?_eq_getElem hkk]; rfl
          cases hkb : keep[k] with
          | true =>
            have H1 := HK ht (by rw [hgd, hkb])
            rw [hkb] at hkcell
            clear HT HK HN hgd hkb hkv
            obtain ⟨cur, hcur, hcl, hRn⟩ := hRv.store hal.symm has p.1 hpA p.2 hp4
            clear hRv
            go_wp2_with (first
              | (refine wpList_load_as rfl 50 _ rfl pb (poff + k * 129) rfl (wrv p) _ rfl hpr Try.row50 (size50 hp4) ?_)
              | (refine wpList_alloc_agg rfl 50 rfl _ Try.zero50 ?_)
              | (refine wpList_store_all rfl 50 _ _ rfl wr.heap.size rfl (wrv p) rfl _ rfl _ 50 (heap_alloc_new wr _) (wr_fit hp4) (wcell_oneCell _) (size50 hp4) ?_; rw [hWv.out])
              | (refine wpList_load_as rfl 33 _ rfl wr.heap.size 1 rfl (sec p.2) _ rfl c1 Try.row33 (size33 hp4) ?_)
              | (refine wpList_store_as rfl 33 _ _ rfl g (p.1 * 128) rfl (sec p.2) rfl _ rfl _ 33 hcur hcl (bv_oneCell _) (size33 hp4) ?_))
            go_roundw
            case rel => exact ⟨k + 1, by omega, by go_num, by rw [H1.out]; exact hRn⟩
            case measure => simp [intOf]; omega
          | false =>
            have H1 := HN ht (by rw [hgd, hkb])
            rw [hkb] at hkcell
            clear HT HK HN hgd hkb hkv
            go_wp2_with (first
              | (refine wpList_load_as rfl 50 _ rfl pb (poff + k * 129) rfl (wrv p) _ rfl hpr Try.row50 (size50 hp4) ?_)
              | (refine wpList_alloc_agg rfl 50 rfl _ Try.zero50 ?_)
              | (refine wpList_store_all rfl 50 _ _ rfl wr.heap.size rfl (wrv p) rfl _ rfl _ 50 (heap_alloc_new wr _) (wr_fit hp4) (wcell_oneCell _) (size50 hp4) ?_; rw [hWv.out]))
            go_roundw
            case rel => exact ⟨k + 1, by omega, by go_num, by rw [H1.out]; exact hRv⟩
            case measure => simp [intOf]; omega
        · have hkI : ¬ (k : Int) < (keep.length : Int) := by omega
          have H1 := HN ht (by rw [List.getD_eq_getElem?_getD, List.getElem?_eq_none (by omega)]; rfl)
          clear HT HK HN hkv
          go_wp2_with (first
            | (refine wpList_load_as rfl 50 _ rfl pb (poff + k * 129) rfl (wrv p) _ rfl hpr Try.row50 (size50 hp4) ?_)
            | (refine wpList_alloc_agg rfl 50 rfl _ Try.zero50 ?_)
            | (refine wpList_store_all rfl 50 _ _ rfl wr.heap.size rfl (wrv p) rfl _ rfl _ 50 (heap_alloc_new wr _) (wr_fit hp4) (wcell_oneCell _) (size50 hp4) ?_; rw [hWv.out]))
          go_roundw
          case rel => exact ⟨k + 1, by omega, by go_num, by rw [H1.out]; exact hRv⟩
          case measure => simp [intOf]; omega
    · have hkn : k = D.pd.length := by omega
      subst hkn
      have hres := hRk.res
      have hnv := hRk.nv
      have hCs : (D.crash keep torn cut).st = crashN D.st D.pd (size1 keep torn cut) D.pd.length := rfl
      have hfin : Nw w (wr.setRow (w.heap.size + 1) (rcells (.slice o6 D.st.length q6) (.slice none 0 0) (D.crash keep torn cut)).toArray) := hRk.fr.setRow (.inr (by omega)) _
      have hrow := range_all (setRow_heap wr (w.heap.size + 1) _ (rcells (.slice o6 D.st.length q6) (.slice none 0 0) (D.crash keep torn cut)).toArray 30 _ hres)
      have hone3 := r_oneCell (so := o6) (po := none) (n := D.st.length) (m := 0) (sc := q6) (pc := 0) (D := D.crash keep torn cut)
      have hG : RefG (fun b => X b ∨ w.heap.size ≤ b) (wr.setRow (w.heap.size + 1) (rcells (.slice o6 D.st.length q6) (.slice none 0 0) (D.crash keep torn cut)).toArray) (.slice o6 D.st.length q6) (.slice none 0 0) (D.crash keep torn cut) := by
        refine ⟨?_, ⟨none, 0, rfl, ⟨Nat.le_refl _, Nat.zero_le _⟩, fun _ => rfl, fun i c hi => by simp [Dk.crash, pcells] at hi⟩, ⟨has, fun p hp => by simp [Dk.crash] at hp, by rw [hCs]; omega, by simp [Dk.crash], by simp [Dk.crash]⟩⟩
        have hs9 := slp_of_owns hRk.own
        rw [hCs]
        refine hs9.keep (fun q hq hl => ?_)
        have := hnv q hq
        exact ⟨.inr (by omega), by rw [setRow_other _ _ _ _ (by omega)]⟩
      have hval : rval (.slice o6 D.st.length q6) (.slice none 0 0) (D.crash keep torn cut) = .agg #[.slice o6 D.st.length q6, .slice none 0 0, .int .i64 (-1), .bool false] := rfl
      have hval : Hid (rval (.slice o6 D.st.length q6) (.slice none 0 0) (D.crash keep torn cut) = .agg #[.slice o6 D.st.length q6, .slice none 0 0, .int .i64 (-1), .bool false]) := hval
      clear hRk hnv hal has hCs
      generalize hEE : D.crash keep torn cut = EE at *
      go_wp2_with (refine wpList_store_all rfl 30 _ _ rfl (w.heap.size + 1) rfl _ hval.out.symm _ rfl _ 30 hres res_fit hone3 Try.size30 ?_)
      refine bodyPost_ret (results_cell1 rfl _ (w.heap.size + 1) _ (rval (.slice o6 D.st.length q6) (.slice none 0 0) EE) rfl rfl hrow Try.row30 Try.size30) rfl ?_
      exact ⟨_, _, by first | rfl | (rw [hEE]), by first | exact hG | (rw [hEE]; exact hG), hfin⟩
end Go.Proofs.Ytmhojkbnfiknpaa
