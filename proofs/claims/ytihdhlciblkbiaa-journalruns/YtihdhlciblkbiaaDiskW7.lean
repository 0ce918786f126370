/-
  The disk's Crash, walked.
-/
import Derived.Test.YtihdhlciblkbiaaDiskW6
namespace Go.Proofs.Ytihdhlciblkbiaa
set_option linter.unusedVariables false
set_option linter.unusedSimpArgs false
set_option maxRecDepth 20000
open Go.RowKit

set_option maxHeartbeats 3200000 in
theorem c_crash {base : Nat} {b : Nat} {S : Nat → Prop} {D : Dk} (kv : Value) (keep : List Bool) (torn cut : Int) (w : World) (h : DiskAt base w b S D) (hk : Slp (fun k => ¬ S k) w kv keep.length (keep.map Value.bool)) :
    Calls Try.prog 17 #[.pointer (some ⟨b, 0, none⟩), kv, .int .i64 torn, .int .i64 cut] w fun e w' => e = .returned (.tuple #[]) ∧ Done base w b S (D.crash keep torn cut) w' := by
  obtain ⟨g, vp, h, hS⟩ := h
  obtain ⟨ao, cap, rfl, hc, hmx, hpd⟩ := h.pend
  have hmx : cap ≤ 9223372036854775807 := hmx
  have hal : Try.prog.arrayLen 55 = 128 := by kernel_rfl
  obtain ⟨ko, kc, rfl, hkc, hkm⟩ := hk.form
  obtain ⟨k0, k1, -, -, kf⟩ := h.cells
  go_enter Try.func17, Try.ntmps17
  go_wp2
  clear k0 k1 kf
  go_loopw [16] (fun i wr => ∃ k : Nat, k ≤ D.pd.length ∧ i = .int .i64 k ∧ DiskG base wr b g (.slice ao D.pd.length cap) { D with st := crashN D.st D.pd (size1 keep torn cut) k } ∧ Fr (Own b g (.slice ao D.pd.length cap)) w wr) (fun i _ => D.pd.length - (intOf i).toNat)
  case atStart => exact ⟨0, Nat.zero_le _, rfl, h, Fr.refl _ _⟩
  case round =>
    obtain ⟨k, hkl, rfl, hG, hfr⟩ := hrel
    by_cases hlt : k < D.pd.length
    · obtain ⟨q, rfl, -, -, -, hq4, hq5⟩ := hpd k hlt
      have hrow : wr.rangeAt q (k * 129) (wcell D.pd[k]) := by
        obtain ⟨ao', cap', e, -, -, hp⟩ := hG.pend
        obtain ⟨q', e', hr, -⟩ := hp k hlt
        simp only [Value.slice.injEq] at e
        obtain ⟨e1, -, -⟩ := e
        rw [← e1] at e'
        simp only [Option.some.injEq, Addr.mk.injEq, and_true] at e'
        rw [e']; exact hr
      have hsl : (crashN D.st D.pd (size1 keep torn cut) k).length = D.st.length := crashN_length _ _ _ _
      have hsec : ∀ s ∈ crashN D.st D.pd (size1 keep torn cut) k, s.length = 128 := hG.ok.sec
      have hpl : D.pd[k].1 < (crashN D.st D.pd (size1 keep torn cut) k).length := by omega
      have H0 : Hid (crashN D.st D.pd (size1 keep torn cut) (k + 1) = (crashN D.st D.pd (size1 keep torn cut) k).set D.pd[k].1 (lay ((crashN D.st D.pd (size1 keep torn cut) k)[D.pd[k].1]) D.pd[k].2 (size1 keep torn cut k))) := crashN_succ _ _ _ k hlt _ rfl hpl
      have hkeep : Slp (fun _ => True) wr (.slice ko keep.length kc) keep.length (keep.map Value.bool) := hk.keepL (fun b hb hl => ⟨trivial, hfr.block b hl (fun ho => hb ((hS b).2 ho))⟩)
      generalize hA : crashN D.st D.pd (size1 keep torn cut) k = A at *
      generalize hp : D.pd[k] = p at *
      have hin : A.length ≤ 1024 := by have := h.ok.n; omega
      have hv := varW wr (wcell (0, z128)).toArray p 86
      generalize hWv : (wr.alloc (.cells (wcell (0, z128)).toArray 86)).setRow wr.heap.size (wcell p).toArray = W at *
      have hWv : Hid ((wr.alloc (.cells (wcell (0, z128)).toArray 86)).setRow wr.heap.size (wcell p).toArray = W) := hWv
      have hGW := hG.keep hv.fr (fun _ _ => id)
      have hkeepW : Slp (fun _ => True) W (.slice ko keep.length kc) keep.length (keep.map Value.bool) := hkeep.keepL (fun b _ hl => ⟨trivial, hv.fr.block b hl id⟩)
      obtain ⟨hv1, hv2⟩ := hv.at
      obtain ⟨c0, -, -, -, -⟩ := hGW.cells
      have hfw : Fr (Own b g (.slice (some ⟨q, 0, none⟩) D.pd.length cap)) w W := hfr.trans (hv.fr.mono (fun _ => False.elim)) (fun _ hk => .inl hk)
      have hGd : DiskG base W.drew b g (.slice (some ⟨q, 0, none⟩) D.pd.length cap) { D with st := A } := ⟨hGW.obj, hGW.st, hGW.pd.drew, hGW.nbg, hGW.nb, hGW.ng, hGW.bb, hGW.bg, hGW.ok⟩
      clear hpd hG hfr hkeep hA hp
      have hgen : ∀ n : Nat, n ≤ 128 → DiskG base (W.drew.setRow g (flat (A.set p.1 (lay (A[p.1]'hpl) p.2 n))).toArray) b g (.slice (some ⟨q, 0, none⟩) D.pd.length cap) { D with st := A.set p.1 (lay (A[p.1]'hpl) p.2 n) } := fun n hn =>
        hGd.setSt (A.set p.1 (lay (A[p.1]'hpl) p.2 n)) (by simp) (fun s hs => by
          rcases List.mem_or_eq_of_mem_set hs with h1 | rfl
          · exact hsec s h1
          · exact lay_length (hsec _ (List.getElem_mem hpl)) hq4 hn)
      have hgen2 : ∀ n : Nat, Fr (Own b g (.slice (some ⟨q, 0, none⟩) D.pd.length cap)) w (W.drew.setRow g (flat (A.set p.1 (lay (A[p.1]'hpl) p.2 n))).toArray) := fun n => hfw.drew.setRow (.inl (.inr (.inl rfl))) _
      by_cases ht : (k : Int) = torn
      · obtain ⟨sz, hsz, hsz2⟩ : ∃ sz : Nat, clamp cut 128 = (sz : Int) ∧ sz ≤ 128 := ⟨(clamp cut 128).toNat, by have := clamp_range cut 128 (by omega); omega, by have := clamp_range cut 128 (by omega); omega⟩
        have e1 : size1 keep torn cut k = sz := by unfold size1; rw [if_pos ht, hsz]; rfl
        have H1 : Hid (crashN D.st D.pd (size1 keep torn cut) (k + 1) = A.set p.1 (lay (A[p.1]'hpl) p.2 sz)) := by have := H0.out; rw [e1] at this; exact this
        have ht2 : ((k : Int) == torn) = true := by simpa using ht
        have hszI : (sz : Int) ≤ 128 := by omega
        clear H0 e1 ht
        go_wp2_with (first
          | (refine wpList_load_as rfl 86 _ rfl q (k * 129) rfl (wrv p) _ rfl hrow Try.row86 (size86 hq4) ?_)
          | (refine wpList_alloc_agg rfl 86 rfl _ Try.zero86 ?_)
          | (refine wpList_store_all rfl 86 _ _ rfl wr.heap.size rfl (wrv p) rfl _ rfl _ 86 (heap_alloc_new wr _) (wr_fit hq4) (wcell_oneCell _) (size86 hq4) ?_; rw [hWv.out])
          | (go_at_call 25; refine (c_between cut 128 _).mono ?_; rw [hsz]; rintro e w' ⟨rfl, rfl⟩))
        have hS0 : (fun w' : World => w'.cell? ⟨b, 0, none⟩ = some (.slice (some ⟨g, 0, none⟩) A.length A.length) ∧ w'.cell? ⟨wr.heap.size, 0, none⟩ = some (.int .i64 (p.1 : Int))) W.drew :=
          ⟨by rw [World.cell?_drew]; exact c0, by rw [World.cell?_drew]; exact hv1⟩
        refine wp_region_ord [] 11 [(0, true), (1, true), (2, true), (3, true), (4, true), (5, true), (6, true), (7, true), (8, true), (9, true), (10, true)] (fun w' : World => w'.cell? ⟨b, 0, none⟩ = some (.slice (some ⟨g, 0, none⟩) A.length A.length) ∧ w'.cell? ⟨wr.heap.size, 0, none⟩ = some (.int .i64 (p.1 : Int))) (by kernel_rfl) (by kernel_rfl) ?_
        refine ord_quietL _ ?_ rfl hS0 rfl ?_ ?_
        rotate_left
        · rintro w' ⟨hS1, hS2⟩; go_simp; rfl
        simp only [Act.put, List.setIfInBounds_toArray, List.set_cons_zero, List.set_cons_succ]
        refine ord_quietL _ ?_ rfl hS0 rfl ?_ ?_
        rotate_left
        · rintro w' ⟨hS1, hS2⟩; go_simp; rfl
        simp only [Act.put, List.setIfInBounds_toArray, List.set_cons_zero, List.set_cons_succ]
        refine ord_quietL _ ?_ rfl hS0 rfl ?_ ?_
        rotate_left
        · rintro w' ⟨hS1, hS2⟩; go_simp; rfl
        simp only [Act.put, List.setIfInBounds_toArray, List.set_cons_zero, List.set_cons_succ]
        refine ord_quietL _ ?_ rfl hS0 rfl ?_ ?_
        rotate_left
        · rintro w' ⟨hS1, hS2⟩; go_simp; rfl
        simp only [Act.put, List.setIfInBounds_toArray, List.set_cons_zero, List.set_cons_succ]
        refine ord_quietL _ ?_ rfl hS0 rfl ?_ ?_
        rotate_left
        · rintro w' ⟨hS1, hS2⟩; go_simp; rfl
        simp only [Act.put, List.setIfInBounds_toArray, List.set_cons_zero, List.set_cons_succ]
        refine ord_quietL _ ?_ rfl hS0 rfl ?_ ?_
        rotate_left
        · rintro w' ⟨hS1, hS2⟩; go_simp; rfl
        simp only [Act.put, List.setIfInBounds_toArray, List.set_cons_zero, List.set_cons_succ]
        refine ord_quietL _ ?_ rfl hS0 rfl ?_ ?_
        rotate_left
        · rintro w' ⟨hS1, hS2⟩; go_simp; rfl
        simp only [Act.put, List.setIfInBounds_toArray, List.set_cons_zero, List.set_cons_succ]
        refine ord_quietL _ ?_ rfl hS0 rfl ?_ ?_
        rotate_left
        · rintro w' ⟨hS1, hS2⟩; go_simp; rfl
        simp only [Act.put, List.setIfInBounds_toArray, List.set_cons_zero, List.set_cons_succ]
        refine ord_quietL _ ?_ rfl hS0 rfl ?_ ?_
        rotate_left
        · rintro w' ⟨hS1, hS2⟩; go_simp; rfl
        simp only [Act.put, List.setIfInBounds_toArray, List.set_cons_zero, List.set_cons_succ]
        refine ord_quietL _ ?_ rfl hS0 rfl ?_ ?_
        rotate_left
        · rintro w' ⟨hS1, hS2⟩; go_simp; rfl
        simp only [Act.put, List.setIfInBounds_toArray, List.set_cons_zero, List.set_cons_succ]
        refine ord_quietL _ ?_ rfl hS0 rfl ?_ ?_
        rotate_left
        · rintro w' ⟨hS1, hS2⟩; go_simp; rfl
        simp only [Act.put, List.setIfInBounds_toArray, List.set_cons_zero, List.set_cons_succ]
        refine ord_tail ?_
        simp only [List.drop_succ_cons, List.drop_zero]
        refine wpList_copy_set rfl _ _ 37 37 rfl 5 Try.underlying37 Try.size5 g (p.1 * 128) sz 128 ⟨wr.heap.size, 1, none⟩ 128 128 rfl rfl (flat A) 55 hGd.st ((p.2.take sz).map bv) (by rw [List.length_map, List.length_take, hq4]; exact Nat.min_comm _ _) (fun j v hj => ?hsrc) ?hfit (bv_oneCell _) ?_
        case hsrc =>
          rw [add_plain]
          rw [World.cell?_drew]
          refine hv2 j v ?_
          rw [List.map_take, List.getElem?_take] at hj
          split at hj
          · exact hj
          · cases hj
        case hfit =>
          rw [List.length_map, List.length_take, flat_length hsec]
          omega
        rw [flat_lay hsec p.1 hpl p.2 hq4 sz hsz2]
        have f1 := hgen sz hsz2
        have f2 := hgen2 sz
        clear hS0 hGd hgen hgen2 hGW hv hv1 hv2 c0 hrow hsec h hk hkeepW hfw
        generalize W.drew.setRow g (flat (A.set p.1 (lay (A[p.1]'hpl) p.2 sz))).toArray = W9 at *
        go_wp2
        go_roundw
        case rel => exact ⟨k + 1, by omega, by go_num, by rw [H1.out]; exact f1, f2⟩
        case measure => simp [intOf]; omega
      · have ht2 : ((k : Int) == torn) = false := by simpa using ht
        by_cases hkk : k < keep.length
        · obtain ⟨kb, koff, rfl, -, hkcell⟩ := hkeepW.get k (.bool keep[k]) (by simp [hkk])
          have hkI : (k : Int) < (keep.length : Int) := by omega
          cases hkb : keep[k] with
          | true =>
            have e1 : size1 keep torn cut k = 128 := by unfold size1; rw [if_neg ht, List.getD_eq_getElem?_getD, List.getElem?_eq_getElem hkk, hkb]; rfl
            have H1 : Hid (crashN D.st D.pd (size1 keep torn cut) (k + 1) = A.set p.1 (lay (A[p.1]'hpl) p.2 128)) := by have := H0.out; rw [e1] at this; exact this
            rw [hkb] at hkcell
            clear H0 e1 ht hkb
            go_wp2_with (first
              | (refine wpList_load_as rfl 86 _ rfl q (k * 129) rfl (wrv p) _ rfl hrow Try.row86 (size86 hq4) ?_)
              | (refine wpList_alloc_agg rfl 86 rfl _ Try.zero86 ?_)
              | (refine wpList_store_all rfl 86 _ _ rfl wr.heap.size rfl (wrv p) rfl _ rfl _ 86 (heap_alloc_new wr _) (wr_fit hq4) (wcell_oneCell _) (size86 hq4) ?_; rw [hWv.out]))
            have hS0 : (fun w' : World => w'.cell? ⟨b, 0, none⟩ = some (.slice (some ⟨g, 0, none⟩) A.length A.length) ∧ w'.cell? ⟨wr.heap.size, 0, none⟩ = some (.int .i64 (p.1 : Int))) W.drew :=
              ⟨by rw [World.cell?_drew]; exact c0, by rw [World.cell?_drew]; exact hv1⟩
            refine wp_region_ord [] 11 [(0, true), (1, true), (2, true), (3, true), (4, true), (5, true), (6, true), (7, true), (8, true), (9, true), (10, true)] (fun w' : World => w'.cell? ⟨b, 0, none⟩ = some (.slice (some ⟨g, 0, none⟩) A.length A.length) ∧ w'.cell? ⟨wr.heap.size, 0, none⟩ = some (.int .i64 (p.1 : Int))) (by kernel_rfl) (by kernel_rfl) ?_
            refine ord_quietL _ ?_ rfl hS0 rfl ?_ ?_
            rotate_left
            · rintro w' ⟨hS1, hS2⟩; go_simp; rfl
            simp only [Act.put, List.setIfInBounds_toArray, List.set_cons_zero, List.set_cons_succ]
            refine ord_quietL _ ?_ rfl hS0 rfl ?_ ?_
            rotate_left
            · rintro w' ⟨hS1, hS2⟩; go_simp; rfl
            simp only [Act.put, List.setIfInBounds_toArray, List.set_cons_zero, List.set_cons_succ]
            refine ord_quietL _ ?_ rfl hS0 rfl ?_ ?_
            rotate_left
            · rintro w' ⟨hS1, hS2⟩; go_simp; rfl
            simp only [Act.put, List.setIfInBounds_toArray, List.set_cons_zero, List.set_cons_succ]
            refine ord_quietL _ ?_ rfl hS0 rfl ?_ ?_
            rotate_left
            · rintro w' ⟨hS1, hS2⟩; go_simp; rfl
            simp only [Act.put, List.setIfInBounds_toArray, List.set_cons_zero, List.set_cons_succ]
            refine ord_quietL _ ?_ rfl hS0 rfl ?_ ?_
            rotate_left
            · rintro w' ⟨hS1, hS2⟩; go_simp; rfl
            simp only [Act.put, List.setIfInBounds_toArray, List.set_cons_zero, List.set_cons_succ]
            refine ord_quietL _ ?_ rfl hS0 rfl ?_ ?_
            rotate_left
            · rintro w' ⟨hS1, hS2⟩; go_simp; rfl
            simp only [Act.put, List.setIfInBounds_toArray, List.set_cons_zero, List.set_cons_succ]
            refine ord_quietL _ ?_ rfl hS0 rfl ?_ ?_
            rotate_left
            · rintro w' ⟨hS1, hS2⟩; go_simp; rfl
            simp only [Act.put, List.setIfInBounds_toArray, List.set_cons_zero, List.set_cons_succ]
            refine ord_quietL _ ?_ rfl hS0 rfl ?_ ?_
            rotate_left
            · rintro w' ⟨hS1, hS2⟩; go_simp; rfl
            simp only [Act.put, List.setIfInBounds_toArray, List.set_cons_zero, List.set_cons_succ]
            refine ord_quietL _ ?_ rfl hS0 rfl ?_ ?_
            rotate_left
            · rintro w' ⟨hS1, hS2⟩; go_simp; rfl
            simp only [Act.put, List.setIfInBounds_toArray, List.set_cons_zero, List.set_cons_succ]
            refine ord_quietL _ ?_ rfl hS0 rfl ?_ ?_
            rotate_left
            · rintro w' ⟨hS1, hS2⟩; go_simp; rfl
            simp only [Act.put, List.setIfInBounds_toArray, List.set_cons_zero, List.set_cons_succ]
            refine ord_quietL _ ?_ rfl hS0 rfl ?_ ?_
            rotate_left
            · rintro w' ⟨hS1, hS2⟩; go_simp; rfl
            simp only [Act.put, List.setIfInBounds_toArray, List.set_cons_zero, List.set_cons_succ]
            refine ord_tail ?_
            simp only [List.drop_succ_cons, List.drop_zero]
            refine wpList_copy_set rfl _ _ 37 37 rfl 5 Try.underlying37 Try.size5 g (p.1 * 128) 128 128 ⟨wr.heap.size, 1, none⟩ 128 128 rfl rfl (flat A) 55 hGd.st ((p.2.take 128).map bv) (by simp [hq4]) (fun j v hj => ?hsrc) ?hfit (bv_oneCell _) ?_
            case hsrc =>
              rw [add_plain]
              rw [World.cell?_drew]
              refine hv2 j v ?_
              rw [List.map_take, List.getElem?_take] at hj
              split at hj
              · exact hj
              · cases hj
            case hfit =>
              rw [List.length_map, List.length_take, flat_length hsec]
              omega
            rw [flat_lay hsec p.1 hpl p.2 hq4 128 (by omega)]
            have f1 := hgen 128 (by omega)
            have f2 := hgen2 128
            clear hS0 hGd hgen hgen2 hGW hv hv1 hv2 c0 hrow hsec h hk hkeepW hfw
            generalize W.drew.setRow g (flat (A.set p.1 (lay (A[p.1]'hpl) p.2 128))).toArray = W9 at *
            go_wp2
            go_roundw
            case rel => exact ⟨k + 1, by omega, by go_num, by rw [H1.out]; exact f1, f2⟩
            case measure => simp [intOf]; omega
          | false =>
            have e1 : size1 keep torn cut k = 0 := by unfold size1; rw [if_neg ht, List.getD_eq_getElem?_getD, List.getElem?_eq_getElem hkk, hkb]; rfl
            have H1 : Hid (crashN D.st D.pd (size1 keep torn cut) (k + 1) = A.set p.1 (lay (A[p.1]'hpl) p.2 0)) := by have := H0.out; rw [e1] at this; exact this
            rw [hkb] at hkcell
            clear H0 e1 ht hkb
            go_wp2_with (first
              | (refine wpList_load_as rfl 86 _ rfl q (k * 129) rfl (wrv p) _ rfl hrow Try.row86 (size86 hq4) ?_)
              | (refine wpList_alloc_agg rfl 86 rfl _ Try.zero86 ?_)
              | (refine wpList_store_all rfl 86 _ _ rfl wr.heap.size rfl (wrv p) rfl _ rfl _ 86 (heap_alloc_new wr _) (wr_fit hq4) (wcell_oneCell _) (size86 hq4) ?_; rw [hWv.out]))
            have hS0 : (fun w' : World => w'.cell? ⟨b, 0, none⟩ = some (.slice (some ⟨g, 0, none⟩) A.length A.length) ∧ w'.cell? ⟨wr.heap.size, 0, none⟩ = some (.int .i64 (p.1 : Int))) W.drew :=
              ⟨by rw [World.cell?_drew]; exact c0, by rw [World.cell?_drew]; exact hv1⟩
            refine wp_region_ord [] 11 [(0, true), (1, true), (2, true), (3, true), (4, true), (5, true), (6, true), (7, true), (8, true), (9, true), (10, true)] (fun w' : World => w'.cell? ⟨b, 0, none⟩ = some (.slice (some ⟨g, 0, none⟩) A.length A.length) ∧ w'.cell? ⟨wr.heap.size, 0, none⟩ = some (.int .i64 (p.1 : Int))) (by kernel_rfl) (by kernel_rfl) ?_
            refine ord_quietL _ ?_ rfl hS0 rfl ?_ ?_
            rotate_left
            · rintro w' ⟨hS1, hS2⟩; go_simp; rfl
            simp only [Act.put, List.setIfInBounds_toArray, List.set_cons_zero, List.set_cons_succ]
            refine ord_quietL _ ?_ rfl hS0 rfl ?_ ?_
            rotate_left
            · rintro w' ⟨hS1, hS2⟩; go_simp; rfl
            simp only [Act.put, List.setIfInBounds_toArray, List.set_cons_zero, List.set_cons_succ]
            refine ord_quietL _ ?_ rfl hS0 rfl ?_ ?_
            rotate_left
            · rintro w' ⟨hS1, hS2⟩; go_simp; rfl
            simp only [Act.put, List.setIfInBounds_toArray, List.set_cons_zero, List.set_cons_succ]
            refine ord_quietL _ ?_ rfl hS0 rfl ?_ ?_
            rotate_left
            · rintro w' ⟨hS1, hS2⟩; go_simp; rfl
            simp only [Act.put, List.setIfInBounds_toArray, List.set_cons_zero, List.set_cons_succ]
            refine ord_quietL _ ?_ rfl hS0 rfl ?_ ?_
            rotate_left
            · rintro w' ⟨hS1, hS2⟩; go_simp; rfl
            simp only [Act.put, List.setIfInBounds_toArray, List.set_cons_zero, List.set_cons_succ]
            refine ord_quietL _ ?_ rfl hS0 rfl ?_ ?_
            rotate_left
            · rintro w' ⟨hS1, hS2⟩; go_simp; rfl
            simp only [Act.put, List.setIfInBounds_toArray, List.set_cons_zero, List.set_cons_succ]
            refine ord_quietL _ ?_ rfl hS0 rfl ?_ ?_
            rotate_left
            · rintro w' ⟨hS1, hS2⟩; go_simp; rfl
            simp only [Act.put, List.setIfInBounds_toArray, List.set_cons_zero, List.set_cons_succ]
            refine ord_quietL _ ?_ rfl hS0 rfl ?_ ?_
            rotate_left
            · rintro w' ⟨hS1, hS2⟩; go_simp; rfl
            simp only [Act.put, List.setIfInBounds_toArray, List.set_cons_zero, List.set_cons_succ]
            refine ord_quietL _ ?_ rfl hS0 rfl ?_ ?_
            rotate_left
            · rintro w' ⟨hS1, hS2⟩; go_simp; rfl
            simp only [Act.put, List.setIfInBounds_toArray, List.set_cons_zero, List.set_cons_succ]
            refine ord_quietL _ ?_ rfl hS0 rfl ?_ ?_
            rotate_left
            · rintro w' ⟨hS1, hS2⟩; go_simp; rfl
            simp only [Act.put, List.setIfInBounds_toArray, List.set_cons_zero, List.set_cons_succ]
            refine ord_quietL _ ?_ rfl hS0 rfl ?_ ?_
            rotate_left
            · rintro w' ⟨hS1, hS2⟩; go_simp; rfl
            simp only [Act.put, List.setIfInBounds_toArray, List.set_cons_zero, List.set_cons_succ]
            refine ord_tail ?_
            simp only [List.drop_succ_cons, List.drop_zero]
            refine wpList_copy_set rfl _ _ 37 37 rfl 5 Try.underlying37 Try.size5 g (p.1 * 128) 0 128 ⟨wr.heap.size, 1, none⟩ 128 128 rfl rfl (flat A) 55 hGd.st ((p.2.take 0).map bv) (by simp [hq4]) (fun j v hj => ?hsrc) ?hfit (bv_oneCell _) ?_
            case hsrc =>
              rw [add_plain]
              rw [World.cell?_drew]
              refine hv2 j v ?_
              rw [List.map_take, List.getElem?_take] at hj
              split at hj
              · exact hj
              · cases hj
            case hfit =>
              rw [List.length_map, List.length_take, flat_length hsec]
              omega
            rw [flat_lay hsec p.1 hpl p.2 hq4 0 (by omega)]
            have f1 := hgen 0 (by omega)
            have f2 := hgen2 0
            clear hS0 hGd hgen hgen2 hGW hv hv1 hv2 c0 hrow hsec h hk hkeepW hfw
            generalize W.drew.setRow g (flat (A.set p.1 (lay (A[p.1]'hpl) p.2 0))).toArray = W9 at *
            go_wp2
            go_roundw
            case rel => exact ⟨k + 1, by omega, by go_num, by rw [H1.out]; exact f1, f2⟩
            case measure => simp [intOf]; omega
        · have hkI : ¬ (k : Int) < (keep.length : Int) := by omega
          have e1 : size1 keep torn cut k = 0 := by unfold size1; rw [if_neg ht, List.getD_eq_getElem?_getD, List.getElem?_eq_none (by omega)]; rfl
          have H1 : Hid (crashN D.st D.pd (size1 keep torn cut) (k + 1) = A.set p.1 (lay (A[p.1]'hpl) p.2 0)) := by have := H0.out; rw [e1] at this; exact this
          clear H0 e1 ht
          go_wp2_with (first
            | (refine wpList_load_as rfl 86 _ rfl q (k * 129) rfl (wrv p) _ rfl hrow Try.row86 (size86 hq4) ?_)
            | (refine wpList_alloc_agg rfl 86 rfl _ Try.zero86 ?_)
            | (refine wpList_store_all rfl 86 _ _ rfl wr.heap.size rfl (wrv p) rfl _ rfl _ 86 (heap_alloc_new wr _) (wr_fit hq4) (wcell_oneCell _) (size86 hq4) ?_; rw [hWv.out]))
          have hS0 : (fun w' : World => w'.cell? ⟨b, 0, none⟩ = some (.slice (some ⟨g, 0, none⟩) A.length A.length) ∧ w'.cell? ⟨wr.heap.size, 0, none⟩ = some (.int .i64 (p.1 : Int))) W.drew :=
            ⟨by rw [World.cell?_drew]; exact c0, by rw [World.cell?_drew]; exact hv1⟩
          refine wp_region_ord [] 11 [(0, true), (1, true), (2, true), (3, true), (4, true), (5, true), (6, true), (7, true), (8, true), (9, true), (10, true)] (fun w' : World => w'.cell? ⟨b, 0, none⟩ = some (.slice (some ⟨g, 0, none⟩) A.length A.length) ∧ w'.cell? ⟨wr.heap.size, 0, none⟩ = some (.int .i64 (p.1 : Int))) (by kernel_rfl) (by kernel_rfl) ?_
          refine ord_quietL _ ?_ rfl hS0 rfl ?_ ?_
          rotate_left
          · rintro w' ⟨hS1, hS2⟩; go_simp; rfl
          simp only [Act.put, List.setIfInBounds_toArray, List.set_cons_zero, List.set_cons_succ]
          refine ord_quietL _ ?_ rfl hS0 rfl ?_ ?_
          rotate_left
          · rintro w' ⟨hS1, hS2⟩; go_simp; rfl
          simp only [Act.put, List.setIfInBounds_toArray, List.set_cons_zero, List.set_cons_succ]
          refine ord_quietL _ ?_ rfl hS0 rfl ?_ ?_
          rotate_left
          · rintro w' ⟨hS1, hS2⟩; go_simp; rfl
          simp only [Act.put, List.setIfInBounds_toArray, List.set_cons_zero, List.set_cons_succ]
          refine ord_quietL _ ?_ rfl hS0 rfl ?_ ?_
          rotate_left
          · rintro w' ⟨hS1, hS2⟩; go_simp; rfl
          simp only [Act.put, List.setIfInBounds_toArray, List.set_cons_zero, List.set_cons_succ]
          refine ord_quietL _ ?_ rfl hS0 rfl ?_ ?_
          rotate_left
          · rintro w' ⟨hS1, hS2⟩; go_simp; rfl
          simp only [Act.put, List.setIfInBounds_toArray, List.set_cons_zero, List.set_cons_succ]
          refine ord_quietL _ ?_ rfl hS0 rfl ?_ ?_
          rotate_left
          · rintro w' ⟨hS1, hS2⟩; go_simp; rfl
          simp only [Act.put, List.setIfInBounds_toArray, List.set_cons_zero, List.set_cons_succ]
          refine ord_quietL _ ?_ rfl hS0 rfl ?_ ?_
          rotate_left
          · rintro w' ⟨hS1, hS2⟩; go_simp; rfl
          simp only [Act.put, List.setIfInBounds_toArray, List.set_cons_zero, List.set_cons_succ]
          refine ord_quietL _ ?_ rfl hS0 rfl ?_ ?_
          rotate_left
          · rintro w' ⟨hS1, hS2⟩; go_simp; rfl
          simp only [Act.put, List.setIfInBounds_toArray, List.set_cons_zero, List.set_cons_succ]
          refine ord_quietL _ ?_ rfl hS0 rfl ?_ ?_
          rotate_left
          · rintro w' ⟨hS1, hS2⟩; go_simp; rfl
          simp only [Act.put, List.setIfInBounds_toArray, List.set_cons_zero, List.set_cons_succ]
          refine ord_quietL _ ?_ rfl hS0 rfl ?_ ?_
          rotate_left
          · rintro w' ⟨hS1, hS2⟩; go_simp; rfl
          simp only [Act.put, List.setIfInBounds_toArray, List.set_cons_zero, List.set_cons_succ]
          refine ord_quietL _ ?_ rfl hS0 rfl ?_ ?_
          rotate_left
          · rintro w' ⟨hS1, hS2⟩; go_simp; rfl
          simp only [Act.put, List.setIfInBounds_toArray, List.set_cons_zero, List.set_cons_succ]
          refine ord_tail ?_
          simp only [List.drop_succ_cons, List.drop_zero]
          refine wpList_copy_set rfl _ _ 37 37 rfl 5 Try.underlying37 Try.size5 g (p.1 * 128) 0 128 ⟨wr.heap.size, 1, none⟩ 128 128 rfl rfl (flat A) 55 hGd.st ((p.2.take 0).map bv) (by simp [hq4]) (fun j v hj => ?hsrc) ?hfit (bv_oneCell _) ?_
          case hsrc =>
            rw [add_plain]
            rw [World.cell?_drew]
            refine hv2 j v ?_
            rw [List.map_take, List.getElem?_take] at hj
            split at hj
            · exact hj
            · cases hj
          case hfit =>
            rw [List.length_map, List.length_take, flat_length hsec]
            omega
          rw [flat_lay hsec p.1 hpl p.2 hq4 0 (by omega)]
          have f1 := hgen 0 (by omega)
          have f2 := hgen2 0
          clear hS0 hGd hgen hgen2 hGW hv hv1 hv2 c0 hrow hsec h hk hkeepW hfw
          generalize W.drew.setRow g (flat (A.set p.1 (lay (A[p.1]'hpl) p.2 0))).toArray = W9 at *
          go_wp2
          go_roundw
          case rel => exact ⟨k + 1, by omega, by go_num, by rw [H1.out]; exact f1, f2⟩
          case measure => simp [intOf]; omega
    · have hkn : k = D.pd.length := by omega
      subst hkn
      obtain ⟨-, c1, c2, c3, cf⟩ := hG.cells
      have cf1 := cf 1
      have cf2 := cf 2
      have cf3 := cf 3
      have hfin := hG.reset
      have hff : Fr (Own b g (.slice ao D.pd.length cap)) w (((wr.setCell ⟨b, 1, none⟩ (.slice none 0 0)).setCell ⟨b, 2, none⟩ (.int .i64 (-1))).setCell ⟨b, 3, none⟩ (.bool false)) :=
        ((hfr.setCell (p := ⟨b, 1, none⟩) (.inl (.inl rfl)) _).setCell (p := ⟨b, 2, none⟩) (.inl (.inl rfl)) _).setCell (p := ⟨b, 3, none⟩) (.inl (.inl rfl)) _
      have hdone : Done base w b S (D.crash keep torn cut) (((wr.setCell ⟨b, 1, none⟩ (.slice none 0 0)).setCell ⟨b, 2, none⟩ (.int .i64 (-1))).setCell ⟨b, 3, none⟩ (.bool false)) :=
        ⟨_, diskAt_of hfin, hff.mono (fun k hk => (hS k).2 hk), fun k hk => .inl ((hS k).2 (own_nil k hk))⟩
      clear hpd hG hfr h hfin hff cf hk
      go_wp2
      go_end0
      exact ⟨rfl, hdone⟩
end Go.Proofs.Ytihdhlciblkbiaa
