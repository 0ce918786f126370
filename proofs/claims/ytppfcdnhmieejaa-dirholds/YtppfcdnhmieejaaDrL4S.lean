/-
  The walk of DirHolds.
-/
import Derived.Test.YtppfcdnhmieejaaDrA3S
import Derived.Test.YtppfcdnhmieejaaDrOpenS
namespace Go.Proofs.Ytppfcdnhmieejaa
set_option linter.unusedVariables false
set_option linter.unusedSimpArgs false
set_option maxRecDepth 20000
open Go.RowKit

def uV (x : Int) : Value := .int .u64 x

/-- What holds ahead of each deed: the directory lies in its variable, the names that were born in a row of their own. -/
def HRel (A S : Nat) (id q : Int) (W : World) (n : Nat) (uv kv : Value) (wr : World) : Prop :=
  ∃ (k m : Nat) (d : Th) (u1 u2 u3 u4 : Value) (bs : List Int), k ≤ n ∧ kv = .int .i64 k ∧ wr.heap[A]? = some (.cells (thC d u1 u2 u3 u4).toArray 34 (0, 0)) ∧ ThAt (fun b => b ≠ A ∧ uv.ownBlock ≠ some b) wr d u1 u2 u3 u4 ∧
    (DirT d ∧ d.id = id ∧ d.quota = q ∧ ∀ x ∈ bs, x ≤ id * 64 + d.next) ∧ wr.ownsRow S 23 1 uv m (bs.map uV) ∧ m ≤ k ∧ Fr (fun b => b = A) W wr

theorem HRel.mk {A S k m : Nat} {id q : Int} {W wr : World} {n : Nat} {uv : Value} {d : Th} {u1 u2 u3 u4 : Value} {bs : List Int} (h1 : k ≤ n) (h2 : wr.heap[A]? = some (.cells (thC d u1 u2 u3 u4).toArray 34 (0, 0))) (h3 : ThAt (fun b => b ≠ A ∧ uv.ownBlock ≠ some b) wr d u1 u2 u3 u4)
    (h4 : DirT d ∧ d.id = id ∧ d.quota = q ∧ ∀ x ∈ bs, x ≤ id * 64 + d.next) (h5 : wr.ownsRow S 23 1 uv m (bs.map uV)) (h6 : m ≤ k) (h7 : Fr (fun b => b = A) W wr) : HRel A S id q W n uv (.int .i64 k) wr := ⟨k, m, d, u1, u2, u3, u4, bs, h1, rfl, h2, h3, h4, h5, h6, h7⟩

theorem owns_get {w : World} {S e m : Nat} {ao : Option Addr} {n cap : Nat} {bs : List Int} (h : w.ownsRow S e 1 (.slice ao n cap) m (bs.map uV)) (i : Nat) (hi : i < bs.length) : ∃ g, ao = some ⟨g, 0, none⟩ ∧ w.cell? ⟨g, i, none⟩ = some (.int .u64 bs[i]) := by
  rcases h.2 with ⟨h1, h2⟩ | ⟨g, cap', cur, h1, hb, hg, hn, hm, hs, ht⟩
  · have := h.1
    simp at this
    omega
  · simp only [Value.slice.injEq] at h1
    refine ⟨g, h1.1, ?_⟩
    rw [cell_of_row w g i cur e (0, 0) hg]
    have hl := h.1
    simp at hl
    have : (bs.map uV)[i]? = some (.int .u64 bs[i]) := by rw [List.getElem?_map, List.getElem?_eq_getElem hi]; rfl
    rw [← ht, List.getElem?_take_of_lt (by omega)] at this
    simpa using this

theorem acts_fr {S : Nat → Prop} {K : Nat} {w w' : World} {v : Value} {ac : List DAct} (h : DActsAt K w v ac) (hf : Fr S w w') (hS : ∀ k, S k → K ≤ k) : DActsAt K w' v ac := by
  refine ⟨?_, h.2⟩
  obtain ⟨ao, cap, hv, hc, hn, hcs⟩ := h.1
  refine ⟨ao, cap, hv, hc, hn, fun i c hi => ?_⟩
  obtain ⟨b, off, h1, h2, h3⟩ := hcs i c hi
  have hb : b < w.heap.size := World.block_lt_of_cell? w _ h3
  exact ⟨b, off, h1, h2, by rw [World.cell?_of_block (w := w) (hf.block b hb (fun h => by have := hS b h; omega))]; exact h3⟩

theorem td64 {i n : Int} (h1 : 1 ≤ i) (h0 : 0 ≤ n) (h : n ≤ 62) : (i * 64 + n + 1).tdiv 64 = i := by
  rw [Int.tdiv_eq_ediv_of_nonneg (by omega)]
  omega
set_option maxRecDepth 100000 in
set_option maxHeartbeats 16000000 in
theorem c_lholds {vA : Value} {ac : List DAct} (id q : Int) (hq0 : -9223372036854775808 ≤ q) (hq1 : q ≤ 9223372036854775807) (w : World) (h : DActsAt w.heap.size w vA ac) :
    Calls Try.prog 6 #[.int .u64 id, .int .i64 q, vA] w fun e w' => e = .returned (.bool true) ∧ Nw w w' := by
  obtain ⟨aa, acp, hva, ⟨ha1, ha2⟩, -, -⟩ := h.1
  subst hva
  unfold maxLen at ha2
  have nW : Nw w w := nw_refl w
  go_enter Try.func6, Try.ntmps6
  have hcon : Hid _ := c_alive w
  go_wp2_with ((go_at_call 9; refine Calls.mono hcon.out ?_; rintro e W1 ⟨rfl, n1⟩; refine stop_here ?_))
  unfold Hid
  clear hcon
  replace nW := nw_trans nW n1
  go_upto_region 3 with fail
  have hcon : Hid _ := c_small id q W1
  go_wp2_with ((go_at_call 25; refine Calls.mono hcon.out ?_; rintro e W2 ⟨rfl, n2⟩; refine stop_here ?_))
  unfold Hid
  clear hcon
  replace nW := nw_trans nW n2
  have hts := small_at (fun b => b < w.heap.size) W2 id q
  have hwA := nW.size
  obtain ⟨Y0, hY⟩ : ∃ Y, Hid (Y = W2.alloc (.cells (thC zeroT (.slice none 0 0) (.slice none 0 0) (.slice none 0 0) (.slice none 0 0)).toArray 34)) := ⟨_, rfl⟩
  have hV0 : Y0.heap[W2.heap.size]? = some (.cells (thC zeroT (.slice none 0 0) (.slice none 0 0) (.slice none 0 0) (.slice none 0 0)).toArray 34 (0, 0)) := by rw [hY.out]; exact heap_alloc_new _ _
  obtain ⟨V3, hV⟩ : ∃ V, Hid (V = Y0.setRow W2.heap.size (thC (smallT id q) (.slice none 0 0) (.slice none 0 0) (.slice none 0 0) (.slice none 0 0)).toArray) := ⟨_, rfl⟩
  have nV3 : Nw W2 V3 := by rw [hV.out, hY.out]; exact Fr.setRow (nw_alloc (nw_refl _) _) (.inr (Nat.le_refl _)) _
  have hnew : V3.heap[W2.heap.size]? = some (.cells (thC (smallT id q) (.slice none 0 0) (.slice none 0 0) (.slice none 0 0) (.slice none 0 0)).toArray 34 (0, 0)) := by rw [hV.out]; exact setRow_heap _ _ _ _ _ _ hV0
  go_wp2_with (refine wpList_alloc_agg rfl 34 rfl _ Try.zeroTh ?_; rw [← hY.out]; refine stop_here ?_)
  unfold Hid
  refine wpList_store_all rfl 34 _ _ rfl (W2.heap.size) rfl (thV (smallT id q) (.slice none 0 0) (.slice none 0 0) (.slice none 0 0) (.slice none 0 0)) rfl (thC (smallT id q) (.slice none 0 0) (.slice none 0 0) (.slice none 0 0) (.slice none 0 0)) rfl (thC zeroT (.slice none 0 0) (.slice none 0 0) (.slice none 0 0) (.slice none 0 0)) 34 hV0 rfl (hts.one) Try.sizeT ?_
  rw [← hV.out]
  clear hV hY hV0
  replace hts := hts.nw nV3
  replace nW := nw_trans nW nV3
  have hV0 := hnew
  clear hnew
  generalize W2.heap.size = A0 at *
  go_upto_region 4 with fail
  by_cases hD : DirT (smallT id q)
  · have hD2 := hD
    replace hD : Hid _ := hD
    clear hD2
    by_cases h200 : 200 < ac.length
    · have hbl : decide ((200 : Int) < (ac.length : Int)) = true := decide_eq_true (by omega)
      have hcon : Hid _ := c_directory V3 hts (small_wf (n := 0)) (Nat.zero_le _) (Nat.zero_le _)
      unfold AnsP at hcon
      have hr0 := range_all hV0
      go_wp2_with (first | (refine wpList_load_as rfl 34 _ rfl (A0) 0 rfl (thV (smallT id q) (.slice none 0 0) (.slice none 0 0) (.slice none 0 0) (.slice none 0 0)) _ rfl hr0 Try.rowT Try.sizeT ?_) | (go_at_call 10; refine Calls.mono hcon.out ?_; rintro e W4 ⟨r, rfl, hr, n4⟩; refine stop_here ?_))
      unfold Hid
      clear hcon hr0
      replace hV0 := (n4.block _ (heap_lt hV0) (fun h => h)).trans hV0
      replace hts := hts.nw n4
      replace nW := nw_trans nW n4
      obtain rfl := hr.2 hD.out
      clear hr
      clear hV0 hts h
      go_wp2
      go_ret
      exact ⟨rfl, nW⟩
    · have hbl : decide ((200 : Int) < (ac.length : Int)) = false := decide_eq_false (by omega)
      replace h200 : ac.length ≤ 200 := by omega
      have hcon : Hid _ := c_directory V3 hts (small_wf (n := 0)) (Nat.zero_le _) (Nat.zero_le _)
      unfold AnsP at hcon
      have hr0 := range_all hV0
      go_wp2_with (first | (refine wpList_load_as rfl 34 _ rfl (A0) 0 rfl (thV (smallT id q) (.slice none 0 0) (.slice none 0 0) (.slice none 0 0) (.slice none 0 0)) _ rfl hr0 Try.rowT Try.sizeT ?_) | (go_at_call 10; refine Calls.mono hcon.out ?_; rintro e W4 ⟨r, rfl, hr, n4⟩; refine stop_here ?_))
      unfold Hid
      clear hcon hr0
      replace hV0 := (n4.block _ (heap_lt hV0) (fun h => h)).trans hV0
      replace hts := hts.nw n4
      replace nW := nw_trans nW n4
      obtain rfl := hr.2 hD.out
      clear hr
      go_upto_region 6 with fail
      clear hbl
      obtain ⟨i0, hi0, hz0, hs0, hb0⟩ := info_parts3 Try.infoU
      obtain ⟨S, hS⟩ : ∃ S, Hid (S = W4.heap.size) := ⟨_, rfl⟩
      have hAS : A0 < S := by have := heap_lt hV0; rw [hS.out]; omega
      obtain ⟨W, hW⟩ : ∃ Y, Hid (Y = W4.alloc (.cells #[] 23)) := ⟨_, rfl⟩
      have nY : Nw W4 W := by rw [hW.out]; exact nw_alloc (nw_refl _) _
      have hrow0 : W.ownsRow S 23 1 (.slice (some ⟨W4.heap.size, 0, none⟩) 0 0) 0 (([] : List Int).map uV) := by rw [hS.out, hW.out]; exact ⟨rfl, .inr ⟨W4.heap.size, 0, #[], rfl, Nat.le_refl _, heap_alloc_new W4 _, Nat.le_refl _, Nat.zero_le _, rfl, rfl⟩⟩
      go_wp2_with (refine wpList_buildSlice0 rfl 58 23 rfl Try.underlying58 (by kernel_rfl) ?_; rw [← hW.out]; refine stop_here ?_)
      unfold Hid
      clear hW
      have hact0 : DActsAt w.heap.size W4 (.slice aa ac.length acp) ac := acts_fr h nW (fun _ h => h.elim)
      clear h
      have hst0 : HRel A0 S id q W4 ac.length (.slice (some ⟨W4.heap.size, 0, none⟩) 0 0) (.int .i64 (0 : Nat)) W := HRel.mk (Nat.zero_le _) ((nY.block _ (heap_lt hV0) (fun h => h)).trans hV0) ((hts.nw nY).mono (fun b hb _ => ⟨by show b ≠ A0; have hb2 : b < w.heap.size := hb; omega, fun e => by have hb2 : b < w.heap.size := hb; have h5 : W4.heap.size = b := Option.some.inj e; have := nW.size; omega⟩)) ⟨hD.out, rfl, rfl, fun x hx => by simp at hx⟩ hrow0 (Nat.le_refl _) (fr_of_nw nY)
      have hWS : Hid (∀ k2, S ≤ k2 → W4.heap.size ≤ k2) := fun k2 h2 => by have := hS.out; omega
      clear hts hV0 hrow0 nY
      replace nW : Hid _ := nW
      replace hD : Hid _ := hD
      replace h200 : Hid _ := h200
      replace hact0 : Hid _ := hact0
      go_wp2
      go_loopw [8, 37] (fun uv kv wr => HRel A0 S id q W4 ac.length uv kv wr) (fun _ kv _ => ac.length - (intOf kv).toNat)
      case atStart => exact hst0
      case round =>
        clear hst0
        obtain ⟨k, m, d, u1, u2, u3, u4, bs, hk, rfl, hA, ht, hst, hrow, hmk, hfr⟩ := hrel
        obtain ⟨oa, oc, rfl⟩ := owns_form hrow
        by_cases hlt : k < ac.length
        · have nW := Fr.trans nW.out hfr (fun k hk => .inr (by have hk2 : k = A0 := hk; omega))
          obtain ⟨q0, off, hq0a, _, hr9, hok⟩ := (acts_fr hact0.out hfr (fun k hk => by have hk2 : k = A0 := hk; omega)).get k hlt
          subst hq0a
          have hmk2 : m ≤ 201 := by have := h200.out; omega
          generalize ac[k] = a at *
          obtain ⟨ak, aq, ai⟩ := a
          obtain ⟨⟨hok1, hok2⟩, hok3, hok4⟩ := hok
          dsimp only at hok1 hok2 hok3 hok4
          have c0 : wr.cell? ⟨q0, off + k * 3, none⟩ = some (.int .i64 ak) := hr9 0 _ rfl
          have c1 : wr.cell? ⟨q0, off + k * 3 + 1, none⟩ = some (.int .i64 aq) := hr9 1 _ rfl
          have c2 : wr.cell? ⟨q0, off + k * 3 + 2, none⟩ = some (.int .u64 ai) := hr9 2 _ rfl
          obtain ⟨Y2, hY2⟩ : ∃ Y, Hid (Y = wr.alloc (.cells #[.int .i64 ak, .int .i64 aq, .int .u64 ai] 60)) := ⟨_, rfl⟩
          have n2 : Nw wr Y2 := by rw [hY2.out]; exact nw_alloc (nw_refl _) _
          have hP : Y2.heap[wr.heap.size]? = some (.cells #[.int .i64 ak, .int .i64 aq, .int .u64 ai] 60 (0, 0)) := by rw [hY2.out]; exact heap_alloc_new _ _
          go_upto_region 10 with fail
          rw [← hY2.out]
          clear hY2 c0 c1 c2 hr9
          have hAB := heap_lt hA
          have hrB : ∀ k2, (Value.slice oa m oc).ownBlock = some k2 → S ≤ k2 ∧ k2 < wr.heap.size := fun k2 h2 => hrow.lt k2 h2
          replace hrB : Hid _ := hrB
          have hSB : Hid (S ≤ wr.heap.size) := by have h1 := hfr.size; have := hS.out; unfold Hid; omega
          replace hA := (n2.block _ (heap_lt hA) (fun h => h)).trans hA
          replace ht := ht.nw n2
          replace hrow := owns_nw hrow n2
          replace hfr := fr_nw hfr n2
          replace nW := nw_trans nW n2
          clear n2
          generalize wr.heap.size = B at *
          obtain ⟨hD1, hid, hqt, hbs⟩ := hst
          replace hbs : Hid _ := hbs
          have hub := used_bound hD1
          have hlk := hD1.ok.lk
          have h16 : d.links.length ≤ 1000 := by have := hD1.ok.len; omega
          replace hlk : Hid _ := hlk
          replace h16 : Hid _ := h16
          replace hD1 : Hid _ := hD1
          replace hid : Hid _ := hid
          replace hqt : Hid _ := hqt
          obtain ⟨us1, hus⟩ : ∃ x, usedL d.links = x := ⟨_, rfl⟩
          rw [hus] at hub
          replace hub : Hid _ := hub
          have hcu : Hid _ := c_used Y2 ht hlk.out h16.out
          rw [hus] at hcu
          replace hus : Hid _ := hus
          have hcon : Hid _ := hcu.out
          have hr0 := range_all hA
          go_wp2_with (first | (refine wpList_load_as rfl 34 _ rfl (A0) 0 rfl (thV d u1 u2 u3 u4) _ rfl hr0 Try.rowT Try.sizeT ?_) | (go_at_call 13; refine Calls.mono hcon.out ?_; rintro e W5 ⟨rfl, n5⟩; refine stop_here ?_))
          unfold Hid
          clear hcon hr0 hcu
          replace hA := (n5.block _ (heap_lt hA) (fun h => h)).trans hA
          replace ht := ht.nw n5
          replace hrow := owns_nw hrow n5
          replace hfr := fr_nw hfr n5
          replace hP := (n5.block _ (heap_lt hP) (fun h => h)).trans hP
          replace nW := nw_trans nW n5
          go_upto_region 11 with fail
          have p0 : W5.cell? ⟨B, 0, none⟩ = some (.int .i64 ak) := cell_blk hP rfl
          have p1 : W5.cell? ⟨B, 1, none⟩ = some (.int .i64 aq) := cell_blk hP rfl
          have p2 : W5.cell? ⟨B, 2, none⟩ = some (.int .u64 ai) := cell_blk hP rfl
          replace hok1 : Hid _ := hok1
          replace hok2 : Hid _ := hok2
          replace hok3 : Hid _ := hok3
          replace hok4 : Hid _ := hok4
          replace hmk2 : Hid _ := hmk2
          by_cases k0 : ak = 0
          · have kb : (ak == 0) = true := by simp [k0]
            replace k0 : Hid _ := k0
            go_upto_region 13 with fail
            clear kb
            obtain ⟨⟨nx, nm, er⟩, hbo⟩ : ∃ x, bornT d aq = x := ⟨_, rfl⟩
            have hqa : Hid _ := c_born aq W5 ht hD1.out hok1.out hok2.out
            rw [hbo] at hqa
            have hsB : Hid (A0 < W5.heap.size ∧ B < W5.heap.size) := ⟨heap_lt hA, heap_lt hP⟩
            have hcon : Hid _ := hqa.out
            unfold BoP at hcon
            have hr0 := range_all hA
            go_wp2_with (first | (refine wpList_load_as rfl 34 _ rfl (A0) 0 rfl (thV d u1 u2 u3 u4) _ rfl hr0 Try.rowT Try.sizeT ?_) | (go_at_call 20; refine Calls.mono hcon.out ?_; rintro e W6 ⟨b1, b2, b3, b4, rfl, hc, n6⟩; refine stop_here ?_))
            unfold Hid
            clear hcon hr0 hqa p0 p2
            replace hA := (n6.block _ (heap_lt hA) (fun h => h)).trans hA
            replace ht := ht.nw n6
            replace hrow := owns_nw hrow n6
            replace hfr := fr_nw hfr n6
            replace hP := (n6.block _ (heap_lt hP) (fun h => h)).trans hP
            replace nW := nw_trans nW n6
            replace hc := hc.mono (X' := fun b => b ≠ A0 ∧ (Value.slice oa m oc).ownBlock ≠ some b) (fun b hb _ => ⟨by have hb2 : W5.heap.size ≤ b := hb; have := hsB.out.1; show b ≠ A0; omega, fun e => by have hb2 : W5.heap.size ≤ b := hb; have := (hrB.out b e).2; have := hsB.out.2; omega⟩)
            obtain ⟨Y12, hY⟩ : ∃ Y, Hid (Y = W6.alloc (.cells (thC zeroT (.slice none 0 0) (.slice none 0 0) (.slice none 0 0) (.slice none 0 0)).toArray 34)) := ⟨_, rfl⟩
            have hV12 : Y12.heap[W6.heap.size]? = some (.cells (thC zeroT (.slice none 0 0) (.slice none 0 0) (.slice none 0 0) (.slice none 0 0)).toArray 34 (0, 0)) := by rw [hY.out]; exact heap_alloc_new _ _
            obtain ⟨V7, hV⟩ : ∃ V, Hid (V = Y12.setRow W6.heap.size (thC nx b1 b2 b3 b4).toArray) := ⟨_, rfl⟩
            have nV7 : Nw W6 V7 := by rw [hV.out, hY.out]; exact Fr.setRow (nw_alloc (nw_refl _) _) (.inr (Nat.le_refl _)) _
            have hnew : V7.heap[W6.heap.size]? = some (.cells (thC nx b1 b2 b3 b4).toArray 34 (0, 0)) := by rw [hV.out]; exact setRow_heap _ _ _ _ _ _ hV12
            go_wp2_with (refine wpList_alloc_agg rfl 34 rfl _ Try.zeroTh ?_; rw [← hY.out]; refine stop_here ?_)
            unfold Hid
            refine wpList_store_all rfl 34 _ _ rfl (W6.heap.size) rfl (thV nx b1 b2 b3 b4) rfl (thC nx b1 b2 b3 b4) rfl (thC zeroT (.slice none 0 0) (.slice none 0 0) (.slice none 0 0) (.slice none 0 0)) 34 hV12 rfl (hc.one) Try.sizeT ?_
            rw [← hV.out]
            clear hV hY hV12
            have hlP := heap_lt hP
            have hlA := heap_lt hA
            replace hA := (nV7.block _ (heap_lt hA) (fun h => h)).trans hA
            replace ht := ht.nw nV7
            replace hc := hc.nw nV7
            replace hrow := owns_nw hrow nV7
            replace hfr := fr_nw hfr nV7
            replace hP := (nV7.block _ (heap_lt hP) (fun h => h)).trans hP
            replace nW := nw_trans nW nV7
            have hV12 := hnew
            clear hnew
            generalize W6.heap.size = A12 at *
            go_upto_region 14 with fail
            by_cases he : er = 0
            · have hbe : (er == 0) = true := by simp [he]
              have hbr := born_right (q := aq) hD1.out (by rw [hbo]; exact he)
              rw [hbo] at hbr
              obtain ⟨r1, r2, r3, r4, r5, r6, r7, r8⟩ := hbr
              replace r1 : DirT nx := r1
              replace r2 : nx = { d with next := d.next + 1, links := insL d.links (nm, aq) } := r2
              replace r3 : nm = d.id * 64 + d.next + 1 := r3
              have hnx0 := hD1.out.ok.next
              unfold btw at hnx0
              have hidr := hD1.out.right.id
              unfold idOk at hidr
              have x1 : nx.id = id := by rw [r2]; exact hid.out
              have x2 : nx.quota = q := by rw [r2]; exact hqt.out
              have x3 : nx.next = d.next + 1 := by rw [r2]
              have x4 : usedL nx.links = us1 + aq := by rw [r2, ← hus.out]; exact used_ins d.links (nm, aq)
              have x5 : hasB nx.links nm = true := by rw [r2]; exact has_ins d.links (nm, aq)
              have x6 : nm.tdiv 64 = id := by rw [r3, ← hid.out]; exact td64 hidr.1 hnx0.1 r4
              have x7 : ∀ x ∈ bs, (x == nm) = false := fun x hx => by have := hbs.out x hx; have := hid.out; rw [beq_eq_false_iff_ne]; omega
              have x8 : ∀ x ∈ bs ++ [nm], x ≤ id * 64 + nx.next := fun x hx => by rw [x3]; rcases List.mem_append.1 hx with h | h; exact Int.le_trans (hbs.out x h) (by omega); rw [List.mem_singleton.1 h, r3, hid.out]; omega
              replace r1 : Hid _ := r1
              replace x1 : Hid _ := x1
              replace x2 : Hid _ := x2
              replace x3 : Hid _ := x3
              replace x4 : Hid _ := x4
              replace x5 : Hid _ := x5
              replace x7 : Hid _ := x7
              replace x8 : Hid _ := x8
              replace hnx0 : Hid _ := hnx0
              replace hidr : Hid _ := hidr
              replace r7 : Hid _ := r7
              replace r8 : Hid _ := r8
              have hquo : Hid (nm.tdiv 64 = id ∧ IntKind.u64.wrap id = id) := ⟨x6, by have := hid.out; have := hidr.out; rw [IntKind.wrap_u64]; omega⟩
              clear r2 r3 r4 r5 r6 x6 hbo he
              have hwr : IntKind.i64.wrap (us1 + aq) = us1 + aq := by have := hub.out; have := r7.out; have := r8.out; rw [IntKind.wrap_i64]; omega
              have hbl := hrow.1
              rw [List.length_map] at hbl
              go_upto_region 15 with fail
              clear hbe
              go_wp2
              go_loopw [59] (fun kv2 wz => ∃ k2 : Nat, k2 ≤ m ∧ kv2 = .int .i64 k2 ∧ wz = V7) (fun kv2 _ => m - (intOf kv2).toNat)
              case atStart => exact ⟨0, Nat.zero_le _, rfl, (by first | rfl | trivial)⟩
              case round =>
                obtain ⟨k2, hk2, rfl, hwz⟩ := hrel
                have hwz2 := hwz.symm
                subst hwz2
                clear hwz
                by_cases hl2 : k2 < m
                · obtain ⟨g, hg, hgc⟩ := owns_get hrow k2 (by omega)
                  subst hg
                  have hne := x7.out bs[k2] (List.getElem_mem (by omega))
                  generalize bs[k2] = y at *
                  clear p1 hA hP hV12
                  go_wp2
                  go_roundw
                  case rel => exact ⟨k2 + 1, by omega, by go_num, (by first | rfl | trivial)⟩
                  case measure => simp [intOf]; omega
                · have hk2m : Hid (k2 = m) := by unfold Hid; omega
                  go_upto_region 21 with fail
                  clear hl2 hk2
                  go_wp2_with (at_builtin; refine wpList_append_sl _ rfl _ _ 58 rfl S 23 i0 _ 1 8 Try.underlying58 hi0 hz0 hs0 hb0 rfl (by decide) _ _ _ rfl (World.ownsRow.alloc hrow (.cells #[.int .u64 nm] 23)) _ _ 1 _ rfl (sl_lit _ #[.int .u64 nm] 23 1 (by omega)) rfl ?d1 ?d2 ?d3 ?d4 ?_)
                  case d1 => first | (intro u hu; simp at hu; rcases hu with rfl; rfl) | simp [Value.oneCell']
                  case d2 => have := hmk2.out; unfold maxLen; omega
                  case d3 => have := hmk2.out; omega
                  case d4 => have := heap_lt hP; have := hSB.out; simp; omega
                  intro v9 w9 hown9 hgrow9 hat9
                  have m9 : Fr (fun k2 => (Value.slice oa m oc).ownBlock = some k2) V7 w9 := Fr.grown (fr_of_nw (nw_alloc (nw_refl _) _)) hgrow9 (fun q hq => .inl hq)
                  have hrow2 : w9.ownsRow S 23 1 v9 (m + 1) ((bs ++ [nm]).map uV) := by rw [List.map_append]; exact hown9
                  have hcb : ∀ b, b < V7.heap.size → (Value.slice oa m oc).ownBlock ≠ some b → v9.ownBlock ≠ some b := fun b hb hn e => by rcases hat9 with h | h; exact hn (h ▸ e); rw [h] at e; have h7 := (nw_alloc (nw_refl V7) (.cells #[.int .u64 nm] 23)).size; have := Option.some.inj e; omega
                  have hc2 : ThAt (fun b => b ≠ A0 ∧ v9.ownBlock ≠ some b) w9 nx b1 b2 b3 b4 := hc.keep m9 (fun b hb _ e => hb.2 e) (fun b hb hlt => ⟨hb.1, hcb b hlt hb.2⟩)
                  obtain ⟨a9, c9, rfl⟩ := owns_form hown9
                  replace hA := (m9.block _ (heap_lt hA) (fun h => by have := (hrB.out _ h).1; omega)).trans hA
                  replace hP := (m9.block _ (heap_lt hP) (fun h => by have := (hrB.out _ h).2; omega)).trans hP
                  replace hV12 := (m9.block _ (heap_lt hV12) (fun h => by have := (hrB.out _ h).2; omega)).trans hV12
                  replace nW : Nw w w9 := Fr.trans nW m9 (fun k2 hk => .inr (by have := (hrB.out _ hk).1; omega))
                  replace hfr : Fr (fun b => b = A0) W4 w9 := Fr.trans hfr m9 (fun k2 hk => .inr (hWS.out k2 (hrB.out _ hk).1))
                  clear hrow hown9 hgrow9 hat9 m9 hc ht p1 hcb
                  have hrow := hrow2
                  clear hrow2
                  have hc := hc2
                  clear hc2
                  go_upto_region 22 with fail
                  have hlkn : Hid (LkOk nx.links) := r1.out.ok.lk
                  have h16n : Hid (nx.links.length ≤ 1000) := by have := r1.out.ok.len; unfold Hid; omega
                  have hSof : ∀ w', Nw w9 w' → (fun w' : World => Nw w9 w' ∧ w'.heap[B]? = some (.cells #[.int .i64 ak, .int .i64 aq, .int .u64 ai] 60 (0, 0)) ∧ w'.heap[A12]? = some (.cells (thC nx b1 b2 b3 b4).toArray 34 (0, 0))) w' := fun w' hw => ⟨hw, (hw.block _ (heap_lt hP) (fun h => h)).trans hP, (hw.block _ (heap_lt hV12) (fun h => h)).trans hV12⟩
                  have hW0 : Nw w9 w9.drew := Fr.drew (Fr.refl _ w9)
                  have hS := hSof _ hW0
                  replace hc := hc.nw hW0
                  replace hSof : Hid _ := hSof
                  refine wp_region_ord [] 18 [(0, true), (2, true), (1, true), (3, true), (4, true), (5, true), (7, true), (8, true), (9, true), (10, true), (6, false), (11, true), (12, true), (13, true), (14, true), (15, true), (16, false), (17, true)] (fun w' : World => Nw w9 w' ∧ w'.heap[B]? = some (.cells #[.int .i64 ak, .int .i64 aq, .int .u64 ai] 60 (0, 0)) ∧ w'.heap[A12]? = some (.cells (thC nx b1 b2 b3 b4).toArray 34 (0, 0))) (by kernel_rfl) (by kernel_rfl) ?_
                  refine ord_quietL _ ?_ rfl hS rfl ?_ ?_
                  rotate_left
                  · rintro w' ⟨hn, rhP, rhV12⟩; go_simp; rfl
                  simp only [Act.put, List.setIfInBounds_toArray, List.set_cons_zero, List.set_cons_succ]
                  refine ord_quietL _ ?_ rfl hS rfl ?_ ?_
                  rotate_left
                  · rintro w' ⟨hn, rhP, rhV12⟩; go_simp; rfl
                  simp only [Act.put, List.setIfInBounds_toArray, List.set_cons_zero, List.set_cons_succ]
                  refine ord_quietL _ ?_ rfl hS rfl ?_ ?_
                  rotate_left
                  · rintro w' ⟨hn, rhP, rhV12⟩; show (execOp _ _).run _ w' = Result.ok (.value (.int .u64 id)) w'; have h8 := hquo.out.1; have h9 := hquo.out.2; go_simp; first | done | (rw [h8]; done) | (rw [h8, h9]; done) | (simp [h8, h9]; done)
                  simp only [Act.put, List.setIfInBounds_toArray, List.set_cons_zero, List.set_cons_succ]
                  refine ord_quietL _ ?_ rfl hS rfl ?_ ?_
                  rotate_left
                  · rintro w' ⟨hn, rhP, rhV12⟩; show (execOp _ _).run _ w' = Result.ok (.value (.bool false)) w'; go_simp; first | done | (simp; done)
                  simp only [Act.put, List.setIfInBounds_toArray, List.set_cons_zero, List.set_cons_succ]
                  refine ord_quietL _ ?_ rfl hS rfl ?_ ?_
                  rotate_left
                  · rintro w' ⟨hn, rhP, rhV12⟩; go_simp; rfl
                  simp only [Act.put, List.setIfInBounds_toArray, List.set_cons_zero, List.set_cons_succ]
                  refine ord_quietL _ ?_ rfl hS rfl ?_ ?_
                  rotate_left
                  · rintro w' ⟨hn, rhP, rhV12⟩; refine (run_load_th _ w' rfl (A12) rfl rhV12).trans ?_; rfl
                  simp only [Act.put, List.setIfInBounds_toArray, List.set_cons_zero, List.set_cons_succ]
                  refine ord_quietL _ ?_ rfl hS rfl ?_ ?_
                  rotate_left
                  · rintro w' ⟨hn, rhP, rhV12⟩; go_simp; rfl
                  simp only [Act.put, List.setIfInBounds_toArray, List.set_cons_zero, List.set_cons_succ]
                  refine ord_quietL _ ?_ rfl hS rfl ?_ ?_
                  rotate_left
                  · rintro w' ⟨hn, rhP, rhV12⟩; go_simp; rfl
                  simp only [Act.put, List.setIfInBounds_toArray, List.set_cons_zero, List.set_cons_succ]
                  refine ord_quietL _ ?_ rfl hS rfl ?_ ?_
                  rotate_left
                  · rintro w' ⟨hn, rhP, rhV12⟩; have g0 : w'.cell? ⟨B, 1, none⟩ = some (.int .i64 aq) := cell_blk rhP rfl; go_simp; rfl
                  simp only [Act.put, List.setIfInBounds_toArray, List.set_cons_zero, List.set_cons_succ]
                  refine ord_quietL _ ?_ rfl hS rfl ?_ ?_
                  rotate_left
                  · rintro w' ⟨hn, rhP, rhV12⟩; go_simp; rfl
                  simp only [Act.put, List.setIfInBounds_toArray, List.set_cons_zero, List.set_cons_succ]
                  refine ord_actL _ rfl (fun K1 hK1 => ?_)
                  have hcon : Hid _ := c_used w9.drew hc hlkn.out h16n.out
                  rw [x4.out] at hcon
                  go_wp2_with (go_at_call 13; refine Calls.mono hcon.out ?_; rintro e wk0 ⟨rfl, qn⟩)
                  have m0 := nw_trans hW0 qn
                  replace hc := hc.nw qn
                  refine hK1 _ _ (hSof.out _ m0) ?_
                  clear hK1 K1 hcon qn hS hW0
                  have hS := hSof.out _ m0
                  refine ord_quietL _ ?_ rfl hS rfl ?_ ?_
                  rotate_left
                  · rintro w' ⟨hn, rhP, rhV12⟩; show (execOp _ _).run _ w' = Result.ok (.value (.bool false)) w'; go_simp; first | done | (simp; done)
                  simp only [Act.put, List.setIfInBounds_toArray, List.set_cons_zero, List.set_cons_succ]
                  refine ord_quietL _ ?_ rfl hS rfl ?_ ?_
                  rotate_left
                  · rintro w' ⟨hn, rhP, rhV12⟩; go_simp; rfl
                  simp only [Act.put, List.setIfInBounds_toArray, List.set_cons_zero, List.set_cons_succ]
                  refine ord_quietL _ ?_ rfl hS rfl ?_ ?_
                  rotate_left
                  · rintro w' ⟨hn, rhP, rhV12⟩; go_simp; rfl
                  simp only [Act.put, List.setIfInBounds_toArray, List.set_cons_zero, List.set_cons_succ]
                  refine ord_quietL _ ?_ rfl hS rfl ?_ ?_
                  rotate_left
                  · rintro w' ⟨hn, rhP, rhV12⟩; refine (run_load_th _ w' rfl (A12) rfl rhV12).trans ?_; rfl
                  simp only [Act.put, List.setIfInBounds_toArray, List.set_cons_zero, List.set_cons_succ]
                  refine ord_quietL _ ?_ rfl hS rfl ?_ ?_
                  rotate_left
                  · rintro w' ⟨hn, rhP, rhV12⟩; go_simp; rfl
                  simp only [Act.put, List.setIfInBounds_toArray, List.set_cons_zero, List.set_cons_succ]
                  refine ord_actL _ rfl (fun K1 hK1 => ?_)
                  have hcon : Hid _ := c_has nm wk0 hc hlkn.out h16n.out
                  rw [x5.out] at hcon
                  go_wp2_with (go_at_call 15; refine Calls.mono hcon.out ?_; rintro e wk1 ⟨rfl, qn⟩)
                  have m1 := nw_trans m0 qn
                  replace hc := hc.nw qn
                  refine hK1 _ _ (hSof.out _ m1) ?_
                  clear hK1 K1 hcon qn hS m0
                  have hS := hSof.out _ m1
                  refine ord_quietL _ ?_ rfl hS rfl ?_ ?_
                  rotate_left
                  · rintro w' ⟨hn, rhP, rhV12⟩; go_simp; rfl
                  simp only [Act.put, List.setIfInBounds_toArray, List.set_cons_zero, List.set_cons_succ]
                  refine ord_tail ?_
                  simp only [List.drop_succ_cons, List.drop_zero]
                  have n7 : Nw w9 wk1 := m1
                  clear hSof hS m1
                  replace hA := (n7.block _ (heap_lt hA) (fun h => h)).trans hA
                  replace hV12 := (n7.block _ (heap_lt hV12) (fun h => h)).trans hV12
                  replace hrow := owns_nw hrow n7
                  replace hfr := fr_nw hfr n7
                  replace nW := nw_trans nW n7
                  clear n7 hP
                  go_upto_region 24 with fail
                  clear hquo hwr
                  have hr1 := range_all hV12
                  go_wp2_with (first | (refine wpList_load_as rfl 34 _ rfl (A12) 0 rfl (thV nx b1 b2 b3 b4) _ rfl hr1 Try.rowT Try.sizeT ?_; refine stop_here ?_))
                  unfold Hid
                  clear hr1
                  obtain ⟨W8, hV⟩ : ∃ V, Hid (V = wk1.setRow (A0) (thC nx b1 b2 b3 b4).toArray) := ⟨_, rfl⟩
                  have fV : Fr (fun k => k = A0) wk1 W8 := by rw [hV.out]; exact (Fr.refl (fun k => k = A0) wk1).setRow (.inl rfl) _
                  have hnew : W8.heap[A0]? = some (.cells (thC nx b1 b2 b3 b4).toArray 34 (0, 0)) := by rw [hV.out]; exact setRow_heap _ _ _ _ _ _ hA
                  refine wpList_store_all rfl 34 _ _ rfl (A0) rfl (thV nx b1 b2 b3 b4) rfl (thC nx b1 b2 b3 b4) rfl (thC d u1 u2 u3 u4) 34 hA rfl (hc.one) Try.sizeT ?_
                  rw [← hV.out]
                  clear hV
                  replace hA := hnew
                  replace hV12 := (fV.block _ (heap_lt hV12) (by show ¬ _ = _; omega)).trans hV12
                  clear hnew
                  replace hc := hc.keep fV (fun b hb _ e => hb.1 e) (fun b hb _ => hb)
                  replace nW : Nw w W8 := Fr.trans nW fV (fun k hk => .inr (by have hk2 : k = A0 := hk; omega))
                  replace hfr : Fr (fun b => b = A0) W4 W8 := Fr.trans hfr fV (fun k hk => .inl hk)
                  replace hrow := owns_fr hrow fV (fun k hk => by have hk2 : k = A0 := hk; omega)
                  clear fV
                  obtain ⟨bs2, hbs2⟩ : ∃ l, bs ++ [nm] = l := ⟨_, rfl⟩
                  rw [hbs2] at hrow x8
                  clear hbs2
                  go_upto_region 36 with fail
                  have hst2 : Hid (DirT nx ∧ nx.id = id ∧ nx.quota = q ∧ ∀ x ∈ bs2, x ≤ id * 64 + nx.next) := ⟨r1.out, x1.out, x2.out, x8.out⟩
                  obtain ⟨s1, s2, s3, s4⟩ := dir_sizes hst2.out.1
                  have hlk2 := hst2.out.1.ok.lk
                  have h162 : nx.links.length ≤ 1000 := by have := hst2.out.1.ok.len; omega
                  replace hlk2 : Hid _ := hlk2
                  replace h162 : Hid _ := h162
                  replace s1 : Hid _ := s1
                  replace s2 : Hid _ := s2
                  clear s3 s4
                  have hcon : Hid _ := c_directory W8 hc (dir_wf hst2.out.1) s1.out s2.out
                  unfold AnsP at hcon
                  have hr0 := range_all hA
                  go_wp2_with (first | (refine wpList_load_as rfl 34 _ rfl (A0) 0 rfl (thV nx b1 b2 b3 b4) _ rfl hr0 Try.rowT Try.sizeT ?_) | (go_at_call 10; refine Calls.mono hcon.out ?_; rintro e W9 ⟨r, rfl, hr, n9⟩; refine stop_here ?_))
                  unfold Hid
                  clear hcon hr0
                  replace hA := (n9.block _ (heap_lt hA) (fun h => h)).trans hA
                  replace hc := hc.nw n9
                  replace hrow := owns_nw hrow n9
                  replace hfr := fr_nw hfr n9
                  replace nW := nw_trans nW n9
                  obtain rfl := hr.2 hst2.out.1
                  clear hr
                  obtain ⟨us3, hus3⟩ : ∃ x, usedL nx.links = x := ⟨_, rfl⟩
                  have hle : decide (q < us3) = false := decide_eq_false (by have h1 := hst2.out.1.ok.sum; have h2 := hst2.out.2.2.1; unfold usedL at hus3; omega)
                  have hcu : Hid _ := c_used W9 hc hlk2.out h162.out
                  rw [hus3] at hcu
                  replace hus3 : Hid _ := hus3
                  have hcon : Hid _ := hcu.out
                  have hr0 := range_all hA
                  go_wp2_with (first | (refine wpList_load_as rfl 34 _ rfl (A0) 0 rfl (thV nx b1 b2 b3 b4) _ rfl hr0 Try.rowT Try.sizeT ?_) | (go_at_call 13; refine Calls.mono hcon.out ?_; rintro e W10 ⟨rfl, n10⟩; refine stop_here ?_))
                  unfold Hid
                  clear hcon hr0 hcu
                  replace hA := (n10.block _ (heap_lt hA) (fun h => h)).trans hA
                  replace hc := hc.nw n10
                  replace hrow := owns_nw hrow n10
                  replace hfr := fr_nw hfr n10
                  replace nW := nw_trans nW n10
                  have e0 : W10.cell? ⟨A0, 0, none⟩ = some (.int .u64 id) := by have h9 : W10.cell? ⟨A0, 0, none⟩ = some (.int .u64 nx.id) := cell_blk hA rfl; rw [hst2.out.2.1] at h9; exact h9
                  have e6 : W10.cell? ⟨A0, 6, none⟩ = some (.int .i64 q) := by have h9 : W10.cell? ⟨A0, 6, none⟩ = some (.int .i64 nx.quota) := cell_blk hA rfl; rw [hst2.out.2.2.1] at h9; exact h9
                  have hend : Hid (HRel A0 S id q W4 ac.length (.slice a9 (m + 1) c9) (.int .i64 ((k + 1 : Nat))) W10) := HRel.mk (by omega) hA hc hst2.out hrow (by omega) hfr
                  clear hA hc hrow hfr
                  go_wp2
                  go_roundw
                  case rel => exact hend.out
                  case measure => simp [intOf]; omega
            · have hbe : (er == 0) = false := by simp [he]
              have hye : nx = d := by have := (born_err (t := d) (q := aq) (by rw [hbo]; exact he)).1; rw [hbo] at this; exact this
              rw [hye] at hc hV12
              clear hye hbo he hP
              go_upto_region 24 with fail
              clear hbe ht p1
              have hr1 := range_all hV12
              go_wp2_with (first | (refine wpList_load_as rfl 34 _ rfl (A12) 0 rfl (thV d b1 b2 b3 b4) _ rfl hr1 Try.rowT Try.sizeT ?_; refine stop_here ?_))
              unfold Hid
              clear hr1
              obtain ⟨W8, hV⟩ : ∃ V, Hid (V = V7.setRow (A0) (thC d b1 b2 b3 b4).toArray) := ⟨_, rfl⟩
              have fV : Fr (fun k => k = A0) V7 W8 := by rw [hV.out]; exact (Fr.refl (fun k => k = A0) V7).setRow (.inl rfl) _
              have hnew : W8.heap[A0]? = some (.cells (thC d b1 b2 b3 b4).toArray 34 (0, 0)) := by rw [hV.out]; exact setRow_heap _ _ _ _ _ _ hA
              refine wpList_store_all rfl 34 _ _ rfl (A0) rfl (thV d b1 b2 b3 b4) rfl (thC d b1 b2 b3 b4) rfl (thC d u1 u2 u3 u4) 34 hA rfl (hc.one) Try.sizeT ?_
              rw [← hV.out]
              clear hV
              replace hA := hnew
              replace hV12 := (fV.block _ (heap_lt hV12) (by show ¬ _ = _; omega)).trans hV12
              clear hnew
              replace hc := hc.keep fV (fun b hb _ e => hb.1 e) (fun b hb _ => hb)
              replace nW : Nw w W8 := Fr.trans nW fV (fun k hk => .inr (by have hk2 : k = A0 := hk; omega))
              replace hfr : Fr (fun b => b = A0) W4 W8 := Fr.trans hfr fV (fun k hk => .inl hk)
              replace hrow := owns_fr hrow fV (fun k hk => by have hk2 : k = A0 := hk; omega)
              clear fV
              obtain ⟨bs2, hbs2⟩ : ∃ l, bs = l := ⟨_, rfl⟩
              rw [hbs2] at hrow hbs
              clear hbs2
              go_upto_region 36 with fail
              have hst2 : Hid (DirT d ∧ d.id = id ∧ d.quota = q ∧ ∀ x ∈ bs2, x ≤ id * 64 + d.next) := ⟨hD1.out, hid.out, hqt.out, hbs.out⟩
              obtain ⟨s1, s2, s3, s4⟩ := dir_sizes hst2.out.1
              have hlk2 := hst2.out.1.ok.lk
              have h162 : d.links.length ≤ 1000 := by have := hst2.out.1.ok.len; omega
              replace hlk2 : Hid _ := hlk2
              replace h162 : Hid _ := h162
              replace s1 : Hid _ := s1
              replace s2 : Hid _ := s2
              clear s3 s4
              have hcon : Hid _ := c_directory W8 hc (dir_wf hst2.out.1) s1.out s2.out
              unfold AnsP at hcon
              have hr0 := range_all hA
              go_wp2_with (first | (refine wpList_load_as rfl 34 _ rfl (A0) 0 rfl (thV d b1 b2 b3 b4) _ rfl hr0 Try.rowT Try.sizeT ?_) | (go_at_call 10; refine Calls.mono hcon.out ?_; rintro e W9 ⟨r, rfl, hr, n9⟩; refine stop_here ?_))
              unfold Hid
              clear hcon hr0
              replace hA := (n9.block _ (heap_lt hA) (fun h => h)).trans hA
              replace hc := hc.nw n9
              replace hrow := owns_nw hrow n9
              replace hfr := fr_nw hfr n9
              replace nW := nw_trans nW n9
              obtain rfl := hr.2 hst2.out.1
              clear hr
              obtain ⟨us3, hus3⟩ : ∃ x, usedL d.links = x := ⟨_, rfl⟩
              have hle : decide (q < us3) = false := decide_eq_false (by have h1 := hst2.out.1.ok.sum; have h2 := hst2.out.2.2.1; unfold usedL at hus3; omega)
              have hcu : Hid _ := c_used W9 hc hlk2.out h162.out
              rw [hus3] at hcu
              replace hus3 : Hid _ := hus3
              have hcon : Hid _ := hcu.out
              have hr0 := range_all hA
              go_wp2_with (first | (refine wpList_load_as rfl 34 _ rfl (A0) 0 rfl (thV d b1 b2 b3 b4) _ rfl hr0 Try.rowT Try.sizeT ?_) | (go_at_call 13; refine Calls.mono hcon.out ?_; rintro e W10 ⟨rfl, n10⟩; refine stop_here ?_))
              unfold Hid
              clear hcon hr0 hcu
              replace hA := (n10.block _ (heap_lt hA) (fun h => h)).trans hA
              replace hc := hc.nw n10
              replace hrow := owns_nw hrow n10
              replace hfr := fr_nw hfr n10
              replace nW := nw_trans nW n10
              have e0 : W10.cell? ⟨A0, 0, none⟩ = some (.int .u64 id) := by have h9 : W10.cell? ⟨A0, 0, none⟩ = some (.int .u64 d.id) := cell_blk hA rfl; rw [hst2.out.2.1] at h9; exact h9
              have e6 : W10.cell? ⟨A0, 6, none⟩ = some (.int .i64 q) := by have h9 : W10.cell? ⟨A0, 6, none⟩ = some (.int .i64 d.quota) := cell_blk hA rfl; rw [hst2.out.2.2.1] at h9; exact h9
              have hend : Hid (HRel A0 S id q W4 ac.length (.slice oa m oc) (.int .i64 ((k + 1 : Nat))) W10) := HRel.mk (by omega) hA hc hst2.out hrow (by omega) hfr
              clear hA hc hrow hfr
              go_wp2
              go_roundw
              case rel => exact hend.out
              case measure => simp [intOf]; omega
          · have kb0 : (ak == 0) = false := by simp [k0]
            replace k0 : Hid _ := k0
            by_cases k1 : ak = 1
            · have kb : (ak == 1) = true := by simp [k1]
              replace k1 : Hid _ := k1
              by_cases g1 : ai < 1
              · have gb : decide (ai < 1) = true := decide_eq_true g1
                go_upto_region 26 with fail
                clear kb kb0 g1
                have hend : Hid (HRel A0 S id q W4 ac.length (.slice oa m oc) (.int .i64 ((k + 1 : Nat))) W5) := HRel.mk (by omega) hA ht ⟨hD1.out, hid.out, hqt.out, hbs.out⟩ hrow (by omega) hfr
                clear hA ht hrow hfr hP p0 p1
                go_wp2
                go_roundw
                case rel => exact hend.out
                case measure => simp [intOf]; omega
              · have gb : decide (ai < 1) = false := decide_eq_false g1
                by_cases g2 : 281474976710656 ≤ ai
                · have gb2 : decide (281474976710656 ≤ ai) = true := decide_eq_true g2
                  go_upto_region 26 with fail
                  clear kb kb0 g1 g2
                  have hend : Hid (HRel A0 S id q W4 ac.length (.slice oa m oc) (.int .i64 ((k + 1 : Nat))) W5) := HRel.mk (by omega) hA ht ⟨hD1.out, hid.out, hqt.out, hbs.out⟩ hrow (by omega) hfr
                  clear hA ht hrow hfr hP p0 p1
                  go_wp2
                  go_roundw
                  case rel => exact hend.out
                  case measure => simp [intOf]; omega
                · have gb2 : decide (281474976710656 ≤ ai) = false := decide_eq_false g2
                  have hidk : Hid (idOk ai) := ⟨by omega, by omega⟩
                  go_upto_region 27 with fail
                  clear kb kb0 gb gb2 g1 g2
                  obtain ⟨⟨nx, er⟩, hbo⟩ : ∃ x, addT d ai aq = x := ⟨_, rfl⟩
                  have hqa : Hid _ := c_add ai aq W5 ht hD1.out hok1.out hok2.out
                  rw [hbo] at hqa
                  have hsB : Hid (A0 < W5.heap.size ∧ B < W5.heap.size) := ⟨heap_lt hA, heap_lt hP⟩
                  have hcon : Hid _ := hqa.out
                  unfold ChP at hcon
                  have hr0 := range_all hA
                  go_wp2_with (first | (refine wpList_load_as rfl 34 _ rfl (A0) 0 rfl (thV d u1 u2 u3 u4) _ rfl hr0 Try.rowT Try.sizeT ?_) | (go_at_call 18; refine Calls.mono hcon.out ?_; rintro e W6 ⟨b1, b2, b3, b4, rfl, hc, n6⟩; refine stop_here ?_))
                  unfold Hid
                  clear hcon hr0 hqa p0 p1 p2
                  replace hA := (n6.block _ (heap_lt hA) (fun h => h)).trans hA
                  replace ht := ht.nw n6
                  replace hrow := owns_nw hrow n6
                  replace hfr := fr_nw hfr n6
                  replace hP := (n6.block _ (heap_lt hP) (fun h => h)).trans hP
                  replace nW := nw_trans nW n6
                  replace hc := hc.mono (X' := fun b => b ≠ A0 ∧ (Value.slice oa m oc).ownBlock ≠ some b) (fun b hb _ => ⟨by have hb2 : W5.heap.size ≤ b := hb; have := hsB.out.1; show b ≠ A0; omega, fun e => by have hb2 : W5.heap.size ≤ b := hb; have := (hrB.out b e).2; have := hsB.out.2; omega⟩)
                  obtain ⟨Y17, hY⟩ : ∃ Y, Hid (Y = W6.alloc (.cells (thC zeroT (.slice none 0 0) (.slice none 0 0) (.slice none 0 0) (.slice none 0 0)).toArray 34)) := ⟨_, rfl⟩
                  have hV17 : Y17.heap[W6.heap.size]? = some (.cells (thC zeroT (.slice none 0 0) (.slice none 0 0) (.slice none 0 0) (.slice none 0 0)).toArray 34 (0, 0)) := by rw [hY.out]; exact heap_alloc_new _ _
                  obtain ⟨V7, hV⟩ : ∃ V, Hid (V = Y17.setRow W6.heap.size (thC nx b1 b2 b3 b4).toArray) := ⟨_, rfl⟩
                  have nV7 : Nw W6 V7 := by rw [hV.out, hY.out]; exact Fr.setRow (nw_alloc (nw_refl _) _) (.inr (Nat.le_refl _)) _
                  have hnew : V7.heap[W6.heap.size]? = some (.cells (thC nx b1 b2 b3 b4).toArray 34 (0, 0)) := by rw [hV.out]; exact setRow_heap _ _ _ _ _ _ hV17
                  go_wp2_with (refine wpList_alloc_agg rfl 34 rfl _ Try.zeroTh ?_; rw [← hY.out]; refine stop_here ?_)
                  unfold Hid
                  refine wpList_store_all rfl 34 _ _ rfl (W6.heap.size) rfl (thV nx b1 b2 b3 b4) rfl (thC nx b1 b2 b3 b4) rfl (thC zeroT (.slice none 0 0) (.slice none 0 0) (.slice none 0 0) (.slice none 0 0)) 34 hV17 rfl (hc.one) Try.sizeT ?_
                  rw [← hV.out]
                  clear hV hY hV17
                  have hlP := heap_lt hP
                  have hlA := heap_lt hA
                  replace hA := (nV7.block _ (heap_lt hA) (fun h => h)).trans hA
                  replace ht := ht.nw nV7
                  replace hc := hc.nw nV7
                  replace hrow := owns_nw hrow nV7
                  replace hfr := fr_nw hfr nV7
                  replace hP := (nV7.block _ (heap_lt hP) (fun h => h)).trans hP
                  replace nW := nw_trans nW nV7
                  have hV17 := hnew
                  clear hnew
                  generalize W6.heap.size = A17 at *
                  go_upto_region 28 with fail
                  by_cases he : er = 0
                  · have hbe : (er == 0) = true := by simp [he]
                    have hbr := add_right (q := aq) hD1.out hidk.out (by rw [hbo]; exact he)
                    rw [hbo] at hbr
                    obtain ⟨r1, r6, r2, r7, r8⟩ := hbr
                    replace r1 : DirT nx := r1
                    replace r2 : nx = { d with links := insL d.links (ai, aq) } := r2
                    have x1 : nx.id = id := by rw [r2]; exact hid.out
                    have x2 : nx.quota = q := by rw [r2]; exact hqt.out
                    have x3 : nx.next = d.next := by rw [r2]
                    have x4 : usedL nx.links = us1 + aq := by rw [r2, ← hus.out]; exact used_ins d.links (ai, aq)
                    have x5 : hasB nx.links ai = true := by rw [r2]; exact has_ins d.links (ai, aq)
                    have x8 : ∀ x ∈ bs, x ≤ id * 64 + nx.next := fun x hx => by rw [x3]; exact hbs.out x hx
                    replace r1 : Hid _ := r1
                    replace x1 : Hid _ := x1
                    replace x2 : Hid _ := x2
                    replace x3 : Hid _ := x3
                    replace x4 : Hid _ := x4
                    replace x5 : Hid _ := x5
                    replace x8 : Hid _ := x8
                    replace r7 : Hid _ := r7
                    replace r8 : Hid _ := r8
                    clear r2 r6 hbo he
                    have hwr : IntKind.i64.wrap (us1 + aq) = us1 + aq := by have := hub.out; have := r7.out; have := r8.out; rw [IntKind.wrap_i64]; omega
                    have hlkn : Hid (LkOk nx.links) := r1.out.ok.lk
                    have h16n : Hid (nx.links.length ≤ 1000) := by have := r1.out.ok.len; unfold Hid; omega
                    clear ht
                    have hSof : ∀ w', Nw V7 w' → (fun w' : World => Nw V7 w' ∧ w'.heap[B]? = some (.cells #[.int .i64 ak, .int .i64 aq, .int .u64 ai] 60 (0, 0)) ∧ w'.heap[A17]? = some (.cells (thC nx b1 b2 b3 b4).toArray 34 (0, 0))) w' := fun w' hw => ⟨hw, (hw.block _ (heap_lt hP) (fun h => h)).trans hP, (hw.block _ (heap_lt hV17) (fun h => h)).trans hV17⟩
                    have hW0 : Nw V7 V7.drew := Fr.drew (Fr.refl _ V7)
                    have hS := hSof _ hW0
                    replace hc := hc.nw hW0
                    replace hSof : Hid _ := hSof
                    refine wp_region_ord [] 17 [(0, true), (1, true), (2, true), (3, true), (5, true), (6, true), (7, true), (8, true), (4, false), (9, true), (10, true), (11, true), (12, true), (13, true), (14, false), (15, true), (16, true)] (fun w' : World => Nw V7 w' ∧ w'.heap[B]? = some (.cells #[.int .i64 ak, .int .i64 aq, .int .u64 ai] 60 (0, 0)) ∧ w'.heap[A17]? = some (.cells (thC nx b1 b2 b3 b4).toArray 34 (0, 0))) (by kernel_rfl) (by kernel_rfl) ?_
                    refine ord_quietL _ ?_ rfl hS rfl ?_ ?_
                    rotate_left
                    · rintro w' ⟨hn, rhP, rhV17⟩; go_simp; rfl
                    simp only [Act.put, List.setIfInBounds_toArray, List.set_cons_zero, List.set_cons_succ]
                    refine ord_quietL _ ?_ rfl hS rfl ?_ ?_
                    rotate_left
                    · rintro w' ⟨hn, rhP, rhV17⟩; go_simp; rfl
                    simp only [Act.put, List.setIfInBounds_toArray, List.set_cons_zero, List.set_cons_succ]
                    refine ord_quietL _ ?_ rfl hS rfl ?_ ?_
                    rotate_left
                    · rintro w' ⟨hn, rhP, rhV17⟩; go_simp; rfl
                    simp only [Act.put, List.setIfInBounds_toArray, List.set_cons_zero, List.set_cons_succ]
                    refine ord_quietL _ ?_ rfl hS rfl ?_ ?_
                    rotate_left
                    · rintro w' ⟨hn, rhP, rhV17⟩; refine (run_load_th _ w' rfl (A17) rfl rhV17).trans ?_; rfl
                    simp only [Act.put, List.setIfInBounds_toArray, List.set_cons_zero, List.set_cons_succ]
                    refine ord_quietL _ ?_ rfl hS rfl ?_ ?_
                    rotate_left
                    · rintro w' ⟨hn, rhP, rhV17⟩; go_simp; rfl
                    simp only [Act.put, List.setIfInBounds_toArray, List.set_cons_zero, List.set_cons_succ]
                    refine ord_quietL _ ?_ rfl hS rfl ?_ ?_
                    rotate_left
                    · rintro w' ⟨hn, rhP, rhV17⟩; go_simp; rfl
                    simp only [Act.put, List.setIfInBounds_toArray, List.set_cons_zero, List.set_cons_succ]
                    refine ord_quietL _ ?_ rfl hS rfl ?_ ?_
                    rotate_left
                    · rintro w' ⟨hn, rhP, rhV17⟩; have g0 : w'.cell? ⟨B, 1, none⟩ = some (.int .i64 aq) := cell_blk rhP rfl; go_simp; rfl
                    simp only [Act.put, List.setIfInBounds_toArray, List.set_cons_zero, List.set_cons_succ]
                    refine ord_quietL _ ?_ rfl hS rfl ?_ ?_
                    rotate_left
                    · rintro w' ⟨hn, rhP, rhV17⟩; go_simp; rfl
                    simp only [Act.put, List.setIfInBounds_toArray, List.set_cons_zero, List.set_cons_succ]
                    refine ord_actL _ rfl (fun K1 hK1 => ?_)
                    have hcon : Hid _ := c_used V7.drew hc hlkn.out h16n.out
                    rw [x4.out] at hcon
                    go_wp2_with (go_at_call 13; refine Calls.mono hcon.out ?_; rintro e wk0 ⟨rfl, qn⟩)
                    have m0 := nw_trans hW0 qn
                    replace hc := hc.nw qn
                    refine hK1 _ _ (hSof.out _ m0) ?_
                    clear hK1 K1 hcon qn hS hW0
                    have hS := hSof.out _ m0
                    refine ord_quietL _ ?_ rfl hS rfl ?_ ?_
                    rotate_left
                    · rintro w' ⟨hn, rhP, rhV17⟩; go_simp; rfl
                    simp only [Act.put, List.setIfInBounds_toArray, List.set_cons_zero, List.set_cons_succ]
                    refine ord_quietL _ ?_ rfl hS rfl ?_ ?_
                    rotate_left
                    · rintro w' ⟨hn, rhP, rhV17⟩; go_simp; rfl
                    simp only [Act.put, List.setIfInBounds_toArray, List.set_cons_zero, List.set_cons_succ]
                    refine ord_quietL _ ?_ rfl hS rfl ?_ ?_
                    rotate_left
                    · rintro w' ⟨hn, rhP, rhV17⟩; refine (run_load_th _ w' rfl (A17) rfl rhV17).trans ?_; rfl
                    simp only [Act.put, List.setIfInBounds_toArray, List.set_cons_zero, List.set_cons_succ]
                    refine ord_quietL _ ?_ rfl hS rfl ?_ ?_
                    rotate_left
                    · rintro w' ⟨hn, rhP, rhV17⟩; go_simp; rfl
                    simp only [Act.put, List.setIfInBounds_toArray, List.set_cons_zero, List.set_cons_succ]
                    refine ord_quietL _ ?_ rfl hS rfl ?_ ?_
                    rotate_left
                    · rintro w' ⟨hn, rhP, rhV17⟩; have g0 : w'.cell? ⟨B, 2, none⟩ = some (.int .u64 ai) := cell_blk rhP rfl; go_simp; rfl
                    simp only [Act.put, List.setIfInBounds_toArray, List.set_cons_zero, List.set_cons_succ]
                    refine ord_actL _ rfl (fun K1 hK1 => ?_)
                    have hcon : Hid _ := c_has ai wk0 hc hlkn.out h16n.out
                    rw [x5.out] at hcon
                    go_wp2_with (go_at_call 15; refine Calls.mono hcon.out ?_; rintro e wk1 ⟨rfl, qn⟩)
                    have m1 := nw_trans m0 qn
                    replace hc := hc.nw qn
                    refine hK1 _ _ (hSof.out _ m1) ?_
                    clear hK1 K1 hcon qn hS m0
                    have hS := hSof.out _ m1
                    refine ord_quietL _ ?_ rfl hS rfl ?_ ?_
                    rotate_left
                    · rintro w' ⟨hn, rhP, rhV17⟩; go_simp; rfl
                    simp only [Act.put, List.setIfInBounds_toArray, List.set_cons_zero, List.set_cons_succ]
                    refine ord_quietL _ ?_ rfl hS rfl ?_ ?_
                    rotate_left
                    · rintro w' ⟨hn, rhP, rhV17⟩; go_simp; rfl
                    simp only [Act.put, List.setIfInBounds_toArray, List.set_cons_zero, List.set_cons_succ]
                    refine ord_tail ?_
                    simp only [List.drop_succ_cons, List.drop_zero]
                    have n7 : Nw V7 wk1 := m1
                    clear hSof hS m1
                    replace hA := (n7.block _ (heap_lt hA) (fun h => h)).trans hA
                    replace hV17 := (n7.block _ (heap_lt hV17) (fun h => h)).trans hV17
                    replace hrow := owns_nw hrow n7
                    replace hfr := fr_nw hfr n7
                    replace nW := nw_trans nW n7
                    clear n7 hP
                    go_upto_region 30 with fail
                    clear hbe hwr
                    have hr1 := range_all hV17
                    go_wp2_with (first | (refine wpList_load_as rfl 34 _ rfl (A17) 0 rfl (thV nx b1 b2 b3 b4) _ rfl hr1 Try.rowT Try.sizeT ?_; refine stop_here ?_))
                    unfold Hid
                    clear hr1
                    obtain ⟨W8, hV⟩ : ∃ V, Hid (V = wk1.setRow (A0) (thC nx b1 b2 b3 b4).toArray) := ⟨_, rfl⟩
                    have fV : Fr (fun k => k = A0) wk1 W8 := by rw [hV.out]; exact (Fr.refl (fun k => k = A0) wk1).setRow (.inl rfl) _
                    have hnew : W8.heap[A0]? = some (.cells (thC nx b1 b2 b3 b4).toArray 34 (0, 0)) := by rw [hV.out]; exact setRow_heap _ _ _ _ _ _ hA
                    refine wpList_store_all rfl 34 _ _ rfl (A0) rfl (thV nx b1 b2 b3 b4) rfl (thC nx b1 b2 b3 b4) rfl (thC d u1 u2 u3 u4) 34 hA rfl (hc.one) Try.sizeT ?_
                    rw [← hV.out]
                    clear hV
                    replace hA := hnew
                    replace hV17 := (fV.block _ (heap_lt hV17) (by show ¬ _ = _; omega)).trans hV17
                    clear hnew
                    replace hc := hc.keep fV (fun b hb _ e => hb.1 e) (fun b hb _ => hb)
                    replace nW : Nw w W8 := Fr.trans nW fV (fun k hk => .inr (by have hk2 : k = A0 := hk; omega))
                    replace hfr : Fr (fun b => b = A0) W4 W8 := Fr.trans hfr fV (fun k hk => .inl hk)
                    replace hrow := owns_fr hrow fV (fun k hk => by have hk2 : k = A0 := hk; omega)
                    clear fV
                    obtain ⟨bs2, hbs2⟩ : ∃ l, bs = l := ⟨_, rfl⟩
                    rw [hbs2] at hrow x8
                    clear hbs2
                    go_upto_region 36 with fail
                    have hst2 : Hid (DirT nx ∧ nx.id = id ∧ nx.quota = q ∧ ∀ x ∈ bs2, x ≤ id * 64 + nx.next) := ⟨r1.out, x1.out, x2.out, x8.out⟩
                    obtain ⟨s1, s2, s3, s4⟩ := dir_sizes hst2.out.1
                    have hlk2 := hst2.out.1.ok.lk
                    have h162 : nx.links.length ≤ 1000 := by have := hst2.out.1.ok.len; omega
                    replace hlk2 : Hid _ := hlk2
                    replace h162 : Hid _ := h162
                    replace s1 : Hid _ := s1
                    replace s2 : Hid _ := s2
                    clear s3 s4
                    have hcon : Hid _ := c_directory W8 hc (dir_wf hst2.out.1) s1.out s2.out
                    unfold AnsP at hcon
                    have hr0 := range_all hA
                    go_wp2_with (first | (refine wpList_load_as rfl 34 _ rfl (A0) 0 rfl (thV nx b1 b2 b3 b4) _ rfl hr0 Try.rowT Try.sizeT ?_) | (go_at_call 10; refine Calls.mono hcon.out ?_; rintro e W9 ⟨r, rfl, hr, n9⟩; refine stop_here ?_))
                    unfold Hid
                    clear hcon hr0
                    replace hA := (n9.block _ (heap_lt hA) (fun h => h)).trans hA
                    replace hc := hc.nw n9
                    replace hrow := owns_nw hrow n9
                    replace hfr := fr_nw hfr n9
                    replace nW := nw_trans nW n9
                    obtain rfl := hr.2 hst2.out.1
                    clear hr
                    obtain ⟨us3, hus3⟩ : ∃ x, usedL nx.links = x := ⟨_, rfl⟩
                    have hle : decide (q < us3) = false := decide_eq_false (by have h1 := hst2.out.1.ok.sum; have h2 := hst2.out.2.2.1; unfold usedL at hus3; omega)
                    have hcu : Hid _ := c_used W9 hc hlk2.out h162.out
                    rw [hus3] at hcu
                    replace hus3 : Hid _ := hus3
                    have hcon : Hid _ := hcu.out
                    have hr0 := range_all hA
                    go_wp2_with (first | (refine wpList_load_as rfl 34 _ rfl (A0) 0 rfl (thV nx b1 b2 b3 b4) _ rfl hr0 Try.rowT Try.sizeT ?_) | (go_at_call 13; refine Calls.mono hcon.out ?_; rintro e W10 ⟨rfl, n10⟩; refine stop_here ?_))
                    unfold Hid
                    clear hcon hr0 hcu
                    replace hA := (n10.block _ (heap_lt hA) (fun h => h)).trans hA
                    replace hc := hc.nw n10
                    replace hrow := owns_nw hrow n10
                    replace hfr := fr_nw hfr n10
                    replace nW := nw_trans nW n10
                    have e0 : W10.cell? ⟨A0, 0, none⟩ = some (.int .u64 id) := by have h9 : W10.cell? ⟨A0, 0, none⟩ = some (.int .u64 nx.id) := cell_blk hA rfl; rw [hst2.out.2.1] at h9; exact h9
                    have e6 : W10.cell? ⟨A0, 6, none⟩ = some (.int .i64 q) := by have h9 : W10.cell? ⟨A0, 6, none⟩ = some (.int .i64 nx.quota) := cell_blk hA rfl; rw [hst2.out.2.2.1] at h9; exact h9
                    have hend : Hid (HRel A0 S id q W4 ac.length (.slice oa m oc) (.int .i64 ((k + 1 : Nat))) W10) := HRel.mk (by omega) hA hc hst2.out hrow (by omega) hfr
                    clear hA hc hrow hfr
                    go_wp2
                    go_roundw
                    case rel => exact hend.out
                    case measure => simp [intOf]; omega
                  · have hbe : (er == 0) = false := by simp [he]
                    have hye : nx = d := by have := add_err (t := d) (id := ai) (q := aq) (by rw [hbo]; exact he); rw [hbo] at this; exact this
                    rw [hye] at hc hV17
                    clear hye hbo he ht
                    have hSof : ∀ w', Nw V7 w' → (fun w' : World => Nw V7 w' ∧ w'.heap[B]? = some (.cells #[.int .i64 ak, .int .i64 aq, .int .u64 ai] 60 (0, 0)) ∧ w'.heap[A17]? = some (.cells (thC d b1 b2 b3 b4).toArray 34 (0, 0))) w' := fun w' hw => ⟨hw, (hw.block _ (heap_lt hP) (fun h => h)).trans hP, (hw.block _ (heap_lt hV17) (fun h => h)).trans hV17⟩
                    have hW0 : Nw V7 V7.drew := Fr.drew (Fr.refl _ V7)
                    have hS := hSof _ hW0
                    replace hSof : Hid _ := hSof
                    refine wp_region_ord [] 17 [(0, true), (1, true), (2, true), (3, true), (5, true), (6, true), (7, true), (8, true), (4, false), (9, true), (10, true), (11, true), (12, true), (13, true), (14, false), (15, true), (16, true)] (fun w' : World => Nw V7 w' ∧ w'.heap[B]? = some (.cells #[.int .i64 ak, .int .i64 aq, .int .u64 ai] 60 (0, 0)) ∧ w'.heap[A17]? = some (.cells (thC d b1 b2 b3 b4).toArray 34 (0, 0))) (by kernel_rfl) (by kernel_rfl) ?_
                    refine ord_quietL _ ?_ rfl hS rfl ?_ ?_
                    rotate_left
                    · rintro w' ⟨hn, rhP, rhV17⟩; go_simp; rfl
                    simp only [Act.put, List.setIfInBounds_toArray, List.set_cons_zero, List.set_cons_succ]
                    refine ord_quietL _ ?_ rfl hS rfl ?_ ?_
                    rotate_left
                    · rintro w' ⟨hn, rhP, rhV17⟩; go_simp; rfl
                    simp only [Act.put, List.setIfInBounds_toArray, List.set_cons_zero, List.set_cons_succ]
                    refine ord_quietL _ ?_ rfl hS rfl ?_ ?_
                    rotate_left
                    · rintro w' ⟨hn, rhP, rhV17⟩; go_simp; rfl
                    simp only [Act.put, List.setIfInBounds_toArray, List.set_cons_zero, List.set_cons_succ]
                    refine ord_skipL _ rfl hS rfl ?_
                    simp only [Act.put, List.setIfInBounds_toArray, List.set_cons_zero, List.set_cons_succ]
                    refine ord_skipL _ rfl hS rfl ?_
                    simp only [Act.put, List.setIfInBounds_toArray, List.set_cons_zero, List.set_cons_succ]
                    refine ord_skipL _ rfl hS rfl ?_
                    simp only [Act.put, List.setIfInBounds_toArray, List.set_cons_zero, List.set_cons_succ]
                    refine ord_skipL _ rfl hS rfl ?_
                    simp only [Act.put, List.setIfInBounds_toArray, List.set_cons_zero, List.set_cons_succ]
                    refine ord_skipL _ rfl hS rfl ?_
                    simp only [Act.put, List.setIfInBounds_toArray, List.set_cons_zero, List.set_cons_succ]
                    refine ord_actL _ rfl (fun K1 hK1 => ?_)
                    go_wp2
                    refine hK1 _ _ (hSof.out _ hW0) ?_
                    clear hK1 K1
                    refine ord_skipL _ rfl hS rfl ?_
                    simp only [Act.put, List.setIfInBounds_toArray, List.set_cons_zero, List.set_cons_succ]
                    refine ord_skipL _ rfl hS rfl ?_
                    simp only [Act.put, List.setIfInBounds_toArray, List.set_cons_zero, List.set_cons_succ]
                    refine ord_skipL _ rfl hS rfl ?_
                    simp only [Act.put, List.setIfInBounds_toArray, List.set_cons_zero, List.set_cons_succ]
                    refine ord_skipL _ rfl hS rfl ?_
                    simp only [Act.put, List.setIfInBounds_toArray, List.set_cons_zero, List.set_cons_succ]
                    refine ord_skipL _ rfl hS rfl ?_
                    simp only [Act.put, List.setIfInBounds_toArray, List.set_cons_zero, List.set_cons_succ]
                    refine ord_actL _ rfl (fun K1 hK1 => ?_)
                    go_wp2
                    refine hK1 _ _ (hSof.out _ hW0) ?_
                    clear hK1 K1
                    refine ord_skipL _ rfl hS rfl ?_
                    simp only [Act.put, List.setIfInBounds_toArray, List.set_cons_zero, List.set_cons_succ]
                    refine ord_skipL _ rfl hS rfl ?_
                    simp only [Act.put, List.setIfInBounds_toArray, List.set_cons_zero, List.set_cons_succ]
                    refine ord_tail ?_
                    simp only [List.drop_succ_cons, List.drop_zero]
                    have n7 : Nw V7 V7.drew := hW0
                    clear hSof hS hW0
                    replace hA := (n7.block _ (heap_lt hA) (fun h => h)).trans hA
                    replace hV17 := (n7.block _ (heap_lt hV17) (fun h => h)).trans hV17
                    replace hrow := owns_nw hrow n7
                    replace hfr := fr_nw hfr n7
                    replace hc := hc.nw n7
                    replace nW := nw_trans nW n7
                    clear n7 hP
                    go_upto_region 30 with fail
                    clear hbe
                    have hr1 := range_all hV17
                    go_wp2_with (first | (refine wpList_load_as rfl 34 _ rfl (A17) 0 rfl (thV d b1 b2 b3 b4) _ rfl hr1 Try.rowT Try.sizeT ?_; refine stop_here ?_))
                    unfold Hid
                    clear hr1
                    obtain ⟨W8, hV⟩ : ∃ V, Hid (V = V7.drew.setRow (A0) (thC d b1 b2 b3 b4).toArray) := ⟨_, rfl⟩
                    have fV : Fr (fun k => k = A0) V7.drew W8 := by rw [hV.out]; exact (Fr.refl (fun k => k = A0) V7.drew).setRow (.inl rfl) _
                    have hnew : W8.heap[A0]? = some (.cells (thC d b1 b2 b3 b4).toArray 34 (0, 0)) := by rw [hV.out]; exact setRow_heap _ _ _ _ _ _ hA
                    refine wpList_store_all rfl 34 _ _ rfl (A0) rfl (thV d b1 b2 b3 b4) rfl (thC d b1 b2 b3 b4) rfl (thC d u1 u2 u3 u4) 34 hA rfl (hc.one) Try.sizeT ?_
                    rw [← hV.out]
                    clear hV
                    replace hA := hnew
                    replace hV17 := (fV.block _ (heap_lt hV17) (by show ¬ _ = _; omega)).trans hV17
                    clear hnew
                    replace hc := hc.keep fV (fun b hb _ e => hb.1 e) (fun b hb _ => hb)
                    replace nW : Nw w W8 := Fr.trans nW fV (fun k hk => .inr (by have hk2 : k = A0 := hk; omega))
                    replace hfr : Fr (fun b => b = A0) W4 W8 := Fr.trans hfr fV (fun k hk => .inl hk)
                    replace hrow := owns_fr hrow fV (fun k hk => by have hk2 : k = A0 := hk; omega)
                    clear fV
                    obtain ⟨bs2, hbs2⟩ : ∃ l, bs = l := ⟨_, rfl⟩
                    rw [hbs2] at hrow hbs
                    clear hbs2
                    go_upto_region 36 with fail
                    have hst2 : Hid (DirT d ∧ d.id = id ∧ d.quota = q ∧ ∀ x ∈ bs2, x ≤ id * 64 + d.next) := ⟨hD1.out, hid.out, hqt.out, hbs.out⟩
                    obtain ⟨s1, s2, s3, s4⟩ := dir_sizes hst2.out.1
                    have hlk2 := hst2.out.1.ok.lk
                    have h162 : d.links.length ≤ 1000 := by have := hst2.out.1.ok.len; omega
                    replace hlk2 : Hid _ := hlk2
                    replace h162 : Hid _ := h162
                    replace s1 : Hid _ := s1
                    replace s2 : Hid _ := s2
                    clear s3 s4
                    have hcon : Hid _ := c_directory W8 hc (dir_wf hst2.out.1) s1.out s2.out
                    unfold AnsP at hcon
                    have hr0 := range_all hA
                    go_wp2_with (first | (refine wpList_load_as rfl 34 _ rfl (A0) 0 rfl (thV d b1 b2 b3 b4) _ rfl hr0 Try.rowT Try.sizeT ?_) | (go_at_call 10; refine Calls.mono hcon.out ?_; rintro e W9 ⟨r, rfl, hr, n9⟩; refine stop_here ?_))
                    unfold Hid
                    clear hcon hr0
                    replace hA := (n9.block _ (heap_lt hA) (fun h => h)).trans hA
                    replace hc := hc.nw n9
                    replace hrow := owns_nw hrow n9
                    replace hfr := fr_nw hfr n9
                    replace nW := nw_trans nW n9
                    obtain rfl := hr.2 hst2.out.1
                    clear hr
                    obtain ⟨us3, hus3⟩ : ∃ x, usedL d.links = x := ⟨_, rfl⟩
                    have hle : decide (q < us3) = false := decide_eq_false (by have h1 := hst2.out.1.ok.sum; have h2 := hst2.out.2.2.1; unfold usedL at hus3; omega)
                    have hcu : Hid _ := c_used W9 hc hlk2.out h162.out
                    rw [hus3] at hcu
                    replace hus3 : Hid _ := hus3
                    have hcon : Hid _ := hcu.out
                    have hr0 := range_all hA
                    go_wp2_with (first | (refine wpList_load_as rfl 34 _ rfl (A0) 0 rfl (thV d b1 b2 b3 b4) _ rfl hr0 Try.rowT Try.sizeT ?_) | (go_at_call 13; refine Calls.mono hcon.out ?_; rintro e W10 ⟨rfl, n10⟩; refine stop_here ?_))
                    unfold Hid
                    clear hcon hr0 hcu
                    replace hA := (n10.block _ (heap_lt hA) (fun h => h)).trans hA
                    replace hc := hc.nw n10
                    replace hrow := owns_nw hrow n10
                    replace hfr := fr_nw hfr n10
                    replace nW := nw_trans nW n10
                    have e0 : W10.cell? ⟨A0, 0, none⟩ = some (.int .u64 id) := by have h9 : W10.cell? ⟨A0, 0, none⟩ = some (.int .u64 d.id) := cell_blk hA rfl; rw [hst2.out.2.1] at h9; exact h9
                    have e6 : W10.cell? ⟨A0, 6, none⟩ = some (.int .i64 q) := by have h9 : W10.cell? ⟨A0, 6, none⟩ = some (.int .i64 d.quota) := cell_blk hA rfl; rw [hst2.out.2.2.1] at h9; exact h9
                    have hend : Hid (HRel A0 S id q W4 ac.length (.slice oa m oc) (.int .i64 ((k + 1 : Nat))) W10) := HRel.mk (by omega) hA hc hst2.out hrow (by omega) hfr
                    clear hA hc hrow hfr
                    go_wp2
                    go_roundw
                    case rel => exact hend.out
                    case measure => simp [intOf]; omega
            · have kb1 : (ak == 1) = false := by simp [k1]
              replace k1 : Hid _ := k1
              by_cases k2 : ak = 2
              · have kb : (ak == 2) = true := by simp [k2]
                replace k2 : Hid _ := k2
                go_upto_region 32 with fail
                clear kb kb0 kb1
                obtain ⟨⟨nx, er⟩, hbo⟩ : ∃ x, dropT d ai = x := ⟨_, rfl⟩
                have hqa : Hid _ := c_drop ai W5 ht hD1.out
                rw [hbo] at hqa
                have hsB : Hid (A0 < W5.heap.size ∧ B < W5.heap.size) := ⟨heap_lt hA, heap_lt hP⟩
                have hcon : Hid _ := hqa.out
                unfold ChP at hcon
                have hr0 := range_all hA
                go_wp2_with (first | (refine wpList_load_as rfl 34 _ rfl (A0) 0 rfl (thV d u1 u2 u3 u4) _ rfl hr0 Try.rowT Try.sizeT ?_) | (go_at_call 22; refine Calls.mono hcon.out ?_; rintro e W6 ⟨b1, b2, b3, b4, rfl, hc, n6⟩; refine stop_here ?_))
                unfold Hid
                clear hcon hr0 hqa p0 p1 p2
                replace hA := (n6.block _ (heap_lt hA) (fun h => h)).trans hA
                replace ht := ht.nw n6
                replace hrow := owns_nw hrow n6
                replace hfr := fr_nw hfr n6
                replace hP := (n6.block _ (heap_lt hP) (fun h => h)).trans hP
                replace nW := nw_trans nW n6
                replace hc := hc.mono (X' := fun b => b ≠ A0 ∧ (Value.slice oa m oc).ownBlock ≠ some b) (fun b hb _ => ⟨by have hb2 : W5.heap.size ≤ b := hb; have := hsB.out.1; show b ≠ A0; omega, fun e => by have hb2 : W5.heap.size ≤ b := hb; have := (hrB.out b e).2; have := hsB.out.2; omega⟩)
                obtain ⟨Y19, hY⟩ : ∃ Y, Hid (Y = W6.alloc (.cells (thC zeroT (.slice none 0 0) (.slice none 0 0) (.slice none 0 0) (.slice none 0 0)).toArray 34)) := ⟨_, rfl⟩
                have hV19 : Y19.heap[W6.heap.size]? = some (.cells (thC zeroT (.slice none 0 0) (.slice none 0 0) (.slice none 0 0) (.slice none 0 0)).toArray 34 (0, 0)) := by rw [hY.out]; exact heap_alloc_new _ _
                obtain ⟨V7, hV⟩ : ∃ V, Hid (V = Y19.setRow W6.heap.size (thC nx b1 b2 b3 b4).toArray) := ⟨_, rfl⟩
                have nV7 : Nw W6 V7 := by rw [hV.out, hY.out]; exact Fr.setRow (nw_alloc (nw_refl _) _) (.inr (Nat.le_refl _)) _
                have hnew : V7.heap[W6.heap.size]? = some (.cells (thC nx b1 b2 b3 b4).toArray 34 (0, 0)) := by rw [hV.out]; exact setRow_heap _ _ _ _ _ _ hV19
                go_wp2_with (refine wpList_alloc_agg rfl 34 rfl _ Try.zeroTh ?_; rw [← hY.out]; refine stop_here ?_)
                unfold Hid
                refine wpList_store_all rfl 34 _ _ rfl (W6.heap.size) rfl (thV nx b1 b2 b3 b4) rfl (thC nx b1 b2 b3 b4) rfl (thC zeroT (.slice none 0 0) (.slice none 0 0) (.slice none 0 0) (.slice none 0 0)) 34 hV19 rfl (hc.one) Try.sizeT ?_
                rw [← hV.out]
                clear hV hY hV19
                have hlP := heap_lt hP
                have hlA := heap_lt hA
                replace hA := (nV7.block _ (heap_lt hA) (fun h => h)).trans hA
                replace ht := ht.nw nV7
                replace hc := hc.nw nV7
                replace hrow := owns_nw hrow nV7
                replace hfr := fr_nw hfr nV7
                replace hP := (nV7.block _ (heap_lt hP) (fun h => h)).trans hP
                replace nW := nw_trans nW nV7
                have hV19 := hnew
                clear hnew
                generalize W6.heap.size = A19 at *
                go_upto_region 33 with fail
                by_cases he : er = 0
                · have hbe : (er == 0) = true := by simp [he]
                  have hbr := drop_right (id := ai) hD1.out (by rw [hbo]; exact he)
                  rw [hbo] at hbr
                  obtain ⟨r0, r2, r1, r3, _⟩ := hbr
                  replace r1 : DirT nx := r1
                  replace r2 : nx = { d with links := rmL d.links ai } := r2
                  have x1 : nx.id = id := by rw [r2]; exact hid.out
                  have x2 : nx.quota = q := by rw [r2]; exact hqt.out
                  have x3 : nx.next = d.next := by rw [r2]
                  have x5 : hasB nx.links ai = false := by rw [r2]; exact r3
                  have x8 : ∀ x ∈ bs, x ≤ id * 64 + nx.next := fun x hx => by rw [x3]; exact hbs.out x hx
                  replace r0 : Hid _ := r0
                  replace r1 : Hid _ := r1
                  replace x1 : Hid _ := x1
                  replace x2 : Hid _ := x2
                  replace x3 : Hid _ := x3
                  replace x5 : Hid _ := x5
                  replace x8 : Hid _ := x8
                  clear r2 r3 hbo he
                  have hlkn : Hid (LkOk nx.links) := r1.out.ok.lk
                  have h16n : Hid (nx.links.length ≤ 1000) := by have := r1.out.ok.len; unfold Hid; omega
                  have p2 : V7.cell? ⟨B, 2, none⟩ = some (.int .u64 ai) := cell_blk hP rfl
                  have hqa : Hid _ := c_has ai V7 ht hlk.out h16.out
                  rw [r0.out] at hqa
                  have hcon : Hid _ := hqa.out
                  have hr0 := range_all hA
                  have hr1 := range_all hV19
                  go_wp2_with (first | (refine wpList_load_as rfl 34 _ rfl (A0) 0 rfl (thV d u1 u2 u3 u4) _ rfl hr0 Try.rowT Try.sizeT ?_) | (refine wpList_load_as rfl 34 _ rfl (A19) 0 rfl (thV nx b1 b2 b3 b4) _ rfl hr1 Try.rowT Try.sizeT ?_) | (go_at_call 15; refine Calls.mono hcon.out ?_; rintro e W8 ⟨rfl, n8⟩; refine stop_here ?_))
                  unfold Hid
                  clear hcon hr0 hr1 hqa p2
                  replace hA := (n8.block _ (heap_lt hA) (fun h => h)).trans hA
                  replace hV19 := (n8.block _ (heap_lt hV19) (fun h => h)).trans hV19
                  replace ht := ht.nw n8
                  replace hc := hc.nw n8
                  replace hrow := owns_nw hrow n8
                  replace hfr := fr_nw hfr n8
                  replace hP := (n8.block _ (heap_lt hP) (fun h => h)).trans hP
                  replace nW := nw_trans nW n8
                  have p2 : W8.cell? ⟨B, 2, none⟩ = some (.int .u64 ai) := cell_blk hP rfl
                  have hqa : Hid _ := c_has ai W8 hc hlkn.out h16n.out
                  rw [x5.out] at hqa
                  have hcon : Hid _ := hqa.out
                  have hr0 := range_all hA
                  have hr1 := range_all hV19
                  go_wp2_with (first | (refine wpList_load_as rfl 34 _ rfl (A0) 0 rfl (thV d u1 u2 u3 u4) _ rfl hr0 Try.rowT Try.sizeT ?_) | (refine wpList_load_as rfl 34 _ rfl (A19) 0 rfl (thV nx b1 b2 b3 b4) _ rfl hr1 Try.rowT Try.sizeT ?_) | (go_at_call 15; refine Calls.mono hcon.out ?_; rintro e W9 ⟨rfl, n9⟩; refine stop_here ?_))
                  unfold Hid
                  clear hcon hr0 hr1 hqa p2
                  replace hA := (n9.block _ (heap_lt hA) (fun h => h)).trans hA
                  replace hV19 := (n9.block _ (heap_lt hV19) (fun h => h)).trans hV19
                  replace ht := ht.nw n9
                  replace hc := hc.nw n9
                  replace hrow := owns_nw hrow n9
                  replace hfr := fr_nw hfr n9
                  replace hP := (n9.block _ (heap_lt hP) (fun h => h)).trans hP
                  replace nW := nw_trans nW n9
                  go_upto_region 35 with fail
                  clear hbe ht hP
                  have hr1 := range_all hV19
                  go_wp2_with (first | (refine wpList_load_as rfl 34 _ rfl (A19) 0 rfl (thV nx b1 b2 b3 b4) _ rfl hr1 Try.rowT Try.sizeT ?_; refine stop_here ?_))
                  unfold Hid
                  clear hr1
                  obtain ⟨W10, hV⟩ : ∃ V, Hid (V = W9.setRow (A0) (thC nx b1 b2 b3 b4).toArray) := ⟨_, rfl⟩
                  have fV : Fr (fun k => k = A0) W9 W10 := by rw [hV.out]; exact (Fr.refl (fun k => k = A0) W9).setRow (.inl rfl) _
                  have hnew : W10.heap[A0]? = some (.cells (thC nx b1 b2 b3 b4).toArray 34 (0, 0)) := by rw [hV.out]; exact setRow_heap _ _ _ _ _ _ hA
                  refine wpList_store_all rfl 34 _ _ rfl (A0) rfl (thV nx b1 b2 b3 b4) rfl (thC nx b1 b2 b3 b4) rfl (thC d u1 u2 u3 u4) 34 hA rfl (hc.one) Try.sizeT ?_
                  rw [← hV.out]
                  clear hV
                  replace hA := hnew
                  replace hV19 := (fV.block _ (heap_lt hV19) (by show ¬ _ = _; omega)).trans hV19
                  clear hnew
                  replace hc := hc.keep fV (fun b hb _ e => hb.1 e) (fun b hb _ => hb)
                  replace nW : Nw w W10 := Fr.trans nW fV (fun k hk => .inr (by have hk2 : k = A0 := hk; omega))
                  replace hfr : Fr (fun b => b = A0) W4 W10 := Fr.trans hfr fV (fun k hk => .inl hk)
                  replace hrow := owns_fr hrow fV (fun k hk => by have hk2 : k = A0 := hk; omega)
                  clear fV
                  obtain ⟨bs2, hbs2⟩ : ∃ l, bs = l := ⟨_, rfl⟩
                  rw [hbs2] at hrow x8
                  clear hbs2
                  go_upto_region 36 with fail
                  have hst2 : Hid (DirT nx ∧ nx.id = id ∧ nx.quota = q ∧ ∀ x ∈ bs2, x ≤ id * 64 + nx.next) := ⟨r1.out, x1.out, x2.out, x8.out⟩
                  obtain ⟨s1, s2, s3, s4⟩ := dir_sizes hst2.out.1
                  have hlk2 := hst2.out.1.ok.lk
                  have h162 : nx.links.length ≤ 1000 := by have := hst2.out.1.ok.len; omega
                  replace hlk2 : Hid _ := hlk2
                  replace h162 : Hid _ := h162
                  replace s1 : Hid _ := s1
                  replace s2 : Hid _ := s2
                  clear s3 s4
                  have hcon : Hid _ := c_directory W10 hc (dir_wf hst2.out.1) s1.out s2.out
                  unfold AnsP at hcon
                  have hr0 := range_all hA
                  go_wp2_with (first | (refine wpList_load_as rfl 34 _ rfl (A0) 0 rfl (thV nx b1 b2 b3 b4) _ rfl hr0 Try.rowT Try.sizeT ?_) | (go_at_call 10; refine Calls.mono hcon.out ?_; rintro e W11 ⟨r, rfl, hr, n11⟩; refine stop_here ?_))
                  unfold Hid
                  clear hcon hr0
                  replace hA := (n11.block _ (heap_lt hA) (fun h => h)).trans hA
                  replace hc := hc.nw n11
                  replace hrow := owns_nw hrow n11
                  replace hfr := fr_nw hfr n11
                  replace nW := nw_trans nW n11
                  obtain rfl := hr.2 hst2.out.1
                  clear hr
                  obtain ⟨us3, hus3⟩ : ∃ x, usedL nx.links = x := ⟨_, rfl⟩
                  have hle : decide (q < us3) = false := decide_eq_false (by have h1 := hst2.out.1.ok.sum; have h2 := hst2.out.2.2.1; unfold usedL at hus3; omega)
                  have hcu : Hid _ := c_used W11 hc hlk2.out h162.out
                  rw [hus3] at hcu
                  replace hus3 : Hid _ := hus3
                  have hcon : Hid _ := hcu.out
                  have hr0 := range_all hA
                  go_wp2_with (first | (refine wpList_load_as rfl 34 _ rfl (A0) 0 rfl (thV nx b1 b2 b3 b4) _ rfl hr0 Try.rowT Try.sizeT ?_) | (go_at_call 13; refine Calls.mono hcon.out ?_; rintro e W12 ⟨rfl, n12⟩; refine stop_here ?_))
                  unfold Hid
                  clear hcon hr0 hcu
                  replace hA := (n12.block _ (heap_lt hA) (fun h => h)).trans hA
                  replace hc := hc.nw n12
                  replace hrow := owns_nw hrow n12
                  replace hfr := fr_nw hfr n12
                  replace nW := nw_trans nW n12
                  have e0 : W12.cell? ⟨A0, 0, none⟩ = some (.int .u64 id) := by have h9 : W12.cell? ⟨A0, 0, none⟩ = some (.int .u64 nx.id) := cell_blk hA rfl; rw [hst2.out.2.1] at h9; exact h9
                  have e6 : W12.cell? ⟨A0, 6, none⟩ = some (.int .i64 q) := by have h9 : W12.cell? ⟨A0, 6, none⟩ = some (.int .i64 nx.quota) := cell_blk hA rfl; rw [hst2.out.2.2.1] at h9; exact h9
                  have hend : Hid (HRel A0 S id q W4 ac.length (.slice oa m oc) (.int .i64 ((k + 1 : Nat))) W12) := HRel.mk (by omega) hA hc hst2.out hrow (by omega) hfr
                  clear hA hc hrow hfr
                  go_wp2
                  go_roundw
                  case rel => exact hend.out
                  case measure => simp [intOf]; omega
                · have hbe : (er == 0) = false := by simp [he]
                  have hye := drop_err (t := d) (id := ai) (by rw [hbo]; exact he)
                  rw [hbo] at hye
                  have r0 : Hid (hasB d.links ai = false) := hye.2
                  have hyx : nx = d := (Prod.mk.inj hye.1).1
                  rw [hyx] at hc hV19
                  clear hye hyx hbo he
                  have x5 : Hid (hasB d.links ai = false) := r0
                  have hlkn := hlk
                  have h16n := h16
                  have p2 : V7.cell? ⟨B, 2, none⟩ = some (.int .u64 ai) := cell_blk hP rfl
                  have hqa : Hid _ := c_has ai V7 ht hlk.out h16.out
                  rw [r0.out] at hqa
                  have hcon : Hid _ := hqa.out
                  have hr0 := range_all hA
                  have hr1 := range_all hV19
                  go_wp2_with (first | (refine wpList_load_as rfl 34 _ rfl (A0) 0 rfl (thV d u1 u2 u3 u4) _ rfl hr0 Try.rowT Try.sizeT ?_) | (refine wpList_load_as rfl 34 _ rfl (A19) 0 rfl (thV d b1 b2 b3 b4) _ rfl hr1 Try.rowT Try.sizeT ?_) | (go_at_call 15; refine Calls.mono hcon.out ?_; rintro e W8 ⟨rfl, n8⟩; refine stop_here ?_))
                  unfold Hid
                  clear hcon hr0 hr1 hqa p2
                  replace hA := (n8.block _ (heap_lt hA) (fun h => h)).trans hA
                  replace hV19 := (n8.block _ (heap_lt hV19) (fun h => h)).trans hV19
                  replace ht := ht.nw n8
                  replace hc := hc.nw n8
                  replace hrow := owns_nw hrow n8
                  replace hfr := fr_nw hfr n8
                  replace hP := (n8.block _ (heap_lt hP) (fun h => h)).trans hP
                  replace nW := nw_trans nW n8
                  have p2 : W8.cell? ⟨B, 2, none⟩ = some (.int .u64 ai) := cell_blk hP rfl
                  have hqa : Hid _ := c_has ai W8 hc hlkn.out h16n.out
                  rw [x5.out] at hqa
                  have hcon : Hid _ := hqa.out
                  have hr0 := range_all hA
                  have hr1 := range_all hV19
                  go_wp2_with (first | (refine wpList_load_as rfl 34 _ rfl (A0) 0 rfl (thV d u1 u2 u3 u4) _ rfl hr0 Try.rowT Try.sizeT ?_) | (refine wpList_load_as rfl 34 _ rfl (A19) 0 rfl (thV d b1 b2 b3 b4) _ rfl hr1 Try.rowT Try.sizeT ?_) | (go_at_call 15; refine Calls.mono hcon.out ?_; rintro e W9 ⟨rfl, n9⟩; refine stop_here ?_))
                  unfold Hid
                  clear hcon hr0 hr1 hqa p2
                  replace hA := (n9.block _ (heap_lt hA) (fun h => h)).trans hA
                  replace hV19 := (n9.block _ (heap_lt hV19) (fun h => h)).trans hV19
                  replace ht := ht.nw n9
                  replace hc := hc.nw n9
                  replace hrow := owns_nw hrow n9
                  replace hfr := fr_nw hfr n9
                  replace hP := (n9.block _ (heap_lt hP) (fun h => h)).trans hP
                  replace nW := nw_trans nW n9
                  go_upto_region 35 with fail
                  clear hbe ht hP
                  have hr1 := range_all hV19
                  go_wp2_with (first | (refine wpList_load_as rfl 34 _ rfl (A19) 0 rfl (thV d b1 b2 b3 b4) _ rfl hr1 Try.rowT Try.sizeT ?_; refine stop_here ?_))
                  unfold Hid
                  clear hr1
                  obtain ⟨W10, hV⟩ : ∃ V, Hid (V = W9.setRow (A0) (thC d b1 b2 b3 b4).toArray) := ⟨_, rfl⟩
                  have fV : Fr (fun k => k = A0) W9 W10 := by rw [hV.out]; exact (Fr.refl (fun k => k = A0) W9).setRow (.inl rfl) _
                  have hnew : W10.heap[A0]? = some (.cells (thC d b1 b2 b3 b4).toArray 34 (0, 0)) := by rw [hV.out]; exact setRow_heap _ _ _ _ _ _ hA
                  refine wpList_store_all rfl 34 _ _ rfl (A0) rfl (thV d b1 b2 b3 b4) rfl (thC d b1 b2 b3 b4) rfl (thC d u1 u2 u3 u4) 34 hA rfl (hc.one) Try.sizeT ?_
                  rw [← hV.out]
                  clear hV
                  replace hA := hnew
                  replace hV19 := (fV.block _ (heap_lt hV19) (by show ¬ _ = _; omega)).trans hV19
                  clear hnew
                  replace hc := hc.keep fV (fun b hb _ e => hb.1 e) (fun b hb _ => hb)
                  replace nW : Nw w W10 := Fr.trans nW fV (fun k hk => .inr (by have hk2 : k = A0 := hk; omega))
                  replace hfr : Fr (fun b => b = A0) W4 W10 := Fr.trans hfr fV (fun k hk => .inl hk)
                  replace hrow := owns_fr hrow fV (fun k hk => by have hk2 : k = A0 := hk; omega)
                  clear fV
                  obtain ⟨bs2, hbs2⟩ : ∃ l, bs = l := ⟨_, rfl⟩
                  rw [hbs2] at hrow hbs
                  clear hbs2
                  go_upto_region 36 with fail
                  have hst2 : Hid (DirT d ∧ d.id = id ∧ d.quota = q ∧ ∀ x ∈ bs2, x ≤ id * 64 + d.next) := ⟨hD1.out, hid.out, hqt.out, hbs.out⟩
                  obtain ⟨s1, s2, s3, s4⟩ := dir_sizes hst2.out.1
                  have hlk2 := hst2.out.1.ok.lk
                  have h162 : d.links.length ≤ 1000 := by have := hst2.out.1.ok.len; omega
                  replace hlk2 : Hid _ := hlk2
                  replace h162 : Hid _ := h162
                  replace s1 : Hid _ := s1
                  replace s2 : Hid _ := s2
                  clear s3 s4
                  have hcon : Hid _ := c_directory W10 hc (dir_wf hst2.out.1) s1.out s2.out
                  unfold AnsP at hcon
                  have hr0 := range_all hA
                  go_wp2_with (first | (refine wpList_load_as rfl 34 _ rfl (A0) 0 rfl (thV d b1 b2 b3 b4) _ rfl hr0 Try.rowT Try.sizeT ?_) | (go_at_call 10; refine Calls.mono hcon.out ?_; rintro e W11 ⟨r, rfl, hr, n11⟩; refine stop_here ?_))
                  unfold Hid
                  clear hcon hr0
                  replace hA := (n11.block _ (heap_lt hA) (fun h => h)).trans hA
                  replace hc := hc.nw n11
                  replace hrow := owns_nw hrow n11
                  replace hfr := fr_nw hfr n11
                  replace nW := nw_trans nW n11
                  obtain rfl := hr.2 hst2.out.1
                  clear hr
                  obtain ⟨us3, hus3⟩ : ∃ x, usedL d.links = x := ⟨_, rfl⟩
                  have hle : decide (q < us3) = false := decide_eq_false (by have h1 := hst2.out.1.ok.sum; have h2 := hst2.out.2.2.1; unfold usedL at hus3; omega)
                  have hcu : Hid _ := c_used W11 hc hlk2.out h162.out
                  rw [hus3] at hcu
                  replace hus3 : Hid _ := hus3
                  have hcon : Hid _ := hcu.out
                  have hr0 := range_all hA
                  go_wp2_with (first | (refine wpList_load_as rfl 34 _ rfl (A0) 0 rfl (thV d b1 b2 b3 b4) _ rfl hr0 Try.rowT Try.sizeT ?_) | (go_at_call 13; refine Calls.mono hcon.out ?_; rintro e W12 ⟨rfl, n12⟩; refine stop_here ?_))
                  unfold Hid
                  clear hcon hr0 hcu
                  replace hA := (n12.block _ (heap_lt hA) (fun h => h)).trans hA
                  replace hc := hc.nw n12
                  replace hrow := owns_nw hrow n12
                  replace hfr := fr_nw hfr n12
                  replace nW := nw_trans nW n12
                  have e0 : W12.cell? ⟨A0, 0, none⟩ = some (.int .u64 id) := by have h9 : W12.cell? ⟨A0, 0, none⟩ = some (.int .u64 d.id) := cell_blk hA rfl; rw [hst2.out.2.1] at h9; exact h9
                  have e6 : W12.cell? ⟨A0, 6, none⟩ = some (.int .i64 q) := by have h9 : W12.cell? ⟨A0, 6, none⟩ = some (.int .i64 d.quota) := cell_blk hA rfl; rw [hst2.out.2.2.1] at h9; exact h9
                  have hend : Hid (HRel A0 S id q W4 ac.length (.slice oa m oc) (.int .i64 ((k + 1 : Nat))) W12) := HRel.mk (by omega) hA hc hst2.out hrow (by omega) hfr
                  clear hA hc hrow hfr
                  go_wp2
                  go_roundw
                  case rel => exact hend.out
                  case measure => simp [intOf]; omega
              · have kb : (ak == 2) = false := by simp [k2]
                replace k2 : Hid _ := k2
                obtain ⟨bs2, hbs2⟩ : ∃ l, bs = l := ⟨_, rfl⟩
                rw [hbs2] at hrow hbs
                clear hbs2
                go_upto_region 36 with fail
                clear p0 p1 p2 kb kb0 kb1 hP
                go_upto_region 36 with fail
                have hst2 : Hid (DirT d ∧ d.id = id ∧ d.quota = q ∧ ∀ x ∈ bs2, x ≤ id * 64 + d.next) := ⟨hD1.out, hid.out, hqt.out, hbs.out⟩
                obtain ⟨s1, s2, s3, s4⟩ := dir_sizes hst2.out.1
                have hlk2 := hst2.out.1.ok.lk
                have h162 : d.links.length ≤ 1000 := by have := hst2.out.1.ok.len; omega
                replace hlk2 : Hid _ := hlk2
                replace h162 : Hid _ := h162
                replace s1 : Hid _ := s1
                replace s2 : Hid _ := s2
                clear s3 s4
                have hcon : Hid _ := c_directory W5 ht (dir_wf hst2.out.1) s1.out s2.out
                unfold AnsP at hcon
                have hr0 := range_all hA
                go_wp2_with (first | (refine wpList_load_as rfl 34 _ rfl (A0) 0 rfl (thV d u1 u2 u3 u4) _ rfl hr0 Try.rowT Try.sizeT ?_) | (go_at_call 10; refine Calls.mono hcon.out ?_; rintro e W6 ⟨r, rfl, hr, n6⟩; refine stop_here ?_))
                unfold Hid
                clear hcon hr0
                replace hA := (n6.block _ (heap_lt hA) (fun h => h)).trans hA
                replace ht := ht.nw n6
                replace hrow := owns_nw hrow n6
                replace hfr := fr_nw hfr n6
                replace nW := nw_trans nW n6
                obtain rfl := hr.2 hst2.out.1
                clear hr
                obtain ⟨us3, hus3⟩ : ∃ x, usedL d.links = x := ⟨_, rfl⟩
                have hle : decide (q < us3) = false := decide_eq_false (by have h1 := hst2.out.1.ok.sum; have h2 := hst2.out.2.2.1; unfold usedL at hus3; omega)
                have hcu : Hid _ := c_used W6 ht hlk2.out h162.out
                rw [hus3] at hcu
                replace hus3 : Hid _ := hus3
                have hcon : Hid _ := hcu.out
                have hr0 := range_all hA
                go_wp2_with (first | (refine wpList_load_as rfl 34 _ rfl (A0) 0 rfl (thV d u1 u2 u3 u4) _ rfl hr0 Try.rowT Try.sizeT ?_) | (go_at_call 13; refine Calls.mono hcon.out ?_; rintro e W7 ⟨rfl, n7⟩; refine stop_here ?_))
                unfold Hid
                clear hcon hr0 hcu
                replace hA := (n7.block _ (heap_lt hA) (fun h => h)).trans hA
                replace ht := ht.nw n7
                replace hrow := owns_nw hrow n7
                replace hfr := fr_nw hfr n7
                replace nW := nw_trans nW n7
                have e0 : W7.cell? ⟨A0, 0, none⟩ = some (.int .u64 id) := by have h9 : W7.cell? ⟨A0, 0, none⟩ = some (.int .u64 d.id) := cell_blk hA rfl; rw [hst2.out.2.1] at h9; exact h9
                have e6 : W7.cell? ⟨A0, 6, none⟩ = some (.int .i64 q) := by have h9 : W7.cell? ⟨A0, 6, none⟩ = some (.int .i64 d.quota) := cell_blk hA rfl; rw [hst2.out.2.2.1] at h9; exact h9
                have hend : Hid (HRel A0 S id q W4 ac.length (.slice oa m oc) (.int .i64 ((k + 1 : Nat))) W7) := HRel.mk (by omega) hA ht hst2.out hrow (by omega) hfr
                clear hA ht hrow hfr
                go_wp2
                go_roundw
                case rel => exact hend.out
                case measure => simp [intOf]; omega
        · have nE : Hid (Nw w wr) := Fr.trans nW.out hfr (fun k hk => .inr (by have hk2 : k = A0 := hk; omega))
          clear hA ht hrow hfr
          go_wp2
          go_ret
          exact ⟨rfl, nE.out⟩
  · replace hD : Hid _ := hD
    have hcon : Hid _ := c_directory V3 hts (small_wf (n := 0)) (Nat.zero_le _) (Nat.zero_le _)
    unfold AnsP at hcon
    have hr0 := range_all hV0
    go_wp2_with (first | (refine wpList_load_as rfl 34 _ rfl (A0) 0 rfl (thV (smallT id q) (.slice none 0 0) (.slice none 0 0) (.slice none 0 0) (.slice none 0 0)) _ rfl hr0 Try.rowT Try.sizeT ?_) | (go_at_call 10; refine Calls.mono hcon.out ?_; rintro e W4 ⟨r, rfl, hr, n4⟩; refine stop_here ?_))
    unfold Hid
    clear hcon hr0
    replace hV0 := (n4.block _ (heap_lt hV0) (fun h => h)).trans hV0
    replace hts := hts.nw n4
    replace nW := nw_trans nW n4
    obtain rfl : r = false := by (cases r; rfl; exact absurd (hr.1 rfl) hD.out)
    clear hr
    clear hV0 hts h
    go_wp2
    go_ret
    exact ⟨rfl, nW⟩
end Go.Proofs.Ytppfcdnhmieejaa
