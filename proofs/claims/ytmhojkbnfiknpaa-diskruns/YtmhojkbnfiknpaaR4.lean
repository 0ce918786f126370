/-
  The document's disk: Read, Put.
-/
import Derived.Test.YtmhojkbnfiknpaaR3
namespace Go.Proofs.Ytmhojkbnfiknpaa
set_option linter.unusedVariables false
set_option linter.unusedSimpArgs false
open Go.RowKit

set_option maxRecDepth 100000 in
theorem Try.zero50 : (Try.prog.info? 50).bind (·.zero) = some (.agg (wcell (0, z128)).toArray) := by kernel_rfl
theorem Try.size50 : (Try.prog.info? 50).map (·.size) = some 129 := by kernel_rfl
theorem Try.row50 : (Try.prog.underlying 50).map TypeDesc.isRow = some true := by kernel_rfl
theorem size50 {p : Nat × List UInt8} (h : p.2.length = 128) : (Try.prog.info? 50).map (·.size) = some (wcell p).length := by rw [wcell_length h]; exact Try.size50
theorem info50 : ∃ i, Try.prog.info? 50 = some i ∧ i.zero = some (wrv (0, z128)) ∧ i.size = 129 ∧ i.bytes = 136 := by
  have : (Try.prog.info? 50).map (fun i => (i.zero, i.size, i.bytes)) = some (some (wrv (0, z128)), 129, 136) := by kernel_rfl
  cases hq : Try.prog.info? 50 with
  | none => rw [hq] at this; cases this
  | some i => rw [hq] at this; exact ⟨i, rfl, by simpa using this⟩
set_option maxRecDepth 100000 in
theorem Try.built50 (parts : List (Nat × Value)) : Try.prog.built 50 parts = Instr.fill (fun i => #[(0, 1), (1, 128)][i]?) (wcell (0, z128)).toArray parts := by kernel_rfl
theorem built50 (i : Nat) (s : List UInt8) (hs : s.length = 128) : Try.prog.built 50 [(0, .int .i64 (i : Int)), (1, sec s)] = some (wcell (i, s)).toArray := by
  rw [Try.built50, ← Try.built72]; exact built72 i s hs

/-- Where the pending writes lie. -/
theorem RefG.prange {X : Nat → Prop} {w : World} {vs : Value} {po : Option Addr} {n pc : Nat} {D : Dk} (h : RefG X w vs (.slice po n pc) D) (hn : n = D.pd.length) (k : Nat) (hk : k < D.pd.length) :
    ∃ b off, po = some ⟨b, off, none⟩ ∧ w.rangeAt b (off + k * 129) (wcell D.pd[k]) ∧ D.pd[k].2.length = 128 ∧ D.pd[k].1 < D.st.length := by
  subst hn
  have hw := h.ok.wr D.pd[k] (List.getElem_mem hk)
  have hget : ∀ j, j < 129 → (pcells D.pd)[k * 129 + j]? = (wcell D.pd[k])[j]? := fun j hj => pcells_get (fun p hp => (h.ok.wr p hp).2) k hk j hj
  obtain ⟨b, off, e, _, _⟩ := h.pd.get (k * 129 + 0) _ (hget 0 (by omega))
  refine ⟨b, off, e, fun j v hv => ?_, hw.2, hw.1⟩
  have hj : j < 129 := by
    have := (List.getElem?_eq_some_iff.1 hv).1
    rwa [wcell_length hw.2] at this
  obtain ⟨b', off', e', _, hc⟩ := h.pd.get (k * 129 + j) v ((hget j hj).trans hv)
  rw [e] at e'
  simp only [Option.some.injEq, Addr.mk.injEq, and_true] at e'
  obtain ⟨rfl, rfl⟩ := e'
  rwa [Nat.add_assoc]

def lastN (D : Dk) (i k : Nat) : List UInt8 := (D.pd.take k).foldl (fun s p => if p.1 = i then p.2 else s) (D.st.getD i z128)

theorem lastN_succ (D : Dk) (i k : Nat) (hk : k < D.pd.length) : lastN D i (k + 1) = if D.pd[k].1 = i then D.pd[k].2 else lastN D i k := by
  unfold lastN
  rw [List.take_succ_eq_append_getElem hk, List.foldl_append]; rfl

theorem lastN_length {D : Dk} (h : D.Ok) (i k : Nat) : (lastN D i k).length = 128 := foldl_last_length _ _ _ (h.getD _) (fun p hp => (h.wr p (List.mem_of_mem_take hp)).2)

structure ReadAt (w wr : World) (N V : Nat) (vs vp : Value) (D : Dk) (s : List UInt8) : Prop where
  v : wr.heap[V]? = some (.cells (s.map bv).toArray 33 (0, 0))
  r : wr.heap[N + 1]? = some (.cells (z128.map bv).toArray 33 (0, 0))
  fr : Nw w wr

set_option maxHeartbeats 3200000 in
theorem c_rread {X : Nat → Prop} {vs vp : Value} {D : Dk} (i : Int) (w : World) (h : RefG X w vs vp D) :
    Calls Try.prog 13 #[rval vs vp D, .int .i64 i] w fun e w' => e = .returned (.tuple #[sec (D.read i), .int .i64 (D.rerr i)]) ∧ Nw w w' := by
  obtain ⟨so, sc, po, pc, rfl, rfl, h1, h2, h3, h4⟩ := h.form
  have hT := twoS w (.slice so D.st.length sc) (.slice po D.pd.length pc) D
  have hlen := h.ok.get i
  have hrl := h.ok.read i
  have hn := h.ok.n
  generalize hW : (w.alloc (.cells (rcells (.slice so D.st.length sc) (.slice po D.pd.length pc) D).toArray 30)).alloc (.cells (z128.map bv).toArray 33) = W at *
  have hW : Hid ((w.alloc (.cells (rcells (.slice so D.st.length sc) (.slice po D.pd.length pc) D).toArray 30)).alloc (.cells (z128.map bv).toArray 33) = W) := hW
  have hg := h.nw hT.fr
  obtain ⟨-, -, -, -, -, hr0⟩ := r_cells hT.var
  have hsz := hT.size
  by_cases hh : D.has i = true
  · obtain ⟨l0, l1⟩ := Dk.has_lt hh
    have e1 : D.rerr i = 0 := by unfold Dk.rerr; rw [if_pos hh]
    have e2 : D.read i = lastN D i.toNat D.pd.length := by unfold Dk.read lastN; rw [if_pos hh, List.take_length]; rfl
    have e3 : D.get i = lastN D i.toNat 0 := by unfold Dk.get lastN; rw [if_pos hh]; rfl
    rw [e1, e2]
    rw [e3] at hlen
    go_enter Try.func13, Try.ntmps13
    go_wp2_with (first
      | (refine wpList_box_agg rfl 30 _ rfl (rval (.slice so D.st.length sc) (.slice po D.pd.length pc) D) _ rfl rfl ?_)
      | (refine wpList_alloc_agg rfl 33 rfl _ Try.zero33 ?_; rw [hW.out])
      | (refine wpList_load_as rfl 30 _ rfl w.heap.size 0 rfl (rval (.slice so D.st.length sc) (.slice po D.pd.length pc) D) _ rfl hr0 Try.row30 Try.size30 ?_)
      | (go_at_call 28; refine stop_here ?_))
    unfold Hid
    refine (c_there i _ hg).mono ?_
    rw [hh]
    rintro e w2 ⟨rfl, hf2⟩
    have hg2 := hg.nw hf2
    have hv2 := (hf2.block _ (by omega) id).trans hT.var
    have hs2 := (hf2.block _ (by omega) id).trans hT.res
    obtain ⟨c0, -, -, -, -, -⟩ := r_cells hv2
    obtain ⟨b, off, rfl, hr⟩ := hg2.range rfl i hh
    rw [e3] at hr
    have hsz2 := hf2.size
    have hm := made w2
    have hnew := hm.new
    have hff := hm.fin (lastN D i.toNat 0)
    have hN3 := (hff.block _ (heap_lt hv2) id).trans hv2
    have hst : ReadAt w ((w2.alloc (.cells (z128.map bv).toArray 33)).setRow w2.heap.size ((lastN D i.toNat 0).map bv).toArray) w.heap.size w2.heap.size (.slice (some ⟨b, off, none⟩) D.st.length sc) (.slice po D.pd.length pc) D (lastN D i.toNat 0) :=
      ⟨setRow_heap _ _ _ _ 33 _ hnew, (hff.block _ (by omega) id).trans hs2, (hT.fr.trans hf2 (fun _ => False.elim)).trans hff (fun _ => False.elim)⟩
    obtain ⟨-, c1, -, -, -, -⟩ := r_cells hN3
    generalize hW3 : (w2.alloc (.cells (z128.map bv).toArray 33)).setRow w2.heap.size ((lastN D i.toNat 0).map bv).toArray = W3 at *
    have hW3 : Hid ((w2.alloc (.cells (z128.map bv).toArray 33)).setRow w2.heap.size ((lastN D i.toNat 0).map bv).toArray = W3) := hW3
    clear hg hg2 hv2 hf2 hT e1 e2 e3 hs2 hff hm hN3
    go_wp2_with (first
      | (refine wpList_load_as rfl 33 _ rfl b (off + i.toNat * 128) rfl (sec (lastN D i.toNat 0)) _ rfl hr Try.row33 (size33 hlen) ?_)
      | (refine wpList_alloc_agg rfl 33 rfl _ Try.zero33 ?_)
      | (refine wpList_store_all rfl 33 _ _ rfl w2.heap.size rfl (sec (lastN D i.toNat 0)) rfl _ rfl _ 33 hnew (sec_fit hlen) (bv_oneCell _) (size33 hlen) ?_; rw [hW3.out]))
    have hVw : w.heap.size + 2 ≤ w2.heap.size := by omega
    clear hW3 hnew hr c0 c1
    generalize w2.heap.size = V at *
    go_loopw [22] (fun j wr => ∃ k : Nat, k ≤ D.pd.length ∧ j = .int .i64 k ∧ ReadAt w wr w.heap.size V (.slice (some ⟨b, off, none⟩) D.st.length sc) (.slice po D.pd.length pc) D (lastN D i.toNat k)) (fun j _ => D.pd.length - (intOf j).toNat)
    case atStart => exact ⟨0, Nat.zero_le _, rfl, hst⟩
    case round =>
      obtain ⟨k, hk, rfl, hR⟩ := hrel
      clear hst
      have hll := lastN_length h.ok i.toNat k
      by_cases hlt : k < D.pd.length
      · obtain ⟨pb, poff, rfl, hpr, hp4, hp5⟩ := (h.nw hR.fr).prange rfl k hlt
        have H1 : Hid (lastN D i.toNat (k + 1) = if D.pd[k].1 = i.toNat then D.pd[k].2 else lastN D i.toNat k) := lastN_succ D i.toNat k hlt
        generalize D.pd[k] = p at *
        have hv := varW wr (wcell (0, z128)).toArray p 50
        generalize hWv : (wr.alloc (.cells (wcell (0, z128)).toArray 50)).setRow wr.heap.size (wcell p).toArray = W5 at *
        have hWv : Hid ((wr.alloc (.cells (wcell (0, z128)).toArray 50)).setRow wr.heap.size (wcell p).toArray = W5) := hWv
        obtain ⟨d0, d1⟩ := hv.at
        have hR5 : ReadAt w W5 w.heap.size V (.slice (some ⟨b, off, none⟩) D.st.length sc) (.slice (some ⟨pb, poff, none⟩) D.pd.length pc) D (lastN D i.toNat k) := ⟨(hv.fr.block _ (heap_lt hR.v) id).trans hR.v, (hv.fr.block _ (heap_lt hR.r) id).trans hR.r, hR.fr.trans hv.fr (fun _ => False.elim)⟩
        clear hv hR
        by_cases hpi : p.1 = i.toNat
        · have e4 : ((p.1 : Int) == i) = true := by simp; omega
          rw [if_pos hpi] at H1
          have hvb := hR5.v
          have hR6 : ReadAt w (W5.setRow V (p.2.map bv).toArray) w.heap.size V (.slice (some ⟨b, off, none⟩) D.st.length sc) (.slice (some ⟨pb, poff, none⟩) D.pd.length pc) D (lastN D i.toNat (k + 1)) := by
            rw [H1.out]
            exact ⟨setRow_heap _ _ _ _ 33 _ hvb, by rw [setRow_other _ _ _ _ (by omega)]; exact hR5.r, hR5.fr.setRow (.inr (by omega)) _⟩
          clear hR5
          go_wp2_with (first
            | (refine wpList_load_as rfl 50 _ rfl pb (poff + k * 129) rfl (wrv p) _ rfl hpr Try.row50 (size50 hp4) ?_)
            | (refine wpList_alloc_agg rfl 50 rfl _ Try.zero50 ?_)
            | (refine wpList_store_all rfl 50 _ _ rfl wr.heap.size rfl (wrv p) rfl _ rfl _ 50 (heap_alloc_new wr _) (wr_fit hp4) (wcell_oneCell _) (size50 hp4) ?_; rw [hWv.out])
            | (refine wpList_load_as rfl 33 _ rfl wr.heap.size 1 rfl (sec p.2) _ rfl d1 Try.row33 (size33 hp4) ?_)
            | (refine wpList_store_all rfl 33 _ _ rfl V rfl (sec p.2) rfl _ rfl _ 33 hvb (by rw [List.length_map, List.length_map, hp4, hll]) (bv_oneCell _) (size33 hp4) ?_))
          go_roundw
          case rel => exact ⟨k + 1, by omega, by go_num, hR6⟩
          case measure => simp [intOf]; omega
        · have e4 : ((p.1 : Int) == i) = false := by simp; omega
          rw [if_neg hpi] at H1
          go_wp2_with (first
            | (refine wpList_load_as rfl 50 _ rfl pb (poff + k * 129) rfl (wrv p) _ rfl hpr Try.row50 (size50 hp4) ?_)
            | (refine wpList_alloc_agg rfl 50 rfl _ Try.zero50 ?_)
            | (refine wpList_store_all rfl 50 _ _ rfl wr.heap.size rfl (wrv p) rfl _ rfl _ 50 (heap_alloc_new wr _) (wr_fit hp4) (wcell_oneCell _) (size50 hp4) ?_; rw [hWv.out]))
          go_roundw
          case rel => exact ⟨k + 1, by omega, by go_num, by rw [H1.out]; exact hR5⟩
          case measure => simp [intOf]; omega
      · have hkn : k = D.pd.length := by omega
        subst hkn
        have hr := range_all hR.v
        have hres := hR.r
        have hfin : Nw w (wr.setRow (w.heap.size + 1) ((lastN D i.toNat D.pd.length).map bv).toArray) := hR.fr.setRow (.inr (by omega)) _
        have hrow := range_all (setRow_heap wr (w.heap.size + 1) _ ((lastN D i.toNat D.pd.length).map bv).toArray 33 _ hres)
        clear hR h
        go_wp2_with (first
          | (refine wpList_load_as rfl 33 _ rfl V 0 rfl (sec (lastN D i.toNat D.pd.length)) _ rfl hr Try.row33 (size33 hll) ?_)
          | (refine wpList_store_all rfl 33 _ _ rfl (w.heap.size + 1) rfl (sec (lastN D i.toNat D.pd.length)) rfl _ rfl _ 33 hres (sec_fit hll) (bv_oneCell _) (size33 hll) ?_))
        refine bodyPost_ret (results_cell2 rfl _ (w.heap.size + 1) _ _ rfl rfl hrow Try.row33 (size33 hll)) rfl ?_
        exact ⟨rfl, hfin⟩
  · have hh : D.has i = false := by simpa using hh
    have e1 : D.rerr i = 41 := by unfold Dk.rerr; simp [hh]
    have e2 : D.read i = z128 := by unfold Dk.read; simp [hh]
    rw [e1, e2]
    go_enter Try.func13, Try.ntmps13
    go_wp2_with (first
      | (refine wpList_box_agg rfl 30 _ rfl (rval (.slice so D.st.length sc) (.slice po D.pd.length pc) D) _ rfl rfl ?_)
      | (refine wpList_alloc_agg rfl 33 rfl _ Try.zero33 ?_; rw [hW.out])
      | (refine wpList_load_as rfl 30 _ rfl w.heap.size 0 rfl (rval (.slice so D.st.length sc) (.slice po D.pd.length pc) D) _ rfl hr0 Try.row30 Try.size30 ?_)
      | (go_at_call 28; refine stop_here ?_))
    unfold Hid
    refine (c_there i _ hg).mono ?_
    rw [hh]
    rintro e w2 ⟨rfl, hf2⟩
    have hs2 := (hf2.block _ (by omega) id).trans hT.res
    have hfin : Nw w (w2.setRow (w.heap.size + 1) (z128.map bv).toArray) := (hT.fr.trans hf2 (fun _ => False.elim)).setRow (.inr (by omega)) _
    have hrow := range_all (setRow_heap w2 (w.heap.size + 1) _ (z128.map bv).toArray 33 _ hs2)
    clear hg hf2 hT h e1 e2
    go_wp2_with (first
      | (refine wpList_build_as rfl 33 #[] rfl (sec z128) _ rfl Try.built33 ?_)
      | (refine wpList_store_all rfl 33 _ _ rfl (w.heap.size + 1) rfl (sec z128) rfl _ rfl _ 33 hs2 rfl (bv_oneCell _) (size33 z128_length) ?_))
    refine bodyPost_ret (results_cell2 rfl _ (w.heap.size + 1) _ _ rfl rfl hrow Try.row33 (size33 z128_length)) rfl ?_
    exact ⟨rfl, hfin⟩
end Go.Proofs.Ytmhojkbnfiknpaa
