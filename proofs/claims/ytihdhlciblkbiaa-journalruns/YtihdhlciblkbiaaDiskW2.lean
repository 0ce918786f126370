/-
  The disk's New, Stable, Read.
-/
import Derived.Test.YtihdhlciblkbiaaDiskW1
import Derived.Test.YtihdhlciblkbiaaLibAgg
namespace Go.Proofs.Ytihdhlciblkbiaa
set_option linter.unusedVariables false
set_option linter.unusedSimpArgs false
set_option maxRecDepth 20000
open Go.RowKit

/-- What is stable of a sector. -/
def Dk.get (D : Dk) (i : Int) : List UInt8 := if D.has i then D.st.getD i.toNat z128 else z128

theorem Dk.Ok.get {D : Dk} (h : D.Ok) (i : Int) : (D.get i).length = 128 := by
  unfold Dk.get
  split
  · rw [List.getD_eq_getElem?_getD]
    cases hq : D.st[i.toNat]? with
    | none => rfl
    | some s => exact h.sec s (List.mem_of_getElem? hq)
  · rfl

theorem Dk.has_lt {D : Dk} {i : Int} (h : D.has i = true) : 0 ≤ i ∧ i < (D.st.length : Int) := by
  unfold Dk.has at h
  simpa using h

/-- A sector in its place. -/
theorem DiskG.range {base : Nat} {w : World} {b g : Nat} {vp : Value} {D : Dk} (h : DiskG base w b g vp D) (i : Int) (hi : D.has i = true) : w.rangeAt g (i.toNat * 128) ((D.get i).map bv) := by
  have hl := Dk.has_lt hi
  have hlt : i.toNat < D.st.length := by omega
  have hg : D.get i = D.st[i.toNat] := by
    unfold Dk.get
    rw [if_pos hi, List.getD_eq_getElem?_getD, List.getElem?_eq_getElem hlt]; rfl
  refine range_blk h.st _ _ (fun j v hv => ?_)
  have hj : j < 128 := by
    have := (List.getElem?_eq_some_iff.1 hv).1
    rw [List.length_map, h.ok.get i] at this
    exact this
  rw [flat_get h.ok.sec i.toNat hlt j hj, ← hg]
  exact hv

theorem Dk.get_out {D : Dk} {i : Int} (h : D.has i = false) : D.get i = z128 := by unfold Dk.get; simp [h]

set_option maxHeartbeats 400000 in
theorem c_stable {base : Nat} {b : Nat} {S : Nat → Prop} {D : Dk} (i : Int) (w : World) (h : DiskAt base w b S D) :
    Calls Try.prog 23 #[.pointer (some ⟨b, 0, none⟩), .int .i64 i] w fun e w' => e = .returned (sec (D.get i)) ∧ Nw w w' := by
  obtain ⟨g, vp, h, hS⟩ := h
  have hm := made w
  have h1 := h.keep hm.fr (fun _ _ => id)
  have hlen := h.ok.get i
  generalize hW : w.alloc (.cells (z128.map bv).toArray 55) = W at *
  have hW : Hid (w.alloc (.cells (z128.map bv).toArray 55) = W) := hW
  obtain ⟨h0, -, -, -, -⟩ := h1.cells
  have hin : D.st.length ≤ 1024 := h.ok.n
  by_cases hh : D.has i = true
  · have hr := h1.range i hh
    obtain ⟨hl0, hl1⟩ := Dk.has_lt hh
    clear h hS
    go_enter Try.func23, Try.ntmps23
    go_wp2_with (first
      | (refine wpList_alloc_agg rfl 55 rfl _ Try.zeroS ?_; rw [hW.out])
      | (go_at_call 41; refine (c_has i _ h1).mono ?_; rw [hh]; rintro e w' ⟨rfl, rfl⟩)
      | (refine wpList_load_as rfl 55 _ rfl g (i.toNat * 128) rfl (sec (D.get i)) _ rfl hr Try.rowS (sizeS hlen) ?_)
      | (refine wpList_store_all rfl 55 _ _ rfl w.heap.size rfl (sec (D.get i)) rfl _ rfl _ 55 hm.new (sec_fit hlen) (bv_oneCell _) (sizeS hlen) ?_))
    refine bodyPost_ret (results_cell1 rfl _ w.heap.size _ _ rfl rfl (hm.row _) Try.rowS (sizeS hlen)) rfl ?_
    exact ⟨rfl, hm.fin _⟩
  · have hh : D.has i = false := by simpa using hh
    rw [Dk.get_out hh]
    clear h hS
    go_enter Try.func23, Try.ntmps23
    go_wp2_with (first
      | (refine wpList_alloc_agg rfl 55 rfl _ Try.zeroS ?_; rw [hW.out])
      | (go_at_call 41; refine (c_has i _ h1).mono ?_; rw [hh]; rintro e w' ⟨rfl, rfl⟩)
      | (refine wpList_build_as rfl 55 _ rfl (sec z128) _ rfl Try.builtS ?_)
      | (refine wpList_store_all rfl 55 _ _ rfl w.heap.size rfl (sec z128) rfl _ rfl _ 55 hm.new rfl (bv_oneCell _) (sizeS z128_length) ?_))
    refine bodyPost_ret (results_cell1 rfl _ w.heap.size _ _ rfl rfl (hm.row _) Try.rowS (sizeS z128_length)) rfl ?_
    exact ⟨rfl, hm.fin _⟩

/-! ### Read -/
/-- The last of the pending writes to a sector, or what is stable. -/
def Dk.last (D : Dk) (i : Nat) : List UInt8 := D.pd.foldl (fun s p => if p.1 = i then p.2 else s) (D.st.getD i z128)
def Dk.read (D : Dk) (i : Int) : List UInt8 := if D.has i then D.last i.toNat else z128

theorem foldl_last_length (l : List (Nat × List UInt8)) (i : Nat) (s : List UInt8) (hs : s.length = 128) (h : ∀ p ∈ l, p.2.length = 128) : (l.foldl (fun s p => if p.1 = i then p.2 else s) s).length = 128 := by
  induction l generalizing s with
  | nil => exact hs
  | cons p l ih =>
    refine ih _ ?_ (fun q hq => h q (List.mem_cons_of_mem _ hq))
    show (if p.1 = i then p.2 else s).length = 128
    split
    · exact h p List.mem_cons_self
    · exact hs

theorem Dk.Ok.getD {D : Dk} (h : D.Ok) (i : Nat) : (D.st.getD i z128).length = 128 := by
  rw [List.getD_eq_getElem?_getD]
  cases hq : D.st[i]? with
  | none => rfl
  | some s => exact h.sec s (List.mem_of_getElem? hq)

theorem Dk.Ok.read {D : Dk} (h : D.Ok) (i : Int) : (D.read i).length = 128 := by
  unfold Dk.read
  split
  · exact foldl_last_length _ _ _ (h.getD _) (fun p hp => (h.wr p hp).2)
  · rfl

/-- None behind place k is to sector i. -/
def noneFrom (pd : List (Nat × List UInt8)) (i k : Nat) : Prop := ∀ p ∈ pd.drop k, p.1 ≠ i

theorem foldl_none (l : List (Nat × List UInt8)) (i : Nat) (s : List UInt8) (h : ∀ p ∈ l, p.1 ≠ i) : l.foldl (fun s p => if p.1 = i then p.2 else s) s = s := by
  induction l generalizing s with
  | nil => rfl
  | cons p l ih =>
    simp only [List.foldl_cons, if_neg (h p List.mem_cons_self)]
    exact ih s (fun q hq => h q (List.mem_cons_of_mem _ hq))

theorem last_hit {D : Dk} {i k : Nat} (hk : k < D.pd.length) (hn : noneFrom D.pd i (k + 1)) (he : D.pd[k].1 = i) : D.last i = D.pd[k].2 := by
  unfold Dk.last
  have e : D.pd = D.pd.take k ++ (D.pd[k] :: D.pd.drop (k + 1)) := by simp
  have e2 : ∀ s, D.pd.foldl (fun s p => if p.1 = i then p.2 else s) s = (D.pd.take k ++ (D.pd[k] :: D.pd.drop (k + 1))).foldl (fun s p => if p.1 = i then p.2 else s) s := fun s => congrArg (fun l => List.foldl (fun s p => if p.1 = i then p.2 else s) s l) e
  rw [e2, List.foldl_append, List.foldl_cons, if_pos he, foldl_none _ i _ hn]

theorem last_none {D : Dk} {i : Nat} (hn : noneFrom D.pd i 0) : D.last i = D.st.getD i z128 := foldl_none _ i _ (by simpa [noneFrom] using hn)

theorem noneFrom_step {pd : List (Nat × List UInt8)} {i k : Nat} (hk : k < pd.length) (hn : noneFrom pd i (k + 1)) (he : pd[k].1 ≠ i) : noneFrom pd i k := by
  unfold noneFrom at *
  rw [List.drop_eq_getElem_cons hk]
  intro p hp
  rcases List.mem_cons.1 hp with rfl | hp
  · exact he
  · exact hn p hp

/-- The pending writes' row: the slice, and where each lies. -/
theorem DiskG.pend {base : Nat} {w : World} {b g : Nat} {vp : Value} {D : Dk} (h : DiskG base w b g vp D) : ∃ ao cap, vp = .slice ao D.pd.length cap ∧ D.pd.length ≤ cap ∧ cap ≤ maxLen ∧
    ∀ k (_ : k < D.pd.length), ∃ q, ao = some ⟨q, 0, none⟩ ∧ w.rangeAt q (k * 129) (wcell D.pd[k]) ∧ w.rangeAt q (k * 129 + 1) (D.pd[k].2.map bv) ∧ w.cell? ⟨q, k * 129, none⟩ = some (.int .i64 (D.pd[k].1 : Int)) ∧ D.pd[k].2.length = 128 ∧ D.pd[k].1 < D.st.length := by
  rcases h.pd.2 with ⟨hv, h0⟩ | ⟨q, cap, cur, hv, hb, hg, hn, hm, hs, ht⟩
  · refine ⟨none, 0, by rw [hv, h0], by omega, Nat.zero_le _, fun k hk => by omega⟩
  · refine ⟨some ⟨q, 0, none⟩, cap, hv, hn, hm, fun k hk => ⟨q, rfl, ?_⟩⟩
    have hw := h.ok.wr D.pd[k] (List.getElem_mem hk)
    have hr : w.rangeAt q (k * 129) (wcell D.pd[k]) := fun j v hv => by
      have hj : j < 129 := by
        have := (List.getElem?_eq_some_iff.1 hv).1
        rwa [wcell_length hw.2] at this
      have hp := pcells_get (fun p hp => (h.ok.wr p hp).2) k hk j hj
      rw [hv, ← ht, List.getElem?_take] at hp
      split at hp
      · rw [cell_of_row w q _ cur 86 _ hg]; simpa using hp
      · cases hp
    refine ⟨hr, fun j v hv => ?_, hr 0 _ rfl, hw.2, hw.1⟩
    have := hr (j + 1) v (by simpa [wcell] using hv)
    rwa [show k * 129 + (j + 1) = k * 129 + 1 + j by omega] at this

theorem DiskG.alloc1 {base : Nat} {w W : World} {b g : Nat} {vp : Value} {D : Dk} (h : DiskG base w b g vp D) (hm : Made w W) : DiskG base W b g vp D := h.keep hm.fr (fun _ _ => id)

set_option maxHeartbeats 800000 in
theorem c_read {base : Nat} {b : Nat} {S : Nat → Prop} {D : Dk} (i : Int) (w : World) (h : DiskAt base w b S D) :
    Calls Try.prog 52 #[.pointer (some ⟨b, 0, none⟩), .int .i64 i] w fun e w' => e = .returned (.tuple #[sec (D.read i), .int .i64 (if D.has i then 0 else 41)]) ∧ Nw w w' := by
  obtain ⟨g, vp, h, hS⟩ := h
  have hm := made w
  have h1 := h.keep hm.fr (fun _ _ => id)
  have hlen := h.ok.read i
  generalize hW : w.alloc (.cells (z128.map bv).toArray 55) = W at *
  have hW : Hid (w.alloc (.cells (z128.map bv).toArray 55) = W) := hW
  obtain ⟨h0, hp, -, -, -⟩ := h1.cells
  have hin : D.st.length ≤ 1024 := h.ok.n
  by_cases hh : D.has i = true
  · have hr := h1.range i hh
    obtain ⟨hl0, hl1⟩ := Dk.has_lt hh
    have hrd : D.read i = D.last i.toNat := by unfold Dk.read; rw [if_pos hh]
    obtain ⟨ao, cap, rfl, hc, hmx, hpd⟩ := h1.pend
    have hmx : cap ≤ 9223372036854775807 := hmx
    rw [if_pos hh]
    clear h hS
    go_enter Try.func52, Try.ntmps52
    go_wp2_with (first
      | (refine wpList_alloc_agg rfl 55 rfl _ Try.zeroS ?_; rw [hW.out])
      | (go_at_call 41; refine (c_has i _ h1).mono ?_; rw [hh]; rintro e w' ⟨rfl, rfl⟩))
    go_loop [6] (fun u => ∃ k : Nat, k ≤ D.pd.length ∧ u = .int .i64 ((k : Int) - 1) ∧ noneFrom D.pd i.toNat k) (fun u => (intOf u + 1).toNat)
    case atStart => exact ⟨D.pd.length, Nat.le_refl _, by go_num, by simp [noneFrom]⟩
    case round =>
      obtain ⟨k, hk, rfl, hn⟩ := hrel
      have hn : Hid (noneFrom D.pd i.toNat k) := hn
      by_cases hk0 : k = 0
      · subst hk0
        have hg : D.get i = D.last i.toNat := by
          rw [last_none hn.out]
          unfold Dk.get
          rw [if_pos hh]
        rw [hg, ← hrd] at hr
        clear hpd hrd hg
        go_wp2_with (first
          | (refine wpList_load_as rfl 55 _ rfl g (i.toNat * 128) rfl (sec (D.read i)) _ rfl hr Try.rowS (sizeS hlen) ?_)
          | (refine wpList_store_all rfl 55 _ _ rfl w.heap.size rfl (sec (D.read i)) rfl _ rfl _ 55 hm.new (sec_fit hlen) (bv_oneCell _) (sizeS hlen) ?_))
        refine bodyPost_ret (results_cell2 rfl _ w.heap.size _ _ rfl rfl (hm.row _) Try.rowS (sizeS hlen)) rfl ?_
        exact ⟨rfl, hm.fin _⟩
      · obtain ⟨j, rfl⟩ : ∃ j, k = j + 1 := ⟨k - 1, by omega⟩
        obtain ⟨q, rfl, -, hq2, hq3, hq4, hq5⟩ := hpd j (by omega)
        have e1 : (((j + 1 : Nat) : Int) - 1) = (j : Int) := by omega
        rw [e1]
        by_cases hhit : D.pd[j].1 = i.toNat
        · have hla := last_hit (by omega) hn.out hhit
          have e2 : ((D.pd[j].1 : Int) == i) = true := by simp; omega
          have hm3 : D.pd[j].2 = D.read i := by rw [hrd, hla]
          have hrd2 : D.read i = D.last i.toNat := hrd
          rw [hm3] at hq2
          rw [← hrd] at *
          clear hpd hrd hla hm3 hrd2
          generalize D.pd[j] = pj at *
          go_wp2_with (first
            | (refine wpList_load_as rfl 55 _ rfl q (j * 129 + 1) rfl (sec (D.read i)) _ rfl hq2 Try.rowS (sizeS hlen) ?_)
            | (refine wpList_store_all rfl 55 _ _ rfl w.heap.size rfl (sec (D.read i)) rfl _ rfl _ 55 hm.new (sec_fit hlen) (bv_oneCell _) (sizeS hlen) ?_))
          refine bodyPost_ret (results_cell2 rfl _ w.heap.size _ _ rfl rfl (hm.row _) Try.rowS (sizeS hlen)) rfl ?_
          exact ⟨rfl, hm.fin _⟩
        · have e2 : ((D.pd[j].1 : Int) == i) = false := by simp; omega
          have hn2 : Hid (noneFrom D.pd i.toNat j) := noneFrom_step (by omega) hn.out hhit
          clear hpd hrd hq2
          generalize D.pd[j] = pj at *
          go_wp2
          go_round
          case rel => exact ⟨j, by omega, by go_num, hn2.out⟩
          case measure => simp [intOf]
  · have hh : D.has i = false := by simpa using hh
    have hrd : D.read i = z128 := by unfold Dk.read; simp [hh]
    rw [hrd, hh]
    clear h hS
    go_enter Try.func52, Try.ntmps52
    go_wp2_with (first
      | (refine wpList_alloc_agg rfl 55 rfl _ Try.zeroS ?_; rw [hW.out])
      | (go_at_call 41; refine (c_has i _ h1).mono ?_; rw [hh]; rintro e w' ⟨rfl, rfl⟩)
      | (refine wpList_build_as rfl 55 _ rfl (sec z128) _ rfl Try.builtS ?_)
      | (refine wpList_store_all rfl 55 _ _ rfl w.heap.size rfl (sec z128) rfl _ rfl _ 55 hm.new rfl (bv_oneCell _) (sizeS z128_length) ?_))
    refine bodyPost_ret (results_cell2 rfl _ w.heap.size _ _ rfl rfl (hm.row _) Try.rowS (sizeS z128_length)) rfl ?_
    exact ⟨rfl, hm.fin _⟩
end Go.Proofs.Ytihdhlciblkbiaa
