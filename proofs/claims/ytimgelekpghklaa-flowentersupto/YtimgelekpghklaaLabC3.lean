/-
  Those of one level left out, in memory.
-/
import Derived.Test.YtimgelekpghklaaLabC2
namespace Go.Proofs.Ytimgelekpghklaa
set_option linter.unusedVariables false
set_option linter.unusedSimpArgs false
set_option maxRecDepth 20000
open Go.RowKit

def mk3V (p : Nat) : Value := .func (.func 48) #[] #[.pointer (some ⟨p, 0, none⟩)]

def FoundAt (xs : List Cat) (n : Nat) (d : Int) (r : Int) : Prop := (r = -1 ∧ ∀ i, i < n → (gt xs i).2 ≠ d) ∨ ∃ k : Nat, k < n ∧ r = (k : Int) ∧ (∀ i, i < k → (gt xs i).2 ≠ d) ∧ (gt xs k).2 = d

set_option maxHeartbeats 1600000 in
theorem c_index {g p : Nat} {xs : List Cat} {tl : List Value} (d : Int) (cap n : Nat) (w : World) (h : CB w g xs tl) (hn : Hid (xs.length = n)) (hc : n ≤ cap) (hm : cap ≤ 9223372036854775807) (hd : w.heap[p]? = some (.cells #[.int .i64 d] 3 (0, 0))) :
    Calls Try.prog 57 #[.slice (some ⟨g, 0, none⟩) n cap, mk3V p] w fun e w' => ∃ r, e = .returned (.int .i64 r) ∧ FoundAt xs n d r ∧ Nw w w' := by
  unfold mk3V
  go_enter Try.func57, Try.ntmps57
  go_wp2
  go_loopw [8] (fun kv wr => ∃ k : Nat, k ≤ n ∧ kv = .int .i64 k ∧ Hid (∀ i, i < k → (gt xs i).2 ≠ d) ∧ Nw w wr) (fun kv _ => n - (intOf kv).toNat)
  case atStart => exact ⟨0, Nat.zero_le _, rfl, fun i h => by omega, nw_refl _⟩
  case round =>
    obtain ⟨k, hkn, rfl, hne, hnw⟩ := hrel
    by_cases hlt : k < n
    · have hcb := h.nw hnw
      obtain ⟨c1, c2⟩ := hcb.gets k (by rw [hn.out]; exact hlt)
      obtain ⟨x, hx⟩ : ∃ x, Hid (x = gt xs k) := ⟨_, rfl⟩
      rw [← hx.out] at c1 c2
      have hdc : wr.cell? ⟨p, 0, none⟩ = some (.int .i64 d) := cell_blk ((hnw.block p (heap_lt hd) id).trans hd) rfl
      clear hcb
      go_wp2_with (go_at_call 48; refine (c_mk3 x d p _ hdc).mono ?_; rintro e w3 ⟨rfl, hnw3⟩; refine stop_here ?_)
      unfold Hid
      have hnw' := nw_trans hnw hnw3
      clear hnw hnw3 c1 c2 hdc
      by_cases hxd : x.2 = d
      · have hb : (x.2 == d) = true := by simp [hxd]
        have hf : Hid (FoundAt xs n d (k : Int)) := .inr ⟨k, hlt, rfl, hne.out, by rw [← hx.out]; exact hxd⟩
        rw [hb]
        clear hb hxd hx hne
        go_wp2
        go_ret
        exact ⟨_, rfl, hf.out, hnw'⟩
      · have hb : (x.2 == d) = false := by simp [hxd]
        have hne' : Hid (∀ i, i < k + 1 → (gt xs i).2 ≠ d) := fun i hi => by
          by_cases hik : i = k
          · subst hik; rw [← hx.out]; exact hxd
          · exact hne.out i (by omega)
        rw [hb]
        clear hb hxd hx hne
        go_wp2
        go_roundw
        case rel => exact ⟨k + 1, by omega, by go_num, hne', hnw'⟩
        case measure => simp [intOf]; omega
    · have hf : Hid (FoundAt xs n d (-1)) := .inl ⟨rfl, fun i hi => hne.out i (by omega)⟩
      go_wp2
      go_ret
      exact ⟨_, rfl, hf.out, hnw⟩

def keepC (d : Int) (c : Cat) : Bool := !(c.2 == d)

structure Dl (d : Int) (xs zs : List Cat) (j i : Nat) : Prop where
  len : zs.length = xs.length
  ij : i < j
  low : zs.take i = (xs.take j).filter (keepC d)
  low2 : ((xs.take j).filter (keepC d)).length = i
  high : ∀ q, j ≤ q → zs[q]? = xs[q]?

theorem Dl.start {d : Int} {xs : List Cat} {k : Nat} (hk : k < xs.length) (h : ∀ i, i < k → (gt xs i).2 ≠ d) (he : (gt xs k).2 = d) : Dl d xs xs (k + 1) k := by
  have e : (xs.take (k + 1)).filter (keepC d) = xs.take k := by
    rw [List.take_succ_eq_append_getElem hk, List.filter_append, ← gt_of hk]
    have e1 : (xs.take k).filter (keepC d) = xs.take k := by
      rw [List.filter_eq_self]
      intro c hc
      obtain ⟨i, hi⟩ := List.getElem?_of_mem hc
      rw [List.getElem?_take] at hi
      split at hi
      · rename_i hik
        have := h i hik
        unfold gt at this
        rw [hi] at this
        simp [keepC] at this ⊢
        exact this
      · cases hi
    rw [e1]
    simp [keepC, he]
  exact ⟨rfl, by omega, e.symm, by rw [e]; simp; omega, fun _ _ => rfl⟩

theorem Dl.skip {d : Int} {xs zs : List Cat} {j i : Nat} (h : Dl d xs zs j i) (hj : j < xs.length) (he : (gt xs j).2 = d) : Dl d xs zs (j + 1) i := by
  have e : (xs.take (j + 1)).filter (keepC d) = (xs.take j).filter (keepC d) := by
    rw [List.take_succ_eq_append_getElem hj, List.filter_append, ← gt_of hj]
    simp [keepC, he]
  exact ⟨h.len, by have := h.ij; omega, by rw [e]; exact h.low, by rw [e]; exact h.low2, fun q hq => h.high q (by omega)⟩

theorem Dl.put {d : Int} {xs zs : List Cat} {j i : Nat} (h : Dl d xs zs j i) (hj : j < xs.length) (he : (gt xs j).2 ≠ d) : Dl d xs (zs.set i (gt xs j)) (j + 1) (i + 1) := by
  have e : (xs.take (j + 1)).filter (keepC d) = (xs.take j).filter (keepC d) ++ [gt xs j] := by
    rw [List.take_succ_eq_append_getElem hj, List.filter_append, ← gt_of hj]
    simp [keepC, he]
  have h1 := h.ij
  refine ⟨by rw [List.length_set]; exact h.len, by omega, ?_, by rw [e, List.length_append, h.low2]; rfl, fun q hq => ?_⟩
  · rw [e, take_set_snoc _ _ _ (by have := h.len; omega), h.low]
  · rw [List.getElem?_set_ne (by omega)]
    exact h.high q (by omega)

set_option maxHeartbeats 3200000 in
theorem c_delete {g p : Nat} {xs : List Cat} {tl : List Value} (d : Int) (cap n : Nat) (w : World) (h : CB w g xs tl) (hn : Hid (xs.length = n)) (hc : n ≤ cap) (hm : cap ≤ 9223372036854775807) (hd : w.heap[p]? = some (.cells #[.int .i64 d] 3 (0, 0))) (hpg : p ≠ g) :
    Calls Try.prog 47 #[.slice (some ⟨g, 0, none⟩) n cap, mk3V p] w fun e w' => ∃ k tl', e = .returned (.slice (some ⟨g, 0, none⟩) k cap) ∧ CB w' g (xs.filter (keepC d)) tl' ∧ (xs.filter (keepC d)).length = k ∧ k ≤ n ∧ Fr (fun k => k = g) w w' := by
  have hidx : Hid _ := c_index d cap n w h hn hc hm hd
  unfold mk3V at *
  replace hpg : Hid (p ≠ g) := hpg
  go_enter Try.func47, Try.ntmps47
  go_wp2_with (go_at_call 57; refine Calls.mono hidx.out ?_; rintro e w1 ⟨r, rfl, hf, hnw⟩; refine stop_here ?_)
  unfold Hid
  clear hidx
  have hcb1 := h.nw hnw
  have hd1 : w1.heap[p]? = some (.cells #[.int .i64 d] 3 (0, 0)) := (hnw.block p (heap_lt hd) id).trans hd
  have hfr1 : Fr (fun k => k = g) w w1 := fr_of_nw hnw
  clear h hd hnw
  rcases hf with ⟨rfl, hf⟩ | ⟨k, hkn, rfl, hf1, hf2⟩
  · have e : Hid (xs.filter (keepC d) = xs) := by
      unfold Hid
      rw [List.filter_eq_self]
      intro c hc
      obtain ⟨i, hi⟩ := List.getElem?_of_mem hc
      have hil : i < n := by rw [← hn.out]; exact (List.getElem?_eq_some_iff.1 hi).1
      have := hf i hil
      unfold gt at this
      rw [hi] at this
      simp [keepC] at this ⊢
      exact this
    clear hf
    go_wp2
    go_ret
    exact ⟨n, tl, rfl, by rw [e.out]; exact hcb1, by rw [e.out]; exact hn.out, Nat.le_refl _, hfr1⟩
  · have hst : Hid (Dl d xs xs (k + 1) k) := Dl.start (by rw [hn.out]; exact hkn) hf1 hf2
    clear hf1 hf2
    have hk1 : ((k : Int) == -1) = false := by simp <;> omega
    go_wp2
    clear hk1
    go_loopw [5, 6] (fun iv jv wr => ∃ (i j : Nat) (zs : List Cat), iv = .int .i64 i ∧ jv = .int .i64 j ∧ j ≤ n ∧ i < j ∧ Hid (Dl d xs zs j i) ∧ CB wr g zs tl ∧ Fr (fun k => k = g) w1 wr) (fun _ jv _ => n - (intOf jv).toNat)
    case atStart => exact ⟨k, k + 1, xs, rfl, by go_num, by omega, by omega, hst, hcb1, Fr.refl _ _⟩
    case round =>
      clear hst hcb1
      obtain ⟨i, j, zs, rfl, rfl, hjn, hij, hdl, hcb, hfr⟩ := hrel
      have hzl : Hid (zs.length = n) := hdl.out.len.trans hn.out
      have hdp : wr.heap[p]? = some (.cells #[.int .i64 d] 3 (0, 0)) := (hfr.block p (heap_lt hd1) hpg.out).trans hd1
      by_cases hlt : j < n
      · obtain ⟨x, hx⟩ : ∃ x, Hid (x = gt xs j) := ⟨_, rfl⟩
        have c0 := hcb.gets j (by rw [hzl.out]; exact hlt)
        rw [gt_eq (hdl.out.high _ (Nat.le_refl _)), ← hx.out] at c0
        obtain ⟨c1, c2⟩ := c0
        have hgl := hcb.lt
        have hA : Hid (∀ o, CB (wr.alloc o) g zs tl ∧ Fr (fun k => k = g) w1 (wr.alloc o) ∧ (wr.alloc o).heap[p]? = some (.cells #[.int .i64 d] 3 (0, 0))) := fun o => ⟨hcb.nw ((Fr.refl _ wr).alloc o), hfr.alloc o, (Below.heap_alloc _ _ _ (heap_lt hdp)).trans hdp⟩
        clear hcb hfr hdp
        have hV : (wr.alloc (.cells #[.int .u64 x.1, .int .i64 x.2] 33)).heap[wr.heap.size]? = some (.cells #[.int .u64 x.1, .int .i64 x.2] 33 (0, 0)) := heap_alloc_new wr _
        obtain ⟨hcbA, hfrA, hdA⟩ := hA.out (.cells #[.int .u64 x.1, .int .i64 x.2] 33)
        have hgV : g ≠ wr.heap.size := by omega
        go_upto_region 8 with fail
        clear hA c1 c2
        generalize wr.alloc (.cells #[.int .u64 x.1, .int .i64 x.2] 33) = W at *
        generalize wr.heap.size = V at *
        have hgV : Hid (g ≠ V) := hgV
        have v1 : W.cell? ⟨V, 0, none⟩ = some (.int .u64 x.1) := cell_blk hV rfl
        have v2 : W.cell? ⟨V, 1, none⟩ = some (.int .i64 x.2) := cell_blk hV rfl
        have hdc : W.cell? ⟨p, 0, none⟩ = some (.int .i64 d) := cell_blk hdA rfl
        go_wp2_with (go_at_call 48; refine (c_mk3 x d p _ hdc).mono ?_; rintro e w3 ⟨rfl, hnw3⟩; refine stop_here ?_)
        unfold Hid
        have hcb3 := hcbA.nw hnw3
        have hfr3 := fr_nw hfrA hnw3
        have hV3 : w3.heap[V]? = some (.cells #[.int .u64 x.1, .int .i64 x.2] 33 (0, 0)) := (hnw3.block V (heap_lt hV) id).trans hV
        clear hdc v1 v2 hV hcbA hfrA hdA hnw3
        by_cases hxd : x.2 = d
        · have hb : (x.2 == d) = true := by simp [hxd]
          have hdl' : Hid (Dl d xs zs (j + 1) i) := hdl.out.skip (by rw [hn.out]; exact hlt) (by rw [← hx.out]; exact hxd)
          rw [hb]
          clear hb hxd hx hdl hV3
          go_wp2
          go_roundw
          case rel => exact ⟨i, j + 1, zs, rfl, by go_num, by omega, by omega, hdl', hcb3, hfr3⟩
          case measure => simp [intOf]; omega
        · have hb : (x.2 == d) = false := by simp [hxd]
          have hdl' : Hid (Dl d xs (zs.set i (gt xs j)) (j + 1) (i + 1)) := hdl.out.put (by rw [hn.out]; exact hlt) (by rw [← hx.out]; exact hxd)
          rw [← hx.out] at hdl'
          have v1 : w3.cell? ⟨V, 0, none⟩ = some (.int .u64 x.1) := cell_blk hV3 rfl
          have v2 : w3.cell? ⟨V, 1, none⟩ = some (.int .i64 x.2) := cell_blk hV3 rfl
          have hcb4 : Hid _ := hcb3.set i (by rw [hzl.out]; omega) x
          have hfr4 : Hid (∀ u1 u2, Fr (fun k => k = g) w1 ((w3.setCell ⟨g, i * 2, none⟩ u1).setCell ⟨g, i * 2 + 1, none⟩ u2)) := fun u1 u2 => (hfr3.setCell (p := ⟨g, _, none⟩) (.inl rfl) _).setCell (p := ⟨g, _, none⟩) (.inl rfl) _
          obtain ⟨d1, d2⟩ := hcb3.gets i (by rw [hzl.out]; omega)
          generalize gt zs i = z at *
          have f1 : ∀ k, w3.frozen? ⟨g, k, none⟩ = false := fun k => hcb3.free k
          have hin : i < n := by omega
          rw [hb]
          clear hb hxd hx hdl hV3 hcb3 hfr3
          go_wp2
          go_roundw
          case rel => exact ⟨i + 1, j + 1, _, by go_num, by go_num, by omega, by omega, hdl', hcb4.out, hfr4.out _ _⟩
          case measure => simp [intOf]; omega
      · have hjn : j = n := by omega
        have hclr := fun ty => run_clear2 hcb i (cap - i) ty (by rw [hzl.out]; omega)
        rw [hzl.out] at hclr
        have hcl := hcb.clear i (by rw [hzl.out]; omega)
        have hxt : xs.take j = xs := by rw [hjn, ← hn.out, List.take_length]
        have hdd := hdl.out.low2
        rw [hdl.out.low, hzl.out, hxt] at hcl
        rw [hxt] at hdd
        have hfr4 := fr_setCells (g := g) (S := fun k => k = g) (.inl rfl) (ccells (List.replicate (n - i) (0, 0))) (i * 2) wr hfr
        have hcl : Hid _ := hcl
        have hdd : Hid _ := hdd
        have hfr4 : Hid _ := hfr1.trans hfr4 (fun _ h => .inl h)
        have hcap : ¬ cap = i := by omega
        have hin : i < n := by omega
        clear hdl hcb hfr hjn hxt hdp hfr1 hd1
        generalize ccells (List.replicate (n - i) (0, 0)) = Z at *
        generalize hW : wr.setCells g (i * 2) Z = W at *
        replace hW : Hid _ := hW
        go_wp2
        go_ret
        exact ⟨i, _, rfl, hcl.out, hdd.out, by omega, hfr4.out⟩
end Go.Proofs.Ytimgelekpghklaa
