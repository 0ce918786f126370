/-
  Package slices: Grow, Concat, at keys, extents and nodes.
-/
import Derived.Test.YtnljfhjindenpabTreeW2
import Derived.Lib.AppendZeros
namespace Go.Proofs.Ytnljfhjindenpab
set_option linter.unusedVariables false
set_option linter.unusedSimpArgs false
set_option maxRecDepth 20000
open Go.RowKit

theorem wpList_append_zeros {P : Program} (w : World) {ops : Array Oper} {rest : List Oper} {o : Oper} {a : Act} {Q : Exit → Act → World → Prop} (hgd : o.guard = none) (s x : Operand) (t tn : TypeId)
    (ho : o.op = .call { callee := .builtin .append, args := #[s, x], argTypes := #[t, tn] }) (e : TypeId) (i : TypeInfo) (z : Value) (ht : P.underlying t = some (.slice e)) (htn : P.underlying tn = some (.int .i64)) (hi : P.info? e = some i) (hz : i.zero = some z) (hzs : z.cells.size = i.size)
    (n : Nat) (h0 : 0 < n) (hs : 0 < i.size) (hn : n ≤ 100000) (hb : i.bytes ≤ 1000) (hsv : a.eval s = .slice none 0 0) (hx : a.eval x = .int .i64 (n : Int))
    (h : ∀ cap C, n ≤ cap → cap ≤ maxLen → C.size = cap * i.size → wpList P ops Q rest (a.put o.dst (.slice (some ⟨w.heap.size, 0, none⟩) n cap)) (w.drew.alloc (.cells C e))) : wpList P ops Q (o :: rest) a w := by
  refine wpList_plain hgd fun K' hK => ?_
  have hbn : n * i.bytes ≤ 100000 * 1000 := Nat.mul_le_mul hn hb
  have hr := Lib.run_append_nil_zeros (P := P) w t tn o.type e i z .i64 .i64 ht htn hi hz n h0 hs (by omega) (by omega)
  have h1 := grownCap_ge w n 0 e
  have h2 := grownCap_le_maxLen w n 0 e (by unfold maxLen; omega)
  unfold Oper.wp execOp
  simp only [ho, resolve, invoke, builtin, Sem.run_bind, Sem.run_pure, Result.andThen_ok, List.map_toArray, List.map_cons, List.map_nil, hsv, hx, hr]
  refine hK _ _ (h _ _ h1 h2 ?_)
  rw [Array.size_append, size_zeroCells, size_zeroCells, hzs, ← Nat.add_mul]
  congr 1
  omega

abbrev Part := Value × Nat × List Value
def total (ps : List Part) : Nat := (ps.map (·.2.1)).sum

theorem total_take (ps : List Part) (k : Nat) (hk : k < ps.length) : total (ps.take (k + 1)) = total (ps.take k) + ps[k].2.1 := by
  unfold total
  rw [List.take_succ_eq_append_getElem hk]
  simp only [List.map_append, List.sum_append, List.map_cons, List.map_nil, List.sum_cons, List.sum_nil, Nat.add_zero]

theorem total_le (ps : List Part) (h : ∀ p ∈ ps, p.2.1 ≤ 100) : total ps ≤ ps.length * 100 := by
  induction ps with
  | nil => simp [total]
  | cons p ps ih =>
    have := ih (fun q hq => h q (List.mem_cons_of_mem _ hq))
    have := h p List.mem_cons_self
    simp only [total, List.map_cons, List.sum_cons, List.length_cons] at *
    omega

theorem parts_take (ps : List Part) (k : Nat) (hk : k < ps.length) : (ps.take (k + 1)).flatMap (·.2.2) = (ps.take k).flatMap (·.2.2) ++ ps[k].2.2 := by
  rw [List.take_succ_eq_append_getElem hk, List.flatMap_append, List.flatMap_cons, List.flatMap_nil, List.append_nil]

def PartOk (size : Nat) (w : World) (p : Part) : Prop := Hs w p.1 p.2.1 p.2.2 ∧ p.2.2.length = p.2.1 * size ∧ (∀ u ∈ p.2.2, u.oneCell' = true) ∧ p.2.1 ≤ 100

theorem c_growK (n : Nat) (hn : n ≤ 100000) (w : World) : Calls Try.prog 109 #[.slice none 0 0, .int .i64 (n : Int)] w fun e w' => ∃ v, e = .returned v ∧ w'.ownsRow w.heap.size 27 1 v 0 [] ∧ Nw w w' := by
  obtain ⟨i0, hi, hiz, his, hib⟩ := info_parts3 Try.infoK
  by_cases h0 : 0 < n
  · go_enter Try.func109, Try.ntmps109
    go_wp2_with (at_builtin; refine wpList_append_zeros _ rfl _ _ 88 3 rfl 27 i0 _ Try.underlying88 Try.underlying3 hi hiz (by rw [his]; rfl) n h0 (by omega) hn (by omega) rfl rfl ?_)
    intro cap C h1 h2 h3
    have h2' : cap ≤ 9223372036854775807 := h2
    clear h2
    go_wp2
    go_ret
    refine ⟨_, rfl, ⟨rfl, .inr ⟨w.heap.size, cap, C, ?_, Nat.le_refl _, heap_alloc_new w.drew _, Nat.zero_le _, h2', by first | omega | rw [h3, his], by simp⟩⟩, nw_alloc (nw_drew (nw_refl w)) _⟩
    simp
  · have : n = 0 := by omega
    subst this
    go_enter Try.func109, Try.ntmps109
    go_wp2
    go_ret
    exact ⟨_, rfl, World.ownsRow_nil _ _ _ _, nw_refl w⟩

set_option maxHeartbeats 1600000 in
theorem c_concatK {v : Value} {ps : List Part} (w : World) (h : Hs w v ps.length (ps.map (·.1))) (hp : ∀ p ∈ ps, PartOk 1 w p) (hl : ps.length ≤ 10) :
    Calls Try.prog 98 #[v] w fun e w' => ∃ u, e = .returned u ∧ w'.ownsRow w.heap.size 27 1 u (total ps) (ps.flatMap (·.2.2)) ∧ Nw w w' := by
  obtain ⟨i0, hj, hj0, hj1, hj2⟩ := info_parts3 Try.infoK
  obtain ⟨ao, cap, rfl, hc, hm⟩ := Hs.form h
  have htl : ∀ k, total (ps.take k) ≤ 1000 := fun k => by
    have := total_le (ps.take k) (fun p h => (hp p (List.mem_of_mem_take h)).2.2.2)
    have : (ps.take k).length ≤ 10 := by simp; omega
    omega
  have htot : total ps ≤ 1000 := by have := htl ps.length; rwa [List.take_length] at this
  go_enter Try.func98, Try.ntmps98
  go_wp2
  go_loop [3, 11] (fun s i => ∃ k : Nat, k ≤ ps.length ∧ i = .int .i64 k ∧ s = .int .i64 (total (ps.take k) : Nat)) (fun _ i => ps.length - (intOf i).toNat)
  case atStart => exact ⟨0, Nat.zero_le _, rfl, rfl⟩
  case round =>
    obtain ⟨k, hk, rfl, rfl⟩ := hrel
    by_cases hlt : k < ps.length
    · obtain ⟨bk, off, rfl, hcell⟩ := Hs.get h (i := k) (c := ps[k].1) (by simp [hlt])
      have hpk := hp ps[k] (List.getElem_mem hlt)
      have hst : Hid (total (ps.take (k + 1)) = total (ps.take k) + ps[k].2.1) := total_take ps k hlt
      obtain ⟨ao1, cap1, he1, hc1, hm1⟩ := hpk.1.form
      rw [he1] at hcell
      have hle := hpk.2.2.2
      have htk := htl k
      clear he1 hpk hp htl
      generalize ps[k].2.1 = m at *
      generalize hq : total (ps.take k) = q at *
      have hq : Hid (total (ps.take k) = q) := hq
      go_wp2
      go_round
      case rel => exact ⟨k + 1, by omega, by go_num, by rw [hst.out]; go_num⟩
      case measure => simp [intOf]; omega
    · have hk' : k = ps.length := by omega
      subst hk'
      have hte : Hid (total (ps.take ps.length) = total ps) := by unfold Hid; rw [List.take_length]
      have htl' : Hid (∀ k, total (ps.take k) ≤ 1000) := htl
      have hp' : Hid (∀ p ∈ ps, PartOk 1 w p) := hp
      clear htl hp
      generalize total (ps.take ps.length) = T at *
      go_wp2_with (go_at_call 109; refine (c_growK T (by have := hte.out; omega) _).mono ?_; rintro e w1 ⟨v1, rfl, hr1, hn1⟩; refine stop_here ?_)
      unfold Hid
      obtain ⟨ao2, cap2, hv2⟩ := owns_form hr1
      go_wp2
      clear hv2
      go_loopw [6, 27] (fun s i wr => ∃ k : Nat, k ≤ ps.length ∧ i = .int .i64 k ∧ wr.ownsRow w.heap.size 27 1 s (total (ps.take k)) ((ps.take k).flatMap (·.2.2)) ∧ Nw w wr) (fun _ i _ => ps.length - (intOf i).toNat)
      case atStart => exact ⟨0, Nat.zero_le _, rfl, hr1, hn1⟩
      case round =>
        clear hr1 hn1
        obtain ⟨k, hk, rfl, hr, hw⟩ := hrel
        by_cases hlt : k < ps.length
        · obtain ⟨bk, off, rfl, hcell0⟩ := Hs.get h (i := k) (c := ps[k].1) (by simp [hlt])
          have hcell := hw.cell hcell0
          have hpk := hp'.out ps[k] (List.getElem_mem hlt)
          have hst := total_take ps k hlt
          have hfl := parts_take ps k hlt
          have hsl : Sl wr.heap.size wr ps[k].1 ps[k].2.1 ps[k].2.2 := hpk.1.nw hw
          have htk := htl'.out k
          have htk1 := htl'.out (k + 1)
          obtain ⟨ao3, cap3, rfl⟩ := owns_form hr
          have hfin : ∀ v9 w9, w9.ownsRow w.heap.size 27 1 v9 (total (ps.take k) + ps[k].2.1) ((ps.take k).flatMap (·.2.2) ++ ps[k].2.2) → wr.grownBy w9 (Value.ownBlock (.slice ao3 (total (ps.take k)) cap3)) → w9.ownsRow w.heap.size 27 1 v9 (total (ps.take (k + 1))) ((ps.take (k + 1)).flatMap (·.2.2)) ∧ Nw w w9 := by
            intro v9 w9 h1 h2
            rw [hst, hfl]
            exact ⟨h1, Fr.grown hw h2 (fun q hq => .inr (hr.lt q hq).1)⟩
          have hfin : Hid _ := hfin
          have hlen := hpk.2.1
          have hone := hpk.2.2.1
          rw [hst] at htk1
          have hsz := hw.size
          obtain ⟨ao4, cap4, he4, _⟩ := hpk.1.form
          rw [he4] at hcell hsl
          clear hst hfl hpk hcell0 he4
          generalize ps[k].2.1 = m at *
          generalize ps[k].2.2 = news at *
          generalize (ps.take k).flatMap (·.2.2) = cs at *
          generalize total (ps.take k) = len at *
          go_wp2_with (at_builtin; refine wpList_append_sl _ rfl _ _ 88 rfl w.heap.size 27 i0 _ 1 8 Try.underlying88 hj hj0 hj1 hj2 rfl (by decide) _ _ _ rfl hr _ _ m _ rfl hsl hlen hone ?d2 ?d3 ?d4 ?_)
          case d2 => unfold maxLen; omega
          case d3 => omega
          case d4 => exact hsz
          intro v9 w9 hown9 hgrow9 hat9
          obtain ⟨f1, f2⟩ := hfin.out v9 w9 hown9 hgrow9
          obtain ⟨ao9, cap9, hv9⟩ := owns_form f1
          clear hfin hown9 hgrow9 hat9 hsl hlen hone hr
          go_wp2
          go_roundw
          case rel => exact ⟨k + 1, by omega, by go_num, f1, f2⟩
          case measure => simp [intOf]; omega
        · have hk' : k = ps.length := by omega
          subst hk'
          go_wp2
          go_ret
          rw [List.take_length] at hr
          exact ⟨_, rfl, hr, hw⟩

theorem c_growE (n : Nat) (hn : n ≤ 100000) (w : World) : Calls Try.prog 110 #[.slice none 0 0, .int .i64 (n : Int)] w fun e w' => ∃ v, e = .returned v ∧ w'.ownsRow w.heap.size 58 2 v 0 [] ∧ Nw w w' := by
  obtain ⟨i0, hi, hiz, his, hib⟩ := info_parts3 Try.infoE
  by_cases h0 : 0 < n
  · go_enter Try.func110, Try.ntmps110
    go_wp2_with (at_builtin; refine wpList_append_zeros _ rfl _ _ 89 3 rfl 58 i0 _ Try.underlying89 Try.underlying3 hi hiz (by rw [his]; rfl) n h0 (by omega) hn (by omega) rfl rfl ?_)
    intro cap C h1 h2 h3
    have h2' : cap ≤ 9223372036854775807 := h2
    clear h2
    go_wp2
    go_ret
    refine ⟨_, rfl, ⟨rfl, .inr ⟨w.heap.size, cap, C, ?_, Nat.le_refl _, heap_alloc_new w.drew _, Nat.zero_le _, h2', by first | omega | rw [h3, his], by simp⟩⟩, nw_alloc (nw_drew (nw_refl w)) _⟩
    simp
  · have : n = 0 := by omega
    subst this
    go_enter Try.func110, Try.ntmps110
    go_wp2
    go_ret
    exact ⟨_, rfl, World.ownsRow_nil _ _ _ _, nw_refl w⟩

set_option maxHeartbeats 1600000 in
theorem c_concatE {v : Value} {ps : List Part} (w : World) (h : Hs w v ps.length (ps.map (·.1))) (hp : ∀ p ∈ ps, PartOk 2 w p) (hl : ps.length ≤ 10) :
    Calls Try.prog 99 #[v] w fun e w' => ∃ u, e = .returned u ∧ w'.ownsRow w.heap.size 58 2 u (total ps) (ps.flatMap (·.2.2)) ∧ Nw w w' := by
  obtain ⟨i0, hj, hj0, hj1, hj2⟩ := info_parts3 Try.infoE
  obtain ⟨ao, cap, rfl, hc, hm⟩ := Hs.form h
  have htl : ∀ k, total (ps.take k) ≤ 1000 := fun k => by
    have := total_le (ps.take k) (fun p h => (hp p (List.mem_of_mem_take h)).2.2.2)
    have : (ps.take k).length ≤ 10 := by simp; omega
    omega
  have htot : total ps ≤ 1000 := by have := htl ps.length; rwa [List.take_length] at this
  go_enter Try.func99, Try.ntmps99
  go_wp2
  go_loop [3, 11] (fun s i => ∃ k : Nat, k ≤ ps.length ∧ i = .int .i64 k ∧ s = .int .i64 (total (ps.take k) : Nat)) (fun _ i => ps.length - (intOf i).toNat)
  case atStart => exact ⟨0, Nat.zero_le _, rfl, rfl⟩
  case round =>
    obtain ⟨k, hk, rfl, rfl⟩ := hrel
    by_cases hlt : k < ps.length
    · obtain ⟨bk, off, rfl, hcell⟩ := Hs.get h (i := k) (c := ps[k].1) (by simp [hlt])
      have hpk := hp ps[k] (List.getElem_mem hlt)
      have hst : Hid (total (ps.take (k + 1)) = total (ps.take k) + ps[k].2.1) := total_take ps k hlt
      obtain ⟨ao1, cap1, he1, hc1, hm1⟩ := hpk.1.form
      rw [he1] at hcell
      have hle := hpk.2.2.2
      have htk := htl k
      clear he1 hpk hp htl
      generalize ps[k].2.1 = m at *
      generalize hq : total (ps.take k) = q at *
      have hq : Hid (total (ps.take k) = q) := hq
      go_wp2
      go_round
      case rel => exact ⟨k + 1, by omega, by go_num, by rw [hst.out]; go_num⟩
      case measure => simp [intOf]; omega
    · have hk' : k = ps.length := by omega
      subst hk'
      have hte : Hid (total (ps.take ps.length) = total ps) := by unfold Hid; rw [List.take_length]
      have htl' : Hid (∀ k, total (ps.take k) ≤ 1000) := htl
      have hp' : Hid (∀ p ∈ ps, PartOk 2 w p) := hp
      clear htl hp
      generalize total (ps.take ps.length) = T at *
      go_wp2_with (go_at_call 110; refine (c_growE T (by have := hte.out; omega) _).mono ?_; rintro e w1 ⟨v1, rfl, hr1, hn1⟩; refine stop_here ?_)
      unfold Hid
      obtain ⟨ao2, cap2, hv2⟩ := owns_form hr1
      go_wp2
      clear hv2
      go_loopw [6, 27] (fun s i wr => ∃ k : Nat, k ≤ ps.length ∧ i = .int .i64 k ∧ wr.ownsRow w.heap.size 58 2 s (total (ps.take k)) ((ps.take k).flatMap (·.2.2)) ∧ Nw w wr) (fun _ i _ => ps.length - (intOf i).toNat)
      case atStart => exact ⟨0, Nat.zero_le _, rfl, hr1, hn1⟩
      case round =>
        clear hr1 hn1
        obtain ⟨k, hk, rfl, hr, hw⟩ := hrel
        by_cases hlt : k < ps.length
        · obtain ⟨bk, off, rfl, hcell0⟩ := Hs.get h (i := k) (c := ps[k].1) (by simp [hlt])
          have hcell := hw.cell hcell0
          have hpk := hp'.out ps[k] (List.getElem_mem hlt)
          have hst := total_take ps k hlt
          have hfl := parts_take ps k hlt
          have hsl : Sl wr.heap.size wr ps[k].1 ps[k].2.1 ps[k].2.2 := hpk.1.nw hw
          have htk := htl'.out k
          have htk1 := htl'.out (k + 1)
          obtain ⟨ao3, cap3, rfl⟩ := owns_form hr
          have hfin : ∀ v9 w9, w9.ownsRow w.heap.size 58 2 v9 (total (ps.take k) + ps[k].2.1) ((ps.take k).flatMap (·.2.2) ++ ps[k].2.2) → wr.grownBy w9 (Value.ownBlock (.slice ao3 (total (ps.take k)) cap3)) → w9.ownsRow w.heap.size 58 2 v9 (total (ps.take (k + 1))) ((ps.take (k + 1)).flatMap (·.2.2)) ∧ Nw w w9 := by
            intro v9 w9 h1 h2
            rw [hst, hfl]
            exact ⟨h1, Fr.grown hw h2 (fun q hq => .inr (hr.lt q hq).1)⟩
          have hfin : Hid _ := hfin
          have hlen := hpk.2.1
          have hone := hpk.2.2.1
          rw [hst] at htk1
          have hsz := hw.size
          obtain ⟨ao4, cap4, he4, _⟩ := hpk.1.form
          rw [he4] at hcell hsl
          clear hst hfl hpk hcell0 he4
          generalize ps[k].2.1 = m at *
          generalize ps[k].2.2 = news at *
          generalize (ps.take k).flatMap (·.2.2) = cs at *
          generalize total (ps.take k) = len at *
          go_wp2_with (at_builtin; refine wpList_append_sl _ rfl _ _ 89 rfl w.heap.size 58 i0 _ 2 16 Try.underlying89 hj hj0 hj1 hj2 rfl (by decide) _ _ _ rfl hr _ _ m _ rfl hsl hlen hone ?d2 ?d3 ?d4 ?_)
          case d2 => unfold maxLen; omega
          case d3 => omega
          case d4 => exact hsz
          intro v9 w9 hown9 hgrow9 hat9
          obtain ⟨f1, f2⟩ := hfin.out v9 w9 hown9 hgrow9
          obtain ⟨ao9, cap9, hv9⟩ := owns_form f1
          clear hfin hown9 hgrow9 hat9 hsl hlen hone hr
          go_wp2
          go_roundw
          case rel => exact ⟨k + 1, by omega, by go_num, f1, f2⟩
          case measure => simp [intOf]; omega
        · have hk' : k = ps.length := by omega
          subst hk'
          go_wp2
          go_ret
          rw [List.take_length] at hr
          exact ⟨_, rfl, hr, hw⟩

theorem c_growP (n : Nat) (hn : n ≤ 100000) (w : World) : Calls Try.prog 111 #[.slice none 0 0, .int .i64 (n : Int)] w fun e w' => ∃ v, e = .returned v ∧ w'.ownsRow w.heap.size 78 1 v 0 [] ∧ Nw w w' := by
  obtain ⟨i0, hi, hiz, his, hib⟩ := info_parts3 Try.infoP
  by_cases h0 : 0 < n
  · go_enter Try.func111, Try.ntmps111
    go_wp2_with (at_builtin; refine wpList_append_zeros _ rfl _ _ 93 3 rfl 78 i0 _ Try.underlying93 Try.underlying3 hi hiz (by rw [his]; rfl) n h0 (by omega) hn (by omega) rfl rfl ?_)
    intro cap C h1 h2 h3
    have h2' : cap ≤ 9223372036854775807 := h2
    clear h2
    go_wp2
    go_ret
    refine ⟨_, rfl, ⟨rfl, .inr ⟨w.heap.size, cap, C, ?_, Nat.le_refl _, heap_alloc_new w.drew _, Nat.zero_le _, h2', by first | omega | rw [h3, his], by simp⟩⟩, nw_alloc (nw_drew (nw_refl w)) _⟩
    simp
  · have : n = 0 := by omega
    subst this
    go_enter Try.func111, Try.ntmps111
    go_wp2
    go_ret
    exact ⟨_, rfl, World.ownsRow_nil _ _ _ _, nw_refl w⟩

set_option maxHeartbeats 1600000 in
theorem c_concatP {v : Value} {ps : List Part} (w : World) (h : Hs w v ps.length (ps.map (·.1))) (hp : ∀ p ∈ ps, PartOk 1 w p) (hl : ps.length ≤ 10) :
    Calls Try.prog 100 #[v] w fun e w' => ∃ u, e = .returned u ∧ w'.ownsRow w.heap.size 78 1 u (total ps) (ps.flatMap (·.2.2)) ∧ Nw w w' := by
  obtain ⟨i0, hj, hj0, hj1, hj2⟩ := info_parts3 Try.infoP
  obtain ⟨ao, cap, rfl, hc, hm⟩ := Hs.form h
  have htl : ∀ k, total (ps.take k) ≤ 1000 := fun k => by
    have := total_le (ps.take k) (fun p h => (hp p (List.mem_of_mem_take h)).2.2.2)
    have : (ps.take k).length ≤ 10 := by simp; omega
    omega
  have htot : total ps ≤ 1000 := by have := htl ps.length; rwa [List.take_length] at this
  go_enter Try.func100, Try.ntmps100
  go_wp2
  go_loop [3, 11] (fun s i => ∃ k : Nat, k ≤ ps.length ∧ i = .int .i64 k ∧ s = .int .i64 (total (ps.take k) : Nat)) (fun _ i => ps.length - (intOf i).toNat)
  case atStart => exact ⟨0, Nat.zero_le _, rfl, rfl⟩
  case round =>
    obtain ⟨k, hk, rfl, rfl⟩ := hrel
    by_cases hlt : k < ps.length
    · obtain ⟨bk, off, rfl, hcell⟩ := Hs.get h (i := k) (c := ps[k].1) (by simp [hlt])
      have hpk := hp ps[k] (List.getElem_mem hlt)
      have hst : Hid (total (ps.take (k + 1)) = total (ps.take k) + ps[k].2.1) := total_take ps k hlt
      obtain ⟨ao1, cap1, he1, hc1, hm1⟩ := hpk.1.form
      rw [he1] at hcell
      have hle := hpk.2.2.2
      have htk := htl k
      clear he1 hpk hp htl
      generalize ps[k].2.1 = m at *
      generalize hq : total (ps.take k) = q at *
      have hq : Hid (total (ps.take k) = q) := hq
      go_wp2
      go_round
      case rel => exact ⟨k + 1, by omega, by go_num, by rw [hst.out]; go_num⟩
      case measure => simp [intOf]; omega
    · have hk' : k = ps.length := by omega
      subst hk'
      have hte : Hid (total (ps.take ps.length) = total ps) := by unfold Hid; rw [List.take_length]
      have htl' : Hid (∀ k, total (ps.take k) ≤ 1000) := htl
      have hp' : Hid (∀ p ∈ ps, PartOk 1 w p) := hp
      clear htl hp
      generalize total (ps.take ps.length) = T at *
      go_wp2_with (go_at_call 111; refine (c_growP T (by have := hte.out; omega) _).mono ?_; rintro e w1 ⟨v1, rfl, hr1, hn1⟩; refine stop_here ?_)
      unfold Hid
      obtain ⟨ao2, cap2, hv2⟩ := owns_form hr1
      go_wp2
      clear hv2
      go_loopw [6, 27] (fun s i wr => ∃ k : Nat, k ≤ ps.length ∧ i = .int .i64 k ∧ wr.ownsRow w.heap.size 78 1 s (total (ps.take k)) ((ps.take k).flatMap (·.2.2)) ∧ Nw w wr) (fun _ i _ => ps.length - (intOf i).toNat)
      case atStart => exact ⟨0, Nat.zero_le _, rfl, hr1, hn1⟩
      case round =>
        clear hr1 hn1
        obtain ⟨k, hk, rfl, hr, hw⟩ := hrel
        by_cases hlt : k < ps.length
        · obtain ⟨bk, off, rfl, hcell0⟩ := Hs.get h (i := k) (c := ps[k].1) (by simp [hlt])
          have hcell := hw.cell hcell0
          have hpk := hp'.out ps[k] (List.getElem_mem hlt)
          have hst := total_take ps k hlt
          have hfl := parts_take ps k hlt
          have hsl : Sl wr.heap.size wr ps[k].1 ps[k].2.1 ps[k].2.2 := hpk.1.nw hw
          have htk := htl'.out k
          have htk1 := htl'.out (k + 1)
          obtain ⟨ao3, cap3, rfl⟩ := owns_form hr
          have hfin : ∀ v9 w9, w9.ownsRow w.heap.size 78 1 v9 (total (ps.take k) + ps[k].2.1) ((ps.take k).flatMap (·.2.2) ++ ps[k].2.2) → wr.grownBy w9 (Value.ownBlock (.slice ao3 (total (ps.take k)) cap3)) → w9.ownsRow w.heap.size 78 1 v9 (total (ps.take (k + 1))) ((ps.take (k + 1)).flatMap (·.2.2)) ∧ Nw w w9 := by
            intro v9 w9 h1 h2
            rw [hst, hfl]
            exact ⟨h1, Fr.grown hw h2 (fun q hq => .inr (hr.lt q hq).1)⟩
          have hfin : Hid _ := hfin
          have hlen := hpk.2.1
          have hone := hpk.2.2.1
          rw [hst] at htk1
          have hsz := hw.size
          obtain ⟨ao4, cap4, he4, _⟩ := hpk.1.form
          rw [he4] at hcell hsl
          clear hst hfl hpk hcell0 he4
          generalize ps[k].2.1 = m at *
          generalize ps[k].2.2 = news at *
          generalize (ps.take k).flatMap (·.2.2) = cs at *
          generalize total (ps.take k) = len at *
          go_wp2_with (at_builtin; refine wpList_append_sl _ rfl _ _ 93 rfl w.heap.size 78 i0 _ 1 8 Try.underlying93 hj hj0 hj1 hj2 rfl (by decide) _ _ _ rfl hr _ _ m _ rfl hsl hlen hone ?d2 ?d3 ?d4 ?_)
          case d2 => unfold maxLen; omega
          case d3 => omega
          case d4 => exact hsz
          intro v9 w9 hown9 hgrow9 hat9
          obtain ⟨f1, f2⟩ := hfin.out v9 w9 hown9 hgrow9
          obtain ⟨ao9, cap9, hv9⟩ := owns_form f1
          clear hfin hown9 hgrow9 hat9 hsl hlen hone hr
          go_wp2
          go_roundw
          case rel => exact ⟨k + 1, by omega, by go_num, f1, f2⟩
          case measure => simp [intOf]; omega
        · have hk' : k = ps.length := by omega
          subst hk'
          go_wp2
          go_ret
          rw [List.take_length] at hr
          exact ⟨_, rfl, hr, hw⟩
end Go.Proofs.Ytnljfhjindenpab
