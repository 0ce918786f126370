/-
  Package extent: New, Count, runs, List, Waiting.
-/
import Derived.Test.YtelobmdlnkkbkaaExtM
namespace Go.Proofs.Ytelobmdlnkkbkaa
set_option linter.unusedVariables false
set_option linter.unusedSimpArgs false
set_option maxRecDepth 20000
open Go.RowKit

def newX (n : Int) : List UInt8 := List.replicate (max 0 (min n 1024)).toNat 0

theorem newX_length (n : Int) : (newX n).length ≤ 1024 := by simp [newX]; omega

set_option maxHeartbeats 400000 in
theorem c_new (n : Int) (w : World) : Calls Try.prog 9 #[.int .i64 n] w fun e w' => ∃ b g, e = .returned (.pointer (some ⟨b, 0, none⟩)) ∧ MapAt w' b g (newX n) ∧ Nw w w' ∧ w.heap.size ≤ b ∧ w.heap.size ≤ g := by
  obtain ⟨i0, hi, hiz, his, hib⟩ := info_parts3 Try.infoSt
  obtain ⟨k, hk, hkl⟩ : ∃ k : Nat, max 0 (min n 1024) = (k : Int) ∧ k ≤ 1024 := ⟨(max 0 (min n 1024)).toNat, by omega, by omega⟩
  have hx : newX n = List.replicate k 0 := by unfold newX; rw [hk, Int.toNat_natCast]
  have hmk : ∀ w : World, (Instr.makeSlice 56 (.int .i64 (k : Int)) (.int .i64 (k : Int))).run Try.prog w = .ok (.slice (some ⟨w.heap.size, 0, none⟩) k k) (w.alloc (.cells ((List.replicate k (0 : UInt8)).map bv).toArray 59)) := fun w => by
    have hr := run_make (P := Try.prog) w 56 59 i0 (.int .u8 0) Try.underlying56 hi hiz .i64 .i64 (k : Int) (k : Int) (by omega) (by omega) (by rw [hib]; omega) (by omega)
    rw [his, Int.toNat_natCast] at hr
    rw [hr]
    congr 2
    congr 1
    apply Array.toList_inj.1
    rw [show ((.int .u8 0 : Value)).cells = #[.int .u8 0] from rfl, toList_madeCells_one]
    simp [bv]
  have hfin0 : MapAt ((w.alloc (.cells ((List.replicate k (0 : UInt8)).map bv).toArray 59)).alloc (.cells #[.slice (some ⟨w.heap.size, 0, none⟩) k k] 58)) (w.heap.size + 1) w.heap.size (newX n) ∧
      Nw w ((w.alloc (.cells ((List.replicate k (0 : UInt8)).map bv).toArray 59)).alloc (.cells #[.slice (some ⟨w.heap.size, 0, none⟩) k k] 58)) := by
    refine ⟨⟨?_, ?_, newX_length n⟩, ((Fr.refl _ w).alloc _).alloc _⟩
    · rw [hx, List.length_replicate]; exact heap_alloc2_new w _ _
    · rw [hx]; exact heap_alloc2_old w _ _
  have hfin : Hid _ := hfin0
  clear hfin0
  obtain ⟨cm, hcm⟩ : ∃ cm : Int, Hid (cm = min n 1024) := ⟨_, rfl⟩
  have hmn : ∀ (w : World) (ts : Array TypeId) (t : TypeId), (Builtin.min_ ts t #[.int .i64 n, .int .i64 1024]).run Try.prog w = .ok (.int .i64 cm) w := fun w ts t => by
    rw [run_min_int2 w ts t .i64 .i64 n 1024, hcm.out]; congr 2; split <;> omega
  have hmx : ∀ (w : World) (ts : Array TypeId) (t : TypeId), (Builtin.max_ ts t #[.int .i64 0, .int .i64 cm]).run Try.prog w = .ok (.int .i64 (k : Int)) w := fun w ts t => by
    rw [run_max_int2 w ts t .i64 .i64 0 cm, ← hk, hcm.out]; congr 2; split <;> omega
  have hk : Hid (max 0 (min n 1024) = (k : Int)) := hk
  clear hx hi hiz his hib
  generalize ((List.replicate k (0 : UInt8)).map bv).toArray = C at *
  go_enter Try.func9, Try.ntmps9
  go_wp2
  go_ret
  exact ⟨_, _, rfl, hfin.out.1, hfin.out.2, by omega, Nat.le_refl _⟩

theorem count_take_succ (xs : List UInt8) (k : Nat) (hk : k < xs.length) (c : UInt8) : (xs.take (k + 1)).count c = (xs.take k).count c + if xs[k] = c then 1 else 0 := by
  rw [List.take_succ_eq_append_getElem hk, List.count_append, List.count_singleton]
  simp

set_option maxHeartbeats 400000 in
theorem c_count {b g : Nat} {xs : List UInt8} (w : World) (h : MapAt w b g xs) : Calls Try.prog 10 #[.pointer (some ⟨b, 0, none⟩)] w fun e w' => e = .returned (.int .i64 (xs.count 0 : Int)) ∧ w = w' := by
  have c0 := h.c0
  have hn := h.n
  go_enter Try.func10, Try.ntmps10
  go_wp2
  go_loop [3, 11] (fun n i => ∃ k : Nat, k ≤ xs.length ∧ i = .int .i64 k ∧ n = .int .i64 ((xs.take k).count 0 : Nat)) (fun _ i => xs.length - (intOf i).toNat)
  case atStart => exact ⟨0, Nat.zero_le _, rfl, rfl⟩
  case round =>
    obtain ⟨k, hk, rfl, rfl⟩ := hrel
    have hle : (xs.take k).count 0 ≤ k := Nat.le_trans List.count_le_length (by simp; omega)
    by_cases hlt : k < xs.length
    · have hc := h.cell k hlt
      have hs : Hid ((xs.take (k + 1)).count 0 = (xs.take k).count 0 + if xs[k] = 0 then 1 else 0) := count_take_succ xs k hlt 0
      generalize hq : (xs.take k).count 0 = q at *
      have hq : Hid ((xs.take k).count 0 = q) := hq
      by_cases hx : xs[k] = 0
      · have he : (((xs[k].toNat : Int) == 0)) = true := by rw [hx]; rfl
        have hs' : Hid ((xs.take (k + 1)).count 0 = q + 1) := by unfold Hid; rw [hs.out, if_pos hx]
        clear hs hx
        generalize (xs[k].toNat : Int) = x at *
        go_wp2
        go_round
        case rel => exact ⟨k + 1, by omega, by go_num, by rw [hs'.out]; go_num⟩
        case measure => simp [intOf]; omega
      · have he : (((xs[k].toNat : Int) == 0)) = false := by
          have := u8_beq xs[k] 0
          simp only [hx, decide_false] at this
          simpa using this
        have hs' : Hid ((xs.take (k + 1)).count 0 = q) := by unfold Hid; rw [hs.out, if_neg hx]; rfl
        clear hs hx
        generalize (xs[k].toNat : Int) = x at *
        go_wp2
        go_round
        case rel => exact ⟨k + 1, by omega, by go_num, by rw [hs'.out]⟩
        case measure => simp [intOf]; omega
    · go_wp2
      go_ret
      rw [List.take_of_length_le (by omega)]
      exact ⟨rfl, rfl⟩

theorem runsTo_adj {c : UInt8} {xs : List UInt8} {k : Nat} (hx : xs[k]? = some c) (ha : adj c xs k) : ∃ p e, runsTo c xs k = p ++ [e] ∧ runsTo c xs (k + 1) = p ++ [(e.1, e.2 + 1)] ∧ e.1 + e.2 = k := by
  obtain ⟨p, e, h1, h2⟩ := (runsTo_last c xs k).1 ha
  refine ⟨p, e, h1, ?_, h2⟩
  rw [runsTo, if_pos hx, if_pos ha, h1, bumpL_snoc]

theorem runsTo_new {c : UInt8} {xs : List UInt8} {k : Nat} (hx : xs[k]? = some c) (ha : ¬ adj c xs k) : runsTo c xs (k + 1) = runsTo c xs k ++ [(k, 1)] := by rw [runsTo, if_pos hx, if_neg ha]
theorem runsTo_skip {c : UInt8} {xs : List UInt8} {k : Nat} (hx : ¬ xs[k]? = some c) : runsTo c xs (k + 1) = runsTo c xs k := by rw [runsTo, if_neg hx]

/-- The last of a row, written. -/
theorem Row.last {base : Nat} {w : World} {v : Value} {p : List Ext} {e : Ext} (h : Row base w v (p ++ [e])) : ∃ q cap, v = .slice (some ⟨q, 0, none⟩) (p.length + 1) cap ∧ base ≤ q ∧ q < w.heap.size ∧ p.length + 1 ≤ cap ∧ cap ≤ 9223372036854775807 ∧
    w.cell? ⟨q, p.length * 2, none⟩ = some (.int .i64 (e.1 : Int)) ∧ w.cell? ⟨q, p.length * 2 + 1, none⟩ = some (.int .i64 (e.2 : Int)) ∧ w.frozen? ⟨q, p.length * 2 + 1, none⟩ = false ∧
    Row base (w.setCell ⟨q, p.length * 2 + 1, none⟩ (.int .i64 ((e.2 : Int) + 1))) v (p ++ [(e.1, e.2 + 1)]) ∧ Fr (fun k => base ≤ k) w (w.setCell ⟨q, p.length * 2 + 1, none⟩ (.int .i64 ((e.2 : Int) + 1))) := by
  have hl : (p ++ [e]).length = p.length + 1 := by simp
  have h0 := h
  unfold Row at h
  rw [hl] at h
  rcases h.2 with ⟨_, h2⟩ | ⟨q, cap, cur, hv, hb, hg, hnc, hcm, hcs, ht⟩
  · omega
  · subst hv
    have e1 := ecells_get (p ++ [e]) p.length (by simp)
    have hst := (h.stored (p.length * 2 + 1) (.int .i64 ((e.2 : Int) + 1))).1
    rw [ecells_bump] at hst
    refine ⟨q, cap, rfl, hb, heap_lt hg, hnc, hcm, ?_, ?_, h.frozenAt _, ?_, (Fr.refl _ w).setCell (p := ⟨q, _, none⟩) (.inl hb) _⟩
    · rw [h.cellAt _ (by omega)]; simpa using e1.1
    · rw [h.cellAt _ (by omega)]; simpa using e1.2
    · unfold Row; simpa using hst

set_option maxHeartbeats 1600000 in
theorem c_runs {b g : Nat} {xs : List UInt8} (c : UInt8) (w : World) (h : MapAt w b g xs) :
    Calls Try.prog 29 #[.pointer (some ⟨b, 0, none⟩), .int .u8 (c.toNat : Int)] w fun e w' => ∃ v, e = .returned v ∧ Row w.heap.size w' v (runs c xs) ∧ Nw w w' := by
  obtain ⟨i0, hj, hj0, hj1, hj2⟩ := info_parts3 Try.infoE
  have hn := h.n
  obtain ⟨cc, hcc⟩ : ∃ cc : Int, Hid (cc = (c.toNat : Int)) := ⟨_, rfl⟩
  rw [← hcc.out]
  have c0 := h.c0
  go_enter Try.func29, Try.ntmps29
  go_wp2
  clear c0
  go_loopw [5, 13] (fun o i wr => ∃ k : Nat, k ≤ xs.length ∧ i = .int .i64 k ∧ Row w.heap.size wr o (runsTo c xs k) ∧ Nw w wr) (fun _ i _ => xs.length - (intOf i).toNat)
  case atStart => exact ⟨0, Nat.zero_le _, rfl, Row.nil _ _, nw_refl _⟩
  case round =>
    obtain ⟨k, hk, rfl, hr, hw⟩ := hrel
    have hm := h.nw hw
    have c0 := hm.c0
    have hll := runsTo_length c xs k hk
    have hsz := hw.size
    by_cases hlt : k < xs.length
    · have hc := hm.cell k hlt
      have hxk : xs[k]? = some xs[k] := List.getElem?_eq_getElem hlt
      by_cases hx : xs[k] = c
      · have hxc : Hid (xs[k]? = some c) := by unfold Hid; rw [hxk, hx]
        have he : (((xs[k].toNat : Int) != cc)) = false := by rw [hcc.out, hx]; simp
        clear hxk hx
        generalize (xs[k].toNat : Int) = x at *
        by_cases ha : adj c xs k
        · obtain ⟨p, f, e1, e2, e3⟩ := runsTo_adj hxc.out ha
          have hk0 : 0 < k := ha.1
          have hlt1 : k - 1 < xs.length := by omega
          have hc1 := hm.cell (k - 1) hlt1
          have hx1 : xs[k - 1] = c := by
            have := ha.2
            rw [List.getElem?_eq_getElem hlt1] at this
            simpa using this
          have he1 : (((xs[k - 1].toNat : Int) == cc)) = true := by rw [hcc.out, hx1]; simp
          have hkk : (k : Int) - 1 = ((k - 1 : Nat) : Int) := by omega
          rw [e1] at hr
          obtain ⟨q, cap, rfl, hbq, hql, hcp, hcm, d0, d1, df, hrow, hfr⟩ := hr.last
          have hnew : Nw w (wr.setCell ⟨q, p.length * 2 + 1, none⟩ (.int .i64 ((f.2 : Int) + 1))) := Fr.setCell hw (p := ⟨q, _, none⟩) (.inr hbq) _
          rw [← e2] at hrow
          have e3 : Hid (f.1 + f.2 = k) := e3
          have hf2 : f.2 ≤ 1024 := by have := e3.out; omega
          have hpl : p.length ≤ 1024 := by rw [e1] at hll; simp at hll; omega
          clear hx1 e1 e2 ha hr hfr hll
          obtain ⟨k1, hk1⟩ : ∃ k1 : Nat, k = k1 + 1 := ⟨k - 1, by omega⟩
          subst hk1
          simp only [Nat.add_sub_cancel] at hc1 he1 hlt1 hkk
          generalize (xs[k1].toNat : Int) = x1 at *
          clear hkk
          go_wp2
          go_roundw
          case rel => exact ⟨k1 + 1 + 1, by omega, by go_num, hrow, hnew⟩
          case measure => simp [intOf]; omega
        · have e2 := runsTo_new hxc.out ha
          obtain ⟨ao, cap, rfl⟩ := owns_form hr
          have hg0 : (¬ 0 < k) ∨ (0 < k ∧ ∃ x1 k1, k = k1 + 1 ∧ wr.cell? ⟨g, k1, none⟩ = some (.int .u8 x1) ∧ (x1 == cc) = false) := by
            by_cases hk0 : 0 < k
            · have hlt1 : k - 1 < xs.length := by omega
              refine .inr ⟨hk0, (xs[k - 1].toNat : Int), k - 1, by omega, hm.cell _ hlt1, ?_⟩
              rw [hcc.out, u8_beq]
              refine decide_eq_false (fun hx1 => ha ⟨hk0, ?_⟩)
              rw [List.getElem?_eq_getElem hlt1, hx1]
            · exact .inl hk0
          have hrA := World.ownsRow.alloc hr (.cells #[.int .i64 (k : Int), .int .i64 1] 34)
          have hfin : ∀ v9 w9, w9.ownsRow w.heap.size 34 2 v9 ((runsTo c xs k).length + 1) (ecells (runsTo c xs k) ++ [.int .i64 (k : Int), .int .i64 1]) → (wr.alloc (.cells #[.int .i64 (k : Int), .int .i64 1] 34)).grownBy w9 (Value.ownBlock (.slice ao (runsTo c xs k).length cap)) →
              Row w.heap.size w9 v9 (runsTo c xs (k + 1)) ∧ Nw w w9 := by
            intro v9 w9 h1 h2
            refine ⟨?_, (Fr.alloc hw _).grown h2 (fun q hq => .inr (hr.lt q hq).1)⟩
            unfold Row
            rw [e2, ecells_append, ecells_one]
            simpa [ecell] using h1
          have hfinH : Hid _ := hfin
          clear hfin
          rcases hg0 with hg0 | ⟨hg0, x1, k1, rfl, hc1, he1⟩
          · clear ha e2 hr
            generalize ecells (runsTo c xs k) = cs at *
            generalize (runsTo c xs k).length = len at *
            go_wp2_with (at_builtin; refine wpList_append_sl _ rfl _ _ 26 rfl w.heap.size 34 i0 _ 2 16 Try.underlying26 hj hj0 hj1 hj2 rfl (by decide) _ _ _ rfl hrA _ _ 1 _ rfl (sl_lit wr _ 34 1 (by omega)) rfl ?d1 ?d2 ?d3 ?d4 ?_)
            case d1 => first | (intro u hu; simp at hu; rcases hu with rfl | rfl <;> rfl) | simp [Value.oneCell']
            case d2 => unfold maxLen; omega
            case d3 => omega
            case d4 => simp; omega
            intro v9 w9 hown9 hgrow9 hat9
            obtain ⟨f1, f2⟩ := hfinH.out v9 w9 hown9 hgrow9
            clear hfinH hown9 hgrow9 hat9
            go_wp2
            go_roundw
            case rel => exact ⟨k + 1, by omega, by go_num, f1, f2⟩
            case measure => simp [intOf]; omega
          · clear ha e2 hr
            generalize ecells (runsTo c xs (k1 + 1)) = cs at *
            generalize (runsTo c xs (k1 + 1)).length = len at *
            go_wp2_with (at_builtin; refine wpList_append_sl _ rfl _ _ 26 rfl w.heap.size 34 i0 _ 2 16 Try.underlying26 hj hj0 hj1 hj2 rfl (by decide) _ _ _ rfl hrA _ _ 1 _ rfl (sl_lit wr _ 34 1 (by omega)) rfl ?d1 ?d2 ?d3 ?d4 ?_)
            case d1 => first | (intro u hu; simp at hu; rcases hu with rfl | rfl <;> rfl) | simp [Value.oneCell']
            case d2 => unfold maxLen; omega
            case d3 => omega
            case d4 => simp; omega
            intro v9 w9 hown9 hgrow9 hat9
            obtain ⟨f1, f2⟩ := hfinH.out v9 w9 hown9 hgrow9
            clear hfinH hown9 hgrow9 hat9
            go_wp2
            go_roundw
            case rel => exact ⟨k1 + 1 + 1, by omega, by go_num, f1, f2⟩
            case measure => simp [intOf]; omega
      · have he : (((xs[k].toNat : Int) != cc)) = true := by
          rw [hcc.out, bne, u8_beq]; simp [hx]
        have e2 : Hid (runsTo c xs (k + 1) = runsTo c xs k) := runsTo_skip (by rw [hxk]; simpa using hx)
        clear hxk hx
        generalize (xs[k].toNat : Int) = x at *
        go_wp2
        go_roundw
        case rel => exact ⟨k + 1, by omega, by go_num, by rw [e2.out]; exact hr, hw⟩
        case measure => simp [intOf]; omega
    · go_wp2
      go_ret
      have : k = xs.length := by omega
      subst this
      exact ⟨_, rfl, hr, hw⟩

theorem c_list {b g : Nat} {xs : List UInt8} (w : World) (h : MapAt w b g xs) :
    Calls Try.prog 11 #[.pointer (some ⟨b, 0, none⟩)] w fun e w' => ∃ v, e = .returned v ∧ Row w.heap.size w' v (runs 0 xs) ∧ Nw w w' := by
  go_enter Try.func11, Try.ntmps11
  go_wp2_with (go_at_call 29; refine (c_runs 0 _ h).mono ?_; rintro e w' ⟨v, rfl, hr, hw⟩)
  go_ret
  exact ⟨_, rfl, hr, hw⟩

theorem c_waiting {b g : Nat} {xs : List UInt8} (w : World) (h : MapAt w b g xs) :
    Calls Try.prog 28 #[.pointer (some ⟨b, 0, none⟩)] w fun e w' => ∃ v, e = .returned v ∧ Row w.heap.size w' v (runs 2 xs) ∧ Nw w w' := by
  go_enter Try.func28, Try.ntmps28
  go_wp2_with (go_at_call 29; refine (c_runs 2 _ h).mono ?_; rintro e w' ⟨v, rfl, hr, hw⟩)
  go_ret
  exact ⟨_, rfl, hr, hw⟩
end Go.Proofs.Ytelobmdlnkkbkaa
