/-
  Sectors compared; the chapter's example.
-/
import Derived.Test.YtmhojkbnfiknpaaW7
import Derived.ChangeKeysEq
import Derived.Laws.StructEq
namespace Go.Proofs.Ytmhojkbnfiknpaa
set_option linter.unusedVariables false
set_option linter.unusedSimpArgs false
open Go.RowKit

theorem Try.plain5 : Try.prog.plainKey 5 = true := by kernel_rfl
theorem Try.cells5 : Try.prog.cellsOf 5 = 1 := by kernel_rfl

theorem bv_inj {x y : UInt8} (h : bv x = bv y) : x = y := by
  simp only [bv, Value.int.injEq, true_and] at h
  apply UInt8.toNat_inj.1
  omega

theorem items33 (d : Nat) (s t : List UInt8) (hs : s.length = 128) (ht : t.length = 128) (w : World) : ∀ is : List Nat, (∀ i ∈ is, i < 128) →
    (Op.eqItems (d + 1) 5 1 (s.map bv).toArray (t.map bv).toArray is).run Try.prog w = .ok (decide (∀ i ∈ is, s.getD i 0 = t.getD i 0)) w
  | [], _ => by simp [Op.eqItems]
  | i :: is, h => by
    have hi := h i List.mem_cons_self
    have ih := items33 d s t hs ht w is (fun j hj => h j (List.mem_cons_of_mem _ hj))
    have e1 : (part 5 (s.map bv).toArray (i * 1)).run Try.prog w = .ok (bv (s.getD i 0)) w := run_part_plain w Try.plain5 (by simp [List.getElem?_eq_getElem (show i < s.length by omega), List.getD_eq_getElem?_getD])
    have e2 : (part 5 (t.map bv).toArray (i * 1)).run Try.prog w = .ok (bv (t.getD i 0)) w := run_part_plain w Try.plain5 (by simp [List.getElem?_eq_getElem (show i < t.length by omega), List.getD_eq_getElem?_getD])
    have e3 : (Op.equalIn (d + 1) 5 (bv (s.getD i 0)) (bv (t.getD i 0))).run Try.prog w = .ok (decide (s.getD i 0 = t.getD i 0)) w := by
      unfold bv
      rw [run_equalIn_int w d 5 .u8 .u8 _ _ Try.underlying5]
      congr 1
      rw [Bool.eq_iff_iff]
      simp only [beq_iff_eq, decide_eq_true_eq]
      constructor
      · intro h; apply UInt8.toNat_inj.1; omega
      · intro h; rw [h]
    simp only [Op.eqItems, Sem.run_bind, e1, e2, e3, Result.andThen_ok, List.forall_mem_cons]
    by_cases hh : s.getD i 0 = t.getD i 0
    · simp only [hh, decide_true, Bool.not_true, Bool.false_eq_true, if_false, true_and]
      exact ih
    · simp only [hh, decide_false, Bool.not_false, if_true, Sem.run_pure, false_and]

theorem eq33 (s t : List UInt8) (hs : s.length = 128) (ht : t.length = 128) (w : World) : (Op.equalIn 10000 33 (sec s) (sec t)).run Try.prog w = .ok (s == t) w := by
  obtain ⟨i5, h5⟩ : ∃ i, Try.prog.info? 5 = some i := by
    cases hq : Try.prog.info? 5 with
    | none => have := Try.size5; rw [hq] at this; cases this
    | some i => exact ⟨i, rfl⟩
  unfold sec
  rw [run_equalIn_array w 9999 _ _ Try.underlying33 h5, Try.cells5, items33 9998 s t hs ht w _ (fun i hi => by simpa using hi)]
  congr 1
  rw [Bool.eq_iff_iff]
  simp only [decide_eq_true_eq, beq_iff_eq, List.mem_range]
  constructor
  · intro h
    apply List.ext_getElem (by omega)
    intro i h1 h2
    have := h i (by omega)
    rw [List.getD_eq_getElem?_getD, List.getD_eq_getElem?_getD, List.getElem?_eq_getElem h1, List.getElem?_eq_getElem h2] at this
    exact this
  · intro h i _; rw [h]

theorem eql33 (s t : List UInt8) (hs : s.length = 128) (ht : t.length = 128) (w : World) : (binOp .eql 33 (sec s) (sec t)).run Try.prog w = .ok (.bool (s == t)) w := by
  have := eq33 s t hs ht w
  unfold sec at *
  rw [run_eql_struct, this]; rfl

theorem neq33 (s t : List UInt8) (hs : s.length = 128) (ht : t.length = 128) (w : World) : (binOp .neq 33 (sec s) (sec t)).run Try.prog w = .ok (.bool (!(s == t))) w := by
  have := eq33 s t hs ht w
  unfold sec at *
  rw [run_neq_struct, this]; rfl

theorem guard33 (op : BinOp) (x y : Operand) (s t : List UInt8) (w : World) : (eqGuard op 33 x y (sec s) (sec t)).run Try.prog w = .ok () w := run_eqGuard_agg w op 33 x y _ _ (by kernel_rfl)

/-! ### The example -/
def s1 : List UInt8 := 1 :: List.replicate 127 0
def s2 : List UInt8 := 2 :: List.replicate 127 0
theorem s1_length : s1.length = 128 := by unfold s1; rw [List.length_cons, List.length_replicate]
theorem s2_length : s2.length = 128 := by unfold s2; rw [List.length_cons, List.length_replicate]
set_option maxRecDepth 100000 in
theorem Try.built33a : Try.prog.built 33 [(0, .int .u8 1)] = some (s1.map bv).toArray := by kernel_rfl
set_option maxRecDepth 100000 in
theorem Try.built33b : Try.prog.built 33 [(0, .int .u8 2)] = some (s2.map bv).toArray := by kernel_rfl

def A1 : Dk := (newDk 4).write 0 s1
def A2 : Dk := A1.write 1 s2
def A3 : Dk := A2.crash [false, true] (-1) 0
theorem a_w0 : (newDk 4).werr 0 = 0 := by kernel_rfl
theorem a_w1 : A1.werr 1 = 0 := by kernel_rfl
theorem a_p0 : (newDk 4).pd.length ≤ 1000000 := by show (0 : Nat) ≤ _; omega
theorem a_p1 : A1.pd.length ≤ 1000000 := by
  have : A1.pd.length = 1 := by kernel_rfl
  omega
theorem a_h0 : A2.has 0 = true := by kernel_rfl
theorem a_r0 : A2.read 0 = s1 := by kernel_rfl
theorem a_g0 : A3.get 0 = z128 := by kernel_rfl
theorem a_g1 : A3.get 1 = s2 := by kernel_rfl
theorem a_p3 : A3.pd.length = 0 := by kernel_rfl

theorem slp_lit {S : Nat → Prop} {w : World} (cs : Array Value) (t n : Nat) (hn : n ≤ 1000000000) (hS : ¬ S w.heap.size) : Slp (fun k => ¬ S k) (w.alloc (.cells cs t)) (.slice (some ⟨w.heap.size, 0, none⟩) n n) n cs.toList := by
  refine ⟨_, n, rfl, ⟨Nat.le_refl _, by unfold maxLen; omega⟩, fun h => by simp at h, fun i c hi => ⟨w.heap.size, 0, rfl, hS, ?_⟩⟩
  rw [Nat.zero_add, cell_of_row _ w.heap.size i cs t (0, 0) (heap_alloc_new w _)]
  simpa using hi

theorem Done.below {base : Nat} {w w' : World} {b : Nat} {S : Nat → Prop} {D D' : Dk} (h : Done base w b S D' w') (h0 : DiskAt base w b S D) : Below base w w' := by
  obtain ⟨S', hd, hf, hn⟩ := h
  refine hf.below ?_ (fun k hk => (h0.ge k hk).1)
  obtain ⟨g, vp, hg, _⟩ := h0
  have := hg.bb
  have := heap_lt hg.obj
  omega

set_option maxHeartbeats 1600000 in
theorem c_alive (w : World) : Calls Try.prog 8 #[] w fun e w' => e = .returned (.bool true) ∧ Below w.heap.size w w' := by
  have q1 := eql33 s1 s1 s1_length s1_length
  have q2 := eql33 z128 z128 z128_length z128_length
  have q3 := eql33 s2 s2 s2_length s2_length
  simp only [BEq.rfl] at q1 q2 q3
  have qg := guard33
  go_enter Try.func8, Try.ntmps8
  go_wp2_with fail
  refine (c_new 4 _).mono ?_
  rintro e w1 ⟨b, S1, rfl, hd1, hf1⟩
  have hb1 : Below w.heap.size w w1 := hf1.below (Nat.le_refl _) (fun _ => False.elim)
  clear hf1
  go_wp2_with (first
    | (refine wpList_build_as rfl 33 #[(0, .const (.int .u8 1))] rfl (sec s1) _ rfl Try.built33a ?_)
    | (go_at_call 22; refine stop_here ?_))
  unfold Hid
  refine (c_write 0 s1 _ hd1 s1_length a_p0).mono ?_
  rw [a_w0]
  rintro e w2 ⟨rfl, hx⟩
  have hb2 : Below w.heap.size w w2 := hb1.trans (hx.below hd1)
  obtain ⟨S2, hd2, -, -⟩ := hx
  change DiskAt w.heap.size w2 b S2 A1 at hd2
  clear hd1 hb1
  go_wp2_with (first
    | (refine wpList_build_as rfl 33 #[(0, .const (.int .u8 2))] rfl (sec s2) _ rfl Try.built33b ?_)
    | (go_at_call 22; refine stop_here ?_))
  unfold Hid
  refine (c_write 1 s2 _ hd2 s2_length a_p1).mono ?_
  rw [a_w1]
  rintro e w3 ⟨rfl, hx⟩
  have hb3 : Below w.heap.size w w3 := hb2.trans (hx.below hd2)
  obtain ⟨S3, hd3, -, -⟩ := hx
  change DiskAt w.heap.size w3 b S3 A2 at hd3
  clear hd2 hb2
  go_wp2_with (go_at_call 26; refine stop_here ?_)
  unfold Hid
  refine (c_read 0 _ hd3).mono ?_
  rw [a_r0, a_h0]
  rintro e w4 ⟨rfl, hf4⟩
  have hd4 := hd3.keep hf4 (fun _ _ => id)
  have hm := made w4
  have hsz4 := hf4.size
  have hfit := hm.fin s1
  have hrow := hm.row s1
  have hd5 := hd4.keep hfit (fun _ _ => id)
  have hb5 : Below w.heap.size w ((w4.alloc (.cells (z128.map bv).toArray 33)).setRow w4.heap.size (s1.map bv).toArray) := (hb3.trans (hf4.below hb3.size (fun _ => False.elim))).trans (hfit.below (by have := hb3.size; omega) (fun _ => False.elim))
  have hN5 : w4.heap.size < ((w4.alloc (.cells (z128.map bv).toArray 33)).setRow w4.heap.size (s1.map bv).toArray).heap.size := heap_lt (setRow_heap _ _ _ _ 33 _ hm.new)
  generalize hW5 : (w4.alloc (.cells (z128.map bv).toArray 33)).setRow w4.heap.size (s1.map bv).toArray = W5 at *
  have hW5 : Hid ((w4.alloc (.cells (z128.map bv).toArray 33)).setRow w4.heap.size (s1.map bv).toArray = W5) := hW5
  have hnS : ¬ S3 w4.heap.size := fun hs => by have := (hd3.ge _ hs).2; omega
  have hkp := slp_lit (S := S3) (w := W5) #[.bool false, .bool true] 4 2 (by omega) (fun hs => by have := (hd3.ge _ hs).2; omega)
  have hal : Nw W5 (W5.alloc (.cells #[.bool false, .bool true] 4)) := (Fr.refl _ W5).alloc _
  have hd6 := hd5.keep hal (fun _ _ => id)
  have hb6 := hb5.trans (hal.below hb5.size (fun _ => False.elim))
  have hr6 : (W5.alloc (.cells #[.bool false, .bool true] 4)).rangeAt w4.heap.size 0 (s1.map bv) := World.rangeAt_alloc hrow _
  have hN6 : w4.heap.size < (W5.alloc (.cells #[.bool false, .bool true] 4)).heap.size := by simp; omega
  clear hd3 hb3 hd4 hfit hrow hd5 hb5 hal hN5 hf4
  generalize hW6 : W5.alloc (.cells #[.bool false, .bool true] 4) = W6 at *
  have hW6 : Hid (W5.alloc (.cells #[.bool false, .bool true] 4) = W6) := hW6
  go_wp2_with (first
    | (refine wpList_alloc_agg rfl 33 rfl _ Try.zero33 ?_)
    | (refine wpList_store_all rfl 33 _ _ rfl w4.heap.size rfl (sec s1) rfl _ rfl _ 33 hm.new (sec_fit s1_length) (bv_oneCell _) (size33 s1_length) ?_; rw [hW5.out])
    | (go_at_call 25; refine stop_here ?_))
  unfold Hid
  refine (c_crash _ [false, true] (-1) 0 _ hd6 hkp).mono ?_
  rintro e w7 ⟨rfl, hx⟩
  have hb7 := hb6.trans (hx.below hd6)
  obtain ⟨S7, hd7, hf7, hn7⟩ := hx
  have hr7 : w7.rangeAt w4.heap.size 0 (s1.map bv) := fun j v hv => (World.cell?_of_block (w := W6) (a := ⟨w4.heap.size, 0 + j, none⟩) (hf7.block _ hN6 hnS)).trans (hr6 j v hv)
  change DiskAt w.heap.size w7 b S7 A3 at hd7
  clear hd6 hkp hb6 hf7 hn7 hnS hr6 hN6 hW6 hW5 hm
  go_wp2_with (first
    | (refine wpList_load_as rfl 33 _ rfl w4.heap.size 0 rfl (sec s1) _ rfl hr7 Try.row33 (size33 s1_length) ?_)
    | (refine wpList_build_as rfl 33 #[(0, .const (.int .u8 1))] rfl (sec s1) _ rfl Try.built33a ?_)
    | (go_at_call 20; refine stop_here ?_))
  unfold Hid
  refine (c_stable 0 _ hd7).mono ?_
  rw [a_g0]
  rintro e w8 ⟨rfl, hf8⟩
  have hd8 := hd7.keep hf8 (fun _ _ => id)
  have hb8 := hb7.trans (hf8.below hb7.size (fun _ => False.elim))
  clear hd7 hb7 hf8 hr7
  go_wp2_with (first
    | (refine wpList_build_as rfl 33 #[] rfl (sec z128) _ rfl Try.built33 ?_)
    | (go_at_call 20; refine stop_here ?_))
  unfold Hid
  refine (c_stable 1 _ hd8).mono ?_
  rw [a_g1]
  rintro e w9 ⟨rfl, hf9⟩
  have hd9 := hd8.keep hf9 (fun _ _ => id)
  have hb9 := hb8.trans (hf9.below hb8.size (fun _ => False.elim))
  clear hd8 hb8 hf9
  go_wp2_with (first
    | (refine wpList_build_as rfl 33 #[(0, .const (.int .u8 2))] rfl (sec s2) _ rfl Try.built33b ?_)
    | (go_at_call 18; refine stop_here ?_))
  unfold Hid
  refine (c_pending _ hd9 (by rw [a_p3]; omega)).mono ?_
  rw [a_p3]
  rintro e w10 ⟨rfl, -, hf10⟩
  have hb10 := hb9.trans (hf10.below hb9.size (fun _ => False.elim))
  clear hd9 hb9 hf10
  go_wp2
  go_ret
  exact ⟨rfl, hb10⟩
end Go.Proofs.Ytmhojkbnfiknpaa
