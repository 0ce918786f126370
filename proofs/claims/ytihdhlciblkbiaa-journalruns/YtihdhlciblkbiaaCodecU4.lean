/-
  Unpack, its run.
-/
import Derived.Test.YtihdhlciblkbiaaRows
import Derived.Test.YtihdhlciblkbiaaCodecU3
namespace Go.Proofs.Ytihdhlciblkbiaa
set_option linter.unusedVariables false
set_option linter.unusedSimpArgs false
set_option maxRecDepth 20000
open Go.RowKit

theorem unpL_round {sh : ByteArray} {xs r r' : List UInt8} {k : Nat} {fs : List Fld} {f : Fld} (h : k < sh.size) (ha : unpL (sh.data.toList.take k) xs = some (fs, r)) (hp : unpF sh[k] r = some (f, r')) :
    unpL (sh.data.toList.take (k + 1)) xs = some (fs ++ [f], r') := by
  have h3 : sh.data.toList[k]? = some sh[k] := by
    rw [List.getElem?_eq_getElem (by simpa using h)]; rfl
  rw [List.take_add_one, h3]
  simp only [Option.toList_some]
  rw [unpL_snoc, ha]
  simp [hp]

theorem unpL_stop {sh : ByteArray} {xs r : List UInt8} {k : Nat} {fs : List Fld} (h : k < sh.size) (ha : unpL (sh.data.toList.take k) xs = some (fs, r)) (hp : unpF sh[k] r = none) :
    unpL sh.data.toList xs = none := by
  have h3 : sh.data.toList[k]? = some sh[k] := by
    rw [List.getElem?_eq_getElem (by simpa using h)]; rfl
  have e : sh.data.toList = (sh.data.toList.take k ++ [sh[k]]) ++ sh.data.toList.drop (k + 1) := by
    have := List.take_append_drop (k + 1) sh.data.toList
    rw [List.take_add_one, h3] at this
    simpa using this.symm
  rw [e, unpL_append, unpL_snoc, ha]
  simp [hp]

theorem owns_ne3 {w : World} {base e size n R : Nat} {v : Value} {xs : List Value} (h : w.ownsRow base e size v n xs) (hR : R < base) : v.ownBlock = none ∨ v.ownBlock ≠ some R := by
  refine .inr fun he => ?_
  have := (h.lt R he).1
  omega

theorem owns_ne4 {w : World} {base e size n R : Nat} {v : Value} {xs : List Value} (h : w.ownsRow base e size v n xs) (hR : R < base) : some R ≠ v.ownBlock := by
  intro he
  have := (h.lt R he.symm).1
  omega

set_option maxHeartbeats 3200000 in
theorem c_unpack_run (sh : ByteArray) (K : Nat) (ao : Option Addr) (cap : Nat) (xs : List UInt8) (w : World) (hs : sh.size ≤ 200) (hx : Sl K w (.slice ao xs.length cap) xs.length (xs.map bv)) (hK : K ≤ w.heap.size) (hc : xs.length ≤ cap) (hm : cap ≤ maxLen) :
    Calls Try.prog 54 #[.string sh, .slice ao xs.length cap] w fun e w' => Unpacked sh.data.toList xs w e w' := by
  obtain ⟨i4, hj, hj0, hj1, hj2⟩ := info_parts Try.info79
  have hmf : ∀ (fn : Fn) (first cap : Array Value) (w : World), (Instr.makeFunc fn first cap).run Try.prog w = .ok (.func fn first cap) w := fun _ _ _ _ => rfl
  have hd1 : decide ((sh.size : Int) ≤ 200) = true := decide_eq_true (by omega)
  have hst := unpAt_start K w ao cap xs hx hK hc hm
  have hst : Hid (UnpAt w.heap.size K w (((w.alloc (.cells #[.slice none 0 0] 82)).alloc (.cells #[.int .i64 0] 41)).alloc (.cells #[.slice ao xs.length cap] 120)) (.slice none 0 0) [] [] xs ao cap) := hst
  go_enter_defers Try.func54, Try.ntmps54
  go_wp2_with (go_at_call 58; refine (c_must_yes _).mono ?_; rintro e w' ⟨rfl, rfl⟩)
  go_loopw [17] (fun i wr => ∃ (k : Nat) (v : Value) (fs : List Fld) (cs : List Value) (r : List UInt8) (ao : Option Addr) (cap : Nat), k ≤ sh.size ∧ i = .int .i64 k ∧ Hid (unpL (sh.data.toList.take k) xs = some (fs, r)) ∧ UnpAt w.heap.size K w wr v fs cs r ao cap) (fun i _ => sh.size - (intOf i).toNat)
  case atStart => exact ⟨0, _, [], [], xs, ao, cap, Nat.zero_le _, rfl, rfl, hst.out⟩
  case round =>
    obtain ⟨k, v, fs, cs, r, ra, rc, hk, rfl, hacc, hat⟩ := hrel
    have hc0 := cell_of_one hat.b0
    have hz0 := free_of_one hat.b0
    have hc1 := cell_of_one hat.b1
    have hz1 := free_of_one hat.b1
    have hc2 := cell_of_one hat.rd.blk
    have hN := lt_of_block hat.rd.blk
    have hfl : fs.length = k := by
      have := unpL_length hacc.out
      rw [this, List.length_take, ba_len]; omega
    have hfl' : fs.length ≤ 200 := by omega
    have hflH : Hid (fs.length = k) := hfl
    clear hfl
    obtain ⟨va, vc, rfl⟩ : ∃ va vc, v = .slice va fs.length vc := owns_form hat.own
    by_cases hlt : k < sh.size
    · have hks' : (k : Int) < (sh.size : Int) := by omega
      have hk0 : (0 : Int) ≤ (k : Int) := by omega
      go_wp2
      have hS : (fun w' : World => w'.cell? ⟨w.heap.size, 0, none⟩ = some (.slice va fs.length vc)) wr.drew := hc0
      refine wp_region_ord [4, 5] 6 [(0, true), (1, true), (2, true), (3, true), (4, false), (5, false)] (fun w' : World => w'.cell? ⟨w.heap.size, 0, none⟩ = some (.slice va fs.length vc)) (by kernel_rfl) (by kernel_rfl) ?_
      refine ord_quiet _ ?_ rfl hS rfl ?_ ?_
      rotate_left
      · intro w' hS'; go_simp; rfl
      refine ord_quiet _ ?_ rfl hS rfl ?_ ?_
      rotate_left
      · intro w' hS'; go_simp; rfl
      refine ord_quiet _ ?_ rfl hS rfl ?_ ?_
      rotate_left
      · intro w' hS'; go_simp; rfl
      refine ord_quiet _ ?_ rfl hS rfl ?_ ?_
      rotate_left
      · intro w' hS'; go_simp; rfl
      refine ord_act _ rfl fun K1 hK1 => ?_
      simp only [List.getElem_toArray, List.getElem_cons_succ, List.getElem_cons_zero]
      have hrd : RdAt K (w.heap.size + 2) wr.drew r ra rc := rdAt_keep hat.rd ((Below.refl _ _).drew)
      go_wp2_with fail
      refine (c_field sh[k] hrd).mono ?_
      rintro e w1 ⟨hg1, ⟨f, r', bvv, ao', cap', hp, rfl, hf1, hr1, hn1, hl1⟩ | ⟨hp, rfl⟩⟩
      · have hg1' : wr.grownBy w1 (some (w.heap.size + 2)) := ⟨hg1.os, hg1.tape, hg1.output, hg1.size, hg1.block⟩
        have hf1' : Fresh wr w1 bvv f.bytes := hf1
        have hs1 := hg1'.size
        have hS1 : (fun w' : World => w'.cell? ⟨w.heap.size, 0, none⟩ = some (.slice va fs.length vc)) w1 := by
          show w1.cell? _ = _
          rw [World.cell?_of_block (w := wr) (hg1'.block w.heap.size (by omega) (by simp))]
          exact hc0
        obtain ⟨fa, fl, fc, rfl⟩ : ∃ a1 l1 c1, bvv = .slice a1 l1 c1 := by
          obtain ⟨a1, c1, hv, _⟩ := hf1
          exact ⟨a1, _, c1, hv⟩
        go_wp2
        refine hK1 _ _ hS1 ?_
        clear hK1 K1 hg1 hf1
        refine ord_act _ rfl fun K1 hK1 => ?_
        go_wp2
        have hS2 : (fun w' : World => w'.cell? ⟨w.heap.size, 0, none⟩ = some (.slice va fs.length vc)) (w1.alloc (.cells #[.int .u64 (f.num : Nat), .slice fa fl fc] 79)) := by
          show (w1.alloc _).cell? _ = _
          rw [World.cell?_alloc_past _ _ _ (by show w.heap.size < _; omega)]
          exact hS1
        refine hK1 _ _ hS2 ?_
        clear hK1 K1
        refine ord_tail ?_
        simp only [List.drop_succ_cons, List.drop_zero]
        have hown1 : w1.ownsRow (w.heap.size + 3) 79 2 (.slice va fs.length vc) fs.length cs := hat.own.kept hg1' (owns_ne3 hat.own (by omega))
        have hown2 := hown1.alloc (.cells #[.int .u64 (f.num : Nat), .slice fa fl fc] 79)
        go_wp2_with (at_builtin; refine wpList_append_sl _ rfl _ _ 82 rfl (w.heap.size + 3) 79 i4 _ 2 32 Try.underlying82 hj hj0 hj1 hj2 rfl (by decide) _ _ _ rfl hown2 _ _ 1 _ rfl (sl_lit w1 _ 79 1 (by omega)) rfl ?d1 ?d2 ?d3 ?d4 ?_)
        case d1 => first | (intro u hu; simp at hu; rcases hu with rfl | rfl <;> rfl) | simp [Value.oneCell']
        case d2 => unfold maxLen; omega
        case d3 => omega
        case d4 => first | omega | (simp; omega)
        intro v6 w6 hown6 hgrow6 hat6
        have hown6 : w6.ownsRow (w.heap.size + 3) 79 2 v6 (fs ++ [f]).length (cs ++ [.int .u64 (f.num : Nat), .slice fa fl fc]) := by simpa using hown6
        obtain ⟨a6, c6, rfl⟩ : ∃ a6 c6, v6 = .slice a6 (fs ++ [f]).length c6 := owns_form hown6
        have hnew := unpAt_step f hat hK hg1' hf1' hr1 hn1 hl1 _ hown6 hgrow6 hat6
        have hacc1 : Hid (unpL (sh.data.toList.take (k + 1)) xs = some (fs ++ [f], r')) := unpL_round hlt hacc.out hp
        have hg6 : w6.cell? ⟨w.heap.size, 0, none⟩ = some (.slice va fs.length vc) := hgrow6.cell hS2 (owns_ne4 hat.own (by show w.heap.size < _; omega))
        have hz6 : w6.frozen? ⟨w.heap.size, 0, none⟩ = false := by
          rw [World.frozen?_of_block (w := w1.alloc (.cells #[.int .u64 (f.num : Nat), .slice fa fl fc] 79)) (hgrow6.block w.heap.size (by simp; omega) (owns_ne4 hat.own (by omega)))]
          rw [World.frozen?_of_block (w := w1) (Below.heap_alloc _ _ _ (by show w.heap.size < _; omega))]
          rw [World.frozen?_of_block (w := wr) (hg1'.block w.heap.size (by omega) (by simp))]
          exact hz0
        clear hat hown6 hgrow6 hat6 hown1 hown2 hS hS1 hS2 hg1' hf1' hr1 hp hacc hrd hc0 hz0 hc1 hz1 hc2
        generalize fs ++ [f] = fs1 at *
        go_wp2
        go_roundw
        case rel => exact ⟨k + 1, _, _, _, _, _, _, by omega, by go_num, hacc1, hnew⟩
        case measure => simp [intOf]; omega
      · have hg1' : wr.grownBy w1 (some (w.heap.size + 2)) := ⟨hg1.os, hg1.tape, hg1.output, hg1.size, hg1.block⟩
        have hnone : unpack sh.data.toList xs = none := by
          unfold unpack
          rw [unpL_stop hlt hacc.out hp]
          simp
        have hd := unpAt_door hat hg1'
        rintro ⟨tmps, dfs⟩ hdf hkeep
        simp only at hdf
        subst hdf
        exact door_panicU _ tmps w.heap.size _ _ _ hd.1 hd.2.1 hd.2.2.1 hd.2.2.2.1 (hkeep 4 (by simp)) (hkeep 5 (by simp)) ⟨hd.2.2.2.2, .inr ⟨hnone, rfl⟩⟩
    · have htk : unpL sh.data.toList xs = some (fs, r) := by
        have e := hacc.out
        rw [List.take_of_length_le (by rw [ba_len]; omega)] at e
        exact e
      by_cases hr0 : r.length = 0
      · have hr : r = [] := List.eq_nil_of_length_eq_zero hr0
        have hun : unpack sh.data.toList xs = some fs := by
          unfold unpack
          rw [ba_len, if_pos hs, htk, hr]
        have hend := unpAt_end hat
        have hd2 : ((r.length : Int) == 0) = true := beq_iff_eq.2 (by omega)
        go_wp2_with (go_at_call 58; refine (c_must_yes _).mono ?_; rintro e w' ⟨rfl, rfl⟩)
        exact door_returnU _ _ w.heap.size _ (.slice va fs.length vc) (.int .i64 0) hend.1 hend.2.1 rfl rfl ⟨hend.2.2.1, .inl ⟨fs, _, hun, rfl, hend.2.2.2⟩⟩
      · have hun : unpack sh.data.toList xs = none := by
          unfold unpack
          rw [ba_len, if_pos hs, htk]
          cases r with
          | nil => simp at hr0
          | cons a r => rfl
        have hd2 : ((r.length : Int) == 0) = false := beq_eq_false_iff_ne.2 (by omega)
        have hd := unpAt_door hat (World.grownBy.refl _ _)
        go_wp2_with (go_at_call 58; refine (c_must_no _).mono ?_; rintro e w' ⟨rfl, rfl⟩)
        exact door_panicU _ _ w.heap.size _ _ _ hd.1 hd.2.1 hd.2.2.1 hd.2.2.2.1 rfl rfl ⟨hd.2.2.2.2, .inr ⟨hun, rfl⟩⟩

theorem c_unpack (sh : ByteArray) (K : Nat) (v : Value) (xs : List UInt8) (w : World) (hsh : sh.size ≤ maxLen) (hx : Sl K w v xs.length (xs.map bv)) (hK : K ≤ w.heap.size) :
    Calls Try.prog 54 #[.string sh, v] w fun e w' => Unpacked sh.data.toList xs w e w' := by
  by_cases h : sh.size ≤ 200
  · obtain ⟨ao, cap, rfl, hc, h1⟩ := hx
    exact c_unpack_run sh K ao cap xs w h ⟨ao, cap, rfl, hc, h1⟩ hK hc.1 hc.2
  · refine (c_unpack_refused sh v w hsh h).mono ?_
    rintro e w' ⟨he, hb⟩
    exact ⟨hb, .inr ⟨by unfold unpack; rw [ba_len, if_neg h], he⟩⟩
end Go.Proofs.Ytihdhlciblkbiaa
