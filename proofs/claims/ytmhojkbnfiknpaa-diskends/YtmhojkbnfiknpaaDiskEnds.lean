/-
  DiskEnds returns true for every number and all acts: behind Break just so many writes and flushes are done, and then none any more, until a crash.
  Conditions: none; the statement is the given one, for every input.
-/
import Derived.Test.YtmhojkbnfiknpaaRows
import Derived.Test.YtmhojkbnfiknpaaDo
import Derived.WalkKit
import Derived.ProofKit
import Derived.OpenShut
import Derived.ShutString
import Derived.ChangeOld
import Derived.Below
import Derived.SizedLaws
namespace Go.Proofs.Ytmhojkbnfiknpaa.diskEnds
open Go.ChangeShapes Go.WideShapes Go.ChangeAt Go.RowKit
open Go.ChangeMaps (open_string shut_string)
set_option linter.unusedVariables false
set_option linter.unusedSimpArgs false

theorem own : ownKnob Try.prog.godebug = none := by kernel_rfl
theorem laidOut : laidOutB Try.prog = true := by kernel_rfl

/-- How many were done, of n. -/
def Inv (n : Int) (D : Dk) (c : Int) : Prop := 0 ≤ c ∧ c ≤ n ∧ (D.dead = true → c = n) ∧ (D.dead = false → D.left = n - c)

theorem spend_dead {D : Dk} (h : D.out = true) : D.spend.dead = true := by rw [Dk.spend_out h]
theorem spend_live {D : Dk} (h : D.out = false) : D.spend.dead = false ∧ D.dead = false ∧ D.left ≠ 0 := by
  rw [Dk.spend_in h]
  unfold Dk.out at h
  simp only [Bool.or_eq_false_iff, beq_eq_false_iff_ne] at h
  exact ⟨h.1, h⟩

theorem inv_out {n c : Int} {D : Dk} (h : Inv n D c) (ho : D.out = true) : Inv n D.spend c ∧ c = n := by
  obtain ⟨h0, h1, h2, h3⟩ := h
  have hc : c = n := by
    cases hd : D.dead with
    | true => exact h2 hd
    | false =>
      have : D.left = 0 := by unfold Dk.out at ho; simpa [hd] using ho
      have := h3 hd
      omega
  exact ⟨⟨h0, h1, fun _ => hc, fun h => by rw [spend_dead ho] at h; cases h⟩, hc⟩

theorem inv_in {n c : Int} {D : Dk} (h : Inv n D c) (ho : D.out = false) : Inv n D.spend (c + 1) := by
  obtain ⟨h0, h1, h2, h3⟩ := h
  obtain ⟨hl1, hl2, hl3⟩ := spend_live ho
  have := h3 hl2
  refine ⟨by omega, by omega, fun h => (by rw [hl1] at h; cases h), fun _ => ?_⟩
  rw [Dk.spend_in ho]
  show (if 0 < D.left then D.left - 1 else D.left) = _
  rw [if_pos (by omega)]
  omega

theorem ends_step {n c : Int} {D : Dk} (a : Actt) (h : Inv n D c) (hk : a.kind = 1 ∨ a.kind = 2) :
    (D.aerr a = 0 ∧ Inv n (D.act a) (c + 1) ∧ (D.act a).dead = false) ∨ (D.aerr a = 42 ∧ Inv n (D.act a) c ∧ (D.act a).dead = true ∧ c = n) ∨ (D.aerr a = 41 ∧ Inv n (D.act a) c) := by
  rcases hk with hk | hk
  · have q2 : D.aerr a = D.werr a.place := by unfold Dk.aerr; simp [hk]
    have q3 : D.act a = D.write a.place a.data := by unfold Dk.act; simp [hk]
    rw [q2, q3]
    unfold Dk.werr Dk.write
    by_cases hh : D.has a.place = true
    · by_cases ho : D.out = true
      · simp only [hh, ho, if_true]
        obtain ⟨i1, i2⟩ := inv_out h ho
        exact .inr (.inl ⟨trivial, i1, spend_dead ho, i2⟩)
      · have ho : D.out = false := by simpa using ho
        simp only [hh, ho, if_true, Bool.false_eq_true, if_false]
        exact .inl ⟨trivial, inv_in h ho, (spend_live ho).1⟩
    · have hh : D.has a.place = false := by simpa using hh
      simp only [hh, Bool.false_eq_true, if_false]
      exact .inr (.inr ⟨trivial, h⟩)
  · have q2 : D.aerr a = D.ferr := by unfold Dk.aerr; simp [hk]
    have q3 : D.act a = D.flush := by unfold Dk.act; simp [hk]
    rw [q2, q3]
    unfold Dk.ferr Dk.flush
    by_cases ho : D.out = true
    · simp only [ho, if_true]
      obtain ⟨i1, i2⟩ := inv_out h ho
      exact .inr (.inl ⟨trivial, i1, spend_dead ho, i2⟩)
    · have ho : D.out = false := by simpa using ho
      simp only [ho, Bool.false_eq_true, if_false]
      exact .inl ⟨trivial, inv_in h ho, (spend_live ho).1⟩

theorem act_len {D : Dk} {a : Actt} (hk : a.kind = 1 ∨ a.kind = 2) : (D.act a).st.length = D.st.length ∧ (D.act a).pd.length ≤ D.pd.length + 1 := by
  rcases hk with hk | hk
  · have q3 : D.act a = D.write a.place a.data := by unfold Dk.act; simp [hk]
    rw [q3]; exact write_len _ _ _
  · have q3 : D.act a = D.flush := by unfold Dk.act; simp [hk]
    have := flush_len D
    rw [q3]; exact ⟨this.1, by omega⟩

/-- What a round keeps. -/
def At (base : Nat) (w wr : World) (b k : Nat) (n c : Int) : Prop :=
  ∃ D S, DiskAt base wr b S D ∧ D.st.length = 8 ∧ D.pd.length ≤ k ∧ Inv n D c ∧ Below w.heap.size w wr

set_option maxHeartbeats 3200000 in
/-- The law's own walk. -/
theorem walk (w : World) (a0 : Int) (w0 : (Lit.int .i64 a0).wf = true) (v1 : Value) (x1 : List Actt) (w1 : ActsAt w.heap.size w v1 x1) (l1 : x1.length ≤ 140737488351232) :
    Calls Try.prog 6 #[.int .i64 a0, v1] w fun e w' => e = .returned (.bool true) ∧ Below w.heap.size w w' := by
  have hq := i64_of_wf w0
  clear w0
  obtain ⟨ao, cap, rfl, hc, hm, hacts⟩ := w1
  have hm : cap ≤ 9223372036854775807 := hm
  go_enter Try.func6, Try.ntmps6
  go_wp2_with fail
  refine (c_alive _).mono ?_
  rintro e u1 ⟨rfl, hb1⟩
  go_wp2_with fail
  refine (c_new 8 _).mono ?_
  rintro e u2 ⟨b, S2, rfl, hd2, hf2⟩
  have hb2 := hb1.trans (hf2.below hb1.size (fun _ => False.elim))
  have hbs : w.heap.size ≤ u1.heap.size := hb1.size
  clear hb1 hf2
  by_cases hok : x1.length ≤ 200 ∧ 0 ≤ a0
  · obtain ⟨hx2, ha0⟩ := hok
    have hx2i : (x1.length : Int) ≤ 200 := by omega
    go_wp2_with (go_at_call 24; refine stop_here ?_)
    unfold Hid
    refine (c_break a0 _ hd2 hq.1 hq.2).mono ?_
    rintro e u3 ⟨rfl, hx⟩
    have hb3 := hb2.trans ((hx.below hd2).mono hbs)
    obtain ⟨S3, hd3, -, -⟩ := hx
    have hstart : At u1.heap.size w u3 b 0 a0 0 := ⟨_, S3, hd3, by kernel_rfl, by simp [newDk, Dk.brk], ⟨by omega, ha0, fun h => by simp [newDk, Dk.brk] at h, fun _ => by simp [Dk.brk]⟩, hb3⟩
    clear hd2 hb2 hd3 hb3
    go_wp2
    go_loopw [6, 32] (fun c i wr => ∃ (k : Nat) (cc : Int), k ≤ x1.length ∧ i = .int .i64 k ∧ c = .int .i64 cc ∧ At u1.heap.size w wr b k a0 cc) (fun _ i _ => x1.length - (intOf i).toNat)
    case atStart => exact ⟨0, 0, Nat.zero_le _, rfl, rfl, hstart⟩
    case round =>
      obtain ⟨k, cc, hk, rfl, rfl, D, S, hd, h8, hpl, hinv, hB⟩ := hrel
      clear hstart
      by_cases hlt : k < x1.length
      · obtain ⟨ab, off, rfl, hab, hr0, hok⟩ := hacts k x1[k] (List.getElem?_eq_getElem hlt)
        have hr : wr.rangeAt ab (off + k * 132) (acell x1[k]) := fun j v hv => (World.cell?_of_block (w := w) (a := ⟨ab, off + k * 132 + j, none⟩) (hB.block ab hab)).trans (hr0 j v hv)
        have hkI : (k : Int) < (x1.length : Int) := by omega
        clear hacts hr0
        generalize x1[k] = act at *
        have hone := acell_oneCell hok
        have hdat := hok.d
        have hv := varA wr (acell zact).toArray act
        generalize hWv : (wr.alloc (.cells (acell zact).toArray 36)).setRow wr.heap.size (acell act).toArray = W at *
        have hWv : Hid ((wr.alloc (.cells (acell zact).toArray 36)).setRow wr.heap.size (acell act).toArray = W) := hWv
        obtain ⟨hc0, -, -, -, -, hall⟩ := act_cells hv.blk hdat
        have hdW := hd.keep hv.fr (fun _ _ => id)
        have hBW := hB.trans (hv.fr.below hB.size (fun _ => False.elim))
        have hokW : act.Ok w.heap.size W := hok.keep' hBW
        have hans := hd.ok.ans act
        clear hd hB hv hok
        have hcc : 0 ≤ cc ∧ cc ≤ a0 := ⟨hinv.1, hinv.2.1⟩
        by_cases hk12 : act.kind = 1 ∨ act.kind = 2
        · have hst := ends_step act hinv hk12
          have hln := act_len (D := D) hk12
          obtain ⟨hl1, hl2⟩ := hln
          have e1 : ((act.kind != 1) = false ∧ (act.kind != 2) = true) ∨ ((act.kind != 1) = true ∧ (act.kind != 2) = false) := by
            rcases hk12 with h | h
            · rw [h]; exact .inl ⟨rfl, rfl⟩
            · rw [h]; exact .inr ⟨rfl, rfl⟩
          rcases e1 with ⟨e1, e2⟩ | ⟨e1, e2⟩
          · go_wp2_with (first
              | (refine wpList_load_as rfl 36 _ rfl ab (off + k * 132) rfl (actv act) _ rfl hr Try.row36 (size36 hdat) ?_)
              | (refine wpList_alloc_agg rfl 36 rfl _ Try.zero36 ?_)
              | (refine wpList_store_all rfl 36 _ _ rfl wr.heap.size rfl (actv act) rfl _ rfl _ 36 (heap_alloc_new wr _) (act_fit hdat) hone (size36 hdat) ?_; rw [show acell (⟨0, 0, 0, z128, [], .slice none 0 0⟩ : Actt) = acell zact from rfl, hWv.out])
              | (refine wpList_load_as rfl 36 (.tmp 8) rfl wr.heap.size 0 rfl (actv act) _ rfl hall Try.row36 (size36 hdat) ?_)
              | (go_at_call 12; refine stop_here ?_))
            unfold Hid
            refine (c_do act _ hdW hokW hbs (by omega)).mono ?_
            rcases hst with ⟨he, hi, hdd⟩ | ⟨he, hi, hdd, hcn⟩ | ⟨he, hi⟩
            · rw [he]
              rintro e w5 ⟨rfl, hx⟩
              obtain ⟨S5, hd5, hsz5, hoth⟩ := hx.other
              have hB5 := hBW.trans ((hx.below hdW).mono hbs)
              have hm5 := made w5
              have hff := hm5.fin (D.ans act)
              have hd6 := hd5.keep hff (fun _ _ => id)
              have hB6 := hB5.trans (hff.below hB5.size (fun _ => False.elim))
              generalize hW6 : (w5.alloc (.cells (z128.map bv).toArray 33)).setRow w5.heap.size ((D.ans act).map bv).toArray = W6 at *
              have hW6 : Hid ((w5.alloc (.cells (z128.map bv).toArray 33)).setRow w5.heap.size ((D.ans act).map bv).toArray = W6) := hW6
              clear hoth hx hdW hBW hd5 hB5 hff
              generalize D.ans act = an at *
              have hcc1 : cc + 1 ≤ a0 := hi.2.1
              have hAt : At u1.heap.size w W6 b (k + 1) a0 (cc + 1) := ⟨_, S5, hd6, by omega, by omega, hi, hB6⟩
              go_wp2_with (first
                | (refine wpList_alloc_agg rfl 33 rfl _ Try.zero33 ?_)
                | (refine wpList_store_all rfl 33 _ _ rfl w5.heap.size rfl (sec an) rfl _ rfl _ 33 hm5.new (sec_fit hans) (bv_oneCell _) (size33 hans) ?_; rw [hW6.out])
                | (go_at_call 19; refine (c_dead _ hd6).mono ?_; rw [hdd]; rintro e w7 ⟨rfl, rfl⟩))
              go_roundw
              case rel => exact ⟨k + 1, cc + 1, by omega, by go_num, by go_num, hAt⟩
              case measure => simp [intOf]; omega
            · rw [he]
              rintro e w5 ⟨rfl, hx⟩
              obtain ⟨S5, hd5, hsz5, hoth⟩ := hx.other
              have hB5 := hBW.trans ((hx.below hdW).mono hbs)
              have hm5 := made w5
              have hff := hm5.fin (D.ans act)
              have hd6 := hd5.keep hff (fun _ _ => id)
              have hB6 := hB5.trans (hff.below hB5.size (fun _ => False.elim))
              generalize hW6 : (w5.alloc (.cells (z128.map bv).toArray 33)).setRow w5.heap.size ((D.ans act).map bv).toArray = W6 at *
              have hW6 : Hid ((w5.alloc (.cells (z128.map bv).toArray 33)).setRow w5.heap.size ((D.ans act).map bv).toArray = W6) := hW6
              clear hoth hx hdW hBW hd5 hB5 hff
              generalize D.ans act = an at *
              have hAt : At u1.heap.size w W6 b (k + 1) a0 cc := ⟨_, S5, hd6, by omega, by omega, hi, hB6⟩
              subst hcn
              go_wp2_with (first
                | (refine wpList_alloc_agg rfl 33 rfl _ Try.zero33 ?_)
                | (refine wpList_store_all rfl 33 _ _ rfl w5.heap.size rfl (sec an) rfl _ rfl _ 33 hm5.new (sec_fit hans) (bv_oneCell _) (size33 hans) ?_; rw [hW6.out])
                | (go_at_call 19; refine (c_dead _ hd6).mono ?_; rw [hdd]; rintro e w7 ⟨rfl, rfl⟩))
              go_roundw
              case rel => exact ⟨k + 1, cc, by omega, by go_num, rfl, hAt⟩
              case measure => simp [intOf]; omega
            · rw [he]
              rintro e w5 ⟨rfl, hx⟩
              obtain ⟨S5, hd5, hsz5, hoth⟩ := hx.other
              have hB5 := hBW.trans ((hx.below hdW).mono hbs)
              have hm5 := made w5
              have hff := hm5.fin (D.ans act)
              have hd6 := hd5.keep hff (fun _ _ => id)
              have hB6 := hB5.trans (hff.below hB5.size (fun _ => False.elim))
              generalize hW6 : (w5.alloc (.cells (z128.map bv).toArray 33)).setRow w5.heap.size ((D.ans act).map bv).toArray = W6 at *
              have hW6 : Hid ((w5.alloc (.cells (z128.map bv).toArray 33)).setRow w5.heap.size ((D.ans act).map bv).toArray = W6) := hW6
              clear hoth hx hdW hBW hd5 hB5 hff
              generalize D.ans act = an at *
              have hAt : At u1.heap.size w W6 b (k + 1) a0 cc := ⟨_, S5, hd6, by omega, by omega, hi, hB6⟩
              cases hdd : (D.act act).dead with
              | true =>
                go_wp2_with (first
                  | (refine wpList_alloc_agg rfl 33 rfl _ Try.zero33 ?_)
                  | (refine wpList_store_all rfl 33 _ _ rfl w5.heap.size rfl (sec an) rfl _ rfl _ 33 hm5.new (sec_fit hans) (bv_oneCell _) (size33 hans) ?_; rw [hW6.out])
                  | (go_at_call 19; refine (c_dead _ hd6).mono ?_; rw [hdd]; rintro e w7 ⟨rfl, rfl⟩))
                go_roundw
                case rel => exact ⟨k + 1, cc, by omega, by go_num, rfl, hAt⟩
                case measure => simp [intOf]; omega
              | false =>
                go_wp2_with (first
                  | (refine wpList_alloc_agg rfl 33 rfl _ Try.zero33 ?_)
                  | (refine wpList_store_all rfl 33 _ _ rfl w5.heap.size rfl (sec an) rfl _ rfl _ 33 hm5.new (sec_fit hans) (bv_oneCell _) (size33 hans) ?_; rw [hW6.out])
                  | (go_at_call 19; refine (c_dead _ hd6).mono ?_; rw [hdd]; rintro e w7 ⟨rfl, rfl⟩))
                go_roundw
                case rel => exact ⟨k + 1, cc, by omega, by go_num, rfl, hAt⟩
                case measure => simp [intOf]; omega
          · go_wp2_with (first
              | (refine wpList_load_as rfl 36 _ rfl ab (off + k * 132) rfl (actv act) _ rfl hr Try.row36 (size36 hdat) ?_)
              | (refine wpList_alloc_agg rfl 36 rfl _ Try.zero36 ?_)
              | (refine wpList_store_all rfl 36 _ _ rfl wr.heap.size rfl (actv act) rfl _ rfl _ 36 (heap_alloc_new wr _) (act_fit hdat) hone (size36 hdat) ?_; rw [show acell (⟨0, 0, 0, z128, [], .slice none 0 0⟩ : Actt) = acell zact from rfl, hWv.out])
              | (refine wpList_load_as rfl 36 (.tmp 8) rfl wr.heap.size 0 rfl (actv act) _ rfl hall Try.row36 (size36 hdat) ?_)
              | (go_at_call 12; refine stop_here ?_))
            unfold Hid
            refine (c_do act _ hdW hokW hbs (by omega)).mono ?_
            rcases hst with ⟨he, hi, hdd⟩ | ⟨he, hi, hdd, hcn⟩ | ⟨he, hi⟩
            · rw [he]
              rintro e w5 ⟨rfl, hx⟩
              obtain ⟨S5, hd5, hsz5, hoth⟩ := hx.other
              have hB5 := hBW.trans ((hx.below hdW).mono hbs)
              have hm5 := made w5
              have hff := hm5.fin (D.ans act)
              have hd6 := hd5.keep hff (fun _ _ => id)
              have hB6 := hB5.trans (hff.below hB5.size (fun _ => False.elim))
              generalize hW6 : (w5.alloc (.cells (z128.map bv).toArray 33)).setRow w5.heap.size ((D.ans act).map bv).toArray = W6 at *
              have hW6 : Hid ((w5.alloc (.cells (z128.map bv).toArray 33)).setRow w5.heap.size ((D.ans act).map bv).toArray = W6) := hW6
              clear hoth hx hdW hBW hd5 hB5 hff
              generalize D.ans act = an at *
              have hcc1 : cc + 1 ≤ a0 := hi.2.1
              have hAt : At u1.heap.size w W6 b (k + 1) a0 (cc + 1) := ⟨_, S5, hd6, by omega, by omega, hi, hB6⟩
              go_wp2_with (first
                | (refine wpList_alloc_agg rfl 33 rfl _ Try.zero33 ?_)
                | (refine wpList_store_all rfl 33 _ _ rfl w5.heap.size rfl (sec an) rfl _ rfl _ 33 hm5.new (sec_fit hans) (bv_oneCell _) (size33 hans) ?_; rw [hW6.out])
                | (go_at_call 19; refine (c_dead _ hd6).mono ?_; rw [hdd]; rintro e w7 ⟨rfl, rfl⟩))
              go_roundw
              case rel => exact ⟨k + 1, cc + 1, by omega, by go_num, by go_num, hAt⟩
              case measure => simp [intOf]; omega
            · rw [he]
              rintro e w5 ⟨rfl, hx⟩
              obtain ⟨S5, hd5, hsz5, hoth⟩ := hx.other
              have hB5 := hBW.trans ((hx.below hdW).mono hbs)
              have hm5 := made w5
              have hff := hm5.fin (D.ans act)
              have hd6 := hd5.keep hff (fun _ _ => id)
              have hB6 := hB5.trans (hff.below hB5.size (fun _ => False.elim))
              generalize hW6 : (w5.alloc (.cells (z128.map bv).toArray 33)).setRow w5.heap.size ((D.ans act).map bv).toArray = W6 at *
              have hW6 : Hid ((w5.alloc (.cells (z128.map bv).toArray 33)).setRow w5.heap.size ((D.ans act).map bv).toArray = W6) := hW6
              clear hoth hx hdW hBW hd5 hB5 hff
              generalize D.ans act = an at *
              have hAt : At u1.heap.size w W6 b (k + 1) a0 cc := ⟨_, S5, hd6, by omega, by omega, hi, hB6⟩
              subst hcn
              go_wp2_with (first
                | (refine wpList_alloc_agg rfl 33 rfl _ Try.zero33 ?_)
                | (refine wpList_store_all rfl 33 _ _ rfl w5.heap.size rfl (sec an) rfl _ rfl _ 33 hm5.new (sec_fit hans) (bv_oneCell _) (size33 hans) ?_; rw [hW6.out])
                | (go_at_call 19; refine (c_dead _ hd6).mono ?_; rw [hdd]; rintro e w7 ⟨rfl, rfl⟩))
              go_roundw
              case rel => exact ⟨k + 1, cc, by omega, by go_num, rfl, hAt⟩
              case measure => simp [intOf]; omega
            · rw [he]
              rintro e w5 ⟨rfl, hx⟩
              obtain ⟨S5, hd5, hsz5, hoth⟩ := hx.other
              have hB5 := hBW.trans ((hx.below hdW).mono hbs)
              have hm5 := made w5
              have hff := hm5.fin (D.ans act)
              have hd6 := hd5.keep hff (fun _ _ => id)
              have hB6 := hB5.trans (hff.below hB5.size (fun _ => False.elim))
              generalize hW6 : (w5.alloc (.cells (z128.map bv).toArray 33)).setRow w5.heap.size ((D.ans act).map bv).toArray = W6 at *
              have hW6 : Hid ((w5.alloc (.cells (z128.map bv).toArray 33)).setRow w5.heap.size ((D.ans act).map bv).toArray = W6) := hW6
              clear hoth hx hdW hBW hd5 hB5 hff
              generalize D.ans act = an at *
              have hAt : At u1.heap.size w W6 b (k + 1) a0 cc := ⟨_, S5, hd6, by omega, by omega, hi, hB6⟩
              cases hdd : (D.act act).dead with
              | true =>
                go_wp2_with (first
                  | (refine wpList_alloc_agg rfl 33 rfl _ Try.zero33 ?_)
                  | (refine wpList_store_all rfl 33 _ _ rfl w5.heap.size rfl (sec an) rfl _ rfl _ 33 hm5.new (sec_fit hans) (bv_oneCell _) (size33 hans) ?_; rw [hW6.out])
                  | (go_at_call 19; refine (c_dead _ hd6).mono ?_; rw [hdd]; rintro e w7 ⟨rfl, rfl⟩))
                go_roundw
                case rel => exact ⟨k + 1, cc, by omega, by go_num, rfl, hAt⟩
                case measure => simp [intOf]; omega
              | false =>
                go_wp2_with (first
                  | (refine wpList_alloc_agg rfl 33 rfl _ Try.zero33 ?_)
                  | (refine wpList_store_all rfl 33 _ _ rfl w5.heap.size rfl (sec an) rfl _ rfl _ 33 hm5.new (sec_fit hans) (bv_oneCell _) (size33 hans) ?_; rw [hW6.out])
                  | (go_at_call 19; refine (c_dead _ hd6).mono ?_; rw [hdd]; rintro e w7 ⟨rfl, rfl⟩))
                go_roundw
                case rel => exact ⟨k + 1, cc, by omega, by go_num, rfl, hAt⟩
                case measure => simp [intOf]; omega
        · have e1 : (act.kind != 1) = true := by simp; intro h; exact hk12 (.inl h)
          have e2 : (act.kind != 2) = true := by simp; intro h; exact hk12 (.inr h)
          have hAt : At u1.heap.size w W b (k + 1) a0 cc := ⟨D, S, hdW, h8, by omega, hinv, hBW⟩
          clear hdW hBW hokW
          go_wp2_with (first
            | (refine wpList_load_as rfl 36 _ rfl ab (off + k * 132) rfl (actv act) _ rfl hr Try.row36 (size36 hdat) ?_)
            | (refine wpList_alloc_agg rfl 36 rfl _ Try.zero36 ?_)
            | (refine wpList_store_all rfl 36 _ _ rfl wr.heap.size rfl (actv act) rfl _ rfl _ 36 (heap_alloc_new wr _) (act_fit hdat) hone (size36 hdat) ?_; rw [show acell (⟨0, 0, 0, z128, [], .slice none 0 0⟩ : Actt) = acell zact from rfl, hWv.out]))
          go_roundw
          case rel => exact ⟨k + 1, cc, by omega, by go_num, rfl, hAt⟩
          case measure => simp [intOf]; omega
      · obtain ⟨hi0, hi1, hi2, hi3⟩ := hinv
        have hle : cc ≤ a0 := hi1
        have hkp : Slp (fun k => ¬ S k) wr (.slice none 0 0) ([] : List Bool).length (([] : List Bool).map Value.bool) := ⟨none, 0, rfl, ⟨Nat.le_refl _, Nat.zero_le _⟩, fun _ => rfl, fun i c h => by simp at h⟩
        clear hacts
        cases hdd : D.dead with
        | true =>
          have hcn : (cc == a0) = true := by simpa using hi2 hdd
          go_wp2_with (first
            | (go_at_call 19; refine (c_dead _ hd).mono ?_; rw [hdd]; rintro e w7 ⟨rfl, rfl⟩)
            | (go_at_call 25; refine stop_here ?_))
          unfold Hid
          refine (c_crash _ [] (-1) 0 _ hd hkp).mono ?_
          rintro e w8 ⟨rfl, hx⟩
          have hB8 := hB.trans ((hx.below hd).mono hbs)
          obtain ⟨S8, hd8, -, -⟩ := hx
          have hdf : (D.crash [] (-1) 0).dead = false := rfl
          have hl8 : (D.crash [] (-1) 0).st.length = 8 := by unfold Dk.crash; rw [crashN_length]; exact h8
          have hwe : (D.crash [] (-1) 0).werr 7 = 0 := by
            have : (D.crash [] (-1) 0).has 7 = true := by unfold Dk.has; rw [hl8]; rfl
            unfold Dk.werr
            rw [if_pos this]
            rfl
          have hp8 : (D.crash [] (-1) 0).pd.length ≤ 1000000 := by show (0 : Nat) ≤ _; omega
          generalize D.crash [] (-1) 0 = E at *
          clear hd hB hkp
          go_wp2_with (first
            | (refine wpList_build_as rfl 33 #[] rfl (sec z128) _ rfl Try.built33 ?_)
            | (go_at_call 19; refine (c_dead _ hd8).mono ?_; rw [hdf]; rintro e w7 ⟨rfl, rfl⟩)
            | (go_at_call 22; refine stop_here ?_))
          unfold Hid
          refine (c_write 7 z128 _ hd8 z128_length hp8).mono ?_
          rw [hwe]
          rintro e w9 ⟨rfl, hx⟩
          have hB9 := hB8.trans ((hx.below hd8).mono hbs)
          go_wp2
          go_ret
          exact ⟨rfl, hB9⟩
        | false =>
          go_wp2_with (first
            | (go_at_call 19; refine (c_dead _ hd).mono ?_; rw [hdd]; rintro e w7 ⟨rfl, rfl⟩)
            | (go_at_call 25; refine stop_here ?_))
          unfold Hid
          refine (c_crash _ [] (-1) 0 _ hd hkp).mono ?_
          rintro e w8 ⟨rfl, hx⟩
          have hB8 := hB.trans ((hx.below hd).mono hbs)
          obtain ⟨S8, hd8, -, -⟩ := hx
          have hdf : (D.crash [] (-1) 0).dead = false := rfl
          have hl8 : (D.crash [] (-1) 0).st.length = 8 := by unfold Dk.crash; rw [crashN_length]; exact h8
          have hwe : (D.crash [] (-1) 0).werr 7 = 0 := by
            have : (D.crash [] (-1) 0).has 7 = true := by unfold Dk.has; rw [hl8]; rfl
            unfold Dk.werr
            rw [if_pos this]
            rfl
          have hp8 : (D.crash [] (-1) 0).pd.length ≤ 1000000 := by show (0 : Nat) ≤ _; omega
          generalize D.crash [] (-1) 0 = E at *
          clear hd hB hkp
          go_wp2_with (first
            | (refine wpList_build_as rfl 33 #[] rfl (sec z128) _ rfl Try.built33 ?_)
            | (go_at_call 19; refine (c_dead _ hd8).mono ?_; rw [hdf]; rintro e w7 ⟨rfl, rfl⟩)
            | (go_at_call 22; refine stop_here ?_))
          unfold Hid
          refine (c_write 7 z128 _ hd8 z128_length hp8).mono ?_
          rw [hwe]
          rintro e w9 ⟨rfl, hx⟩
          have hB9 := hB8.trans ((hx.below hd8).mono hbs)
          go_wp2
          go_ret
          exact ⟨rfl, hB9⟩
  · go_wp2
    all_goals
      first
      | (exfalso; omega)
      | (go_ret; exact ⟨rfl, hb2⟩)

set_option maxRecDepth 100000 in
theorem lifted (os : Os) (started : os.Started) (H : Type) (enc : TypeId × Value → H) :
    ReturnsInHanded {} Try.checked os 6 .any (Rows.diskEndsSpec.pre6 enc Try.prog Try.f6 Rows.diskEndsRow.domain false) (Rows.diskEndsSpec.post enc Try.prog Try.f6 false true false false) := by
  refine returnsInHanded_of_change_sized (C := Try.checked) own started (by kernel_rfl) Try.func6
    (ChangeSpec.witness6 (enc := enc) (C := Try.checked) false ⟨#[], #[.int .i64 0, .slice none 0 0], []⟩ 8 (by kernel_rfl) (by kernel_rfl) (by kernel_rfl) (by kernel_rfl)) ?_
  intro W base args ds gs before hval0 hW hcnd hsz0 _
  have hval : ∀ (j : Nat) t v, Try.f6.params[j]? = some t → args[j]? = some v → Value.okWide Try.prog W .any base t v := hval0
  have hsz : (DataW.weightsEach Try.prog (Try.f6.params.toList ++ Rows.diskEndsSpec.plain.varTypes Try.prog) (ds ++ gs)).all (· ≤ reachBytes) = true := hsz0
  have hW' := hW
  obtain ⟨p, q, hA0, hV, rfl, hfz, hnd⟩ := hW
  have hA : DataW.TrodAll enc Try.prog W 0 (fun _ => true) true Try.f6.params.toList args.toList ds p := hA0
  rw [Try.params6] at hA hval hsz
  obtain ⟨v0, vs0, d0, ds0, p0, q0, hargs, rfl, rfl, h0, r0⟩ := trodAll_cons hA
  obtain ⟨v1, vs1, d1, ds1, p1, q1, rfl, rfl, rfl, h1, r1⟩ := trodAll_cons r0
  obtain ⟨rfl, rfl, rfl⟩ := trodAll_nil r1
  obtain rfl : args = #[v0, v1] := by cases args; simp_all
  obtain ⟨rfl, rfl⟩ := trodVars_none hV
  obtain ⟨a0, rfl, rfl, rfl, w0⟩ := open_int Try.underlying3 (hval 0 3 v0 rfl rfl) h0
  obtain ⟨a1, len1, cap1, rfl⟩ := okWide_slice Try.underlying26 (hval 1 26 v1 rfl rfl)
  have k1 := h1
  have lt1 : ∀ x ∈ p1, x.block < W.heap.size := by obtain ⟨m, hm⟩ := k1; exact DataW.trod_lt m _ _ _ hm
  obtain ⟨x1, w1, l1⟩ : ∃ xs : List Actt, ActsAt W.heap.size W (.slice a1 len1 cap1) xs ∧ xs.length ≤ 140737488351232 := by
    obtain ⟨fuel, hf⟩ := h1
    exact open_acts (v := .slice a1 len1 cap1) hf (fun n hn => by have := List.all_eq_true.1 hsz n (DataW.weights_mem_each (j := 1) (t := 26) rfl rfl n hn); simpa using this)
  clear hA0 hval0
  refine (walk W a0 w0 _ x1 w1 l1).mono fun e W' ⟨he, bel⟩ => ?_
  subst he
  exact ⟨_, rfl, _, _, _, [], _, [], hW', trodAll_mk1 (shut_bool Try.underlying4 _), (trodAll_cons_mk (shut_int Try.underlying3 w0) (trodAll_cons_mk (Below.trod laidOut (by kernel_rfl) (of_decide_eq_true (by kernel_rfl)) k1 bel lt1) trodAll_mk0)), rfl, bel.frame _, fun h => by cases h⟩

theorem over : Rows.diskEndsRow.holds Try.pinned (OpenSpec.ofChange Rows.diskEndsSpec) :=
  OpenClaim.holds_of_wide 6 Try.f6 rfl rfl rfl rfl rfl rfl rfl ⟨rfl, rfl, rfl, rfl, rfl⟩ rfl rfl rfl rfl rfl (by kernel_rfl) Try.func6 (by kernel_rfl)
    (of_decide_eq_true (by kernel_rfl)) (by unfold Func.isWrapper; first | (rw [if_pos (by decide +kernel)]; kernel_rfl) | (rw [if_neg (by decide +kernel)]; exact ⟨rfl, rfl⟩))
    (fun os started H enc _ => lifted os started H enc)
end Go.Proofs.Ytmhojkbnfiknpaa.diskEnds
namespace Go.Proofs.Ytmhojkbnfiknpaa
/-- The given statement. -/
theorem diskEnds_holds : Rows.DiskEndsSaid := diskEnds.over
end Go.Proofs.Ytmhojkbnfiknpaa
