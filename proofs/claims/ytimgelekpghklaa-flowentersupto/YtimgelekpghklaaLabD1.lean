/-
  Package label: Make.
-/
import Derived.Test.YtimgelekpghklaaLabPlain4
namespace Go.Proofs.Ytimgelekpghklaa
set_option linter.unusedVariables false
set_option linter.unusedSimpArgs false
set_option maxRecDepth 20000
open Go.RowKit

/-- The slice v holds the categories xs, in blocks of the class X. -/
def CSl (X : Nat → Prop) (w : World) (v : Value) (es : List Cat) : Prop := Slp X w v es.length (ccells es)

theorem CSl.form {X : Nat → Prop} {w : World} {v : Value} {es : List Cat} (h : CSl X w v es) : ∃ ao cap, v = .slice ao es.length cap ∧ es.length ≤ cap ∧ cap ≤ 9223372036854775807 := by
  obtain ⟨ao, cap, rfl, ⟨h1, h2⟩, _⟩ := h
  exact ⟨ao, cap, rfl, h1, h2⟩

theorem CSl.get {X : Nat → Prop} {w : World} {ao : Option Addr} {n cap : Nat} {es : List Cat} (h : CSl X w (.slice ao n cap) es) (k : Nat) (hk : k < es.length) :
    ∃ q off, ao = some ⟨q, off, none⟩ ∧ X q ∧ w.cell? ⟨q, off + k * 2, none⟩ = some (.int .u64 es[k].1) ∧ w.cell? ⟨q, off + k * 2 + 1, none⟩ = some (.int .i64 es[k].2) := by
  obtain ⟨ao', cap', hv, _, _, hcs⟩ := h
  simp only [Value.slice.injEq] at hv
  obtain ⟨rfl, _, rfl⟩ := hv
  obtain ⟨h1, h2⟩ := ccells_get es k hk
  obtain ⟨q, off, h3, h4, h5⟩ := hcs _ _ h1
  obtain ⟨q', off', h3', _, h5'⟩ := hcs _ _ h2
  rw [h3] at h3'
  simp only [Option.some.injEq, Addr.mk.injEq, and_true] at h3'
  obtain ⟨rfl, rfl⟩ := h3'
  exact ⟨q, off, h3, h4, h5, by rw [Nat.add_assoc]; exact h5'⟩

theorem CSl.keep {X X' : Nat → Prop} {w w' : World} {v : Value} {es : List Cat} (h : CSl X w v es) {T : Nat → Prop} (hf : Fr T w w') (hT : ∀ b, X b → b < w.heap.size → ¬ T b) (hX : ∀ b, X b → b < w.heap.size → X' b) : CSl X' w' v es := by
  obtain ⟨ao, cap, hv, hc, hn, hcs⟩ := h
  refine ⟨ao, cap, hv, hc, hn, fun i c hi => ?_⟩
  obtain ⟨b, off, h1, h2, h3⟩ := hcs i c hi
  have hb : b < w.heap.size := World.block_lt_of_cell? w _ h3
  exact ⟨b, off, h1, hX b h2 hb, by rw [World.cell?_of_block (w := w) (hf.block b hb (hT b h2 hb))]; exact h3⟩

theorem CSl.nw {X : Nat → Prop} {w w' : World} {v : Value} {es : List Cat} (h : CSl X w v es) (hf : Nw w w') : CSl X w' v es := h.keep hf (fun _ _ _ => id) (fun _ h _ => h)
theorem CSl.mono {X X' : Nat → Prop} {w : World} {v : Value} {es : List Cat} (h : CSl X w v es) (hX : ∀ b, X b → b < w.heap.size → X' b) : CSl X' w v es := h.keep (Fr.refl (fun _ => False) w) (fun _ _ _ => id) hX
theorem CSl.any {X : Nat → Prop} {w : World} {v : Value} {es : List Cat} (h : CSl X w v es) : CSl (fun _ => True) w v es := h.mono (fun _ _ _ => trivial)

theorem CSl.sl {X : Nat → Prop} {w : World} {v : Value} {es : List Cat} (h : CSl X w v es) : Sl w.heap.size w v es.length (ccells es) := by
  obtain ⟨ao, cap, hv, hc, hn, hcs⟩ := h
  refine ⟨ao, cap, hv, hc, hn, fun i c hi => ?_⟩
  obtain ⟨b, off, h1, h2, h3⟩ := hcs i c hi
  exact ⟨b, off, h1, World.block_lt_of_cell? w _ h3, h3⟩

theorem csl_nil (X : Nat → Prop) (w : World) : CSl X w (.slice none 0 0) [] := ⟨none, 0, rfl, ⟨Nat.le_refl _, Nat.zero_le _⟩, fun _ => rfl, fun i c h => by simp [ccells] at h⟩

/-- A slice of one's own, written in place. -/
def MkAt (base : Nat) (w : World) (u : Value) (ys : List Cat) : Prop :=
  (u = .slice none 0 0 ∧ ys = []) ∨ ∃ g n cap tl, u = .slice (some ⟨g, 0, none⟩) n cap ∧ Hid (ys.length = n) ∧ n ≤ cap ∧ cap ≤ 9223372036854775807 ∧ base ≤ g ∧ CB w g ys tl

theorem MkAt.csl {base : Nat} {w : World} {u : Value} {ys : List Cat} (h : MkAt base w u ys) : CSl (fun b => base ≤ b) w u ys := by
  rcases h with ⟨rfl, rfl⟩ | ⟨g, n, cap, tl, rfl, hn, hc, hm, hb, hcb⟩
  · exact csl_nil _ _
  · have hn := hn.out
    subst hn
    refine ⟨_, cap, rfl, ⟨hc, hm⟩, fun h => by simp at h, fun i c hi => ⟨g, 0, rfl, hb, ?_⟩⟩
    rw [Nat.zero_add]
    refine cell_blk hcb ?_
    rw [List.getElem?_toArray, List.getElem?_append_left ((List.getElem?_eq_some_iff.1 hi).1)]
    exact hi

theorem mk_of_owns {base : Nat} {w : World} {u : Value} {ys : List Cat} (h : w.ownsRow base 33 2 u ys.length (ccells ys)) : MkAt base w u ys := by
  rcases h.2 with ⟨h1, h2⟩ | ⟨g, cap, cur, hv, hb, hg, hnc, hcm, hcs, ht⟩
  · exact .inl ⟨h1, List.eq_nil_of_length_eq_zero h2⟩
  · refine .inr ⟨g, ys.length, cap, cur.toList.drop (ys.length * 2), hv, rfl, hnc, hcm, hb, ?_⟩
    unfold CB
    rw [← ht, List.take_append_drop]
    exact hg

theorem MkAt.keep {base : Nat} {w w' : World} {u : Value} {ys : List Cat} (h : MkAt base w u ys) (hf : Nw w w') : MkAt base w' u ys := by
  rcases h with h | ⟨g, n, cap, tl, h1, h2, h3, h4, h5, h6⟩
  · exact .inl h
  · exact .inr ⟨g, n, cap, tl, h1, h2, h3, h4, h5, h6.nw hf⟩

theorem c_sortM {base : Nat} {u : Value} {xs : List Cat} (w : World) (h : MkAt base w u xs) (hbig : xs.length ≤ 1152921504606846976) :
    Calls Try.prog 42 #[u, mk1V] w fun e w' => e = .returned (.tuple #[]) ∧ ∃ ys, MkAt base w' u ys ∧ Stab xs ys ∧ Fr (fun k => base ≤ k) w w' := by
  rcases h with ⟨rfl, rfl⟩ | ⟨g, n, cap, tl, rfl, h2, h3, h4, h5, h6⟩
  · refine (c_sortS0 w).mono ?_
    rintro e w' ⟨rfl, rfl⟩
    exact ⟨rfl, [], .inl ⟨rfl, rfl⟩, ⟨rfl, fun i j _ h => by simp at h, fun _ => rfl⟩, Fr.refl _ _⟩
  · refine (c_sortS cap n w h6 h2 h3 h4 (by rw [← h2.out]; exact hbig)).mono ?_
    rintro e w' ⟨rfl, ys, q1, q2, q3⟩
    exact ⟨rfl, ys, .inr ⟨g, n, cap, tl, rfl, q2.1.trans h2.out, h3, h4, h5, q1⟩, q2, q3.mono (fun k hk => by subst hk; exact h5)⟩

theorem c_compact0 (w : World) : Calls Try.prog 45 #[.slice none 0 0, mk2V] w fun e w' => e = .returned (.slice none 0 0) ∧ w = w' := by
  go_enter Try.func45, Try.ntmps45
  go_wp2
  go_ret
  exact ⟨rfl, rfl⟩

theorem c_compactM {base : Nat} {u : Value} {xs : List Cat} (w : World) (h : MkAt base w u xs) :
    Calls Try.prog 45 #[u, mk2V] w fun e w' => ∃ u', e = .returned u' ∧ MkAt base w' u' (ddT xs xs.length) ∧ Fr (fun k => base ≤ k) w w' := by
  rcases h with ⟨rfl, rfl⟩ | ⟨g, n, cap, tl, rfl, h2, h3, h4, h5, h6⟩
  · refine (c_compact0 w).mono ?_
    rintro e w' ⟨rfl, rfl⟩
    exact ⟨_, rfl, .inl ⟨rfl, rfl⟩, Fr.refl _ _⟩
  · refine (c_compact cap n w h6 h2 h3 h4).mono ?_
    rintro e w' ⟨k, tl', rfl, q1, q2, q3, q4⟩
    rw [h2.out]
    exact ⟨_, rfl, .inr ⟨g, k, cap, tl', rfl, q2, by omega, h4, h5, q1⟩, q4.mono (fun k hk => by subst hk; exact h5)⟩

theorem c_index0 (p : Nat) (w : World) : Calls Try.prog 57 #[.slice none 0 0, mk3V p] w fun e w' => e = .returned (.int .i64 (-1)) ∧ w = w' := by
  go_enter Try.func57, Try.ntmps57
  go_wp2
  go_loopw [8] (fun i wr => i = .int .i64 0 ∧ w = wr) (fun _ _ => 0)
  case atStart => exact ⟨rfl, rfl⟩
  case round =>
    obtain ⟨rfl, rfl⟩ := hrel
    go_wp2
    go_ret
    exact ⟨rfl, rfl⟩

theorem c_delete0 (p : Nat) (w : World) : Calls Try.prog 47 #[.slice none 0 0, mk3V p] w fun e w' => e = .returned (.slice none 0 0) ∧ w = w' := by
  go_enter Try.func47, Try.ntmps47
  go_wp2_with (go_at_call 57; refine Calls.mono (c_index0 p _) ?_; rintro e w2 ⟨rfl, rfl⟩)
  go_ret
  exact ⟨rfl, rfl⟩

theorem c_deleteM {base p : Nat} {u : Value} {xs : List Cat} (d : Int) (w : World) (h : MkAt base w u xs) (hd : w.heap[p]? = some (.cells #[.int .i64 d] 3 (0, 0))) (hp : p < base) :
    Calls Try.prog 47 #[u, mk3V p] w fun e w' => ∃ u', e = .returned u' ∧ MkAt base w' u' (xs.filter (keepC d)) ∧ Fr (fun k => base ≤ k) w w' := by
  rcases h with ⟨rfl, rfl⟩ | ⟨g, n, cap, tl, rfl, h2, h3, h4, h5, h6⟩
  · refine (c_delete0 p w).mono ?_
    rintro e w' ⟨rfl, rfl⟩
    exact ⟨_, rfl, .inl ⟨rfl, rfl⟩, Fr.refl _ _⟩
  · refine (c_delete d cap n w h6 h2 h3 h4 hd (by omega)).mono ?_
    rintro e w' ⟨k, tl', rfl, q1, q2, q3, q4⟩
    exact ⟨_, rfl, .inr ⟨g, k, cap, tl', rfl, q2, by omega, h4, h5, q1⟩, q4.mono (fun k hk => by subst hk; exact h5)⟩

theorem nw_alloc {a w : World} (h : Nw a w) (o : Obj) : Nw a (w.alloc o) := Fr.alloc h o

set_option maxHeartbeats 1600000 in
theorem c_clone {X : Nat → Prop} {v : Value} {ks : List Cat} (w : World) (h : CSl X w v ks) (hl : ks.length ≤ 8796093022208) :
    Calls Try.prog 41 #[v] w fun e w' => ∃ u, e = .returned u ∧ MkAt w.heap.size w' u ks ∧ Nw w w' := by
  obtain ⟨i0, hj, hj0, hj1, hj2⟩ := info_parts3 Try.infoC
  have hsl := h.sl
  obtain ⟨ao, cap, rfl, ⟨hc, hm⟩, hn, hcs⟩ := h
  have hq : ∀ (w : World) (a : Option Addr) (n c n' c' : Nat), (binOp .eql 22 (.slice a n c) (.slice none n' c')).run Try.prog w = .ok (.bool a.isNone) w := fun w a n c n' c' => Lib.run_eql_slice_nil w _ _ a n c n' c' Try.underlying22
  cases ao with
  | none =>
    have h0 := hn rfl
    subst h0
    have hk0 : ks = [] := List.eq_nil_of_length_eq_zero (by omega)
    subst hk0
    go_enter Try.func41, Try.ntmps41
    go_wp2
    go_ret
    exact ⟨_, rfl, .inl ⟨rfl, rfl⟩, nw_refl w⟩
  | some ad =>
    have hrA : (w.alloc (.cells #[] 33)).ownsRow w.heap.size 33 2 (.slice (some ⟨w.heap.size, 0, none⟩) 0 0) 0 [] := ⟨rfl, .inr ⟨w.heap.size, 0, #[], rfl, Nat.le_refl _, heap_alloc_new w _, Nat.le_refl _, Nat.zero_le _, rfl, rfl⟩⟩
    have hslA : Sl w.heap.size (w.alloc (.cells #[] 33)) (.slice (some ad) ks.length cap) ks.length (ccells ks) := hsl.keep ((Below.refl _ w).alloc (Nat.le_refl _) _)
    have hkl : (ccells ks).length = ks.length * 2 := ccells_length ks
    have hone := ccells_oneCell ks
    have hmk : Hid (∀ (u : Value) (w' : World), w'.ownsRow w.heap.size 33 2 u ks.length (ccells ks) → MkAt w.heap.size w' u ks) := fun u w' h => mk_of_owns h
    clear hsl hcs hn
    generalize ccells ks = cs at *
    generalize ks.length = n at *
    go_enter Try.func41, Try.ntmps41
    go_upto_region 3 with fail
    go_wp2_with (first | (refine wpList_buildSlice0 rfl 22 33 rfl Try.underlying22 (by kernel_rfl) ?_) | (at_builtin; refine wpList_append_sl _ rfl _ _ 22 rfl w.heap.size 33 i0 _ 2 16 Try.underlying22 hj hj0 hj1 hj2 rfl (by decide) _ _ _ rfl hrA _ _ _ _ rfl hslA hkl hone ?d2 ?d3 ?d4 ?_))
    case d2 => unfold maxLen; omega
    case d3 => omega
    case d4 => simp
    intro v9 w9 hown9 hgrow9 hat9
    have hf : Nw w w9 := Fr.grown (nw_alloc (nw_refl w) _) hgrow9 (fun q hq => .inr (hrA.lt q hq).1)
    obtain ⟨ao9, cap9, rfl⟩ := owns_form hown9
    clear hgrow9 hat9 hrA hslA
    go_wp2
    go_ret
    exact ⟨_, rfl, hmk.out _ _ hown9, hf⟩
end Go.Proofs.Ytimgelekpghklaa
