/-
  Package tree: list, Nodes.
-/
import Derived.Test.YtnljfhjindenpabTreeW14
namespace Go.Proofs.Ytnljfhjindenpab
set_option linter.unusedVariables false
set_option linter.unusedSimpArgs false
set_option maxRecDepth 20000
open Go.RowKit

/-- What the first j kids tell, the first of them at a number: their numbers, and the nodes. -/
def kidsG (g : Nat → Nat → List Nv) : Nat → Nat → List Int × List Nv
  | 0, _ => ([], [])
  | j + 1, k => ((kidsG g j k).1 ++ [((k + (kidsG g j k).2.length : Nat) : Int)], (kidsG g j k).2 ++ g j (k + (kidsG g j k).2.length))

def nodesT : (n : Nat) → Tr n → Nat → List Nv
  | 0, t, _ => [(t.map (·.1), t.map (·.2), [])]
  | n + 1, t, k => (t.1, [], (kidsG (fun j k => nodesT n (t.2.getD j (dflt n)) k) t.2.length (k + 1)).1) :: (kidsG (fun j k => nodesT n (t.2.getD j (dflt n)) k) t.2.length (k + 1)).2

theorem kidsG_len (g : Nat → Nat → List Nv) : ∀ j k, (kidsG g j k).1.length = j
  | 0, _ => rfl
  | j + 1, k => by simp [kidsG, kidsG_len g j k]

theorem kidsG_mono (g : Nat → Nat → List Nv) (k : Nat) : ∀ {j j' : Nat}, j ≤ j' → (kidsG g j k).2.length ≤ (kidsG g j' k).2.length := by
  intro j j' h
  induction h with
  | refl => exact Nat.le_refl _
  | step _ ih => simp only [kidsG, List.length_append]; omega

theorem slp_of_own {w : World} {base e size n : Nat} {v : Value} {xs : List Value} (h : w.ownsRow base e size v n xs) {X : Nat → Prop} (hX : ∀ b, v.ownBlock = some b → base ≤ b → X b) : Slp X w v n xs := by
  obtain ⟨ao, cap, hv, hc, hn, hcs⟩ := slp_of_owns h
  refine ⟨ao, cap, hv, hc, hn, fun i c hi => ?_⟩
  obtain ⟨b, off, h1, h2, h3⟩ := hcs i c hi
  exact ⟨b, off, h1, hX b h2 (h.lt b h2).1, h3⟩

/-- Rows of unlike elements are apart. -/
theorem rows_apart {w : World} {b1 b2 e1 e2 s1 s2 n1 n2 : Nat} {v1 v2 : Value} {x1 x2 : List Value} (h1 : w.ownsRow b1 e1 s1 v1 n1 x1) (h2 : w.ownsRow b2 e2 s2 v2 n2 x2) (he : e1 ≠ e2) : ∀ k, v1.ownBlock = some k → v2.ownBlock ≠ some k := by
  intro k hk1 hk2
  rcases h1.2 with ⟨rfl, _⟩ | ⟨g, cap, cur, rfl, hb, hg, _⟩
  · simp [Value.ownBlock] at hk1
  · rcases h2.2 with ⟨rfl, _⟩ | ⟨g', cap', cur', rfl, hb', hg', _⟩
    · simp [Value.ownBlock] at hk2
    · simp [Value.ownBlock] at hk1 hk2
      subst hk1
      subst hk2
      rw [hg] at hg'
      simp at hg'
      exact he hg'.2

theorem Lst.form {W : World} {A : Nat → Prop} {w : World} {v : Value} {nds : List Nv} (h : Lst W A w v nds) : ∃ ao cap, v = .slice ao nds.length cap := by
  obtain ⟨xs, h1, h2⟩ := h.ex
  obtain ⟨ao, cap, rfl⟩ := owns_form h1
  exact ⟨ao, cap, by rw [h2.length]⟩

/-- Where the loop over the kids stands. -/
structure LI (W w : World) (A : Nat → Prop) (v : Value) (nds : List Nv) (nd : Nv) (g : Nat → Nat → List Nv) (j : Nat) (l kk : Value) (wr : World) : Prop where
  lst : Lst W (fun k => A k ∨ kk.ownBlock = some k) wr l (nds ++ nd :: (kidsG g j (nds.length + 1)).2)
  row : wr.ownsRow w.heap.size 3 1 kk j ((kidsG g j (nds.length + 1)).1.map icell)
  fr : Fr (fun k => v.ownBlock = some k) w wr
  ow : ∀ k, l.ownBlock = some k → v.ownBlock = some k ∨ w.heap.size ≤ k

theorem LI.start {W w wr : World} {A : Nat → Prop} {v l : Value} {nds : List Nv} {nd : Nv} {g : Nat → Nat → List Nv} (h : Lst W A wr l (nds ++ [nd])) (hf : Fr (fun k => v.ownBlock = some k) w wr) (ho : ∀ k, l.ownBlock = some k → v.ownBlock = some k ∨ w.heap.size ≤ k) : LI W w A v nds nd g 0 l (.slice none 0 0) wr :=
  ⟨h.fr (Fr.refl (fun _ => False) wr) (fun _ h => h.elim) (fun k hk => by
    rcases hk with hk | hk
    · exact .inl hk
    · simp [Value.ownBlock] at hk), World.ownsRow_nil _ _ _ _, hf, ho⟩

/-- One number more among the kids. -/
theorem LI.num {W w wr w8 : World} {A : Nat → Prop} {v l kk kk' : Value} {nds : List Nv} {nd : Nv} {g : Nat → Nat → List Nv} {j : Nat} (h : LI W w A v nds nd g j l kk wr) (o : Obj) (hWw : W.heap.size ≤ w.heap.size) (hg : (wr.alloc o).grownBy w8 kk.ownBlock) (hk : kk'.ownBlock = kk.ownBlock ∨ kk'.ownBlock = some (wr.heap.size + 1))
    (hr : w8.ownsRow w.heap.size 3 1 kk' (j + 1) ((kidsG g j (nds.length + 1)).1.map icell ++ [.int .i64 (((nds ++ nd :: (kidsG g j (nds.length + 1)).2).length : Nat) : Int)])) :
    Lst W (fun k => A k ∨ kk'.ownBlock = some k) w8 l (nds ++ nd :: (kidsG g j (nds.length + 1)).2) ∧ w8.ownsRow w.heap.size 3 1 kk' (j + 1) ((kidsG g (j + 1) (nds.length + 1)).1.map icell) ∧ Fr (fun k => v.ownBlock = some k) w w8 := by
  have hf : Fr (fun k => kk.ownBlock = some k) wr w8 := ((Fr.refl (fun k => kk.ownBlock = some k) wr).alloc o).grown hg (fun k hk => .inl hk)
  refine ⟨h.lst.fr hf (fun k hk' => ⟨Nat.le_trans hWw (h.row.lt k hk').1, .inr hk'⟩) (fun k hk' => ?_), ?_, Fr.trans h.fr hf (fun k hk' => .inr (h.row.lt k hk').1)⟩
  · rcases hk' with hk' | hk'
    · exact .inl (.inl hk')
    · rcases hk with h1 | h1
      · exact .inl (.inr (h1 ▸ hk'))
      · right
        rw [h1] at hk'
        simp at hk'
        omega
  · rw [kidsG]
    simp only [List.map_append, List.map_cons, List.map_nil]
    have e : ((nds ++ nd :: (kidsG g j (nds.length + 1)).2).length : Nat) = nds.length + 1 + (kidsG g j (nds.length + 1)).2.length := by simp; omega
    rw [e] at hr
    exact hr

/-- A kid's nodes behind. -/
theorem LI.next {W w w8 w2 : World} {A : Nat → Prop} {v l l2 kk' : Value} {nds : List Nv} {nd : Nv} {g : Nat → Nat → List Nv} {j : Nat} (hl : Lst W (fun k => A k ∨ kk'.ownBlock = some k) w8 l (nds ++ nd :: (kidsG g j (nds.length + 1)).2)) (hr : w8.ownsRow w.heap.size 3 1 kk' (j + 1) ((kidsG g (j + 1) (nds.length + 1)).1.map icell))
    (hf : Fr (fun k => v.ownBlock = some k) w w8) (ho : ∀ k, l.ownBlock = some k → v.ownBlock = some k ∨ w.heap.size ≤ k)
    (hl2 : Lst W (fun k => A k ∨ kk'.ownBlock = some k) w2 l2 ((nds ++ nd :: (kidsG g j (nds.length + 1)).2) ++ g j (nds ++ nd :: (kidsG g j (nds.length + 1)).2).length)) (hf2 : Fr (fun k => l.ownBlock = some k) w8 w2) (ho2 : ∀ k, l2.ownBlock = some k → l.ownBlock = some k ∨ w8.heap.size ≤ k) : LI W w A v nds nd g (j + 1) l2 kk' w2 := by
  have e : (nds ++ nd :: (kidsG g j (nds.length + 1)).2).length = nds.length + 1 + (kidsG g j (nds.length + 1)).2.length := by simp; omega
  refine ⟨?_, ?_, ?_, ?_⟩
  · rw [kidsG]
    rw [e] at hl2
    simpa using hl2
  · exact owns_of_block hr (fun k hk => hf2.block k (hr.lt k hk).2 (fun h1 => hl.av k h1 (.inr hk)))
  · exact Fr.trans hf hf2 (fun k hk => by rcases ho k hk with h1 | h1; exact .inl h1; exact .inr h1)
  · intro k hk
    rcases ho2 k hk with h1 | h1
    · exact ho k h1
    · exact .inr (Nat.le_trans hf.size h1)

theorem set_mid {α : Type} (a : List α) (x y : α) (b : List α) : (a ++ x :: b).set a.length y = a ++ y :: b := by
  rw [List.set_append_right _ _ (Nat.le_refl _), Nat.sub_self]
  rfl

/-- All kids: they are written. -/
theorem LI.fin {W w wr : World} {A : Nat → Prop} {v l kk : Value} {nds : List Nv} {ks : List Int} {es : List Ext} {g : Nat → Nat → List Nv} {j : Nat} (h : LI W w A v nds (ks, es, []) g j l kk wr) (hA : ∀ k, A k → k < w.heap.size) (hWw : W.heap.size ≤ w.heap.size) :
    ∃ q cap old, l = .slice (some ⟨q, 0, none⟩) (nds ++ (ks, es, []) :: (kidsG g j (nds.length + 1)).2).length cap ∧ (nds ++ (ks, es, []) :: (kidsG g j (nds.length + 1)).2).length ≤ cap ∧ cap ≤ 9223372036854775807 ∧ nds.length < (nds ++ (ks, es, []) :: (kidsG g j (nds.length + 1)).2).length ∧ wr.cell? ⟨q, nds.length * 3 + 2, none⟩ = some old ∧ wr.frozen? ⟨q, nds.length * 3 + 2, none⟩ = false ∧ (∃ ao n c, old = .slice ao n c) ∧
      Lst W A (wr.setCell ⟨q, nds.length * 3 + 2, none⟩ kk) l (nds ++ (ks, es, (kidsG g j (nds.length + 1)).1) :: (kidsG g j (nds.length + 1)).2) ∧ Fr (fun k => v.ownBlock = some k) w (wr.setCell ⟨q, nds.length * 3 + 2, none⟩ kk) := by
  have hl : Lst W A wr l (nds ++ (ks, es, []) :: (kidsG g j (nds.length + 1)).2) := h.lst.fr (Fr.refl (fun _ => False) wr) (fun _ h => h.elim) (fun k hk => .inl (.inl hk))
  obtain ⟨xs, h1, h2⟩ := hl.ex
  have hu : Slp (fun b => l.ownBlock ≠ some b ∧ ¬ A b) wr kk (kidsG g j (nds.length + 1)).1.length ((kidsG g j (nds.length + 1)).1.map icell) := by
    rw [kidsG_len]
    refine slp_of_own h.row (fun b hb hbb => ⟨rows_apart h.row h1 (by decide) b hb, fun hAb => ?_⟩)
    have := hA b hAb
    omega
  obtain ⟨q, cap, old, e1, e2, e3, e4, e5, e6, e7, e8, e9⟩ := hl.kids (i := nds.length) (nd := (ks, es, [])) (by simp) hu
  rw [set_mid] at e8
  exact ⟨q, cap, old, e1, e2, e3, e4, e5, e6, e7, e8, Fr.trans h.fr e9 (fun k hk => by rcases h.ow k hk with h1 | h1; exact .inl h1; exact .inr h1)⟩

set_option maxHeartbeats 6400000 in
theorem c_listG {W : World} {A : Nat → Prop} {b : Nat} {kv vv sv : Value} {ks : List Int} {es : List Ext} {bs : List Nat} (g : Nat → Nat → List Nv) {v : Value} {nds : List Nv} (w : World)
    (hd : Nd W b kv vv sv) (hk : Ks W kv ks) (he : Vs W vv es) (hs : Ps W sv bs) (hkl : ks.length ≤ 1000) (hel : es.length ≤ 1000) (hbl : bs.length ≤ 1000) (hA : ∀ k, A k → k < w.heap.size) (hL : Lst W A w v nds)
    (hsz : nds.length + 1 + (kidsG g bs.length (nds.length + 1)).2.length ≤ 1000000)
    (ih : ∀ j q, bs[j]? = some q → ∀ (A' : Nat → Prop) w' v' nds', (∀ k, A' k → k < w'.heap.size) → Lst W A' w' v' nds' → nds'.length + (g j nds'.length).length ≤ 1000000 → Calls Try.prog 44 #[.pointer (some ⟨q, 0, none⟩), v'] w' fun e w2 => ∃ v2, e = .returned v2 ∧ Lst W A' w2 v2 (nds' ++ g j nds'.length) ∧ Fr (fun k => v'.ownBlock = some k) w' w2 ∧ ∀ k, v2.ownBlock = some k → v'.ownBlock = some k ∨ w'.heap.size ≤ k) :
    Calls Try.prog 44 #[.pointer (some ⟨b, 0, none⟩), v] w fun e w2 => ∃ v2, e = .returned v2 ∧ Lst W A w2 v2 (nds ++ (ks, es, (kidsG g bs.length (nds.length + 1)).1) :: (kidsG g bs.length (nds.length + 1)).2) ∧ Fr (fun k => v.ownBlock = some k) w w2 ∧ ∀ k, v2.ownBlock = some k → v.ownBlock = some k ∨ w.heap.size ≤ k := by
  obtain ⟨i0, hj, hj0, hj1, hj2⟩ := info_parts3 Try.infoN
  obtain ⟨i1, hi, hi0, hi1, hi2⟩ := info_parts3 Try.infoI
  obtain ⟨xs, hr, hc⟩ := hL.ex
  have hxl := hc.length
  obtain ⟨ak, ck, rfl, hk1, hk2⟩ := Hs.form hk
  obtain ⟨ae, ce, rfl, he1, he2⟩ := Hs.form he
  obtain ⟨ap, cp, rfl, hp1, hp2⟩ := Hs.form hs
  have c0 : Hid (W.cell? ⟨b, 0, none⟩ = some (.slice ak ks.length ck)) := hd.c0
  have c1 : Hid (W.cell? ⟨b, 1, none⟩ = some (.slice ae es.length ce)) := hd.c1
  have c2 : Hid (W.cell? ⟨b, 2, none⟩ = some (.slice ap bs.length cp)) := hd.c2
  obtain ⟨ao, cap, rfl⟩ := owns_form hr
  have hcK : Hid (∀ w', Nw w w' → Calls Try.prog 71 #[.slice ak ks.length ck] w' fun e w2 => ∃ u, e = .returned u ∧ w2.ownsRow w'.heap.size 27 1 u ks.length (ks.map kcell) ∧ Nw w' w2) := fun w' hw => c_cloneK w' (Hs.nw hk (nw_trans hL.nw hw)) (by omega)
  have hcE : Hid (∀ w', Nw w w' → Calls Try.prog 72 #[.slice ae es.length ce] w' fun e w2 => ∃ u, e = .returned u ∧ w2.ownsRow w'.heap.size 58 2 u es.length (ecells es) ∧ Nw w' w2) := fun w' hw => c_cloneE w' (Hs.nw he (nw_trans hL.nw hw)) (by omega)
  replace hs : Hid (Ps W (.slice ap bs.length cp) bs) := hs
  have hWw := hL.nw.size
  have hnw := hL.nw
  replace hL : Hid (Lst W A w (.slice ao xs.length cap) nds) := hL
  replace hr : Hid (w.ownsRow W.heap.size 92 3 (.slice ao xs.length cap) xs.length (tcells xs)) := hr
  replace hc : Hid (Cts (fun b => (Value.slice ao xs.length cap).ownBlock ≠ some b ∧ ¬ A b) w xs nds) := hc
  replace ih : Hid _ := ih
  have hxb : xs.length ≤ 1000000 := by omega
  replace hxl : Hid (xs.length = nds.length) := hxl
  have hK8 : Hid (nds.length + 1 + (kidsG g bs.length (nds.length + 1)).2.length ≤ 1000000) := hsz
  clear hd hk he hsz
  replace hA : Hid (∀ k, A k → k < w.heap.size) := hA
  go_enter Try.func44, Try.ntmps44
  go_wp2
  have hSof : Hid (∀ w', Nw W w' → (fun w' : World => Nw W w' ∧ w'.cell? ⟨b, 0, none⟩ = some (.slice ak ks.length ck) ∧ w'.cell? ⟨b, 1, none⟩ = some (.slice ae es.length ce)) w') := fun w' hw => ⟨hw, hw.cell c0.out, hw.cell c1.out⟩
  have hS := hSof.out _ (nw_drew hnw)
  refine wp_region_ord [] 14 [(0, true), (1, true), (2, true), (3, true), (4, true), (6, true), (7, true), (8, true), (9, true), (5, false), (10, false), (11, true), (12, false), (13, false)] (fun w' : World => Nw W w' ∧ w'.cell? ⟨b, 0, none⟩ = some (.slice ak ks.length ck) ∧ w'.cell? ⟨b, 1, none⟩ = some (.slice ae es.length ce)) (by kernel_rfl) (by kernel_rfl) ?_
  refine ord_quietL _ ?_ rfl hS rfl ?_ ?_
  rotate_left
  · rintro w' ⟨hS1, hS2, hS3⟩; go_simp; first | rfl | (rw [if_pos (by omega)]; done) | (rw [if_pos (by omega)]; rfl) | (rw [if_pos (by omega)]; go_simp; rfl)
  simp only [Act.put, List.setIfInBounds_toArray, List.set_cons_zero, List.set_cons_succ]
  refine ord_quietL _ ?_ rfl hS rfl ?_ ?_
  rotate_left
  · rintro w' ⟨hS1, hS2, hS3⟩; go_simp; first | rfl | (rw [if_pos (by omega)]; done) | (rw [if_pos (by omega)]; rfl) | (rw [if_pos (by omega)]; go_simp; rfl)
  simp only [Act.put, List.setIfInBounds_toArray, List.set_cons_zero, List.set_cons_succ]
  refine ord_quietL _ ?_ rfl hS rfl ?_ ?_
  rotate_left
  · rintro w' ⟨hS1, hS2, hS3⟩; go_simp; first | rfl | (rw [if_pos (by omega)]; done) | (rw [if_pos (by omega)]; rfl) | (rw [if_pos (by omega)]; go_simp; rfl)
  simp only [Act.put, List.setIfInBounds_toArray, List.set_cons_zero, List.set_cons_succ]
  refine ord_quietL _ ?_ rfl hS rfl ?_ ?_
  rotate_left
  · rintro w' ⟨hS1, hS2, hS3⟩; go_simp; first | rfl | (rw [if_pos (by omega)]; done) | (rw [if_pos (by omega)]; rfl) | (rw [if_pos (by omega)]; go_simp; rfl)
  simp only [Act.put, List.setIfInBounds_toArray, List.set_cons_zero, List.set_cons_succ]
  refine ord_quietL _ ?_ rfl hS rfl ?_ ?_
  rotate_left
  · rintro w' ⟨hS1, hS2, hS3⟩; go_simp; first | rfl | (rw [if_pos (by omega)]; done) | (rw [if_pos (by omega)]; rfl) | (rw [if_pos (by omega)]; go_simp; rfl)
  simp only [Act.put, List.setIfInBounds_toArray, List.set_cons_zero, List.set_cons_succ]
  refine ord_quietL _ ?_ rfl hS rfl ?_ ?_
  rotate_left
  · rintro w' ⟨hS1, hS2, hS3⟩; go_simp; first | rfl | (rw [if_pos (by omega)]; done) | (rw [if_pos (by omega)]; rfl) | (rw [if_pos (by omega)]; go_simp; rfl)
  simp only [Act.put, List.setIfInBounds_toArray, List.set_cons_zero, List.set_cons_succ]
  refine ord_quietL _ ?_ rfl hS rfl ?_ ?_
  rotate_left
  · rintro w' ⟨hS1, hS2, hS3⟩; go_simp; first | rfl | (rw [if_pos (by omega)]; done) | (rw [if_pos (by omega)]; rfl) | (rw [if_pos (by omega)]; go_simp; rfl)
  simp only [Act.put, List.setIfInBounds_toArray, List.set_cons_zero, List.set_cons_succ]
  refine ord_quietL _ ?_ rfl hS rfl ?_ ?_
  rotate_left
  · rintro w' ⟨hS1, hS2, hS3⟩; go_simp; first | rfl | (rw [if_pos (by omega)]; done) | (rw [if_pos (by omega)]; rfl) | (rw [if_pos (by omega)]; go_simp; rfl)
  simp only [Act.put, List.setIfInBounds_toArray, List.set_cons_zero, List.set_cons_succ]
  refine ord_quietL _ ?_ rfl hS rfl ?_ ?_
  rotate_left
  · rintro w' ⟨hS1, hS2, hS3⟩; go_simp; first | rfl | (rw [if_pos (by omega)]; done) | (rw [if_pos (by omega)]; rfl) | (rw [if_pos (by omega)]; go_simp; rfl)
  simp only [Act.put, List.setIfInBounds_toArray, List.set_cons_zero, List.set_cons_succ]
  refine ord_actL _ rfl (fun K1 hK1 => ?_)
  go_wp2_with (go_at_call 71; refine (hcK.out _ (nw_drew (nw_refl w))).mono ?_; rintro e W1 ⟨u1, rfl, hu1, hn1⟩; refine stop_here ?_)
  unfold Hid
  obtain ⟨a1, d1, rfl⟩ := owns_form hu1
  have hW1 : Nw w W1 := nw_trans (nw_drew (nw_refl w)) hn1
  replace hu1 : Hid (W1.ownsRow w.heap.size 27 1 (.slice a1 ks.length d1) ks.length (ks.map kcell)) := hu1
  go_wp2
  refine hK1 _ _ (hSof.out _ (nw_trans hnw hW1)) ?_
  clear hK1 K1 hS hn1
  refine ord_actL _ rfl (fun K1 hK1 => ?_)
  go_wp2_with (go_at_call 72; refine (hcE.out _ hW1).mono ?_; rintro e W2 ⟨u2, rfl, hu2, hn2⟩; refine stop_here ?_)
  unfold Hid
  obtain ⟨a2, d2, rfl⟩ := owns_form hu2
  have hW2 : Nw w W2 := nw_trans hW1 hn2
  replace hu2 : Hid (W2.ownsRow W1.heap.size 58 2 (.slice a2 es.length d2) es.length (ecells es)) := hu2
  go_wp2
  refine hK1 _ _ (hSof.out _ (nw_trans hnw hW2)) ?_
  clear hK1 K1
  have hS := hSof.out _ (nw_trans hnw hW2)
  refine ord_quietL _ ?_ rfl hS rfl ?_ ?_
  rotate_left
  · rintro w' ⟨hS1, hS2, hS3⟩; go_simp; first | rfl | (rw [if_pos (by omega)]; done) | (rw [if_pos (by omega)]; rfl) | (rw [if_pos (by omega)]; go_simp; rfl)
  simp only [Act.put, List.setIfInBounds_toArray, List.set_cons_zero, List.set_cons_succ]
  refine ord_actL _ rfl (fun K1 hK1 => ?_)
  go_wp2
  have hW3 : Nw W2 (W2.alloc (.cells #[.slice a1 ks.length d1, .slice a2 es.length d2, .slice none 0 0] 92)) := nw_alloc (nw_refl W2) _
  refine hK1 _ _ (hSof.out _ (nw_trans hnw (nw_trans hW2 hW3))) ?_
  clear hK1 K1 hS
  have hct : Ct (fun b => (Value.slice ao xs.length cap).ownBlock ≠ some b ∧ ¬ A b) W2 (.slice a1 ks.length d1, .slice a2 es.length d2, .slice none 0 0) (ks, es, []) := by
    have hX : ∀ b, w.heap.size ≤ b → (Value.slice ao xs.length cap).ownBlock ≠ some b ∧ ¬ A b := fun b hb => ⟨fun h1 => by have := (hr.out.lt b h1).2; omega, fun h1 => by have := hA.out b h1; omega⟩
    refine ⟨?_, ?_, slp_nil _ _⟩
    · refine (slp_of_own hu1.out (X := fun b => w.heap.size ≤ b) (fun b _ hb => hb)).stay (fun b hb hlt => ⟨hX b hb, hn2.block b hlt id⟩)
    · exact slp_of_own hu2.out (fun b _ hb => hX b (Nat.le_trans hW1.size hb))
  have hL2 := hL.out.nw' hW2
  have hr2 : W2.ownsRow W.heap.size 92 3 (.slice ao xs.length cap) xs.length (tcells xs) := owns_of_block hr.out (fun k hk => hW2.block k (hr.out.lt k hk).2 id)
  have hc2 : Cts (fun b => (Value.slice ao xs.length cap).ownBlock ≠ some b ∧ ¬ A b) W2 xs nds := hc.out.stay (fun b hb hlt => ⟨hb, hW2.block b hlt id⟩)
  have hadd : Hid (∀ w9 v9, (W2.alloc (.cells #[.slice a1 ks.length d1, .slice a2 es.length d2, .slice none 0 0] 92)).grownBy w9 (Value.ownBlock (.slice ao xs.length cap)) → (v9.ownBlock = Value.ownBlock (.slice ao xs.length cap) ∨ v9.ownBlock = some (W2.heap.size + 1)) → w9.ownsRow W.heap.size 92 3 v9 (xs.length + 1) (tcells xs ++ tcell (.slice a1 ks.length d1, .slice a2 es.length d2, .slice none 0 0)) → LI W w A (.slice ao xs.length cap) nds (ks, es, []) g 0 v9 (.slice none 0 0) w9 ∧ Nw W w9) := by
    intro w9 v9 hg hv hr'
    obtain ⟨f1, f2, f3⟩ := Lst.add (fun k hk => Nat.lt_of_lt_of_le (hA.out k hk) hW2.size) hL2.nw hL2.av hr2 hc2 hct hW3 hg (by simpa using hv) hr'
    have f4 : Fr (fun k => (Value.slice ao xs.length cap).ownBlock = some k) w w9 := Fr.trans (Fr.mono hW2 (fun _ h => h.elim)) f2 (fun k hk => .inl hk)
    exact ⟨LI.start f1 f4 (fun k hk => by rcases f3 k hk with h1 | h1; exact .inl h1; exact .inr (Nat.le_trans hW2.size h1)), f1.nw⟩
  unfold tcell at hadd
  have hrA := hr2.alloc (.cells #[.slice a1 ks.length d1, .slice a2 es.length d2, .slice none 0 0] 92)
  have hsz3 : W.heap.size ≤ W2.heap.size + 1 := by have := hW2.size; omega
  clear hct hL2 hr2 hc2 hu1 hu2 hn2 hcK hcE hr hc hL
  generalize tcells xs = tc at *
  refine ord_actL _ rfl (fun K1 hK1 => ?_)
  go_wp2_with (at_builtin; refine wpList_append_sl _ rfl _ _ 46 rfl W.heap.size 92 i0 _ 3 72 Try.underlying46 hj hj0 hj1 hj2 rfl (by decide) _ _ _ rfl hrA _ _ 1 _ rfl (sl_lit W2 _ 92 1 (by omega)) rfl ?d1 ?d2 ?d3 ?d4 ?_)
  case d1 => first | (intro u hu; simp at hu; rcases hu with rfl | rfl | rfl <;> rfl) | simp [Value.oneCell']
  case d2 => unfold maxLen; omega
  case d3 => omega
  intro v9 w9 hown9 hgrow9 hat9
  obtain ⟨hI, hn9⟩ := hadd.out w9 v9 hgrow9 hat9 hown9
  obtain ⟨ao9, cap9, rfl⟩ := owns_form hown9
  clear hadd hown9 hgrow9 hat9 hrA hW3
  go_wp2
  refine hK1 _ _ (hSof.out _ hn9) ?_
  clear hK1 K1 hSof
  refine ord_tail ?_
  simp only [List.drop_succ_cons, List.drop_zero]
  have f2 : w9.cell? ⟨b, 2, none⟩ = some (.slice ap bs.length cp) := hn9.cell c2.out
  go_wp2
  have hI : Hid (LI W w A (.slice ao xs.length cap) nds (ks, es, []) g 0 (.slice ao9 (xs.length + 1) cap9) (.slice none 0 0) w9) := hI
  clear f2 hn9 hW1 hW2 c0 c1 c2
  go_loopw [1, 6, 30] (fun l kk i wr => ∃ j : Nat, j ≤ bs.length ∧ i = .int .i64 j ∧ LI W w A (.slice ao xs.length cap) nds (ks, es, []) g j l kk wr) (fun _ _ i _ => bs.length - (intOf i).toNat)
  case atStart => exact ⟨0, Nat.zero_le _, rfl, hI.out⟩
  case round =>
    clear hI
    obtain ⟨j, hj1, rfl, hI⟩ := hrel
    by_cases hlt : j < bs.length
    · obtain ⟨sb, so, rfl, k0⟩ := Ps.get hs.out (i := j) (b' := bs[j]) (List.getElem?_eq_getElem hlt)
      have k1 := hI.lst.nw.cell k0
      obtain ⟨al, cl, rfl⟩ := hI.lst.form
      have hrow := hI.row
      obtain ⟨akk, ckk, rfl⟩ := owns_form hrow
      have hmono := kidsG_mono g (nds.length + 1) (show j + 1 ≤ bs.length by omega)
      have hbnd : nds.length + 1 + (kidsG g (j + 1) (nds.length + 1)).2.length ≤ 1000000 := by have := hK8.out; omega
      have hlen : (nds ++ (ks, es, []) :: (kidsG g j (nds.length + 1)).2).length = nds.length + 1 + (kidsG g j (nds.length + 1)).2.length := by simp; omega
      have hgl : (nds ++ (ks, es, []) :: (kidsG g j (nds.length + 1)).2).length + (g j (nds ++ (ks, es, []) :: (kidsG g j (nds.length + 1)).2).length).length ≤ 1000000 := by
        rw [kidsG] at hbnd
        simp only [List.length_append] at hbnd
        rw [hlen]
        omega
      have hrA := hrow.alloc (.cells #[.int .i64 (((nds ++ (ks, es, []) :: (kidsG g j (nds.length + 1)).2).length : Nat) : Int)] 3)
      have hsz4 : w.heap.size ≤ wr.heap.size := hI.fr.size
      have hln : (nds ++ (ks, es, []) :: (kidsG g j (nds.length + 1)).2).length ≤ 1000000 := by omega
      have hstep : Hid (∀ w8 kk', (wr.alloc (.cells #[.int .i64 (((nds ++ (ks, es, []) :: (kidsG g j (nds.length + 1)).2).length : Nat) : Int)] 3)).grownBy w8 (Value.ownBlock (.slice akk j ckk)) → (kk'.ownBlock = Value.ownBlock (.slice akk j ckk) ∨ kk'.ownBlock = some (wr.heap.size + 1)) →
          w8.ownsRow w.heap.size 3 1 kk' (j + 1) ((kidsG g j (nds.length + 1)).1.map icell ++ [.int .i64 (((nds ++ (ks, es, []) :: (kidsG g j (nds.length + 1)).2).length : Nat) : Int)]) →
          Calls Try.prog 44 #[.pointer (some ⟨bs[j], 0, none⟩), .slice al (nds ++ (ks, es, []) :: (kidsG g j (nds.length + 1)).2).length cl] w8 fun e w2 => ∃ l2, e = .returned l2 ∧ LI W w A (.slice ao xs.length cap) nds (ks, es, []) g (j + 1) l2 kk' w2) := by
        intro w8 kk' hg hk hr
        obtain ⟨n1, n2, n3⟩ := hI.num _ hWw hg hk hr
        refine (ih.out j bs[j] (List.getElem?_eq_getElem hlt) _ w8 _ _ (fun k hk' => ?_) n1 hgl).mono ?_
        · rcases hk' with hk' | hk'
          · exact Nat.lt_of_lt_of_le (hA.out k hk') n3.size
          · exact (n2.lt k hk').2
        · rintro e w2 ⟨v2, rfl, h4, h5, h6⟩
          exact ⟨v2, rfl, LI.next n1 n2 n3 hI.ow h4 h5 h6⟩
      clear hlen hmono hbnd k0 hgl hI hrow
      generalize (nds ++ (ks, es, []) :: (kidsG g j (nds.length + 1)).2).length = N at *
      generalize hq : bs[j] = q at *
      clear hq
      generalize ((kidsG g j (nds.length + 1)).1.map icell) = nums at *
      go_wp2_with (at_builtin; refine wpList_append_sl _ rfl _ _ 90 rfl w.heap.size 3 i1 _ 1 8 Try.underlying90 hi hi0 hi1 hi2 rfl (by decide) _ _ _ rfl hrA _ _ 1 _ rfl (sl_lit wr _ 3 1 (by omega)) rfl ?c1 ?c2 ?c3 ?c4 ?_)
      case c1 => first | (intro u hu; simp at hu; subst hu; rfl) | simp [Value.oneCell']
      case c2 => unfold maxLen; omega
      case c3 => omega
      case c4 => first | omega | (simp; omega)
      intro v8 w8 hown8 hgrow8 hat8
      have hcall : Hid (Calls Try.prog 44 #[.pointer (some ⟨q, 0, none⟩), .slice al N cl] w8 fun e w2 => ∃ l2, e = .returned l2 ∧ LI W w A (.slice ao xs.length cap) nds (ks, es, []) g (j + 1) l2 v8 w2) := hstep.out w8 v8 hgrow8 (by simpa using hat8) hown8
      obtain ⟨ao8, cap8, rfl⟩ := owns_form hown8
      clear hstep hown8 hgrow8 hat8 hrA
      go_wp2_with (go_at_call 44; refine hcall.out.mono ?_; rintro e w2 ⟨l2, rfl, hI2⟩; refine stop_here ?_)
      unfold Hid
      obtain ⟨al2, cl2, rfl⟩ := hI2.lst.form
      replace hI2 : Hid (LI W w A (.slice ao xs.length cap) nds (ks, es, []) g (j + 1) (.slice al2 (nds ++ (ks, es, []) :: (kidsG g (j + 1) (nds.length + 1)).2).length cl2) (.slice ao8 (j + 1) cap8) w2) := hI2
      clear k1
      go_wp2
      go_roundw
      case rel => exact ⟨j + 1, by omega, by go_num, hI2.out⟩
      case measure => simp [intOf]; omega
    · have hjl : j = bs.length := by omega
      subst hjl
      obtain ⟨akk, ckk, rfl⟩ := owns_form hI.row
      have how := hI.ow
      obtain ⟨q, cap5, old, rfl, e2, e3, e4, e5, e6, ⟨ao5, n5, c5, rfl⟩, e8, e9⟩ := hI.fin hA.out hWw
      have hlen : (nds ++ (ks, es, []) :: (kidsG g bs.length (nds.length + 1)).2).length ≤ 1000000 := by have := hK8.out; simp; omega
      replace e8 : Hid _ := e8
      replace e9 : Hid _ := e9
      replace how : Hid _ := how
      have hxn : (xs.length : Int) = (nds.length : Int) := by have := hxl.out; omega
      clear hI
      generalize (nds ++ (ks, es, []) :: (kidsG g bs.length (nds.length + 1)).2).length = N at *
      go_wp2
      go_ret
      exact ⟨_, rfl, e8.out, e9.out, how.out⟩
end Go.Proofs.Ytnljfhjindenpab
