/-
  Trees in memory: nodes, their lists. It names no function of the program.
-/
import Derived.Test.YtnljfhjindenpabRows
import Derived.Test.YtnljfhjindenpabTreePlainAll
import Derived.Test.YtnljfhjindenpabLibFr
import Derived.Test.YtnljfhjindenpabLibAgg
import Derived.Test.YtnljfhjindenpabLibGrow
namespace Go.Proofs.Ytnljfhjindenpab
set_option linter.unusedVariables false
set_option linter.unusedSimpArgs false
set_option maxRecDepth 20000
open Go.RowKit

theorem info_parts3 {P : Program} {t : TypeId} {z : Value} {s b : Nat} (h : (P.info? t).map (fun i => (i.zero, i.size, i.bytes)) = some (some z, s, b)) : ∃ i, P.info? t = some i ∧ i.zero = some z ∧ i.size = s ∧ i.bytes = b := by
  cases hq : P.info? t with
  | none => rw [hq] at h; cases h
  | some i => rw [hq] at h; exact ⟨i, rfl, by simpa using h⟩

theorem Try.infoK : (Try.prog.info? 27).map (fun i => (i.zero, i.size, i.bytes)) = some (some (.int .u64 0), 1, 8) := by kernel_rfl
theorem Try.infoE : (Try.prog.info? 58).map (fun i => (i.zero, i.size, i.bytes)) = some (some (.agg #[.int .i64 0, .int .i64 0]), 2, 16) := by kernel_rfl
theorem Try.infoP : (Try.prog.info? 78).map (fun i => (i.zero, i.size, i.bytes)) = some (some (.pointer none), 1, 8) := by kernel_rfl

theorem nw_trans {a b c : World} (h : Nw a b) (k : Nw b c) : Nw a c := Fr.trans h k (fun _ => False.elim)
theorem nw_refl (a : World) : Nw a a := Fr.refl _ a
theorem nw_alloc {a b : World} (h : Nw a b) (o : Obj) : Nw a (b.alloc o) := Fr.alloc h o
theorem nw_drew {a b : World} (h : Nw a b) : Nw a b.drew := Fr.drew h
theorem Nw.blk {w w' : World} (h : Nw w w') {k : Nat} {o : Obj} (hk : w.heap[k]? = some o) : w'.heap[k]? = some o := (h.block k (heap_lt hk) id).trans hk
theorem Nw.cell {w w' : World} (h : Nw w w') {b off : Nat} {v : Value} (hk : w.cell? ⟨b, off, none⟩ = some v) : w'.cell? ⟨b, off, none⟩ = some v := by
  rw [World.cell?_of_block (w := w) (h.block b (World.block_lt_of_cell? w _ hk) id)]; exact hk

/-- The slice v has n elements, whose cells are cs. -/
def Hs (w : World) (v : Value) (n : Nat) (cs : List Value) : Prop := Sl w.heap.size w v n cs

theorem Hs.nw {w w' : World} {v : Value} {n : Nat} {cs : List Value} (h : Hs w v n cs) (hw : Nw w w') : Hs w' v n cs := by
  obtain ⟨ao, cap, hv, hc, hn, hcs⟩ := h
  refine ⟨ao, cap, hv, hc, hn, fun i c hi => ?_⟩
  obtain ⟨b, off, ha, hbk, hcell⟩ := hcs i c hi
  exact ⟨b, off, ha, Nat.lt_of_lt_of_le hbk hw.size, hw.cell hcell⟩

theorem Hs.drew {w : World} {v : Value} {n : Nat} {cs : List Value} (h : Hs w v n cs) : Hs w.drew v n cs := h

theorem Hs.form {w : World} {v : Value} {n : Nat} {cs : List Value} (h : Hs w v n cs) : ∃ ao cap, v = .slice ao n cap ∧ n ≤ cap ∧ cap ≤ 9223372036854775807 := by
  obtain ⟨ao, cap, rfl, ⟨h1, h2⟩, _⟩ := h
  exact ⟨ao, cap, rfl, h1, h2⟩

theorem Hs.nil (w : World) : Hs w (.slice none 0 0) 0 [] := Sl.nil _ _

theorem Hs.get {w : World} {ao : Option Addr} {n m cap : Nat} {cs : List Value} (h : Hs w (.slice ao m cap) n cs) {i : Nat} {c : Value} (hi : cs[i]? = some c) : ∃ b off, ao = some ⟨b, off, none⟩ ∧ w.cell? ⟨b, off + i, none⟩ = some c := by
  obtain ⟨ao', cap', hv, _, _, hcs⟩ := h
  simp only [Value.slice.injEq] at hv
  obtain ⟨rfl, _, rfl⟩ := hv
  obtain ⟨b, off, h1, _, h3⟩ := hcs i c hi
  exact ⟨b, off, h1, h3⟩

theorem Hs.cut {w : World} {ao : Option Addr} {n cap : Nat} {cs : List Value} (h : Hs w (.slice ao n cap) n cs) (s l r : Nat) (hs : 0 < s) (hl : cs.length = n * s) (hlr : l ≤ r) (hrn : r ≤ n) :
    Hs w (sliced ao l r cap s) (r - l) ((cs.drop (l * s)).take ((r - l) * s)) := Sl.cut h s l r hs hl hlr hrn

theorem hs_of_owns {w : World} {base e size n : Nat} {v : Value} {xs : List Value} (h : w.ownsRow base e size v n xs) : Hs w v n xs := sl_of_owns h

/-- A list that was just laid. -/
theorem hs_lit (w : World) (cs : Array Value) (t n : Nat) (hn : n ≤ 1000000000) : Hs (w.alloc (.cells cs t)) (.slice (some ⟨w.heap.size, 0, none⟩) n n) n cs.toList := by
  have := sl_lit w cs t n hn
  unfold Hs
  rw [show (w.alloc (.cells cs t)).heap.size = w.heap.size + 1 by simp]
  exact this

/-! ### Keys, extents, kids as cells -/
def kcell (k : Int) : Value := .int .u64 k
def ecell (e : Ext) : List Value := [.int .i64 e.1, .int .i64 e.2]
def ecells (es : List Ext) : List Value := es.flatMap ecell
def pcell (b : Nat) : Value := .pointer (some ⟨b, 0, none⟩)
def ext (e : Ext) : Value := .agg #[.int .i64 e.1, .int .i64 e.2]

theorem ecells_nil : ecells [] = [] := rfl
theorem ecells_append (a b : List Ext) : ecells (a ++ b) = ecells a ++ ecells b := by simp [ecells]
theorem ecells_one (e : Ext) : ecells [e] = ecell e := by simp [ecells]
theorem ecells_length (es : List Ext) : (ecells es).length = es.length * 2 := by
  induction es with
  | nil => rfl
  | cons e es ih => rw [ecells, List.flatMap_cons, List.length_append, ← ecells, ih]; simp [ecell]; omega

theorem ecells_take (es : List Ext) (i : Nat) : (ecells es).take (i * 2) = ecells (es.take i) := by
  induction es generalizing i with
  | nil => simp [ecells]
  | cons e es ih =>
    cases i with
    | zero => simp [ecells]
    | succ i =>
      have h1 : ecells (e :: es) = ecell e ++ ecells es := by simp [ecells]
      have h2 : ecells ((e :: es).take (i + 1)) = ecell e ++ ecells (es.take i) := by simp [ecells]
      rw [h1, h2, List.take_append, List.take_of_length_le (by simp [ecell]; omega), show (i + 1) * 2 - (ecell e).length = i * 2 by simp [ecell]; omega, ih]

theorem ecells_drop (es : List Ext) (i : Nat) : (ecells es).drop (i * 2) = ecells (es.drop i) := by
  induction es generalizing i with
  | nil => simp [ecells]
  | cons e es ih =>
    cases i with
    | zero => simp [ecells]
    | succ i =>
      have h1 : ecells (e :: es) = ecell e ++ ecells es := by simp [ecells]
      rw [h1, List.drop_append, List.drop_eq_nil_of_le (by simp [ecell]; omega), show (i + 1) * 2 - (ecell e).length = i * 2 by simp [ecell]; omega, ih]
      simp

theorem ecells_get (es : List Ext) (i : Nat) (h : i < es.length) : (ecells es)[i * 2]? = some (.int .i64 es[i].1) ∧ (ecells es)[i * 2 + 1]? = some (.int .i64 es[i].2) := by
  have e1 : ecells (es.drop i) = ecell es[i] ++ ecells (es.drop (i + 1)) := by
    rw [List.drop_eq_getElem_cons h, ecells, List.flatMap_cons, ← ecells]
  have e2 := ecells_drop es i
  rw [e1] at e2
  constructor
  · have := congrArg (·[0]?) e2
    simpa [ecell] using this
  · have := congrArg (·[1]?) e2
    simpa [ecell] using this

theorem kcell_oneCell (ks : List Int) : ∀ u ∈ ks.map kcell, u.oneCell' = true := by
  intro u hu
  obtain ⟨k, _, rfl⟩ := List.mem_map.1 hu
  rfl
theorem pcell_oneCell (bs : List Nat) : ∀ u ∈ bs.map pcell, u.oneCell' = true := by
  intro u hu
  obtain ⟨k, _, rfl⟩ := List.mem_map.1 hu
  rfl
theorem ecells_oneCell (es : List Ext) : ∀ u ∈ ecells es, u.oneCell' = true := by
  intro u hu
  obtain ⟨e, _, hu⟩ := List.mem_flatMap.1 hu
  simp [ecell] at hu
  rcases hu with rfl | rfl <;> rfl

/-- Keys, extents and kids that a slice holds. -/
def Ks (w : World) (v : Value) (ks : List Int) : Prop := Hs w v ks.length (ks.map kcell)
def Vs (w : World) (v : Value) (es : List Ext) : Prop := Hs w v es.length (ecells es)
def Ps (w : World) (v : Value) (bs : List Nat) : Prop := Hs w v bs.length (bs.map pcell)

/-! ### Nodes -/
section
variable {α : Type} (N : α → Nat → Prop)
def Kids : List α → List Nat → Prop
  | [], [] => True
  | c :: cs, b :: bs => N c b ∧ Kids cs bs
  | _, _ => False
variable {N}

theorem kids_length : ∀ {cs : List α} {bs : List Nat}, Kids N cs bs → bs.length = cs.length
  | [], [], _ => rfl
  | c :: cs, b :: bs, h => by simp [kids_length h.2]
  | [], _ :: _, h => h.elim
  | _ :: _, [], h => h.elim

theorem kids_append : ∀ {cs cs' : List α} {bs bs' : List Nat}, Kids N cs bs → Kids N cs' bs' → Kids N (cs ++ cs') (bs ++ bs')
  | [], cs', [], bs', _, h => h
  | c :: cs, cs', b :: bs, bs', h, h' => ⟨h.1, kids_append h.2 h'⟩

theorem kids_take : ∀ {cs : List α} {bs : List Nat} (i : Nat), Kids N cs bs → Kids N (cs.take i) (bs.take i)
  | [], [], i, _ => by simp [Kids]
  | c :: cs, b :: bs, 0, h => trivial
  | c :: cs, b :: bs, i + 1, h => ⟨h.1, kids_take i h.2⟩

theorem kids_drop : ∀ {cs : List α} {bs : List Nat} (i : Nat), Kids N cs bs → Kids N (cs.drop i) (bs.drop i)
  | [], [], i, _ => by simp [Kids]
  | c :: cs, b :: bs, 0, h => h
  | c :: cs, b :: bs, i + 1, h => kids_drop i h.2

theorem kids_get : ∀ {cs : List α} {bs : List Nat} (i : Nat), Kids N cs bs → ∀ {c : α}, cs[i]? = some c → ∃ b, bs[i]? = some b ∧ N c b
  | c0 :: cs, b :: bs, 0, h, c, hc => by
    have : c0 = c := by simpa using hc
    subst this
    exact ⟨b, rfl, h.1⟩
  | c0 :: cs, b :: bs, i + 1, h, c, hc => by
    obtain ⟨b', h1, h2⟩ := kids_get i h.2 (show cs[i]? = some c by simpa using hc)
    exact ⟨b', by simpa using h1, h2⟩
  | [], _, i, h, c, hc => by simp at hc

theorem kids_mono {N' : α → Nat → Prop} (hN : ∀ c b, N c b → N' c b) : ∀ {cs : List α} {bs : List Nat}, Kids N cs bs → Kids N' cs bs
  | [], [], _ => trivial
  | c :: cs, b :: bs, h => ⟨hN _ _ h.1, kids_mono hN h.2⟩
end

/-- A node's block. -/
def Nd (w : World) (b : Nat) (kv vv sv : Value) : Prop := w.heap[b]? = some (.cells #[kv, vv, sv] 95 (0, 0))

def NAt (w : World) : (n : Nat) → Tr n → Nat → Prop
  | 0, t, b => ∃ kv vv sv, Nd w b kv vv sv ∧ Ks w kv (t.map (·.1)) ∧ Vs w vv (t.map (·.2)) ∧ Hs w sv 0 []
  | n + 1, t, b => ∃ kv vv sv bs, Nd w b kv vv sv ∧ Ks w kv t.1 ∧ Hs w vv 0 [] ∧ Ps w sv bs ∧ Kids (NAt w n) t.2 bs

theorem NAt.nw {w w' : World} (hw : Nw w w') : ∀ {n : Nat} {t : Tr n} {b : Nat}, NAt w n t b → NAt w' n t b
  | 0, t, b, ⟨kv, vv, sv, h1, h2, h3, h4⟩ => ⟨kv, vv, sv, hw.blk h1, Hs.nw h2 hw, Hs.nw h3 hw, h4.nw hw⟩
  | n + 1, t, b, ⟨kv, vv, sv, bs, h1, h2, h3, h4, h5⟩ => ⟨kv, vv, sv, bs, hw.blk h1, Hs.nw h2 hw, h3.nw hw, Hs.nw h4 hw, kids_mono (fun c b h => NAt.nw hw h) h5⟩

theorem Kids.nw {w w' : World} {n : Nat} {cs : List (Tr n)} {bs : List Nat} (h : Kids (NAt w n) cs bs) (hw : Nw w w') : Kids (NAt w' n) cs bs := kids_mono (fun _ _ h => NAt.nw hw h) h

/-- What is the same of all nodes: the keys. -/
theorem NAt.keys {w : World} : ∀ {n : Nat} {t : Tr n} {b : Nat}, NAt w n t b → ∃ kv vv sv, Nd w b kv vv sv ∧ Ks w kv (keysOf n t)
  | 0, t, b, ⟨kv, vv, sv, h1, h2, _⟩ => ⟨kv, vv, sv, h1, h2⟩
  | n + 1, t, b, ⟨kv, vv, sv, bs, h1, h2, _⟩ => ⟨kv, vv, sv, h1, h2⟩

theorem Nd.c0 {w : World} {b : Nat} {kv vv sv : Value} (h : Nd w b kv vv sv) : w.cell? ⟨b, 0, none⟩ = some kv := cell_blk h rfl
theorem Nd.c1 {w : World} {b : Nat} {kv vv sv : Value} (h : Nd w b kv vv sv) : w.cell? ⟨b, 1, none⟩ = some vv := cell_blk h rfl
theorem Nd.c2 {w : World} {b : Nat} {kv vv sv : Value} (h : Nd w b kv vv sv) : w.cell? ⟨b, 2, none⟩ = some sv := cell_blk h rfl

theorem Ks.get {w : World} {ao : Option Addr} {n cap : Nat} {ks : List Int} (h : Ks w (.slice ao n cap) ks) {i : Nat} (hi : i < ks.length) : ∃ b off, ao = some ⟨b, off, none⟩ ∧ w.cell? ⟨b, off + i, none⟩ = some (.int .u64 ks[i]) :=
  Hs.get h (c := kcell ks[i]) (by simp [hi])
theorem Ps.get {w : World} {ao : Option Addr} {n cap : Nat} {bs : List Nat} (h : Ps w (.slice ao n cap) bs) {i b' : Nat} (hi : bs[i]? = some b') : ∃ b off, ao = some ⟨b, off, none⟩ ∧ w.cell? ⟨b, off + i, none⟩ = some (.pointer (some ⟨b', 0, none⟩)) :=
  Hs.get h (c := pcell b') (by simp [hi])
theorem Vs.get {w : World} {ao : Option Addr} {n cap : Nat} {es : List Ext} (h : Vs w (.slice ao n cap) es) {i : Nat} (hi : i < es.length) :
    ∃ b off, ao = some ⟨b, off, none⟩ ∧ w.cell? ⟨b, off + i * 2, none⟩ = some (.int .i64 es[i].1) ∧ w.cell? ⟨b, off + i * 2 + 1, none⟩ = some (.int .i64 es[i].2) := by
  obtain ⟨h1, h2⟩ := ecells_get es i hi
  obtain ⟨b, off, e1, c1⟩ := Hs.get h h1
  obtain ⟨b', off', e2, c2⟩ := Hs.get h h2
  rw [e1] at e2
  simp only [Option.some.injEq, Addr.mk.injEq, and_true] at e2
  obtain ⟨rfl, rfl⟩ := e2
  exact ⟨b, off, e1, c1, by rw [Nat.add_assoc]; exact c2⟩

theorem Ks.cut {w : World} {ao : Option Addr} {n cap : Nat} {ks : List Int} (h : Ks w (.slice ao n cap) ks) (l r : Nat) (hlr : l ≤ r) (hrn : r ≤ ks.length) : Ks w (sliced ao l r cap 1) ((ks.drop l).take (r - l)) := by
  have hn : n = ks.length := by obtain ⟨_, _, hv, _⟩ := h; simp only [Value.slice.injEq] at hv; exact hv.2.1
  subst hn
  have := Hs.cut h 1 l r (by decide) (by simp) hlr hrn
  unfold Ks
  rw [show ((ks.drop l).take (r - l)).length = r - l by simp; omega]
  simpa [List.map_take, List.map_drop] using this
theorem Ps.cut {w : World} {ao : Option Addr} {n cap : Nat} {ks : List Nat} (h : Ps w (.slice ao n cap) ks) (l r : Nat) (hlr : l ≤ r) (hrn : r ≤ ks.length) : Ps w (sliced ao l r cap 1) ((ks.drop l).take (r - l)) := by
  have hn : n = ks.length := by obtain ⟨_, _, hv, _⟩ := h; simp only [Value.slice.injEq] at hv; exact hv.2.1
  subst hn
  have := Hs.cut h 1 l r (by decide) (by simp) hlr hrn
  unfold Ps
  rw [show ((ks.drop l).take (r - l)).length = r - l by simp; omega]
  simpa [List.map_take, List.map_drop] using this
theorem Vs.cut {w : World} {ao : Option Addr} {n cap : Nat} {es : List Ext} (h : Vs w (.slice ao n cap) es) (l r : Nat) (hlr : l ≤ r) (hrn : r ≤ es.length) : Vs w (sliced ao l r cap 2) ((es.drop l).take (r - l)) := by
  have hn : n = es.length := by obtain ⟨_, _, hv, _⟩ := h; simp only [Value.slice.injEq] at hv; exact hv.2.1
  subst hn
  have := Hs.cut h 2 l r (by decide) (by rw [ecells_length]) hlr hrn
  unfold Vs
  rw [show ((es.drop l).take (r - l)).length = r - l by simp; omega]
  rwa [ecells_drop, ecells_take] at this

/-- In what rises a key stands ahead of others just if there are so few below. -/
theorem lo_iff {ks : List Int} (h : Rise ks) (k : Int) {i : Nat} (hi : i < ks.length) : ks[i] < k ↔ i < lo ks k := by
  obtain ⟨h1, h2⟩ := split_at (fun x => decide (x < k)) (fun x y hxy hy => by simp at hy ⊢; omega) ks h
  constructor
  · intro hk
    rcases Nat.lt_or_ge i (lo ks k) with h3 | h3
    · exact h3
    · have : ks[i] ∈ ks.drop (ks.countP (fun x => decide (x < k))) := by
        rw [List.mem_drop_iff_getElem]
        refine ⟨i - lo ks k, by unfold lo at *; omega, ?_⟩
        congr 1
        unfold lo at *
        omega
      rw [h2] at this
      have := (List.mem_filter.1 this).2
      simp at this
      omega
  · intro h3
    have : ks[i] ∈ ks.take (ks.countP (fun x => decide (x < k))) := List.mem_take_iff_getElem.2 ⟨i, by unfold lo at h3; omega, rfl⟩
    rw [h1] at this
    simpa using (List.mem_filter.1 this).2

/-- Is the key there? -/
theorem hi_found {ks : List Int} (h : Rise ks) (k : Int) : hi ks k = lo ks k + if ks[lo ks k]? = some k then 1 else 0 := by
  have e : hi ks k = lo ks k + ks.count k := by
    clear h
    unfold hi lo
    induction ks with
    | nil => rfl
    | cons x ks ih =>
      simp only [List.countP_cons, List.count_cons]
      rw [ih]
      by_cases h1 : x < k
      · have h2 : x ≤ k := by omega
        have h3 : (x == k) = false := by simp; omega
        simp [h1, h2, h3]; omega
      · by_cases h2 : x = k
        · subst h2; simp; omega
        · have h3 : ¬ x ≤ k := by omega
          have h4 : (x == k) = false := by simpa using h2
          simp [h1, h3, h4]
  have e' := e
  rw [e]
  congr 1
  by_cases hk : ks[lo ks k]? = some k
  · rw [if_pos hk]
    have h1 := List.count_pos_iff.2 (List.mem_of_getElem? hk)
    have h2 := hi_lo ks k h
    omega
  · rw [if_neg hk]
    refine List.count_eq_zero.2 (fun hm => hk ?_)
    obtain ⟨i, hi, hik⟩ := List.mem_iff_getElem.1 hm
    have h1 : ¬ i < lo ks k := fun h2 => by have := (lo_iff h k hi).2 h2; omega
    rcases Nat.lt_or_ge (lo ks k) ks.length with h2 | h2
    · have h3 : ¬ ks[lo ks k] < k := fun h4 => by have := (lo_iff h k h2).1 h4; omega
      rw [List.getElem?_eq_getElem h2]
      congr 1
      rcases Nat.lt_or_ge (lo ks k) i with h5 | h5
      · have := List.pairwise_iff_getElem.1 h _ _ h2 hi h5
        omega
      · have : lo ks k = i := by omega
        simp only [this, hik]
    · omega
end Go.Proofs.Ytnljfhjindenpab
