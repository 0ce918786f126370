/-
  LibMem, LibFr, LibAgg, LibLex, LibOrd, LibGrow, LibNd, LibSlc: in one text.
-/
import Derived.WalkKit
import Derived.WalkSpells
import Derived.WalkLawsBesides
import Derived.Laws.AppendOwnNone
import Derived.Maps.AppendAt
import Derived.Deep.MidRow
import Derived.Laws.CopyOwn
import Derived.Laws.ResultCell
import Derived.Great.BuildSlice
import Derived.Laws.OwnMore
import Derived.Laws.MakeOwn
import Derived.StillTail
import Derived.OrdersHeld
import Derived.Test.YtgmfofngmfekbaaChecked
import Derived.Deep.Slices
import Derived.ProofKit
import Derived.OpenShut
import Derived.SizedLaws
import Derived.Test.YtgmfofngmfekbaaRows
namespace Go.Proofs.Ytgmfofngmfekbaa
set_option linter.unusedVariables false
set_option linter.unusedSimpArgs false
set_option maxRecDepth 20000
open Go.RowKit

/-- The walk stands still behind it. -/
theorem stop_here {p : Prop} (h : Hid p) : p := h

/-- A byte as a cell. -/
def bv (x : UInt8) : Value := .int .u8 (x.toNat : Int)

/-- The slice value v has n elements, and its cells are cs, in a block below K. -/
def Sl (K : Nat) (w : World) (v : Value) (n : Nat) (cs : List Value) : Prop :=
  ∃ ao cap, v = .slice ao n cap ∧ (n ≤ cap ∧ cap ≤ maxLen) ∧ (ao = none → cap = 0) ∧
    ∀ i c, cs[i]? = some c → ∃ b off, ao = some ⟨b, off, none⟩ ∧ b < K ∧ w.cell? ⟨b, off + i, none⟩ = some c

theorem Sl.keep {K n : Nat} {w w' : World} {v : Value} {cs : List Value} (h : Sl K w v n cs) (hb : Below K w w') : Sl K w' v n cs := by
  obtain ⟨ao, cap, hv, hc, hn, hcs⟩ := h
  refine ⟨ao, cap, hv, hc, hn, fun i c hi => ?_⟩
  obtain ⟨b, off, ha, hbk, hcell⟩ := hcs i c hi
  exact ⟨b, off, ha, hbk, by rw [hb.cell (p := ⟨b, off + i, none⟩) hbk]; exact hcell⟩

theorem Sl.mono {K K' n : Nat} {w : World} {v : Value} {cs : List Value} (h : Sl K w v n cs) (hk : K ≤ K') : Sl K' w v n cs := by
  obtain ⟨ao, cap, hv, hc, hn, hcs⟩ := h
  refine ⟨ao, cap, hv, hc, hn, fun i c hi => ?_⟩
  obtain ⟨b, off, ha, hbk, hcell⟩ := hcs i c hi
  exact ⟨b, off, ha, Nat.lt_of_lt_of_le hbk hk, hcell⟩

theorem Sl.nil (K : Nat) (w : World) : Sl K w (.slice none 0 0) 0 [] := ⟨none, 0, rfl, ⟨Nat.le_refl _, Nat.zero_le _⟩, fun _ => rfl, fun i c h => by simp at h⟩

theorem add_plain (b o n : Nat) : (⟨b, o, none⟩ : Addr).add n = ⟨b, o + n, none⟩ := by
  unfold Addr.add; split <;> simp_all

theorem Sl.cut {K n : Nat} {w : World} {ao : Option Addr} {cap : Nat} {cs : List Value} (h : Sl K w (.slice ao n cap) n cs) (s l r : Nat) (_hs : 0 < s) (hl : cs.length = n * s) (hlr : l ≤ r) (hrn : r ≤ n) :
    Sl K w (sliced ao l r cap s) (r - l) ((cs.drop (l * s)).take ((r - l) * s)) := by
  obtain ⟨ao', cap', hv, hc, hn, hcs⟩ := h
  simp only [Value.slice.injEq, true_and] at hv
  obtain ⟨rfl, rfl⟩ := hv
  refine ⟨if cap = l then ao else ao.map (·.add (l * s)), cap - l, rfl, by omega, ?_, ?_⟩
  · intro h0
    split at h0
    · omega
    · have : ao = none := by simpa using h0
      have := hn this
      omega
  · intro i c hi
    rw [List.getElem?_take] at hi
    split at hi
    · rename_i hlt
      rw [List.getElem?_drop] at hi
      obtain ⟨b, off, ha, hbk, hcell⟩ := hcs _ _ hi
      have hne : ¬ cap = l := by
        intro e
        have : r - l = 0 := by omega
        rw [this] at hlt
        simp at hlt
      refine ⟨b, off + l * s, ?_, hbk, by rw [Nat.add_assoc]; exact hcell⟩
      rw [if_neg hne, ha]
      simp [add_plain]
    · cases hi

theorem sl_of_owns {w : World} {base e size n : Nat} {v : Value} {xs : List Value} (h : w.ownsRow base e size v n xs) : Sl w.heap.size w v n xs := by
  obtain ⟨h1, h2⟩ := h
  rcases h2 with ⟨rfl, rfl⟩ | ⟨g, cap, cur, rfl, hb, hg, hn, hm, hs, ht⟩
  · have : xs = [] := List.eq_nil_of_length_eq_zero (by simpa using h1)
    subst this
    exact Sl.nil _ _
  · refine ⟨_, cap, rfl, ⟨hn, hm⟩, fun h => by simp at h, fun i c hi => ⟨g, 0, rfl, (Array.getElem?_eq_some_iff.1 hg).1, ?_⟩⟩
    rw [Nat.zero_add, cell_of_row w g i cur e (0, 0) hg]
    rw [← ht, List.getElem?_take] at hi
    split at hi
    · simpa using hi
    · cases hi

theorem sl_lit (w : World) (cs : Array Value) (t n : Nat) (hn : n ≤ 1000000000) : Sl (w.heap.size + 1) (w.alloc (.cells cs t)) (.slice (some ⟨w.heap.size, 0, none⟩) n n) n cs.toList := by
  refine ⟨_, n, rfl, ⟨Nat.le_refl _, by unfold maxLen; omega⟩, fun h => by simp at h, fun i c hi => ⟨w.heap.size, 0, rfl, Nat.lt_succ_self _, ?_⟩⟩
  rw [Nat.zero_add, cell_of_row _ w.heap.size i cs t (0, 0) (heap_alloc_new w _)]
  simpa using hi

theorem bv_oneCell (xs : List UInt8) : ∀ u ∈ xs.map bv, u.oneCell' = true := by
  intro u hu
  obtain ⟨x, _, rfl⟩ := List.mem_map.1 hu
  rfl

/-- An append of what any slice holds, onto an owned row. -/
theorem wpList_append_sl {P : Program} (w : World) {ops : Array Oper} {rest : List Oper} {o : Oper} {a : Act} {Q : Exit → Act → World → Prop} (hgd : o.guard = none) (s x : Operand) (t : TypeId)
    (ho : o.op = .call { callee := .builtin .append, args := #[s, x], argTypes := #[t, t] })
    (base : Nat) (e : TypeId) (i : TypeInfo) (z : Value) (size bytes : Nat) (ht : P.underlying t = some (.slice e)) (hi : P.info? e = some i) (hz : i.zero = some z)
    (hsize : i.size = size) (hby : i.bytes = bytes) (hzs : z.cells.size = size) (hsz : 0 < size)
    (v : Value) (n : Nat) (xs : List Value) (hs : a.eval s = v) (hown : w.ownsRow base e size v n xs)
    (K : Nat) (u : Value) (m : Nat) (news : List Value) (hx : a.eval x = u) (hsl : Sl K w u m news) (hl : news.length = m * size) (h1 : ∀ u ∈ news, u.oneCell' = true)
    (h63 : n + m ≤ maxLen) (hbytes : (n + m) * bytes ≤ 140737488355328) (hbase : base ≤ w.heap.size)
    (h : ∀ v' w', w'.ownsRow base e size v' (n + m) (xs ++ news) → w.grownBy w' v.ownBlock → (v'.ownBlock = v.ownBlock ∨ v'.ownBlock = some w.heap.size) → wpList P ops Q rest (a.put o.dst v') w') : wpList P ops Q (o :: rest) a w := by
  obtain ⟨ao, cap, rfl, hc, hn, hcs⟩ := hsl
  cases ao with
  | none =>
    have hc0 := hn rfl
    subst hc0
    have hm : m = 0 := by omega
    subst hm
    have hnews : news = [] := List.eq_nil_of_length_eq_zero (by simpa using hl)
    subst hnews
    refine wpList_append_own_none hgd s x t ho base e i size ht hi v n xs hs hown hx ?_
    exact h v w (by simpa using hown) (World.grownBy.refl _ _) (Or.inl rfl)
  | some ad =>
    refine wpList_plain hgd fun K' hK => ?_
    have hnews : ∀ j u, news[j]? = some u → w.cell? (ad.add j) = some u := by
      intro j u hj
      obtain ⟨b, off, ha, _, hcell⟩ := hcs j u hj
      obtain rfl := Option.some.inj ha
      rw [add_plain]
      exact hcell
    obtain ⟨v', w', hr, h2, h3, _, h5⟩ := run_append_own_at (P := P) w base t o.type e i z size bytes ht hi hz hsize hby hzs hsz v n xs hown ad m cap news hl hnews h1 h63 hbytes hbase
    unfold Oper.wp execOp
    simp only [ho, resolve, invoke, builtin, Sem.run_bind, Sem.run_pure, Result.andThen_ok, List.map_toArray, List.map_cons, List.map_nil, hs, hx, hr]
    exact hK _ _ (h v' w' h2 h3 h5)

/-- A conversion of bytes to a string. -/
theorem run_string_sl {P : Program} (src e dst : TypeId) (hs : P.underlying src = some (.slice e)) (he : P.underlying e = some (.int .u8)) (hd : P.underlying dst = some .string)
    {K : Nat} {w : World} {v : Value} {xs : List UInt8} (h : Sl K w v xs.length (xs.map bv)) :
    (convert src dst v).run P w = .ok (.string ⟨xs.toArray⟩) w := by
  obtain ⟨ao, cap, rfl, hc, hn, hcs⟩ := h
  cases ao with
  | none =>
    have h0 := hn rfl
    have hx : xs = [] := List.eq_nil_of_length_eq_zero (by omega)
    subst hx
    exact run_convert_bytes_nil w src e hs he _ _ dst hd
  | some ad =>
    rw [run_convert_bytes_string w src dst e _ _ cap hs he hd]
    have hl : (loadCells ad xs.length).run P w = .ok ((xs.map fun x => (x.toNat : Int)).map (Value.int .u8)).toArray w := by
      have := run_loadCells_list (P := P) w ad ((xs.map fun x => (x.toNat : Int)).map (Value.int .u8)) (fun j v hj => by
        have e : (xs.map fun x => (x.toNat : Int)).map (Value.int .u8) = xs.map bv := by simp [bv, Function.comp_def]
        rw [e] at hj
        obtain ⟨b, off, ha, _, hcell⟩ := hcs j v hj
        obtain rfl := Option.some.inj ha
        rw [add_plain]
        exact hcell)
      simpa using this
    rw [run_bytesToString w ad xs.length cap _ hl, foldl_push_bytes]
    congr 2
    simp only [ByteArray.empty, ByteArray.emptyWithCapacity, List.map_map]
    congr 1
    have : ∀ l : List UInt8, l.map ((fun n : Int => UInt8.ofNat n.toNat) ∘ fun x => (x.toNat : Int)) = l := by
      intro l
      induction l with
      | nil => rfl
      | cons a l ih => simp [ih]
    rw [this]
    simp
    rfl

theorem owns_form {w : World} {B e size n : Nat} {v : Value} {xs : List Value} (h : w.ownsRow B e size v n xs) : ∃ ao cap, v = .slice ao n cap := by
  rcases h.2 with ⟨rfl, rfl⟩ | ⟨g, cap, cur, rfl, _⟩
  · exact ⟨none, 0, rfl⟩
  · exact ⟨_, cap, rfl⟩

theorem owns_ge {w : World} {B e size n : Nat} {v : Value} {xs : List Value} (h : w.ownsRow B e size v n xs) : ∀ k, v.ownBlock = some k → B ≤ k := fun k hk => (h.lt k hk).1

theorem owns_of_block {w w' : World} {base e size n : Nat} {v : Value} {xs : List Value} (h : w.ownsRow base e size v n xs) (hb : ∀ k, v.ownBlock = some k → w'.heap[k]? = w.heap[k]?) : w'.ownsRow base e size v n xs := by
  refine ⟨h.1, ?_⟩
  rcases h.2 with h2 | ⟨g, cap, cur, rfl, h3, h4, r⟩
  · exact .inl h2
  · exact .inr ⟨g, cap, cur, rfl, h3, by rw [hb g rfl]; exact h4, r⟩

/-- A slice whose cells lie in blocks of one class. -/
def Slp (X : Nat → Prop) (w : World) (v : Value) (n : Nat) (cs : List Value) : Prop :=
  ∃ ao cap, v = .slice ao n cap ∧ (n ≤ cap ∧ cap ≤ maxLen) ∧ (ao = none → cap = 0) ∧
    ∀ i c, cs[i]? = some c → ∃ b off, ao = some ⟨b, off, none⟩ ∧ X b ∧ w.cell? ⟨b, off + i, none⟩ = some c

theorem Slp.sl {X : Nat → Prop} {w : World} {v : Value} {n : Nat} {cs : List Value} (h : Slp X w v n cs) {K : Nat} (hX : ∀ b, X b → b < K) : Sl K w v n cs := by
  obtain ⟨ao, cap, hv, hc, hn, hcs⟩ := h
  refine ⟨ao, cap, hv, hc, hn, fun i c hi => ?_⟩
  obtain ⟨b, off, h1, h2, h3⟩ := hcs i c hi
  exact ⟨b, off, h1, hX b h2, h3⟩

theorem Slp.keep {X X' : Nat → Prop} {w w' : World} {v : Value} {n : Nat} {cs : List Value} (h : Slp X w v n cs) (hX : ∀ b, X b → X' b ∧ w'.heap[b]? = w.heap[b]?) : Slp X' w' v n cs := by
  obtain ⟨ao, cap, hv, hc, hn, hcs⟩ := h
  refine ⟨ao, cap, hv, hc, hn, fun i c hi => ?_⟩
  obtain ⟨b, off, h1, h2, h3⟩ := hcs i c hi
  obtain ⟨h4, h5⟩ := hX b h2
  exact ⟨b, off, h1, h4, by rw [World.cell?_of_block (w := w) h5]; exact h3⟩

theorem slp_of_owns {w : World} {base e size n : Nat} {v : Value} {xs : List Value} (h : w.ownsRow base e size v n xs) : Slp (fun b => v.ownBlock = some b) w v n xs := by
  obtain ⟨h1, h2⟩ := h
  rcases h2 with ⟨rfl, rfl⟩ | ⟨g, cap, cur, rfl, hb, hg, hn, hm, hs, ht⟩
  · have : xs = [] := List.eq_nil_of_length_eq_zero (by simpa using h1)
    subst this
    exact ⟨none, 0, rfl, ⟨Nat.le_refl _, Nat.zero_le _⟩, fun _ => rfl, fun i c h => by simp at h⟩
  · refine ⟨_, cap, rfl, ⟨hn, hm⟩, fun h => by simp at h, fun i c hi => ⟨g, 0, rfl, rfl, ?_⟩⟩
    rw [Nat.zero_add, cell_of_row w g i cur e (0, 0) hg]
    rw [← ht, List.getElem?_take] at hi
    split at hi
    · simpa using hi
    · cases hi
end Go.Proofs.Ytgmfofngmfekbaa

namespace Go.Proofs.Ytgmfofngmfekbaa
set_option linter.unusedVariables false
set_option linter.unusedSimpArgs false
set_option maxRecDepth 20000
open Go.RowKit

/-- Part of a sector laid over. -/
def lay (old new : List UInt8) (n : Nat) : List UInt8 := new.take n ++ old.drop n

/-! ### Frames -/
/-- Blocks outside S are as they were. -/
structure Fr (S : Nat → Prop) (w w' : World) : Prop where
  os : w'.os = w.os
  tape : w'.tape = w.tape
  output : w'.output = w.output
  size : w.heap.size ≤ w'.heap.size
  block : ∀ k, k < w.heap.size → ¬ S k → w'.heap[k]? = w.heap[k]?

theorem Fr.refl (S : Nat → Prop) (w : World) : Fr S w w := ⟨rfl, rfl, rfl, Nat.le_refl _, fun _ _ _ => rfl⟩

theorem Fr.trans {S T : Nat → Prop} {a b c : World} (h : Fr S a b) (k : Fr T b c) (hT : ∀ i, T i → S i ∨ a.heap.size ≤ i) : Fr S a c :=
  ⟨k.os.trans h.os, k.tape.trans h.tape, k.output.trans h.output, Nat.le_trans h.size k.size, fun i hi hS =>
    (k.block i (Nat.lt_of_lt_of_le hi h.size) (fun ht => by rcases hT i ht with h1 | h1; exact hS h1; omega)).trans (h.block i hi hS)⟩

theorem Fr.mono {S T : Nat → Prop} {w w' : World} (h : Fr S w w') (hT : ∀ i, S i → T i) : Fr T w w' := ⟨h.os, h.tape, h.output, h.size, fun i hi hS => h.block i hi (fun hs => hS (hT i hs))⟩

theorem Fr.alloc {S : Nat → Prop} {a w : World} (h : Fr S a w) (o : Obj) : Fr S a (w.alloc o) :=
  ⟨h.os, h.tape, h.output, by have := h.size; simp; omega, fun i hi hS => (Below.heap_alloc _ _ _ (Nat.lt_of_lt_of_le hi h.size)).trans (h.block i hi hS)⟩

theorem Fr.drew {S : Nat → Prop} {a w : World} (h : Fr S a w) : Fr S a w.drew := ⟨h.os, h.tape, h.output, h.size, h.block⟩

theorem Fr.setCell {S : Nat → Prop} {a w : World} (h : Fr S a w) {p : Addr} (hp : S p.block ∨ a.heap.size ≤ p.block) (u : Value) : Fr S a (w.setCell p u) :=
  ⟨h.os, h.tape, h.output, by have := h.size; simp [World.setCell]; omega, fun i hi hS => (Below.heap_setCell _ _ _ _ (fun e => by subst e; rcases hp with h1 | h1; exact hS h1; omega)).trans (h.block i hi hS)⟩

theorem Fr.setRow {S : Nat → Prop} {a w : World} (h : Fr S a w) {g : Nat} (hp : S g ∨ a.heap.size ≤ g) (cs : Array Value) : Fr S a (w.setRow g cs) :=
  ⟨h.os, h.tape, h.output, by have := h.size; simp [World.setRow]; omega, fun i hi hS => (setRow_other w g i cs (fun e => by subst e; rcases hp with h1 | h1; exact hS h1; omega)).trans (h.block i hi hS)⟩

theorem Fr.grown {S : Nat → Prop} {a w w' : World} {row : Option Nat} (h : Fr S a w) (hg : w.grownBy w' row) (hr : ∀ k, row = some k → S k ∨ a.heap.size ≤ k) : Fr S a w' :=
  ⟨hg.os.trans h.os, hg.tape.trans h.tape, hg.output.trans h.output, Nat.le_trans h.size hg.size, fun i hi hS => (hg.block i (Nat.lt_of_lt_of_le hi h.size) (fun e => by rcases hr i e.symm with h1 | h1; exact hS h1; omega)).trans (h.block i hi hS)⟩

theorem Fr.below {S : Nat → Prop} {w w' : World} (h : Fr S w w') {B : Nat} (hB : B ≤ w.heap.size) (hS : ∀ k, S k → B ≤ k) : Below B w w' :=
  ⟨h.os, h.tape, h.output, h.size, fun k hk => h.block k (by omega) (fun hs => by have := hS k hs; omega)⟩

/-- Nothing old has turned. -/
def Nw (w w' : World) : Prop := Fr (fun _ => False) w w'

theorem heap_lt {w : World} {g : Nat} {o : Obj} (h : w.heap[g]? = some o) : g < w.heap.size := (Array.getElem?_eq_some_iff.1 h).1

/-- A cell of a block that is known. -/
theorem cell_blk {w : World} {g i : Nat} {cs : Array Value} {t : TypeId} {fr : Nat × Nat} {v : Value} (h : w.heap[g]? = some (.cells cs t fr)) (hv : cs[i]? = some v) : w.cell? ⟨g, i, none⟩ = some v := by
  rw [cell_of_row w g i cs t fr h]; exact hv

theorem free_blk {w : World} {g i : Nat} {cs : Array Value} {t : TypeId} (h : w.heap[g]? = some (.cells cs t (0, 0))) : w.frozen? ⟨g, i, none⟩ = false := by
  simp [World.frozen?, h]

theorem blk_setCell {w : World} {g i : Nat} {cs : Array Value} {t : TypeId} {v : Value} (h : w.heap[g]? = some (.cells cs t (0, 0))) : (w.setCell ⟨g, i, none⟩ v).heap[g]? = some (.cells (cs.setIfInBounds i v) t (0, 0)) := by
  rw [setCell_eq_setRow w g i cs t (0, 0) v h]
  exact setRow_heap w g cs _ t _ h
end Go.Proofs.Ytgmfofngmfekbaa

namespace Go.Proofs.Ytgmfofngmfekbaa
set_option linter.unusedVariables false
set_option linter.unusedSimpArgs false
set_option maxRecDepth 20000
open Go.RowKit
section
variable {P : Program} {w : World} {ops : Array Oper} {rest : List Oper} {o : Oper} {a : Act} {Q : Exit → Act → World → Prop}

theorem wpList_do (hw : Region.wanted o (yielded ops a.tmps) = true) (h : o.wp P a w (wpList P ops Q rest) Q) : wpList P ops Q (o :: rest) a w := by
  unfold wpList
  rw [if_pos hw]
  exact .inl h

theorem wpList_alloc_agg (hw : Region.wanted o (yielded ops a.tmps) = true) (t : TypeId) (ho : o.op = .alloc t) (cells : Array Value) (hz : (P.info? t).bind (·.zero) = some (.agg cells))
    (h : wpList P ops Q rest (a.put o.dst (.pointer (some ⟨w.heap.size, 0, none⟩))) (w.alloc (.cells cells t))) : wpList P ops Q (o :: rest) a w := by
  refine wpList_do hw ?_
  unfold Oper.wp execOp
  cases hi : P.info? t with
  | none => simp [hi] at hz
  | some i =>
    have hz' : i.zero = some (.agg cells) := by simpa [hi] using hz
    simp [ho, Instr.alloc, zeroValue, typeInfo, hi, hz', newVar, newRow, Value.cells]
    exact h

theorem wpList_box_agg (hw : Region.wanted o (yielded ops a.tmps) = true) (t : TypeId) (x : Operand) (ho : o.op = .box t x) (v : Value) (cells : Array Value) (hx : a.eval x = v) (hv : v = .agg cells)
    (h : wpList P ops Q rest (a.put o.dst (.pointer (some ⟨w.heap.size, 0, none⟩))) (w.alloc (.cells cells t))) : wpList P ops Q (o :: rest) a w := by
  subst hv
  refine wpList_do hw ?_
  unfold Oper.wp execOp
  simp [ho, hx, Instr.box, newVar, newRow, Value.cells]
  exact h

theorem wpList_build_as (hw : Region.wanted o (yielded ops a.tmps) = true) (t : TypeId) (parts : Array (Nat × Operand)) (ho : o.op = .build t parts) (v : Value) (cells : Array Value) (hv : v = .agg cells)
    (hf : P.built t (parts.toList.map fun x => (x.1, a.eval x.2)) = some cells) (h : wpList P ops Q rest (a.put o.dst v) w) : wpList P ops Q (o :: rest) a w := by
  subst hv
  have hf : P.built t (parts.map fun (i, x) => (i, a.eval x)).toList = some cells := by rw [Array.toList_map]; exact hf
  refine wpList_do hw ?_
  unfold Oper.wp execOp
  simp only [ho, Sem.run_bind, run_build w t _ _ hf, Result.andThen_ok]
  exact h

theorem wpList_load_as (hw : Region.wanted o (yielded ops a.tmps) = true) (ty : TypeId) (x : Operand) (ho : o.op = .load ty x) (b off : Nat) (hx : a.eval x = .pointer (some ⟨b, off, none⟩)) (v : Value) (cs : List Value)
    (hv : v = .agg cs.toArray) (hc : w.rangeAt b off cs) (hu : (P.underlying ty).map TypeDesc.isRow = some true) (hi : (P.info? ty).map (·.size) = some cs.length)
    (h : wpList P ops Q rest (a.put o.dst v) w) : wpList P ops Q (o :: rest) a w := by
  subst hv
  refine wpList_do hw ?_
  cases hd : P.underlying ty with
  | none => simp [hd] at hu
  | some d => exact wp_load_mid ty x ho b off hx cs d hc hd (by simpa [hd] using hu) hi h

theorem wpList_store_as (hw : Region.wanted o (yielded ops a.tmps) = true) (ty : TypeId) (x y : Operand) (ho : o.op = .store ty x y) (g off : Nat) (hx : a.eval x = .pointer (some ⟨g, off, none⟩)) (v : Value) (hy : a.eval y = v) (cs : List Value)
    (hv : v = .agg cs.toArray) (C : List Value) (t : TypeId) (hg : w.heap[g]? = some (.cells C.toArray t (0, 0))) (hfit : off + cs.length ≤ C.length) (h1 : ∀ v ∈ cs, v.oneCell' = true) (hi : (P.info? ty).map (·.size) = some cs.length)
    (h : wpList P ops Q rest (a.put o.dst undef) (w.setRow g (splice C off cs).toArray)) : wpList P ops Q (o :: rest) a w := by
  subst hv
  refine wpList_do hw ?_
  have hs := run_storeCells_at P g off t cs 0 C.toArray w hg (by simpa using hfit) h1
  simp only [Nat.add_zero, List.append_assoc] at hs
  cases hq : P.info? ty with
  | none => simp [hq] at hi
  | some i =>
    have hsz : i.size = cs.length := by simpa [hq] using hi
    have hst : (storeVar ty ⟨g, off, none⟩ (.agg cs.toArray)).run P w = .ok () (w.setRow g (splice C off cs).toArray) := by
      simp [storeVar, sizeOf, typeInfo, hq, hsz, Value.cells, hs, splice]
    unfold Oper.wp execOp
    simp only [ho, hx, hy, Instr.storeAt, Instr.sureAddr, Sem.run_bind, Sem.run_pure, Result.andThen_ok, hst]
    exact h

theorem splice_all {α : Type} (L cs : List α) (h : cs.length = L.length) : splice L 0 cs = cs := by
  unfold splice; simp [h]

/-- A whole variable written. -/
theorem wpList_store_all (hw : Region.wanted o (yielded ops a.tmps) = true) (ty : TypeId) (x y : Operand) (ho : o.op = .store ty x y) (g : Nat) (hx : a.eval x = .pointer (some ⟨g, 0, none⟩)) (v : Value) (hy : a.eval y = v) (cs : List Value)
    (hv : v = .agg cs.toArray) (C : List Value) (t : TypeId) (hg : w.heap[g]? = some (.cells C.toArray t (0, 0))) (hfit : cs.length = C.length) (h1 : ∀ v ∈ cs, v.oneCell' = true) (hi : (P.info? ty).map (·.size) = some cs.length)
    (h : wpList P ops Q rest (a.put o.dst undef) (w.setRow g cs.toArray)) : wpList P ops Q (o :: rest) a w :=
  wpList_store_as hw ty x y ho g 0 hx v hy cs hv C t hg (by omega) h1 hi (by rw [splice_all C cs hfit]; exact h)

theorem run_load_quiet (ty : TypeId) (x : Operand) (w : World) (ho : o.op = .load ty x) (b off : Nat) (hx : a.eval x = .pointer (some ⟨b, off, none⟩)) (cs : List Value)
    (hc : w.rangeAt b off cs) (hu : (P.underlying ty).map TypeDesc.isRow = some true) (hi : (P.info? ty).map (·.size) = some cs.length) : (execOp a.eval o).run P w = .ok (.value (.agg cs.toArray)) w := by
  cases hd : P.underlying ty with
  | none => simp [hd] at hu
  | some d =>
    unfold execOp
    simp only [ho, hx, Sem.run_bind, run_loadAt_mid w b off ty cs d hc hd (by simpa [hd] using hu) hi, Result.andThen_ok, Sem.run_pure]

theorem results_cell1 {fn : Func} {p : Tmp} {ty : TypeId} (h : fn.results = #[.cell p ty]) (tmps : Array Value) (g : Nat) (cs : List Value) (v : Value) (hv : v = .agg cs.toArray)
    (hp : tmps.getD p undef = .pointer (some ⟨g, 0, none⟩)) (hc : w.rangeAt g 0 cs) (hu : (P.underlying ty).map TypeDesc.isRow = some true) (hi : (P.info? ty).map (·.size) = some cs.length) :
    (results fn tmps).run P w = .ok v w := by
  subst hv
  have hp' : tmps[p]?.getD undef = .pointer (some ⟨g, 0, none⟩) := by simpa using hp
  cases hd : P.underlying ty with
  | none => simp [hd] at hu
  | some d => simp [results, h, hp', asAddr, run_loadVar_mid w g 0 ty cs d hc hd (by simpa [hd] using hu) hi]

theorem results_cell2 {fn : Func} {p u : Tmp} {ty : TypeId} (h : fn.results = #[.cell p ty, .tmp u]) (tmps : Array Value) (g : Nat) (cs : List Value) (v : Value) (hv : v = .agg cs.toArray)
    (hp : tmps.getD p undef = .pointer (some ⟨g, 0, none⟩)) (hc : w.rangeAt g 0 cs) (hu : (P.underlying ty).map TypeDesc.isRow = some true) (hi : (P.info? ty).map (·.size) = some cs.length) :
    (results fn tmps).run P w = .ok (.tuple #[v, tmps.getD u undef]) w := by
  subst hv
  have hp' : tmps[p]?.getD undef = .pointer (some ⟨g, 0, none⟩) := by simpa using hp
  cases hd : P.underlying ty with
  | none => simp [hd] at hu
  | some d => simp [results, h, hp', asAddr, run_loadVar_mid w g 0 ty cs d hc hd (by simpa [hd] using hu) hi]

theorem range_blk {g : Nat} {C : List Value} {t : TypeId} {fr : Nat × Nat} (hb : w.heap[g]? = some (.cells C.toArray t fr)) (off : Nat) (cs : List Value) (h : ∀ j v, cs[j]? = some v → C[off + j]? = some v) : w.rangeAt g off cs := fun j v hv => by
  rw [cell_of_row w g (off + j) _ t fr hb]
  simpa using h j v hv

theorem range_all {g : Nat} {C : List Value} {t : TypeId} {fr : Nat × Nat} (hb : w.heap[g]? = some (.cells C.toArray t fr)) : w.rangeAt g 0 C := range_blk hb 0 C (fun j v h => by simpa using h)

theorem fold_splice (off : Nat) : ∀ (vs : List Value) (k : Nat) (C : List Value), off + k + vs.length ≤ C.length →
    (vs.zipIdx k).foldl (fun (cs : Array Value) x => cs.setIfInBounds (off + x.2) x.1) C.toArray = (splice C (off + k) vs).toArray
  | [], k, C, _ => by simp [splice]
  | v :: vs, k, C, h => by
    simp only [List.length_cons] at h
    have ih := fold_splice off vs (k + 1) (C.set (off + k) v) (by simp; omega)
    simp only [List.zipIdx_cons, List.foldl_cons, List.setIfInBounds_toArray]
    rw [ih]
    congr 1
    have := list_seg_step C (off + k) v vs (by omega)
    simpa [splice, Nat.add_assoc, Nat.add_comm, Nat.add_left_comm] using this

theorem fill_cons (place : Nat → Option (Nat × Nat)) (C : List Value) (i : Nat) (v : Value) (vs : List Value) (off : Nat) (rest : List (Nat × Value)) (hp : place i = some (off, vs.length)) (hv : v.cells = vs.toArray) (hfit : off + vs.length ≤ C.length) :
    Instr.fill place C.toArray ((i, v) :: rest) = Instr.fill place (splice C off vs).toArray rest := by
  have h1 : ¬ (off + vs.length > C.length) := by omega
  rw [Instr.fill]
  simp only [hp, hv, List.size_toArray, ne_eq, not_true_eq_false, decide_false, Bool.false_or, h1, Bool.false_eq_true, if_false]
  congr 1
  have := fold_splice off vs 0 C (by simpa using hfit)
  simp only [Nat.add_zero] at this
  rw [← this]
  rw [← Array.foldl_toList, Array.toList_zipIdx]

theorem wpList_buildSlice1 (hw : Region.wanted o (yielded ops a.tmps) = true) (t e : TypeId) (x : Operand) (ho : o.op = .buildSlice t 1 #[(0, x)]) (v : Value) (hx : a.eval x = v) (cs : List Value) (hv : v = .agg cs.toArray)
    (hu : P.underlying t = some (.slice e)) (hsz : (P.info? e).map (·.size) = some cs.length) (hz : ((P.info? e).bind (·.zero)).isSome = true) (hpos : 0 < cs.length) (hsm : cs.length ≤ 1000000)
    (h : wpList P ops Q rest (a.put o.dst (.slice (some ⟨w.heap.size, 0, none⟩) 1 1)) (w.alloc (.cells cs.toArray e))) : wpList P ops Q (o :: rest) a w := by
  refine wpList_do hw ?_
  cases hie : P.info? e with
  | none => simp [hie] at hsz
  | some ie =>
    simp only [hie, Option.map_some, Option.some.injEq, Option.bind_some] at hsz hz
    obtain ⟨z, hzz⟩ := Option.isSome_iff_exists.1 hz
    refine wp_buildSlice t e 1 _ ho cs.toArray ie z hu hie hzz (by rw [hsz]; omega) (by rw [hsz]; omega) ?_ h
    subst hv
    rw [hsz]
    simp only [List.map_toArray, List.map_cons, List.map_nil, hx]
    generalize hC : (Array.map (fun x => z.cells[x % z.cells.size]!) (Array.range (1 * cs.length))) = C
    have hCl : C.toList.length = cs.length := by rw [← hC]; simp
    have := fill_cons (fun i => some (i * cs.length, cs.length)) C.toList 0 (.agg cs.toArray) cs 0 [] (by simp) rfl (by omega)
    simp only [Array.toArray_toList] at this
    rw [this, splice_all _ _ (by omega)]
    rfl

theorem wpList_buildSlice0 (hw : Region.wanted o (yielded ops a.tmps) = true) (t e : TypeId) (ho : o.op = .buildSlice t 0 #[]) (hu : P.underlying t = some (.slice e)) (hsz : ((P.info? e).map (·.size)).isSome = true)
    (h : wpList P ops Q rest (a.put o.dst (.slice (some ⟨w.heap.size, 0, none⟩) 0 0)) (w.alloc (.cells #[] e))) : wpList P ops Q (o :: rest) a w := by
  refine wpList_do hw ?_
  cases hie : P.info? e with
  | none => simp [hie] at hsz
  | some ie =>
    have hr : (Instr.buildSlice t 0 #[]).run P w = .ok (.slice (some ⟨w.heap.size, 0, none⟩) 0 0) (w.alloc (.cells #[] e)) := by
      simp [Instr.buildSlice, run_underlying hu, sizeOf, typeInfo, hie, Instr.fill, newRow, Array.range_zero']
    unfold Oper.wp execOp
    simp only [ho, Array.map_empty, Sem.run_bind, hr, Result.andThen_ok, Sem.run_pure]
    exact h

theorem wpList_make_as (hw : Region.wanted o (yielded ops a.tmps) = true) (t e : TypeId) (x y : Operand) (ho : o.op = .makeSlice t x y) (n : Nat) (hx : a.eval x = .int .i64 (n : Int)) (hy : a.eval y = .int .i64 (n : Int))
    (i : TypeInfo) (z : Value) (ht : P.underlying t = some (.slice e)) (hi : P.info? e = some i) (hz : i.zero = some z) (hn : n ≤ 1000000000) (hb : i.bytes ≤ 1000) (C : Array Value) (hC : madeCells z.cells (n * i.size) = C)
    (h : wpList P ops Q rest (a.put o.dst (.slice (some ⟨w.heap.size, 0, none⟩) n n)) (w.alloc (.cells C e))) : wpList P ops Q (o :: rest) a w := by
  refine wpList_do hw ?_
  have hm : i.bytes * n ≤ 1000 * 1000000000 := Nat.mul_le_mul hb hn
  have hr := run_make (P := P) w t e i z ht hi hz .i64 .i64 (n : Int) (n : Int) (by omega) (by omega) (by have : ((i.bytes * n : Nat) : Int) ≤ 281474976710656 := by omega
                                                                                                          rwa [Int.natCast_mul] at this) (by omega)
  simp only [Int.toNat_natCast, hC] at hr
  unfold Oper.wp execOp
  simp only [ho, hx, hy, Sem.run_bind, hr, Sem.run_pure, Result.andThen_ok]
  exact h
end
end Go.Proofs.Ytgmfofngmfekbaa

namespace Go.Proofs.Ytgmfofngmfekbaa
set_option linter.unusedVariables false
set_option linter.unusedSimpArgs false
set_option maxRecDepth 20000
section
variable {P : Program} {ops : Array Oper} {md : Region.Mode} {S : World → Prop} {Q Q1 : Exit → Act → World → Prop}

/-- Ready operations of the head, whichever comes up; the condition S holds behind each. -/
def wpHL (P : Program) (md : Region.Mode) (ops : Array Oper) (Q : Exit → Act → World → Prop) (S : World → Prop) (n : Nat) (L : Array Bool → Act → World → Prop) : Nat → Array Bool → Act → World → Prop
  | 0, listed, a, w => L listed a w
  | f + 1, listed, a, w => Region.ready md ops listed ≠ [] ∧ ∀ i ∈ Region.ready md ops listed, i < n ∧ wpOp P ops Q i (fun a' w' => S w' ∧ wpHL P md ops Q S n L f (listed.setIfInBounds i true) a' w') a w

theorem wpOp_post {i : Nat} {K : Act → World → Prop} {a : Act} {w : World} (hq : ∀ e a w, Q1 e a w → Q e a w) (h : wpOp P ops Q1 i K a w) : wpOp P ops Q i K a w := by
  unfold wpOp at *
  split
  · rename_i ho; simp only [ho] at h; exact h
  · rename_i o ho
    simp only [ho] at h
    split
    · rename_i hw
      simp only [hw, if_true] at h
      rcases h with h | ⟨h1, a0, w0, h2⟩
      · refine .inl ?_
        unfold Oper.wp at *
        generalize (execOp a.eval o).run P w = r at *
        cases r with
        | ok x w' =>
          cases x <;> simp only [Oper.upon] at h ⊢ <;> try exact h
          refine Calls.mono h fun e w'' he => ?_
          cases e with
          | returned u => exact he
          | panicked c => exact hq _ _ _ he
          | outgrown => obtain ⟨a0, w0, h2⟩ := he; exact ⟨a0, w0, hq _ _ _ h2⟩
        | halt x w' => cases x <;> simp only [Oper.upon] at h ⊢; exact hq _ _ _ h
      · exact .inr ⟨h1, a0, w0, hq _ _ _ h2⟩
    · rename_i hw; simp only [hw] at h; exact h

theorem wpAny_of_HL {n g : Nat} {L : Array Bool → Act → World → Prop} (hq : ∀ e a w, Q1 e a w → Q e a w) (hL : ∀ listed a w, L listed a w → wpAny P md ops Q g listed a w) :
    ∀ (f : Nat) (listed : Array Bool) (a : Act) (w : World), wpHL P md ops Q1 S n L f listed a w → wpAny P md ops Q (f + g) listed a w
  | 0, listed, a, w, h => by rw [Nat.zero_add]; exact hL _ _ _ h
  | f + 1, listed, a, w, h => by
    rw [show f + 1 + g = (f + g) + 1 by omega]
    exact ⟨fun h0 => absurd h0 h.1, fun i hi => wpOp_post hq (wpOp_mono (fun a' w' h' => wpAny_of_HL hq hL f _ a' w' h'.2) (h.2 i hi).2)⟩

theorem wpHL_first {n i : Nat} {oi : Oper} {v : Value} {L : Array Bool → Act → World → Prop} (hi : ops[i]? = some oi) (hsel : ∀ (j : Nat) (o : Oper) cs b, ops[j]? = some o → o.op ≠ .select cs b)
    (hQ : ∀ c a w, Q (.panic c) (a.put oi.dst v) w → Q (.panic c) a w)
    (hs : Region.sinkB md ops n = true) (hc : Region.chainB md ops n = true) (hn : n < ops.size) (hin : i < n)
    (hdone : ∀ listed a w, L listed a w → ∀ j ∈ Region.ready md ops listed, n ≤ j) :
    ∀ (f : Nat) (listed : Array Bool) (a : Act) (w : World), HeadInv md ops n listed →
      (∀ j oj, ops[j]? = some oj → j ≠ i → listed.getD j true = false → (∀ e ∈ oj.after, Region.binds md e = true → e.on ≠ i) → oi.apart ops oj = true) →
      i ∈ Region.ready md ops listed → YieldsIf P ops S oi v a → S w →
      wpHL P md ops Q S n L f (listed.setIfInBounds i true) (a.put oi.dst v) w → wpHL P md ops Q S n L (f + 1) listed a w := by
  intro f
  induction f with
  | zero =>
    intro listed a w inv _ hr hy hS H
    have hun := (mem_ready.1 hr).1
    refine ⟨fun h => (by rw [h] at hr; cases hr), fun j hj => ?_⟩
    have hjn : j < n := by
      rcases Nat.lt_or_ge j n with h | h
      · exact h
      · exact absurd hj (tail_waits hs hc hn inv _ i rfl hin hun j h)
    refine ⟨hjn, ?_⟩
    by_cases hji : j = i
    · subst hji; exact hy.wpOp hi hS ⟨hS, H⟩
    · have := hdone _ _ _ H j (ready_mono hj hji)
      omega
  | succ f ih =>
    intro listed a w inv hfree hr hy hS H
    have hun := (mem_ready.1 hr).1
    refine ⟨fun h => (by rw [h] at hr; cases hr), fun j hj => ?_⟩
    have hjn : j < n := by
      rcases Nat.lt_or_ge j n with h | h
      · exact h
      · exact absurd hj (tail_waits hs hc hn inv _ i rfl hin hun j h)
    refine ⟨hjn, ?_⟩
    by_cases hji : j = i
    · subst hji; exact hy.wpOp hi hS ⟨hS, H⟩
    · have h1 := (H.2 j (ready_mono hj hji)).2
      obtain ⟨hjun, oj, hoj, hall⟩ := mem_ready.1 hj
      have hnot : ∀ e ∈ oj.after, Region.binds md e = true → e.on ≠ i := fun e he hb heq => by
        have h1 := hall e he hb
        rw [heq, getD_both hun] at h1
        cases h1
      have h2 := wpOp_putIf hoj (hfree j oj hoj hji hjun hnot) (fun cs b => hsel i oi cs b hi) (fun cs b => hsel j oj cs b hoj) hQ hy h1
      have hfree' : ∀ k ok, ops[k]? = some ok → k ≠ i → (listed.setIfInBounds j true).getD k true = false →
          (∀ e ∈ ok.after, Region.binds md e = true → e.on ≠ i) → oi.apart ops ok = true := fun k ok hk hki hun hno => by
        refine hfree k ok hk hki ?_ hno
        by_cases hjk : j = k
        · subst hjk; exact hjun
        · rw [getD_set_ne true hjk] at hun; exact hun
      refine wpOp_mono (fun a' w' h3 => ⟨h3.2.1, ih (listed.setIfInBounds j true) a' w' (inv.set hj hjn) hfree' (ready_mono hr (Ne.symm hji)) h3.1 h3.2.1 ?_⟩) h2
      rw [Array.setIfInBounds_comm _ _ hji]
      exact h3.2.2

/-- The order of the head, each with whether it only reads, fits the region. -/
def lexOrd (md : Region.Mode) (ops : Array Oper) (keep : List Nat) (g n : Nat) : List (Nat × Bool) → Array Bool → Bool
  | [], listed => Region.seqB md ops g n listed
  | (i, q) :: r, listed => decide (i < n) && (if q then (Region.ready md ops listed).contains i && Region.free md ops listed i && ((ops[i]?).map fun o => (o.dst.map fun d => !keep.contains d).getD true).getD false else decide (Region.ready md ops listed = [i])) &&
      lexOrd md ops keep g n r (listed.setIfInBounds i true)

def wpOrd (P : Program) (ops : Array Oper) (Q : Exit → Act → World → Prop) (S : World → Prop) (T : Act → World → Prop) : List (Nat × Bool) → Act → World → Prop
  | [], a, w => T a w
  | (i, true) :: r, a, w => S w ∧ ∃ oi v, ops[i]? = some oi ∧ YieldsIf P ops S oi v a ∧ wpOrd P ops Q S T r (a.put oi.dst v) w
  | (i, false) :: r, a, w => wpOp P ops Q i (fun a' w' => S w' ∧ wpOrd P ops Q S T r a' w') a w

/-- At a panic: whatever the other slots hold. -/
def panicAny (keep : List Nat) (Q : Exit → Act → World → Prop) : Exit → Act → World → Prop
  | .panic c, a, w => ∀ a' : Act, a'.defers = a.defers → (∀ t ∈ keep, a'.tmps.getD t undef = a.tmps.getD t undef) → Q (.panic c) a' w
  | e, a, w => Q e a w

theorem panicAny_post {keep : List Nat} : ∀ e a w, panicAny keep Q e a w → Q e a w := by
  intro e a w h
  cases e <;> first | exact h | exact h a rfl (fun _ _ => rfl)

theorem panicAny_put {keep : List Nat} {d : Option Tmp} {v : Value} (hd : (d.map fun d => !keep.contains d).getD true = true) : ∀ c a w, panicAny keep Q (.panic c) (a.put d v) w → panicAny keep Q (.panic c) a w := by
  intro c a w h a' hdf hk
  refine h a' ?_ ?_
  · rw [hdf]; cases d <;> rfl
  · intro t ht
    rw [hk t ht]
    cases d with
    | none => rfl
    | some d =>
      have hne : d ≠ t := by
        rintro rfl
        simp [ht] at hd
      simp only [Act.put]
      simp [Array.getElem?_setIfInBounds_ne hne]

theorem wpHL_ord {keep : List Nat} {n g : Nat} {T : Act → World → Prop} (hsel : Region.noSelect ops = true) (hs : Region.sinkB md ops n = true) (hc : Region.chainB md ops n = true) (hn : n < ops.size) :
    ∀ (l : List (Nat × Bool)) (listed : Array Bool) (a : Act) (w : World), HeadInv md ops n listed → lexOrd md ops keep g n l listed = true → wpOrd P ops (panicAny keep Q) S T l a w →
    wpHL P md ops (panicAny keep Q) S n (fun listed' a' w' => Region.seqB md ops g n listed' = true ∧ T a' w') l.length listed a w
  | [], listed, a, w, _, hB, h => ⟨hB, h⟩
  | (i, true) :: l, listed, a, w, inv, hB, h => by
    simp only [lexOrd, Bool.and_eq_true, decide_eq_true_eq, if_true] at hB
    obtain ⟨⟨hin, ⟨hr, hf⟩, hk⟩, hB'⟩ := hB
    obtain ⟨hS, oi, v, ho, hy, hrest⟩ := h
    have hr' : i ∈ Region.ready md ops listed := by simpa using hr
    rw [ho] at hk
    exact wpHL_first ho (Region.noSelect_spec hsel) (panicAny_put (by simpa using hk)) hs hc hn hin (fun listed' a' w' hL => seqB_ready hL.1) l.length listed a w inv (Region.free_spec ho hf) hr' hy hS
      (wpHL_ord hsel hs hc hn l _ _ w (inv.set hr' hin) hB' hrest)
  | (i, false) :: l, listed, a, w, inv, hB, h => by
    simp only [lexOrd, Bool.and_eq_true, decide_eq_true_eq, if_false, Bool.false_eq_true] at hB
    obtain ⟨⟨hin, hr⟩, hB'⟩ := hB
    have hr' : i ∈ Region.ready md ops listed := by rw [hr]; simp
    refine ⟨fun h0 => (by rw [hr] at h0; cases h0), fun j hj => ?_⟩
    rw [hr] at hj
    have hji : j = i := by simpa using hj
    subst hji
    exact ⟨hin, wpOp_mono (fun a' w' h' => ⟨h'.1, wpHL_ord hsel hs hc hn l _ a' w' (inv.set hr' hin) hB' h'.2⟩) h⟩

def ordB (keep : List Nat) (ops : Array Oper) (n : Nat) (order : List (Nat × Bool)) : Bool :=
  Region.noSelect ops && decide (n < ops.size) && Region.sinkB .any ops n && Region.chainB .any ops n && decide (order.length = n) && lexOrd .any ops keep (ops.size - n) n order (Array.replicate ops.size false)

/-- One walk, in the order that is handed in, serves every order. -/
theorem wp_region_ord {id : Nat} {a : Act} {w : World} {l : List Oper} (keep : List Nat) (n : Nat) (order : List (Nat × Bool)) (S : World → Prop) (hm : P.follows .mixedOrders = true) (hB : ordB keep l.toArray n order = true)
    (h : wpOrd P l.toArray (panicAny keep Q) S (wpList P l.toArray Q (l.drop n)) order a w.drew) : (Code.region id l.toArray true).wp P Q a w := by
  simp only [ordB, Bool.and_eq_true, decide_eq_true_eq] at hB
  obtain ⟨⟨⟨⟨⟨hsel, hn⟩, hs⟩, hc⟩, hlen⟩, hlex⟩ := hB
  have hdl : (l.drop n).length = l.toArray.size - n := by simp
  have inv0 : HeadInv .any l.toArray n (Array.replicate l.toArray.size false) :=
    ⟨by simp, fun j oj _ hl => (by rw [getD_replicate_false] at hl; cases hl), fun t _ ht => getD_in (by simpa using ht) (getD_replicate_false _ _)⟩
  have H := wpHL_ord (md := .any) (Q := Q) hsel hs hc hn order _ a w.drew inv0 hlex h
  refine wp_region_any hm ?_
  have := wpAny_of_HL (Q := Q) (Q1 := panicAny keep Q) (g := l.toArray.size - n) panicAny_post (fun listed a' w' hL => by
    have := wpAny_of_seq (md := .any) (Q' := Q) (l.drop n) n listed a' w' (fun j => by simp [List.getElem?_drop]) (by rw [hdl]; exact hL.1) hL.2
    rwa [hdl] at this) _ _ _ _ H
  rw [hlen, show n + (l.toArray.size - n) = l.toArray.size by omega] at this
  exact this

/-- One that only reads: what it yields, in every world that meets S. -/
theorem ord_quiet {T : Act → World → Prop} {i : Nat} {r : List (Nat × Bool)} {a : Act} {w : World} (oi : Oper) (v : Value) (ho : ops[i]? = some oi) (hS : S w)
    (hw : Region.wanted oi (yielded ops a.tmps) = true) (hy : ∀ w, S w → (execOp a.eval oi).run P w = .ok (.value v) w) (h : wpOrd P ops Q S T r (a.put oi.dst v) w) : wpOrd P ops Q S T ((i, true) :: r) a w :=
  ⟨hS, oi, v, ho, .inl ⟨hw, hy⟩, h⟩

/-- One whose guard says no. -/
theorem ord_skip {T : Act → World → Prop} {i : Nat} {r : List (Nat × Bool)} {a : Act} {w : World} (oi : Oper) (ho : ops[i]? = some oi) (hS : S w)
    (hw : Region.wanted oi (yielded ops a.tmps) = false) (h : wpOrd P ops Q S T r (a.put oi.dst undef) w) : wpOrd P ops Q S T ((i, true) :: r) a w :=
  ⟨hS, oi, undef, ho, .inr ⟨hw, rfl⟩, h⟩

theorem ord_tail {T : Act → World → Prop} {a : Act} {w : World} (h : T a w) : wpOrd P ops Q S T [] a w := h

/-- One that does more: walked as a list of one operation. -/
theorem ord_act {T : Act → World → Prop} {i : Nat} {r : List (Nat × Bool)} {a : Act} {w : World} (oi : Oper) (ho : ops[i]? = some oi)
    (h : ∀ K : Act → World → Prop, (∀ a' w', S w' → wpOrd P ops Q S T r a' w' → K a' w') → wpList P ops (Exit.then K Q) [oi] a w) : wpOrd P ops Q S T ((i, false) :: r) a w := by
  have h1 := h (fun a' w' => S w' ∧ wpOrd P ops Q S T r a' w') (fun _ _ h1 h2 => ⟨h1, h2⟩)
  show wpOp P ops Q i _ a w
  unfold wpOp
  simp only [ho]
  simp only [wpList] at h1
  split
  · rename_i hw
    simp only [hw, if_true] at h1
    rcases h1 with h1 | ⟨h1, a0, w0, h2⟩
    · refine .inl ?_
      unfold Oper.wp at *
      generalize (execOp a.eval oi).run P w = res at *
      cases res with
      | ok x w' =>
        cases x <;> simp only [Oper.upon] at h1 ⊢ <;> exact h1
      | halt x w' => cases x <;> simp only [Oper.upon] at h1 ⊢; exact h1
    · exact .inr ⟨h1, a0, w0, h2⟩
  · rename_i hw
    simp only [hw] at h1
    exact h1
end
end Go.Proofs.Ytgmfofngmfekbaa

namespace Go.Proofs.Ytgmfofngmfekbaa
set_option linter.unusedVariables false
set_option linter.unusedSimpArgs false
set_option maxRecDepth 20000
section
variable {P : Program} {l : List Oper} {S : World → Prop} {Q : Exit → Act → World → Prop}

theorem ord_quietL {T : Act → World → Prop} {i : Nat} {r : List (Nat × Bool)} {a : Act} {w : World} (oi : Oper) (v : Value) (ho : l[i]? = some oi) (hS : S w)
    (hw : Region.wanted oi (yielded l.toArray a.tmps) = true) (hy : ∀ w, S w → (execOp a.eval oi).run P w = .ok (.value v) w) (h : wpOrd P l.toArray Q S T r (a.put oi.dst v) w) : wpOrd P l.toArray Q S T ((i, true) :: r) a w :=
  ord_quiet oi v (by simpa using ho) hS hw hy h

theorem ord_skipL {T : Act → World → Prop} {i : Nat} {r : List (Nat × Bool)} {a : Act} {w : World} (oi : Oper) (ho : l[i]? = some oi) (hS : S w)
    (hw : Region.wanted oi (yielded l.toArray a.tmps) = false) (h : wpOrd P l.toArray Q S T r (a.put oi.dst undef) w) : wpOrd P l.toArray Q S T ((i, true) :: r) a w :=
  ord_skip oi (by simpa using ho) hS hw h

theorem ord_actL {T : Act → World → Prop} {i : Nat} {r : List (Nat × Bool)} {a : Act} {w : World} (oi : Oper) (ho : l[i]? = some oi)
    (h : ∀ K : Act → World → Prop, (∀ a' w', S w' → wpOrd P l.toArray Q S T r a' w' → K a' w') → wpList P l.toArray (Exit.then K Q) [oi] a w) : wpOrd P l.toArray Q S T ((i, false) :: r) a w :=
  ord_act oi (by simpa using ho) h
end
end Go.Proofs.Ytgmfofngmfekbaa

namespace Go.Proofs.Ytgmfofngmfekbaa
set_option linter.unusedVariables false
set_option linter.unusedSimpArgs false
set_option maxRecDepth 20000
section
variable {P : Program} {ops : Array Oper} {md : Region.Mode} {S : World → Prop} {Q Q1 : Exit → Act → World → Prop}

def setAll (listed : Array Bool) (qs : List (Nat × List Nat)) : Array Bool := qs.foldl (fun l q => l.setIfInBounds q.1 true) listed

/-- Whichever of a group comes up, what it leans on has come up. -/
def grpB (md : Region.Mode) (ops : Array Oper) (n : Nat) (qs : List (Nat × List Nat)) (fin : Array Bool) : Nat → Array Bool → Bool
  | 0, listed => decide (listed.toList = fin.toList)
  | k + 1, listed => decide (Region.ready md ops listed ≠ []) && (Region.ready md ops listed).all (fun i => decide (i < n) && qs.any (fun q => decide (q.1 = i) && q.2.all (fun j => listed.getD j false)) && grpB md ops n qs fin k (listed.setIfInBounds i true))

def lexG (md : Region.Mode) (ops : Array Oper) (keep : List Nat) (g n : Nat) : List (Nat × List (Nat × List Nat)) → Array Bool → Bool
  | [], listed => Region.seqB md ops g n listed
  | (i, []) :: r, listed => decide (i < n) && ((Region.ready md ops listed).contains i && Region.free md ops listed i && ((ops[i]?).map fun o => (o.dst.map fun d => !keep.contains d).getD true).getD false) && lexG md ops keep g n r (listed.setIfInBounds i true)
  | (_, q :: qs) :: r, listed => (q :: qs).all (fun p => !listed.getD p.1 true) && (q :: qs).all (fun p => (setAll listed (q :: qs)).getD p.1 false) && grpB md ops n (q :: qs) (setAll listed (q :: qs)) (q :: qs).length listed && lexG md ops keep g n r (setAll listed (q :: qs))

def wpG (P : Program) (ops : Array Oper) (Q : Exit → Act → World → Prop) (S : World → Prop) (T : Act → World → Prop) : List (Nat × List (Nat × List Nat)) → Array Bool → Act → World → Prop
  | [], _, a, w => T a w
  | (i, []) :: r, listed, a, w => S w ∧ ∃ oi v, ops[i]? = some oi ∧ YieldsIf P ops S oi v a ∧ wpG P ops Q S T r (listed.setIfInBounds i true) (a.put oi.dst v) w
  | (_, q :: qs) :: r, listed, a, w => (∀ p ∈ q :: qs, listed.getD p.1 true = false) → ∃ I : Array Bool → Act → World → Prop, I listed a w ∧
      (∀ ls a w p, I ls a w → p ∈ q :: qs → ls.getD p.1 true = false → (∀ j ∈ p.2, ls.getD j false = true) → wpOp P ops Q p.1 (fun a' w' => S w' ∧ I (ls.setIfInBounds p.1 true) a' w') a w) ∧
      (∀ a w, (∀ p ∈ q :: qs, (setAll listed (q :: qs)).getD p.1 false = true) → I (setAll listed (q :: qs)) a w → wpG P ops Q S T r (setAll listed (q :: qs)) a w)

def cnt : List (Nat × List (Nat × List Nat)) → Nat
  | [] => 0
  | (_, []) :: r => cnt r + 1
  | (_, q :: qs) :: r => (q :: qs).length + cnt r

theorem wpHL_grp {n f : Nat} {qs : List (Nat × List Nat)} {fin : Array Bool} {L : Array Bool → Act → World → Prop} {I : Array Bool → Act → World → Prop}
    (hI : ∀ ls a w p, I ls a w → p ∈ qs → ls.getD p.1 true = false → (∀ j ∈ p.2, ls.getD j false = true) → wpOp P ops Q p.1 (fun a' w' => S w' ∧ I (ls.setIfInBounds p.1 true) a' w') a w)
    (hfin : ∀ a w, HeadInv md ops n fin → I fin a w → wpHL P md ops Q S n L f fin a w) :
    ∀ (k : Nat) (ls : Array Bool) (a : Act) (w : World), HeadInv md ops n ls → grpB md ops n qs fin k ls = true → I ls a w → wpHL P md ops Q S n L (k + f) ls a w
  | 0, ls, a, w, inv, hB, h => by
    simp only [grpB, decide_eq_true_eq] at hB
    have : ls = fin := Array.toList_inj.1 hB
    subst this
    rw [Nat.zero_add]
    exact hfin a w inv h
  | k + 1, ls, a, w, inv, hB, h => by
    simp only [grpB, Bool.and_eq_true, decide_eq_true_eq, List.all_eq_true, List.any_eq_true] at hB
    obtain ⟨hne, hall⟩ := hB
    rw [show k + 1 + f = (k + f) + 1 by omega]
    refine ⟨hne, fun i hi => ?_⟩
    obtain ⟨⟨hin, p, hp, hpi, hd⟩, hB'⟩ := hall i hi
    subst hpi
    refine ⟨hin, wpOp_mono (fun a' w' h' => ⟨h'.1, wpHL_grp hI hfin k _ a' w' (inv.set hi hin) hB' h'.2⟩) (hI ls a w p h hp (mem_ready.1 hi).1 hd)⟩

theorem wpHL_plan {keep : List Nat} {n g : Nat} {T : Act → World → Prop} (hsel : Region.noSelect ops = true) (hs : Region.sinkB md ops n = true) (hc : Region.chainB md ops n = true) (hn : n < ops.size) :
    ∀ (l : List (Nat × List (Nat × List Nat))) (listed : Array Bool) (a : Act) (w : World), HeadInv md ops n listed → lexG md ops keep g n l listed = true → wpG P ops (panicAny keep Q) S T l listed a w →
    wpHL P md ops (panicAny keep Q) S n (fun listed' a' w' => Region.seqB md ops g n listed' = true ∧ T a' w') (cnt l) listed a w
  | [], listed, a, w, _, hB, h => ⟨hB, h⟩
  | (i, []) :: l, listed, a, w, inv, hB, h => by
    simp only [lexG, Bool.and_eq_true, decide_eq_true_eq] at hB
    obtain ⟨⟨hin, ⟨hr, hf⟩, hk⟩, hB'⟩ := hB
    obtain ⟨hS, oi, v, ho, hy, hrest⟩ := h
    have hr' : i ∈ Region.ready md ops listed := by simpa using hr
    rw [ho] at hk
    exact wpHL_first ho (Region.noSelect_spec hsel) (panicAny_put (by simpa using hk)) hs hc hn hin (fun listed' a' w' hL => seqB_ready hL.1) (cnt l) listed a w inv (Region.free_spec ho hf) hr' hy hS
      (wpHL_plan hsel hs hc hn l _ _ w (inv.set hr' hin) hB' hrest)
  | (_, q :: qs) :: l, listed, a, w, inv, hB, h => by
    rw [lexG, Bool.and_eq_true, Bool.and_eq_true, Bool.and_eq_true] at hB
    obtain ⟨⟨⟨h0, h1⟩, h2⟩, h3⟩ := hB
    obtain ⟨I, i1, i2, i3⟩ := h (fun p hp => by have := List.all_eq_true.1 h0 p hp; simpa using this)
    exact wpHL_grp i2 (fun a' w' inv' hI => wpHL_plan hsel hs hc hn l _ a' w' inv' h3 (i3 a' w' (fun p hp => List.all_eq_true.1 h1 p hp) hI)) _ listed a w inv h2 i1

def planB (keep : List Nat) (ops : Array Oper) (n : Nat) (t : List (Nat × List (Nat × List Nat))) : Bool :=
  Region.noSelect ops && decide (n < ops.size) && Region.sinkB .any ops n && Region.chainB .any ops n && decide (cnt t = n) && lexG .any ops keep (ops.size - n) n t (Array.replicate ops.size false)

theorem wp_region_plan {id : Nat} {a : Act} {w : World} {l : List Oper} (keep : List Nat) (n : Nat) (t : List (Nat × List (Nat × List Nat))) (S : World → Prop) (hm : P.follows .mixedOrders = true) (hB : planB keep l.toArray n t = true)
    (h : ∀ ls, wpG P l.toArray (panicAny keep Q) S (wpList P l.toArray Q (l.drop n)) t ls a w.drew) : (Code.region id l.toArray true).wp P Q a w := by
  simp only [planB, Bool.and_eq_true, decide_eq_true_eq] at hB
  obtain ⟨⟨⟨⟨⟨hsel, hn⟩, hs⟩, hc⟩, hlen⟩, hlex⟩ := hB
  have hdl : (l.drop n).length = l.toArray.size - n := by simp
  have inv0 : HeadInv .any l.toArray n (Array.replicate l.toArray.size false) :=
    ⟨by simp, fun j oj _ hl => (by rw [getD_replicate_false] at hl; cases hl), fun t _ ht => getD_in (by simpa using ht) (getD_replicate_false _ _)⟩
  have H := wpHL_plan (md := .any) (Q := Q) hsel hs hc hn t _ a w.drew inv0 hlex (h _)
  refine wp_region_any hm ?_
  have := wpAny_of_HL (Q := Q) (Q1 := panicAny keep Q) (g := l.toArray.size - n) panicAny_post (fun listed a' w' hL => by
    have := wpAny_of_seq (md := .any) (Q' := Q) (l.drop n) n listed a' w' (fun j => by simp [List.getElem?_drop]) (by rw [hdl]; exact hL.1) hL.2
    rwa [hdl] at this) _ _ _ _ H
  rw [hlen, show n + (l.toArray.size - n) = l.toArray.size by omega] at this
  exact this
end

section
variable {P : Program} {l : List Oper} {S : World → Prop} {Q : Exit → Act → World → Prop}

theorem plan_quiet {T : Act → World → Prop} {i : Nat} {r : List (Nat × List (Nat × List Nat))} {a : Act} {w : World} (oi : Oper) (v : Value) (ho : l[i]? = some oi) (hS : S w)
    (hw : Region.wanted oi (yielded l.toArray a.tmps) = true) (hy : ∀ w, S w → (execOp a.eval oi).run P w = .ok (.value v) w) (h : ∀ ls, wpG P l.toArray Q S T r ls (a.put oi.dst v) w) : ∀ ls, wpG P l.toArray Q S T ((i, []) :: r) ls a w :=
  fun ls => ⟨hS, oi, v, by simpa using ho, .inl ⟨hw, hy⟩, h _⟩

theorem plan_tail {T : Act → World → Prop} {a : Act} {w : World} (h : T a w) : ∀ ls, wpG P l.toArray Q S T [] ls a w := fun _ => h

theorem grp_op {i : Nat} {K : Act → World → Prop} {a : Act} {w : World} (oi : Oper) (ho : l[i]? = some oi)
    (h : wpList P l.toArray (Exit.then K Q) [oi] a w) : wpOp P l.toArray Q i K a w := by
  have ho' : l.toArray[i]? = some oi := by simpa using ho
  unfold wpOp
  simp only [ho']
  simp only [wpList] at h
  split
  · rename_i hw
    simp only [hw, if_true] at h
    rcases h with h1 | ⟨h1, a0, w0, h2⟩
    · refine .inl ?_
      unfold Oper.wp at *
      generalize (execOp a.eval oi).run P w = res at *
      cases res with
      | ok x w' =>
        cases x <;> simp only [Oper.upon] at h1 ⊢ <;> exact h1
      | halt x w' => cases x <;> simp only [Oper.upon] at h1 ⊢; exact h1
    · exact .inr ⟨h1, a0, w0, h2⟩
  · rename_i hw
    simp only [hw] at h
    exact h

/-- A frame with what a group's operations have left. -/
def putAll (a : Act) (d : Nat → Nat) : List (Nat × List Nat) → (Nat → Value) → Act
  | [], _ => a
  | q :: r, x => (putAll a d r x).put (some (d q.1)) (x q.1)

theorem put_self (a : Act) (d : Nat) : a.put (some d) (a.tmps.getD d undef) = a := by
  unfold Act.put
  simp only
  congr 1
  apply Array.ext (by simp)
  intro i h1 h2
  by_cases hd : d = i
  · subst hd
    simp [h2]
  · rw [Array.getElem_setIfInBounds_ne (by simpa using h2) hd]

theorem put_comm (a : Act) {d e : Nat} (u v : Value) (h : d ≠ e) : (a.put (some d) u).put (some e) v = (a.put (some e) v).put (some d) u := by
  unfold Act.put
  simp only
  rw [Array.setIfInBounds_comm _ _ h]

theorem put_twice (a : Act) (d : Nat) (u v : Value) : (a.put (some d) u).put (some d) v = a.put (some d) v := by
  unfold Act.put
  simp only
  congr 1
  apply Array.ext (by simp)
  intro i h1 h2
  by_cases hd : d = i
  · subst hd; simp
  · rw [Array.getElem_setIfInBounds_ne (by simpa using h2) hd, Array.getElem_setIfInBounds_ne (by simpa using h2) hd, Array.getElem_setIfInBounds_ne (by simpa using h2) hd]

theorem putAll_self (a : Act) (d : Nat → Nat) : ∀ gs : List (Nat × List Nat), putAll a d gs (fun i => a.tmps.getD (d i) undef) = a
  | [] => rfl
  | q :: r => by rw [putAll, putAll_self a d r, put_self]

theorem putAll_other (a : Act) (d : Nat → Nat) (i : Nat) (v : Value) (x : Nat → Value) : ∀ gs : List (Nat × List Nat), (∀ q ∈ gs, q.1 ≠ i) → putAll a d gs (fun j => if j = i then v else x j) = putAll a d gs x
  | [], _ => rfl
  | q :: r, h => by rw [putAll, putAll, putAll_other a d i v x r (fun p hp => h p (List.mem_cons_of_mem _ hp)), if_neg (h q List.mem_cons_self)]

theorem putAll_put (a : Act) (d : Nat → Nat) (v : Value) (x : Nat → Value) : ∀ (gs : List (Nat × List Nat)), (gs.map (·.1)).Nodup → (∀ p ∈ gs, ∀ q ∈ gs, d p.1 = d q.1 → p.1 = q.1) → ∀ g ∈ gs, (putAll a d gs x).put (some (d g.1)) v = putAll a d gs (fun j => if j = g.1 then v else x j)
  | q :: r, hnd, hinj, g, hg => by
    rw [List.map_cons, List.nodup_cons] at hnd
    rcases List.mem_cons.1 hg with rfl | hg'
    · rw [putAll, put_twice, putAll, if_pos rfl, putAll_other a d _ v x r (fun p hp e => hnd.1 (List.mem_map.2 ⟨p, hp, e⟩))]
    · have hne : q.1 ≠ g.1 := fun e => hnd.1 (List.mem_map.2 ⟨g, hg', e.symm⟩)
      have hd : d q.1 ≠ d g.1 := fun e => hne (hinj q List.mem_cons_self g hg e)
      rw [putAll, put_comm _ _ _ hd, putAll_put a d v x r hnd.2 (fun p hp q' hq' => hinj p (List.mem_cons_of_mem _ hp) q' (List.mem_cons_of_mem _ hq')) g hg', putAll, if_neg hne]

/-- A group, each of it shown once. -/
theorem plan_group {T : Act → World → Prop} {r : List (Nat × List (Nat × List Nat))} {a : Act} {w : World} {q0 : Nat × List Nat} {qs : List (Nat × List Nat)} (d : Nat → Nat) (F : Nat → Value → World → Prop) (G : World → World → Prop)
    (hnd : ((q0 :: qs).map (·.1)).Nodup) (hinj : ∀ p ∈ q0 :: qs, ∀ q ∈ q0 :: qs, d p.1 = d q.1 → p.1 = q.1) (hdep : ∀ p ∈ q0 :: qs, ∀ j ∈ p.2, ∃ q ∈ q0 :: qs, q.1 = j)
    (hSG : ∀ w w', S w → G w w' → S w') (hFG : ∀ p ∈ q0 :: qs, ∀ v w w', F p.1 v w → G w w' → F p.1 v w') (hS : S w)
    (steps : ∀ p ∈ q0 :: qs, ∀ x w, S w → (∀ j ∈ p.2, F j (x j) w) → ∃ oi, l[p.1]? = some oi ∧ ∀ K : Act → World → Prop, (∀ v w', G w w' → F p.1 v w' → K ((putAll a d (q0 :: qs) x).put (some (d p.1)) v) w') → wpList P l.toArray (Exit.then K Q) [oi] (putAll a d (q0 :: qs) x) w)
    (fin : ∀ x w, S w → (∀ p ∈ q0 :: qs, F p.1 (x p.1) w) → ∀ ls, wpG P l.toArray Q S T r ls (putAll a d (q0 :: qs) x) w) : ∀ ls, wpG P l.toArray Q S T ((0, q0 :: qs) :: r) ls a w := by
  intro ls hno
  refine ⟨fun ls a' w' => S w' ∧ ∃ x, a' = putAll a d (q0 :: qs) x ∧ ∀ p ∈ q0 :: qs, ls.getD p.1 false = true → F p.1 (x p.1) w', ?_, ?_, ?_⟩
  · refine ⟨hS, _, (putAll_self a d _).symm, fun p hp h => ?_⟩
    have h1 := hno p hp
    by_cases hlt : p.1 < ls.size
    · simp [hlt] at h h1
      rw [h1] at h
      cases h
    · simp [hlt] at h
  · rintro ls a' w' p ⟨hSw, x, rfl, hx⟩ hp _ hd
    obtain ⟨oi, ho, hst⟩ := steps p hp x w' hSw (fun j hj => by
      obtain ⟨q, hq, rfl⟩ := hdep p hp j hj
      exact hx q hq (hd _ hj))
    refine grp_op oi ho (hst _ (fun v w2 hg hF => ⟨hSG _ _ hSw hg, hSG _ _ hSw hg, fun j => if j = p.1 then v else x j, ?_, ?_⟩))
    · exact putAll_put a d v x _ hnd hinj p hp
    · intro q hq hl
      by_cases he : q.1 = p.1
      · simp only [he, if_true]; exact hF
      · simp only [he, if_false]
        refine hFG q hq _ _ _ (hx q hq ?_) hg
        have hne : p.1 ≠ q.1 := fun e => he e.symm
        simpa [Array.getElem?_setIfInBounds_ne hne] using hl
  · rintro a' w' hall ⟨hSw, x, rfl, hx⟩
    exact fin x w' hSw (fun p hp => hx p hp (hall p hp)) _
end
end Go.Proofs.Ytgmfofngmfekbaa

namespace Go.Proofs.Ytgmfofngmfekbaa
set_option linter.unusedVariables false
set_option linter.unusedSimpArgs false
set_option maxRecDepth 20000
open Go.RowKit
section
variable {P : Program} {w : World} {ops : Array Oper} {rest : List Oper} {o : Oper} {a : Act} {Q : Exit → Act → World → Prop}

theorem nd_quiet (v : Value) (hw : Region.wanted o (yielded ops a.tmps) = true) (hy : (execOp a.eval o).run P w = .ok (.value v) w) (h : wpList P ops Q rest (a.put o.dst v) w) : wpList P ops Q (o :: rest) a w := by
  refine wpList_do hw ?_
  unfold Oper.wp
  simp only [hy]
  exact h

theorem nd_skip (hw : Region.wanted o (yielded ops a.tmps) = false) (h : wpList P ops Q rest (a.put o.dst undef) w) : wpList P ops Q (o :: rest) a w := by
  unfold wpList
  rw [if_neg (by simp [hw])]
  exact h

theorem nd_call {R : Ending → World → Prop} (f : FuncId) (args : Array Value) (hw : Region.wanted o (yielded ops a.tmps) = true) (hc : Calls P f args w R) (hy : (execOp a.eval o).run P w = .ok (.enter f args) w)
    (hR : ∀ e w', R e w' → ∃ v, e = .returned v ∧ wpList P ops Q rest (a.put o.dst v) w') : wpList P ops Q (o :: rest) a w := by
  refine wpList_do hw ?_
  unfold Oper.wp
  rw [hy, Oper.upon_enter]
  exact hc.mono (fun e w' h => by obtain ⟨v, rfl, h'⟩ := hR e w' h; exact h')
end
end Go.Proofs.Ytgmfofngmfekbaa

namespace Go.Proofs.Ytgmfofngmfekbaa
set_option linter.unusedVariables false
set_option linter.unusedSimpArgs false
set_option maxRecDepth 20000
open Go.RowKit Go.ChangeShapes Go.WideShapes Go.Deep

theorem weights_mem {H : Type} {P : Program} {e : TypeId} : ∀ {l : List (DataW H)} {d : DataW H} {n : Nat}, d ∈ l → n ∈ d.weights P e → n ∈ DataW.weightsAll P e l
  | [], _, _, h, _ => by simp at h
  | x :: l, d, n, h, hn => by
    simp only [DataW.weightsAll, List.mem_append]
    rcases List.mem_cons.1 h with rfl | h
    · exact .inl hn
    · exact .inr (weights_mem h hn)

theorem plain_of {w : World} {a : Addr} {v : Value} (h : w.cell? a = some v) : a = ⟨a.block, a.off, none⟩ := by
  obtain ⟨b, o, s⟩ := a
  cases s with
  | none => rfl
  | some s =>
    unfold World.cell? at h
    split at h <;> simp at h

theorem flat_get {α : Type} {f : α → List Value} {s : Nat} (hf : ∀ x, (f x).length = s) : ∀ {xs : List α} {i : Nat} {c : Value}, (xs.flatMap f)[i]? = some c → ∃ k j, ∃ h : k < xs.length, j < s ∧ i = k * s + j ∧ (f xs[k])[j]? = some c
  | [], i, c, h => by simp at h
  | x :: xs, i, c, h => by
    rw [List.flatMap_cons] at h
    by_cases hi : i < s
    · rw [List.getElem?_append_left (by rw [hf]; exact hi)] at h
      exact ⟨0, i, by simp, hi, by omega, by simpa using h⟩
    · rw [List.getElem?_append_right (by rw [hf]; omega), hf] at h
      obtain ⟨k, j, hk, hj, he, hc⟩ := flat_get hf h
      exact ⟨k + 1, j, by simpa using hk, hj, by rw [Nat.add_mul]; omega, by simpa using hc⟩

theorem bulk_le {H : Type} (d : DataW H) : 1 ≤ Rows.uptoBulk d := by
  cases d with
  | lit l => cases l <;> simp [Rows.uptoBulk]
  | nil => simp [Rows.uptoBulk]
  | ptr d => simp [Rows.uptoBulk]
  | slice elems spare => simp [Rows.uptoBulk]
  | agg parts => simp [Rows.uptoBulk]
  | iface t d => simp [Rows.uptoBulk]
  | map entries => simp [Rows.uptoBulk]
  | held h => simp [Rows.uptoBulk]

theorem bulk_len {H : Type} (l : List (DataW H)) : l.length ≤ Rows.uptoBulkAll l := by
  induction l with
  | nil => simp [Rows.uptoBulkAll]
  | cons x r ih => have := bulk_le x; simp only [Rows.uptoBulkAll, List.length_cons]; omega

theorem bulk_sum {H : Type} {α : Type} (z : α → Nat) : ∀ (l : List (DataW H)) (xs : List α), l.length = xs.length → (∀ i (h1 : i < l.length) (h2 : i < xs.length), z xs[i] ≤ Rows.uptoBulk l[i]) → (xs.map z).sum ≤ Rows.uptoBulkAll l
  | [], [], _, _ => by simp
  | d :: l, x :: xs, hl, h => by
    have h0 := h 0 (by simp) (by simp)
    have ih := bulk_sum z l xs (by simpa using hl) (fun i h1 h2 => h (i + 1) (by simpa using h1) (by simpa using h2))
    simp only [List.map_cons, List.sum_cons, Rows.uptoBulkAll]
    simp at h0
    omega
  | [], _ :: _, hl, _ => by simp at hl
  | _ :: _, [], hl, _ => by simp at hl

/-- What a slice that came in holds: z says how much of the bulk an element pays. -/
theorem open_rows {H : Type} {enc : TypeId × Value → H} {W : World} {fuel : Nat} {v : Value} {d : DataW H} {p : List MemPlace} {T e : TypeId} {α : Type} (x0 : α) (f : α → List Value) (s by' : Nat) (Q : α → Prop) (z : α → Nat)
    (hu : Try.prog.underlying T = some (.slice e)) (hc : Try.prog.cellsOf e = s) (hby : Try.prog.bytesOf e = by') (hs : 0 < s) (hf : ∀ x, (f x).length = s)
    (h : DataW.trod enc Try.prog W 0 (fun _ => true) true fuel T [v] = some (d, p)) (hw : ∀ n ∈ d.weights Try.prog T, n ≤ reachBytes)
    (each : ∀ (k : Nat) (cs : List Value) (dd : DataW H) (pp : List MemPlace), DataW.trod enc Try.prog W 0 (fun _ => true) true k e cs = some (dd, pp) → cs.length = s → (∀ n ∈ dd.weights Try.prog e, n ≤ reachBytes) → ∃ x : α, cs = f x ∧ Q x ∧ z x ≤ Rows.uptoBulk dd) :
    ∃ xs : List α, Slp (fun b => b < W.heap.size) W v xs.length (xs.flatMap f) ∧ xs.length * by' ≤ reachBytes ∧ (∀ x ∈ xs, Q x) ∧ xs.length + 1 ≤ Rows.uptoBulk d ∧ (xs.map z).sum + 1 ≤ Rows.uptoBulk d := by
  rcases open_slice hu h with ⟨hcs, hd⟩ | ⟨a, len, cap, m, n, D, Pl, hcs, _, hl, hm, hmm, hx, hall⟩
  · simp only [List.cons.injEq, and_true] at hcs
    subst hcs
    have := bulk_le d
    exact ⟨[], ⟨none, 0, rfl, ⟨Nat.le_refl _, Nat.zero_le _⟩, fun _ => rfl, fun i c hi => by simp at hi⟩, by simp, fun x hx => by simp at hx, by simpa using this, by simpa using this⟩
  · simp only [List.cons.injEq, and_true] at hcs
    subst hcs
    simp only [if_true] at hmm
    subst hmm
    simp only [Prod.mk.injEq] at hx
    obtain ⟨rfl, _⟩ := hx
    rw [hc] at hall
    have hwD : ∀ i, i < len → ∀ n ∈ (D i).weights Try.prog e, n ≤ reachBytes := fun i hi n hn => hw n (by
      simp only [DataW.weights, hu, List.mem_cons, List.mem_append]
      exact .inr (.inl (weights_mem (List.mem_map.2 ⟨i, List.mem_range.2 hi, rfl⟩) hn)))
    have hlen := hw ((((List.range len).map D).length + ((List.range (m - len)).map fun j => D (len + j)).length) * Try.prog.bytesOf e) (by simp [DataW.weights, hu])
    have ex : ∀ i, i < len → ∃ x : α, Q x ∧ z x ≤ Rows.uptoBulk (D i) ∧ ∀ j c, (f x)[j]? = some c → W.cell? ((a.add (i * s)).add j) = some c := by
      intro i hi
      obtain ⟨cs', h1, h2⟩ := hall i (by omega)
      obtain ⟨_, hlen, hcell⟩ := World.cells?_some h1
      obtain ⟨x, rfl, hq, hz⟩ := each _ cs' (D i) (Pl i) h2 hlen (hwD i hi)
      refine ⟨x, hq, hz, fun j c hj => ?_⟩
      have hjl : j < (f x).length := (List.getElem?_eq_some_iff.1 hj).1
      have := hcell j (by rw [hf] at hjl; exact hjl)
      rw [this]
      exact hj
    haveI : Inhabited α := ⟨x0⟩
    obtain ⟨F, hF⟩ := choose_lt ex
    have hxl : ((List.range len).map F).length = len := by simp
    have hpos : 0 < len → a = ⟨a.block, a.off, none⟩ := fun h0 => by
      have hfl : 0 < (f (F 0)).length := by rw [hf]; exact hs
      have h1 := (hF 0 h0).2.2 0 _ (List.getElem?_eq_getElem hfl)
      have e1 : (a.add (0 * s)).add 0 = a := by simp [Addr.add]
      rw [e1] at h1
      exact plain_of h1
    refine ⟨(List.range len).map F, ?_, ?_, ?_, ?_, ?_⟩
    · rw [hxl]
      refine ⟨some a, m, rfl, ⟨hl, hm⟩, fun h => by simp at h, fun i c hi => ?_⟩
      obtain ⟨k, j, hk, hj, rfl, hcj⟩ := flat_get hf hi
      rw [hxl] at hk
      have hg := (hF k hk).2.2 j c (by simpa using hcj)
      have ha := hpos (by omega)
      rw [ha, add_plain, add_plain] at hg
      refine ⟨a.block, a.off, by rw [← ha], World.block_lt_of_cell? W ⟨a.block, a.off + k * s + j, none⟩ hg, ?_⟩
      rw [← Nat.add_assoc]
      exact hg
    · rw [hxl, ← hby]
      simp only [List.length_map, List.length_range] at hlen
      exact Nat.le_trans (Nat.mul_le_mul_right _ (by omega)) hlen
    · intro x hx
      obtain ⟨i, hi, rfl⟩ := List.mem_map.1 hx
      exact (hF i (List.mem_range.1 hi)).1
    · rw [hxl]
      simp only [Rows.uptoBulk]
      have := bulk_len ((List.range len).map D)
      simp at this
      omega
    · simp only [Rows.uptoBulk]
      have := bulk_sum z ((List.range len).map D) ((List.range len).map F) (by simp) (fun i h1 h2 => by
        simp only [List.getElem_map, List.getElem_range]
        exact (hF i (by simpa using h2)).2.1)
      omega
theorem pL (l : List Value) (d : Tmp) (v : Value) (D : List Deferred) : ({ tmps := l.toArray, defers := D } : Act).put (some d) v = { tmps := (l.set d v).toArray, defers := D } := by simp [Act.put]
end Go.Proofs.Ytgmfofngmfekbaa
