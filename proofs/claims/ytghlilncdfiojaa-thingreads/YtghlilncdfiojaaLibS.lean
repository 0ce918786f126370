/-
  LibMem, LibFr, LibAgg, LibLex, LibOrd, LibSlc, LibNd, LibRep, LibRin, LibFork, LibApp: in one text.
-/
import Derived.WalkKit
import Derived.WalkSpells
import Derived.WalkLawsBesides
import Derived.Laws.AppendOwnNone
import Derived.Maps.AppendAt
import Derived.Deep.MidRow
import Derived.Laws.CopyOwn
import Derived.Laws.ResultCell
import Derived.Great.BuildSlice
import Derived.Laws.OwnMore
import Derived.Laws.MakeOwn
import Derived.StillTail
import Derived.OrdersHeld
import Derived.Test.YtghlilncdfiojaaChecked
import Derived.Deep.Slices
import Derived.ProofKit
import Derived.OpenShut
import Derived.SizedLaws
import Derived.Test.YtghlilncdfiojaaRows
import Derived.Shelf.Strings.Repeat
import Derived.OrdersIn
import Derived.OwnWalkIn
import Derived.ArgAppend
namespace Go.Proofs.Ytghlilncdfiojaa
set_option linter.unusedVariables false
set_option linter.unusedSimpArgs false
set_option maxRecDepth 20000
open Go.RowKit

/-- The walk stands still behind it. -/
theorem stop_here {p : Prop} (h : Hid p) : p := h

/-- A byte as a cell. -/
def bv (x : UInt8) : Value := .int .u8 (x.toNat : Int)

/-- The slice value v has n elements, and its cells are cs, in a block below K. -/
def Sl (K : Nat) (w : World) (v : Value) (n : Nat) (cs : List Value) : Prop :=
  ∃ ao cap, v = .slice ao n cap ∧ (n ≤ cap ∧ cap ≤ maxLen) ∧ (ao = none → cap = 0) ∧
    ∀ i c, cs[i]? = some c → ∃ b off, ao = some ⟨b, off, none⟩ ∧ b < K ∧ w.cell? ⟨b, off + i, none⟩ = some c

theorem Sl.keep {K n : Nat} {w w' : World} {v : Value} {cs : List Value} (h : Sl K w v n cs) (hb : Below K w w') : Sl K w' v n cs := by
  obtain ⟨ao, cap, hv, hc, hn, hcs⟩ := h
  refine ⟨ao, cap, hv, hc, hn, fun i c hi => ?_⟩
  obtain ⟨b, off, ha, hbk, hcell⟩ := hcs i c hi
  exact ⟨b, off, ha, hbk, by rw [hb.cell (p := ⟨b, off + i, none⟩) hbk]; exact hcell⟩

theorem Sl.mono {K K' n : Nat} {w : World} {v : Value} {cs : List Value} (h : Sl K w v n cs) (hk : K ≤ K') : Sl K' w v n cs := by
  obtain ⟨ao, cap, hv, hc, hn, hcs⟩ := h
  refine ⟨ao, cap, hv, hc, hn, fun i c hi => ?_⟩
  obtain ⟨b, off, ha, hbk, hcell⟩ := hcs i c hi
  exact ⟨b, off, ha, Nat.lt_of_lt_of_le hbk hk, hcell⟩

theorem Sl.nil (K : Nat) (w : World) : Sl K w (.slice none 0 0) 0 [] := ⟨none, 0, rfl, ⟨Nat.le_refl _, Nat.zero_le _⟩, fun _ => rfl, fun i c h => by simp at h⟩

theorem add_plain (b o n : Nat) : (⟨b, o, none⟩ : Addr).add n = ⟨b, o + n, none⟩ := by
  unfold Addr.add; split <;> simp_all

theorem Sl.cut {K n : Nat} {w : World} {ao : Option Addr} {cap : Nat} {cs : List Value} (h : Sl K w (.slice ao n cap) n cs) (s l r : Nat) (_hs : 0 < s) (hl : cs.length = n * s) (hlr : l ≤ r) (hrn : r ≤ n) :
    Sl K w (sliced ao l r cap s) (r - l) ((cs.drop (l * s)).take ((r - l) * s)) := by
  obtain ⟨ao', cap', hv, hc, hn, hcs⟩ := h
  simp only [Value.slice.injEq, true_and] at hv
  obtain ⟨rfl, rfl⟩ := hv
  refine ⟨if cap = l then ao else ao.map (·.add (l * s)), cap - l, rfl, by omega, ?_, ?_⟩
  · intro h0
    split at h0
    · omega
    · have : ao = none := by simpa using h0
      have := hn this
      omega
  · intro i c hi
    rw [List.getElem?_take] at hi
    split at hi
    · rename_i hlt
      rw [List.getElem?_drop] at hi
      obtain ⟨b, off, ha, hbk, hcell⟩ := hcs _ _ hi
      have hne : ¬ cap = l := by
        intro e
        have : r - l = 0 := by omega
        rw [this] at hlt
        simp at hlt
      refine ⟨b, off + l * s, ?_, hbk, by rw [Nat.add_assoc]; exact hcell⟩
      rw [if_neg hne, ha]
      simp [add_plain]
    · cases hi

/-- A slice of bytes cut from l to r; its own name keeps the walk from looking inside. -/
def cut1 (ao : Option Addr) (l r cap : Nat) : Value := sliced ao l r cap 1

theorem cut1_form (ao : Option Addr) (l r cap : Nat) : ∃ ao', cut1 ao l r cap = .slice ao' (r - l) (cap - l) := ⟨_, rfl⟩

theorem Sl.cut1 {K : Nat} {w : World} {ao : Option Addr} {cap : Nat} {xs : List UInt8} (h : Sl K w (.slice ao xs.length cap) xs.length (xs.map bv)) (l r : Nat) (hlr : l ≤ r) (hrn : r ≤ xs.length) :
    Sl K w (cut1 ao l r cap) (r - l) (((xs.drop l).take (r - l)).map bv) := by
  have := h.cut 1 l r (by decide) (by simp) hlr hrn
  simpa [Proofs.Ytghlilncdfiojaa.cut1] using this

theorem sl_of_owns {w : World} {base e size n : Nat} {v : Value} {xs : List Value} (h : w.ownsRow base e size v n xs) : Sl w.heap.size w v n xs := by
  obtain ⟨h1, h2⟩ := h
  rcases h2 with ⟨rfl, rfl⟩ | ⟨g, cap, cur, rfl, hb, hg, hn, hm, hs, ht⟩
  · have : xs = [] := List.eq_nil_of_length_eq_zero (by simpa using h1)
    subst this
    exact Sl.nil _ _
  · refine ⟨_, cap, rfl, ⟨hn, hm⟩, fun h => by simp at h, fun i c hi => ⟨g, 0, rfl, (Array.getElem?_eq_some_iff.1 hg).1, ?_⟩⟩
    rw [Nat.zero_add, cell_of_row w g i cur e (0, 0) hg]
    rw [← ht, List.getElem?_take] at hi
    split at hi
    · simpa using hi
    · cases hi

theorem sl_lit (w : World) (cs : Array Value) (t n : Nat) (hn : n ≤ 1000000000) : Sl (w.heap.size + 1) (w.alloc (.cells cs t)) (.slice (some ⟨w.heap.size, 0, none⟩) n n) n cs.toList := by
  refine ⟨_, n, rfl, ⟨Nat.le_refl _, by unfold maxLen; omega⟩, fun h => by simp at h, fun i c hi => ⟨w.heap.size, 0, rfl, Nat.lt_succ_self _, ?_⟩⟩
  rw [Nat.zero_add, cell_of_row _ w.heap.size i cs t (0, 0) (heap_alloc_new w _)]
  simpa using hi

theorem bv_oneCell (xs : List UInt8) : ∀ u ∈ xs.map bv, u.oneCell' = true := by
  intro u hu
  obtain ⟨x, _, rfl⟩ := List.mem_map.1 hu
  rfl

/-- An append of what any slice holds, onto an owned row. -/
theorem wpList_append_sl {P : Program} (w : World) {ops : Array Oper} {rest : List Oper} {o : Oper} {a : Act} {Q : Exit → Act → World → Prop} (hgd : o.guard = none) (s x : Operand) (t : TypeId)
    (ho : o.op = .call { callee := .builtin .append, args := #[s, x], argTypes := #[t, t] })
    (base : Nat) (e : TypeId) (i : TypeInfo) (z : Value) (size bytes : Nat) (ht : P.underlying t = some (.slice e)) (hi : P.info? e = some i) (hz : i.zero = some z)
    (hsize : i.size = size) (hby : i.bytes = bytes) (hzs : z.cells.size = size) (hsz : 0 < size)
    (v : Value) (n : Nat) (xs : List Value) (hs : a.eval s = v) (hown : w.ownsRow base e size v n xs)
    (K : Nat) (u : Value) (m : Nat) (news : List Value) (hx : a.eval x = u) (hsl : Sl K w u m news) (hl : news.length = m * size) (h1 : ∀ u ∈ news, u.oneCell' = true)
    (h63 : n + m ≤ maxLen) (hbytes : (n + m) * bytes ≤ 140737488355328) (hbase : base ≤ w.heap.size)
    (h : ∀ v' w', w'.ownsRow base e size v' (n + m) (xs ++ news) → w.grownBy w' v.ownBlock → (v'.ownBlock = v.ownBlock ∨ v'.ownBlock = some w.heap.size) → wpList P ops Q rest (a.put o.dst v') w') : wpList P ops Q (o :: rest) a w := by
  obtain ⟨ao, cap, rfl, hc, hn, hcs⟩ := hsl
  cases ao with
  | none =>
    have hc0 := hn rfl
    subst hc0
    have hm : m = 0 := by omega
    subst hm
    have hnews : news = [] := List.eq_nil_of_length_eq_zero (by simpa using hl)
    subst hnews
    refine wpList_append_own_none hgd s x t ho base e i size ht hi v n xs hs hown hx ?_
    exact h v w (by simpa using hown) (World.grownBy.refl _ _) (Or.inl rfl)
  | some ad =>
    refine wpList_plain hgd fun K' hK => ?_
    have hnews : ∀ j u, news[j]? = some u → w.cell? (ad.add j) = some u := by
      intro j u hj
      obtain ⟨b, off, ha, _, hcell⟩ := hcs j u hj
      obtain rfl := Option.some.inj ha
      rw [add_plain]
      exact hcell
    obtain ⟨v', w', hr, h2, h3, _, h5⟩ := run_append_own_at (P := P) w base t o.type e i z size bytes ht hi hz hsize hby hzs hsz v n xs hown ad m cap news hl hnews h1 h63 hbytes hbase
    unfold Oper.wp execOp
    simp only [ho, resolve, invoke, builtin, Sem.run_bind, Sem.run_pure, Result.andThen_ok, List.map_toArray, List.map_cons, List.map_nil, hs, hx, hr]
    exact hK _ _ (h v' w' h2 h3 h5)

theorem sl_bytes_get {K n : Nat} {w : World} {ao : Option Addr} {cap : Nat} {xs : List UInt8} (h : Sl K w (.slice ao n cap) n (xs.map bv)) (i : Nat) (hi : i < xs.length) :
    ∃ b off, ao = some ⟨b, off, none⟩ ∧ b < K ∧ w.cell? ⟨b, off + i, none⟩ = some (.int .u8 (xs[i].toNat : Int)) := by
  obtain ⟨ao', cap', hv, hc, hn, hcs⟩ := h
  simp only [Value.slice.injEq, true_and] at hv
  obtain ⟨rfl, rfl⟩ := hv
  exact hcs i (bv xs[i]) (by simp [hi])

/-- A conversion of bytes to a string. -/
theorem run_string_sl {P : Program} (src e dst : TypeId) (hs : P.underlying src = some (.slice e)) (he : P.underlying e = some (.int .u8)) (hd : P.underlying dst = some .string)
    {K : Nat} {w : World} {v : Value} {xs : List UInt8} (h : Sl K w v xs.length (xs.map bv)) :
    (convert src dst v).run P w = .ok (.string ⟨xs.toArray⟩) w := by
  obtain ⟨ao, cap, rfl, hc, hn, hcs⟩ := h
  cases ao with
  | none =>
    have h0 := hn rfl
    have hx : xs = [] := List.eq_nil_of_length_eq_zero (by omega)
    subst hx
    exact run_convert_bytes_nil w src e hs he _ _ dst hd
  | some ad =>
    rw [run_convert_bytes_string w src dst e _ _ cap hs he hd]
    have hl : (loadCells ad xs.length).run P w = .ok ((xs.map fun x => (x.toNat : Int)).map (Value.int .u8)).toArray w := by
      have := run_loadCells_list (P := P) w ad ((xs.map fun x => (x.toNat : Int)).map (Value.int .u8)) (fun j v hj => by
        have e : (xs.map fun x => (x.toNat : Int)).map (Value.int .u8) = xs.map bv := by simp [bv, Function.comp_def]
        rw [e] at hj
        obtain ⟨b, off, ha, _, hcell⟩ := hcs j v hj
        obtain rfl := Option.some.inj ha
        rw [add_plain]
        exact hcell)
      simpa using this
    rw [run_bytesToString w ad xs.length cap _ hl, foldl_push_bytes]
    congr 2
    simp only [ByteArray.empty, ByteArray.emptyWithCapacity, List.map_map]
    congr 1
    have : ∀ l : List UInt8, l.map ((fun n : Int => UInt8.ofNat n.toNat) ∘ fun x => (x.toNat : Int)) = l := by
      intro l
      induction l with
      | nil => rfl
      | cons a l ih => simp [ih]
    rw [this]
    simp
    rfl

theorem owns_form {w : World} {B e size n : Nat} {v : Value} {xs : List Value} (h : w.ownsRow B e size v n xs) : ∃ ao cap, v = .slice ao n cap := by
  rcases h.2 with ⟨rfl, rfl⟩ | ⟨g, cap, cur, rfl, _⟩
  · exact ⟨none, 0, rfl⟩
  · exact ⟨_, cap, rfl⟩

theorem sl_form {K n : Nat} {w : World} {v : Value} {cs : List Value} (h : Sl K w v n cs) : ∃ ao cap, v = .slice ao n cap := by
  obtain ⟨ao, cap, hv, _⟩ := h
  exact ⟨ao, cap, hv⟩

theorem owns_ge {w : World} {B e size n : Nat} {v : Value} {xs : List Value} (h : w.ownsRow B e size v n xs) : ∀ k, v.ownBlock = some k → B ≤ k := fun k hk => (h.lt k hk).1

theorem owns_of_block {w w' : World} {base e size n : Nat} {v : Value} {xs : List Value} (h : w.ownsRow base e size v n xs) (hb : ∀ k, v.ownBlock = some k → w'.heap[k]? = w.heap[k]?) : w'.ownsRow base e size v n xs := by
  refine ⟨h.1, ?_⟩
  rcases h.2 with h2 | ⟨g, cap, cur, rfl, h3, h4, r⟩
  · exact .inl h2
  · exact .inr ⟨g, cap, cur, rfl, h3, by rw [hb g rfl]; exact h4, r⟩

/-- A slice whose cells lie in blocks of one class. -/
def Slp (X : Nat → Prop) (w : World) (v : Value) (n : Nat) (cs : List Value) : Prop :=
  ∃ ao cap, v = .slice ao n cap ∧ (n ≤ cap ∧ cap ≤ maxLen) ∧ (ao = none → cap = 0) ∧
    ∀ i c, cs[i]? = some c → ∃ b off, ao = some ⟨b, off, none⟩ ∧ X b ∧ w.cell? ⟨b, off + i, none⟩ = some c

theorem Slp.sl {X : Nat → Prop} {w : World} {v : Value} {n : Nat} {cs : List Value} (h : Slp X w v n cs) {K : Nat} (hX : ∀ b, X b → b < K) : Sl K w v n cs := by
  obtain ⟨ao, cap, hv, hc, hn, hcs⟩ := h
  refine ⟨ao, cap, hv, hc, hn, fun i c hi => ?_⟩
  obtain ⟨b, off, h1, h2, h3⟩ := hcs i c hi
  exact ⟨b, off, h1, hX b h2, h3⟩

theorem Slp.keep {X X' : Nat → Prop} {w w' : World} {v : Value} {n : Nat} {cs : List Value} (h : Slp X w v n cs) (hX : ∀ b, X b → X' b ∧ w'.heap[b]? = w.heap[b]?) : Slp X' w' v n cs := by
  obtain ⟨ao, cap, hv, hc, hn, hcs⟩ := h
  refine ⟨ao, cap, hv, hc, hn, fun i c hi => ?_⟩
  obtain ⟨b, off, h1, h2, h3⟩ := hcs i c hi
  obtain ⟨h4, h5⟩ := hX b h2
  exact ⟨b, off, h1, h4, by rw [World.cell?_of_block (w := w) h5]; exact h3⟩

theorem slp_of_owns {w : World} {base e size n : Nat} {v : Value} {xs : List Value} (h : w.ownsRow base e size v n xs) : Slp (fun b => v.ownBlock = some b) w v n xs := by
  obtain ⟨h1, h2⟩ := h
  rcases h2 with ⟨rfl, rfl⟩ | ⟨g, cap, cur, rfl, hb, hg, hn, hm, hs, ht⟩
  · have : xs = [] := List.eq_nil_of_length_eq_zero (by simpa using h1)
    subst this
    exact ⟨none, 0, rfl, ⟨Nat.le_refl _, Nat.zero_le _⟩, fun _ => rfl, fun i c h => by simp at h⟩
  · refine ⟨_, cap, rfl, ⟨hn, hm⟩, fun h => by simp at h, fun i c hi => ⟨g, 0, rfl, rfl, ?_⟩⟩
    rw [Nat.zero_add, cell_of_row w g i cur e (0, 0) hg]
    rw [← ht, List.getElem?_take] at hi
    split at hi
    · simpa using hi
    · cases hi
end Go.Proofs.Ytghlilncdfiojaa

namespace Go.Proofs.Ytghlilncdfiojaa
set_option linter.unusedVariables false
set_option linter.unusedSimpArgs false
set_option maxRecDepth 20000
open Go.RowKit

/-- Part of a sector laid over. -/
def lay (old new : List UInt8) (n : Nat) : List UInt8 := new.take n ++ old.drop n

/-! ### Frames -/
/-- Blocks outside S are as they were. -/
structure Fr (S : Nat → Prop) (w w' : World) : Prop where
  os : w'.os = w.os
  tape : w'.tape = w.tape
  output : w'.output = w.output
  size : w.heap.size ≤ w'.heap.size
  block : ∀ k, k < w.heap.size → ¬ S k → w'.heap[k]? = w.heap[k]?

theorem Fr.refl (S : Nat → Prop) (w : World) : Fr S w w := ⟨rfl, rfl, rfl, Nat.le_refl _, fun _ _ _ => rfl⟩

theorem Fr.trans {S T : Nat → Prop} {a b c : World} (h : Fr S a b) (k : Fr T b c) (hT : ∀ i, T i → S i ∨ a.heap.size ≤ i) : Fr S a c :=
  ⟨k.os.trans h.os, k.tape.trans h.tape, k.output.trans h.output, Nat.le_trans h.size k.size, fun i hi hS =>
    (k.block i (Nat.lt_of_lt_of_le hi h.size) (fun ht => by rcases hT i ht with h1 | h1; exact hS h1; omega)).trans (h.block i hi hS)⟩

theorem Fr.mono {S T : Nat → Prop} {w w' : World} (h : Fr S w w') (hT : ∀ i, S i → T i) : Fr T w w' := ⟨h.os, h.tape, h.output, h.size, fun i hi hS => h.block i hi (fun hs => hS (hT i hs))⟩

theorem Fr.alloc {S : Nat → Prop} {a w : World} (h : Fr S a w) (o : Obj) : Fr S a (w.alloc o) :=
  ⟨h.os, h.tape, h.output, by have := h.size; simp; omega, fun i hi hS => (Below.heap_alloc _ _ _ (Nat.lt_of_lt_of_le hi h.size)).trans (h.block i hi hS)⟩

theorem Fr.drew {S : Nat → Prop} {a w : World} (h : Fr S a w) : Fr S a w.drew := ⟨h.os, h.tape, h.output, h.size, h.block⟩

theorem Fr.setCell {S : Nat → Prop} {a w : World} (h : Fr S a w) {p : Addr} (hp : S p.block ∨ a.heap.size ≤ p.block) (u : Value) : Fr S a (w.setCell p u) :=
  ⟨h.os, h.tape, h.output, by have := h.size; simp [World.setCell]; omega, fun i hi hS => (Below.heap_setCell _ _ _ _ (fun e => by subst e; rcases hp with h1 | h1; exact hS h1; omega)).trans (h.block i hi hS)⟩

theorem Fr.setRow {S : Nat → Prop} {a w : World} (h : Fr S a w) {g : Nat} (hp : S g ∨ a.heap.size ≤ g) (cs : Array Value) : Fr S a (w.setRow g cs) :=
  ⟨h.os, h.tape, h.output, by have := h.size; simp [World.setRow]; omega, fun i hi hS => (setRow_other w g i cs (fun e => by subst e; rcases hp with h1 | h1; exact hS h1; omega)).trans (h.block i hi hS)⟩

theorem Fr.grown {S : Nat → Prop} {a w w' : World} {row : Option Nat} (h : Fr S a w) (hg : w.grownBy w' row) (hr : ∀ k, row = some k → S k ∨ a.heap.size ≤ k) : Fr S a w' :=
  ⟨hg.os.trans h.os, hg.tape.trans h.tape, hg.output.trans h.output, Nat.le_trans h.size hg.size, fun i hi hS => (hg.block i (Nat.lt_of_lt_of_le hi h.size) (fun e => by rcases hr i e.symm with h1 | h1; exact hS h1; omega)).trans (h.block i hi hS)⟩

theorem Fr.below {S : Nat → Prop} {w w' : World} (h : Fr S w w') {B : Nat} (hB : B ≤ w.heap.size) (hS : ∀ k, S k → B ≤ k) : Below B w w' :=
  ⟨h.os, h.tape, h.output, h.size, fun k hk => h.block k (by omega) (fun hs => by have := hS k hs; omega)⟩

theorem fr_of_below {S : Nat → Prop} {w w' : World} (h : Below w.heap.size w w') : Fr S w w' := ⟨h.os, h.tape, h.output, h.size, fun k hk _ => h.block k hk⟩

/-- Nothing old has turned. -/
def Nw (w w' : World) : Prop := Fr (fun _ => False) w w'

theorem heap_lt {w : World} {g : Nat} {o : Obj} (h : w.heap[g]? = some o) : g < w.heap.size := (Array.getElem?_eq_some_iff.1 h).1

/-- A cell of a block that is known. -/
theorem cell_blk {w : World} {g i : Nat} {cs : Array Value} {t : TypeId} {fr : Nat × Nat} {v : Value} (h : w.heap[g]? = some (.cells cs t fr)) (hv : cs[i]? = some v) : w.cell? ⟨g, i, none⟩ = some v := by
  rw [cell_of_row w g i cs t fr h]; exact hv

theorem free_blk {w : World} {g i : Nat} {cs : Array Value} {t : TypeId} (h : w.heap[g]? = some (.cells cs t (0, 0))) : w.frozen? ⟨g, i, none⟩ = false := by
  simp [World.frozen?, h]

theorem blk_setCell {w : World} {g i : Nat} {cs : Array Value} {t : TypeId} {v : Value} (h : w.heap[g]? = some (.cells cs t (0, 0))) : (w.setCell ⟨g, i, none⟩ v).heap[g]? = some (.cells (cs.setIfInBounds i v) t (0, 0)) := by
  rw [setCell_eq_setRow w g i cs t (0, 0) v h]
  exact setRow_heap w g cs _ t _ h
end Go.Proofs.Ytghlilncdfiojaa

namespace Go.Proofs.Ytghlilncdfiojaa
set_option linter.unusedVariables false
set_option linter.unusedSimpArgs false
set_option maxRecDepth 20000
open Go.RowKit
section
variable {P : Program} {w : World} {ops : Array Oper} {rest : List Oper} {o : Oper} {a : Act} {Q : Exit → Act → World → Prop}

theorem wpList_do (hw : Region.wanted o (yielded ops a.tmps) = true) (h : o.wp P a w (wpList P ops Q rest) Q) : wpList P ops Q (o :: rest) a w := by
  unfold wpList
  rw [if_pos hw]
  exact .inl h

theorem wpList_alloc_agg (hw : Region.wanted o (yielded ops a.tmps) = true) (t : TypeId) (ho : o.op = .alloc t) (cells : Array Value) (hz : (P.info? t).bind (·.zero) = some (.agg cells))
    (h : wpList P ops Q rest (a.put o.dst (.pointer (some ⟨w.heap.size, 0, none⟩))) (w.alloc (.cells cells t))) : wpList P ops Q (o :: rest) a w := by
  refine wpList_do hw ?_
  unfold Oper.wp execOp
  cases hi : P.info? t with
  | none => simp [hi] at hz
  | some i =>
    have hz' : i.zero = some (.agg cells) := by simpa [hi] using hz
    simp [ho, Instr.alloc, zeroValue, typeInfo, hi, hz', newVar, newRow, Value.cells]
    exact h

theorem wpList_box_agg (hw : Region.wanted o (yielded ops a.tmps) = true) (t : TypeId) (x : Operand) (ho : o.op = .box t x) (v : Value) (cells : Array Value) (hx : a.eval x = v) (hv : v = .agg cells)
    (h : wpList P ops Q rest (a.put o.dst (.pointer (some ⟨w.heap.size, 0, none⟩))) (w.alloc (.cells cells t))) : wpList P ops Q (o :: rest) a w := by
  subst hv
  refine wpList_do hw ?_
  unfold Oper.wp execOp
  simp [ho, hx, Instr.box, newVar, newRow, Value.cells]
  exact h

theorem wpList_build_as (hw : Region.wanted o (yielded ops a.tmps) = true) (t : TypeId) (parts : Array (Nat × Operand)) (ho : o.op = .build t parts) (v : Value) (cells : Array Value) (hv : v = .agg cells)
    (hf : P.built t (parts.toList.map fun x => (x.1, a.eval x.2)) = some cells) (h : wpList P ops Q rest (a.put o.dst v) w) : wpList P ops Q (o :: rest) a w := by
  subst hv
  have hf : P.built t (parts.map fun (i, x) => (i, a.eval x)).toList = some cells := by rw [Array.toList_map]; exact hf
  refine wpList_do hw ?_
  unfold Oper.wp execOp
  simp only [ho, Sem.run_bind, run_build w t _ _ hf, Result.andThen_ok]
  exact h

theorem wpList_load_as (hw : Region.wanted o (yielded ops a.tmps) = true) (ty : TypeId) (x : Operand) (ho : o.op = .load ty x) (b off : Nat) (hx : a.eval x = .pointer (some ⟨b, off, none⟩)) (v : Value) (cs : List Value)
    (hv : v = .agg cs.toArray) (hc : w.rangeAt b off cs) (hu : (P.underlying ty).map TypeDesc.isRow = some true) (hi : (P.info? ty).map (·.size) = some cs.length)
    (h : wpList P ops Q rest (a.put o.dst v) w) : wpList P ops Q (o :: rest) a w := by
  subst hv
  refine wpList_do hw ?_
  cases hd : P.underlying ty with
  | none => simp [hd] at hu
  | some d => exact wp_load_mid ty x ho b off hx cs d hc hd (by simpa [hd] using hu) hi h

theorem wpList_store_as (hw : Region.wanted o (yielded ops a.tmps) = true) (ty : TypeId) (x y : Operand) (ho : o.op = .store ty x y) (g off : Nat) (hx : a.eval x = .pointer (some ⟨g, off, none⟩)) (v : Value) (hy : a.eval y = v) (cs : List Value)
    (hv : v = .agg cs.toArray) (C : List Value) (t : TypeId) (hg : w.heap[g]? = some (.cells C.toArray t (0, 0))) (hfit : off + cs.length ≤ C.length) (h1 : ∀ v ∈ cs, v.oneCell' = true) (hi : (P.info? ty).map (·.size) = some cs.length)
    (h : wpList P ops Q rest (a.put o.dst undef) (w.setRow g (splice C off cs).toArray)) : wpList P ops Q (o :: rest) a w := by
  subst hv
  refine wpList_do hw ?_
  have hs := run_storeCells_at P g off t cs 0 C.toArray w hg (by simpa using hfit) h1
  simp only [Nat.add_zero, List.append_assoc] at hs
  cases hq : P.info? ty with
  | none => simp [hq] at hi
  | some i =>
    have hsz : i.size = cs.length := by simpa [hq] using hi
    have hst : (storeVar ty ⟨g, off, none⟩ (.agg cs.toArray)).run P w = .ok () (w.setRow g (splice C off cs).toArray) := by
      simp [storeVar, sizeOf, typeInfo, hq, hsz, Value.cells, hs, splice]
    unfold Oper.wp execOp
    simp only [ho, hx, hy, Instr.storeAt, Instr.sureAddr, Sem.run_bind, Sem.run_pure, Result.andThen_ok, hst]
    exact h

theorem splice_all {α : Type} (L cs : List α) (h : cs.length = L.length) : splice L 0 cs = cs := by
  unfold splice; simp [h]

/-- A whole variable written. -/
theorem wpList_store_all (hw : Region.wanted o (yielded ops a.tmps) = true) (ty : TypeId) (x y : Operand) (ho : o.op = .store ty x y) (g : Nat) (hx : a.eval x = .pointer (some ⟨g, 0, none⟩)) (v : Value) (hy : a.eval y = v) (cs : List Value)
    (hv : v = .agg cs.toArray) (C : List Value) (t : TypeId) (hg : w.heap[g]? = some (.cells C.toArray t (0, 0))) (hfit : cs.length = C.length) (h1 : ∀ v ∈ cs, v.oneCell' = true) (hi : (P.info? ty).map (·.size) = some cs.length)
    (h : wpList P ops Q rest (a.put o.dst undef) (w.setRow g cs.toArray)) : wpList P ops Q (o :: rest) a w :=
  wpList_store_as hw ty x y ho g 0 hx v hy cs hv C t hg (by omega) h1 hi (by rw [splice_all C cs hfit]; exact h)

theorem run_load_quiet (ty : TypeId) (x : Operand) (w : World) (ho : o.op = .load ty x) (b off : Nat) (hx : a.eval x = .pointer (some ⟨b, off, none⟩)) (cs : List Value)
    (hc : w.rangeAt b off cs) (hu : (P.underlying ty).map TypeDesc.isRow = some true) (hi : (P.info? ty).map (·.size) = some cs.length) : (execOp a.eval o).run P w = .ok (.value (.agg cs.toArray)) w := by
  cases hd : P.underlying ty with
  | none => simp [hd] at hu
  | some d =>
    unfold execOp
    simp only [ho, hx, Sem.run_bind, run_loadAt_mid w b off ty cs d hc hd (by simpa [hd] using hu) hi, Result.andThen_ok, Sem.run_pure]

theorem run_build_quiet (t : TypeId) (parts : Array (Nat × Operand)) (w : World) (ho : o.op = .build t parts) (cells : Array Value) (hf : P.built t (parts.toList.map fun x => (x.1, a.eval x.2)) = some cells) :
    (execOp a.eval o).run P w = .ok (.value (.agg cells)) w := by
  have hf : P.built t (parts.map fun (i, x) => (i, a.eval x)).toList = some cells := by rw [Array.toList_map]; exact hf
  unfold execOp
  simp only [ho, Sem.run_bind, run_build w t _ _ hf, Result.andThen_ok, Sem.run_pure]

theorem results_cell1 {fn : Func} {p : Tmp} {ty : TypeId} (h : fn.results = #[.cell p ty]) (tmps : Array Value) (g : Nat) (cs : List Value) (v : Value) (hv : v = .agg cs.toArray)
    (hp : tmps.getD p undef = .pointer (some ⟨g, 0, none⟩)) (hc : w.rangeAt g 0 cs) (hu : (P.underlying ty).map TypeDesc.isRow = some true) (hi : (P.info? ty).map (·.size) = some cs.length) :
    (results fn tmps).run P w = .ok v w := by
  subst hv
  have hp' : tmps[p]?.getD undef = .pointer (some ⟨g, 0, none⟩) := by simpa using hp
  cases hd : P.underlying ty with
  | none => simp [hd] at hu
  | some d => simp [results, h, hp', asAddr, run_loadVar_mid w g 0 ty cs d hc hd (by simpa [hd] using hu) hi]

theorem results_cell2 {fn : Func} {p u : Tmp} {ty : TypeId} (h : fn.results = #[.cell p ty, .tmp u]) (tmps : Array Value) (g : Nat) (cs : List Value) (v : Value) (hv : v = .agg cs.toArray)
    (hp : tmps.getD p undef = .pointer (some ⟨g, 0, none⟩)) (hc : w.rangeAt g 0 cs) (hu : (P.underlying ty).map TypeDesc.isRow = some true) (hi : (P.info? ty).map (·.size) = some cs.length) :
    (results fn tmps).run P w = .ok (.tuple #[v, tmps.getD u undef]) w := by
  subst hv
  have hp' : tmps[p]?.getD undef = .pointer (some ⟨g, 0, none⟩) := by simpa using hp
  cases hd : P.underlying ty with
  | none => simp [hd] at hu
  | some d => simp [results, h, hp', asAddr, run_loadVar_mid w g 0 ty cs d hc hd (by simpa [hd] using hu) hi]

theorem range_blk {g : Nat} {C : List Value} {t : TypeId} {fr : Nat × Nat} (hb : w.heap[g]? = some (.cells C.toArray t fr)) (off : Nat) (cs : List Value) (h : ∀ j v, cs[j]? = some v → C[off + j]? = some v) : w.rangeAt g off cs := fun j v hv => by
  rw [cell_of_row w g (off + j) _ t fr hb]
  simpa using h j v hv

theorem range_all {g : Nat} {C : List Value} {t : TypeId} {fr : Nat × Nat} (hb : w.heap[g]? = some (.cells C.toArray t fr)) : w.rangeAt g 0 C := range_blk hb 0 C (fun j v h => by simpa using h)

theorem wpList_buildSlice0 (hw : Region.wanted o (yielded ops a.tmps) = true) (t e : TypeId) (ho : o.op = .buildSlice t 0 #[]) (hu : P.underlying t = some (.slice e)) (hsz : ((P.info? e).map (·.size)).isSome = true)
    (h : wpList P ops Q rest (a.put o.dst (.slice (some ⟨w.heap.size, 0, none⟩) 0 0)) (w.alloc (.cells #[] e))) : wpList P ops Q (o :: rest) a w := by
  refine wpList_do hw ?_
  cases hie : P.info? e with
  | none => simp [hie] at hsz
  | some ie =>
    have hr : (Instr.buildSlice t 0 #[]).run P w = .ok (.slice (some ⟨w.heap.size, 0, none⟩) 0 0) (w.alloc (.cells #[] e)) := by
      simp [Instr.buildSlice, run_underlying hu, sizeOf, typeInfo, hie, Instr.fill, newRow, Array.range_zero']
    unfold Oper.wp execOp
    simp only [ho, Array.map_empty, Sem.run_bind, hr, Result.andThen_ok, Sem.run_pure]
    exact h

end
end Go.Proofs.Ytghlilncdfiojaa

namespace Go.Proofs.Ytghlilncdfiojaa
set_option linter.unusedVariables false
set_option linter.unusedSimpArgs false
set_option maxRecDepth 20000
section
variable {P : Program} {ops : Array Oper} {md : Region.Mode} {S : World → Prop} {Q Q1 : Exit → Act → World → Prop}

/-- Ready operations of the head, whichever comes up; the condition S holds behind each. -/
def wpHL (P : Program) (md : Region.Mode) (ops : Array Oper) (Q : Exit → Act → World → Prop) (S : World → Prop) (n : Nat) (L : Array Bool → Act → World → Prop) : Nat → Array Bool → Act → World → Prop
  | 0, listed, a, w => L listed a w
  | f + 1, listed, a, w => Region.ready md ops listed ≠ [] ∧ ∀ i ∈ Region.ready md ops listed, i < n ∧ wpOp P ops Q i (fun a' w' => S w' ∧ wpHL P md ops Q S n L f (listed.setIfInBounds i true) a' w') a w

theorem wpOp_post {i : Nat} {K : Act → World → Prop} {a : Act} {w : World} (hq : ∀ e a w, Q1 e a w → Q e a w) (h : wpOp P ops Q1 i K a w) : wpOp P ops Q i K a w := by
  unfold wpOp at *
  split
  · rename_i ho; simp only [ho] at h; exact h
  · rename_i o ho
    simp only [ho] at h
    split
    · rename_i hw
      simp only [hw, if_true] at h
      rcases h with h | ⟨h1, a0, w0, h2⟩
      · refine .inl ?_
        unfold Oper.wp at *
        generalize (execOp a.eval o).run P w = r at *
        cases r with
        | ok x w' =>
          cases x <;> simp only [Oper.upon] at h ⊢ <;> try exact h
          refine Calls.mono h fun e w'' he => ?_
          cases e with
          | returned u => exact he
          | panicked c => exact hq _ _ _ he
          | outgrown => obtain ⟨a0, w0, h2⟩ := he; exact ⟨a0, w0, hq _ _ _ h2⟩
        | halt x w' => cases x <;> simp only [Oper.upon] at h ⊢; exact hq _ _ _ h
      · exact .inr ⟨h1, a0, w0, hq _ _ _ h2⟩
    · rename_i hw; simp only [hw] at h; exact h

theorem wpAny_of_HL {n g : Nat} {L : Array Bool → Act → World → Prop} (hq : ∀ e a w, Q1 e a w → Q e a w) (hL : ∀ listed a w, L listed a w → wpAny P md ops Q g listed a w) :
    ∀ (f : Nat) (listed : Array Bool) (a : Act) (w : World), wpHL P md ops Q1 S n L f listed a w → wpAny P md ops Q (f + g) listed a w
  | 0, listed, a, w, h => by rw [Nat.zero_add]; exact hL _ _ _ h
  | f + 1, listed, a, w, h => by
    rw [show f + 1 + g = (f + g) + 1 by omega]
    exact ⟨fun h0 => absurd h0 h.1, fun i hi => wpOp_post hq (wpOp_mono (fun a' w' h' => wpAny_of_HL hq hL f _ a' w' h'.2) (h.2 i hi).2)⟩

theorem wpHL_first {n i : Nat} {oi : Oper} {v : Value} {L : Array Bool → Act → World → Prop} (hi : ops[i]? = some oi) (hsel : ∀ (j : Nat) (o : Oper) cs b, ops[j]? = some o → o.op ≠ .select cs b)
    (hQ : ∀ c a w, Q (.panic c) (a.put oi.dst v) w → Q (.panic c) a w)
    (hs : Region.sinkB md ops n = true) (hc : Region.chainB md ops n = true) (hn : n < ops.size) (hin : i < n)
    (hdone : ∀ listed a w, L listed a w → ∀ j ∈ Region.ready md ops listed, n ≤ j) :
    ∀ (f : Nat) (listed : Array Bool) (a : Act) (w : World), HeadInv md ops n listed →
      (∀ j oj, ops[j]? = some oj → j ≠ i → listed.getD j true = false → (∀ e ∈ oj.after, Region.binds md e = true → e.on ≠ i) → oi.apart ops oj = true) →
      i ∈ Region.ready md ops listed → YieldsIf P ops S oi v a → S w →
      wpHL P md ops Q S n L f (listed.setIfInBounds i true) (a.put oi.dst v) w → wpHL P md ops Q S n L (f + 1) listed a w := by
  intro f
  induction f with
  | zero =>
    intro listed a w inv _ hr hy hS H
    have hun := (mem_ready.1 hr).1
    refine ⟨fun h => (by rw [h] at hr; cases hr), fun j hj => ?_⟩
    have hjn : j < n := by
      rcases Nat.lt_or_ge j n with h | h
      · exact h
      · exact absurd hj (tail_waits hs hc hn inv _ i rfl hin hun j h)
    refine ⟨hjn, ?_⟩
    by_cases hji : j = i
    · subst hji; exact hy.wpOp hi hS ⟨hS, H⟩
    · have := hdone _ _ _ H j (ready_mono hj hji)
      omega
  | succ f ih =>
    intro listed a w inv hfree hr hy hS H
    have hun := (mem_ready.1 hr).1
    refine ⟨fun h => (by rw [h] at hr; cases hr), fun j hj => ?_⟩
    have hjn : j < n := by
      rcases Nat.lt_or_ge j n with h | h
      · exact h
      · exact absurd hj (tail_waits hs hc hn inv _ i rfl hin hun j h)
    refine ⟨hjn, ?_⟩
    by_cases hji : j = i
    · subst hji; exact hy.wpOp hi hS ⟨hS, H⟩
    · have h1 := (H.2 j (ready_mono hj hji)).2
      obtain ⟨hjun, oj, hoj, hall⟩ := mem_ready.1 hj
      have hnot : ∀ e ∈ oj.after, Region.binds md e = true → e.on ≠ i := fun e he hb heq => by
        have h1 := hall e he hb
        rw [heq, getD_both hun] at h1
        cases h1
      have h2 := wpOp_putIf hoj (hfree j oj hoj hji hjun hnot) (fun cs b => hsel i oi cs b hi) (fun cs b => hsel j oj cs b hoj) hQ hy h1
      have hfree' : ∀ k ok, ops[k]? = some ok → k ≠ i → (listed.setIfInBounds j true).getD k true = false →
          (∀ e ∈ ok.after, Region.binds md e = true → e.on ≠ i) → oi.apart ops ok = true := fun k ok hk hki hun hno => by
        refine hfree k ok hk hki ?_ hno
        by_cases hjk : j = k
        · subst hjk; exact hjun
        · rw [getD_set_ne true hjk] at hun; exact hun
      refine wpOp_mono (fun a' w' h3 => ⟨h3.2.1, ih (listed.setIfInBounds j true) a' w' (inv.set hj hjn) hfree' (ready_mono hr (Ne.symm hji)) h3.1 h3.2.1 ?_⟩) h2
      rw [Array.setIfInBounds_comm _ _ hji]
      exact h3.2.2

/-- The order of the head, each with whether it only reads, fits the region. -/
def lexOrd (md : Region.Mode) (ops : Array Oper) (keep : List Nat) (g n : Nat) : List (Nat × Bool) → Array Bool → Bool
  | [], listed => Region.seqB md ops g n listed
  | (i, q) :: r, listed => decide (i < n) && (if q then (Region.ready md ops listed).contains i && Region.free md ops listed i && ((ops[i]?).map fun o => (o.dst.map fun d => !keep.contains d).getD true).getD false else decide (Region.ready md ops listed = [i])) &&
      lexOrd md ops keep g n r (listed.setIfInBounds i true)

def wpOrd (P : Program) (ops : Array Oper) (Q : Exit → Act → World → Prop) (S : World → Prop) (T : Act → World → Prop) : List (Nat × Bool) → Act → World → Prop
  | [], a, w => T a w
  | (i, true) :: r, a, w => S w ∧ ∃ oi v, ops[i]? = some oi ∧ YieldsIf P ops S oi v a ∧ wpOrd P ops Q S T r (a.put oi.dst v) w
  | (i, false) :: r, a, w => wpOp P ops Q i (fun a' w' => S w' ∧ wpOrd P ops Q S T r a' w') a w

/-- At a panic: whatever the other slots hold. -/
def panicAny (keep : List Nat) (Q : Exit → Act → World → Prop) : Exit → Act → World → Prop
  | .panic c, a, w => ∀ a' : Act, a'.defers = a.defers → (∀ t ∈ keep, a'.tmps.getD t undef = a.tmps.getD t undef) → Q (.panic c) a' w
  | e, a, w => Q e a w

theorem panicAny_post {keep : List Nat} : ∀ e a w, panicAny keep Q e a w → Q e a w := by
  intro e a w h
  cases e <;> first | exact h | exact h a rfl (fun _ _ => rfl)

theorem panicAny_put {keep : List Nat} {d : Option Tmp} {v : Value} (hd : (d.map fun d => !keep.contains d).getD true = true) : ∀ c a w, panicAny keep Q (.panic c) (a.put d v) w → panicAny keep Q (.panic c) a w := by
  intro c a w h a' hdf hk
  refine h a' ?_ ?_
  · rw [hdf]; cases d <;> rfl
  · intro t ht
    rw [hk t ht]
    cases d with
    | none => rfl
    | some d =>
      have hne : d ≠ t := by
        rintro rfl
        simp [ht] at hd
      simp only [Act.put]
      simp [Array.getElem?_setIfInBounds_ne hne]

theorem wpHL_ord {keep : List Nat} {n g : Nat} {T : Act → World → Prop} (hsel : Region.noSelect ops = true) (hs : Region.sinkB md ops n = true) (hc : Region.chainB md ops n = true) (hn : n < ops.size) :
    ∀ (l : List (Nat × Bool)) (listed : Array Bool) (a : Act) (w : World), HeadInv md ops n listed → lexOrd md ops keep g n l listed = true → wpOrd P ops (panicAny keep Q) S T l a w →
    wpHL P md ops (panicAny keep Q) S n (fun listed' a' w' => Region.seqB md ops g n listed' = true ∧ T a' w') l.length listed a w
  | [], listed, a, w, _, hB, h => ⟨hB, h⟩
  | (i, true) :: l, listed, a, w, inv, hB, h => by
    simp only [lexOrd, Bool.and_eq_true, decide_eq_true_eq, if_true] at hB
    obtain ⟨⟨hin, ⟨hr, hf⟩, hk⟩, hB'⟩ := hB
    obtain ⟨hS, oi, v, ho, hy, hrest⟩ := h
    have hr' : i ∈ Region.ready md ops listed := by simpa using hr
    rw [ho] at hk
    exact wpHL_first ho (Region.noSelect_spec hsel) (panicAny_put (by simpa using hk)) hs hc hn hin (fun listed' a' w' hL => seqB_ready hL.1) l.length listed a w inv (Region.free_spec ho hf) hr' hy hS
      (wpHL_ord hsel hs hc hn l _ _ w (inv.set hr' hin) hB' hrest)
  | (i, false) :: l, listed, a, w, inv, hB, h => by
    simp only [lexOrd, Bool.and_eq_true, decide_eq_true_eq, if_false, Bool.false_eq_true] at hB
    obtain ⟨⟨hin, hr⟩, hB'⟩ := hB
    have hr' : i ∈ Region.ready md ops listed := by rw [hr]; simp
    refine ⟨fun h0 => (by rw [hr] at h0; cases h0), fun j hj => ?_⟩
    rw [hr] at hj
    have hji : j = i := by simpa using hj
    subst hji
    exact ⟨hin, wpOp_mono (fun a' w' h' => ⟨h'.1, wpHL_ord hsel hs hc hn l _ a' w' (inv.set hr' hin) hB' h'.2⟩) h⟩

def ordB (keep : List Nat) (ops : Array Oper) (n : Nat) (order : List (Nat × Bool)) : Bool :=
  Region.noSelect ops && decide (n < ops.size) && Region.sinkB .any ops n && Region.chainB .any ops n && decide (order.length = n) && lexOrd .any ops keep (ops.size - n) n order (Array.replicate ops.size false)

/-- One walk, in the order that is handed in, serves every order. -/
theorem wp_region_ord {id : Nat} {a : Act} {w : World} {l : List Oper} (keep : List Nat) (n : Nat) (order : List (Nat × Bool)) (S : World → Prop) (hm : P.follows .mixedOrders = true) (hB : ordB keep l.toArray n order = true)
    (h : wpOrd P l.toArray (panicAny keep Q) S (wpList P l.toArray Q (l.drop n)) order a w.drew) : (Code.region id l.toArray true).wp P Q a w := by
  simp only [ordB, Bool.and_eq_true, decide_eq_true_eq] at hB
  obtain ⟨⟨⟨⟨⟨hsel, hn⟩, hs⟩, hc⟩, hlen⟩, hlex⟩ := hB
  have hdl : (l.drop n).length = l.toArray.size - n := by simp
  have inv0 : HeadInv .any l.toArray n (Array.replicate l.toArray.size false) :=
    ⟨by simp, fun j oj _ hl => (by rw [getD_replicate_false] at hl; cases hl), fun t _ ht => getD_in (by simpa using ht) (getD_replicate_false _ _)⟩
  have H := wpHL_ord (md := .any) (Q := Q) hsel hs hc hn order _ a w.drew inv0 hlex h
  refine wp_region_any hm ?_
  have := wpAny_of_HL (Q := Q) (Q1 := panicAny keep Q) (g := l.toArray.size - n) panicAny_post (fun listed a' w' hL => by
    have := wpAny_of_seq (md := .any) (Q' := Q) (l.drop n) n listed a' w' (fun j => by simp [List.getElem?_drop]) (by rw [hdl]; exact hL.1) hL.2
    rwa [hdl] at this) _ _ _ _ H
  rw [hlen, show n + (l.toArray.size - n) = l.toArray.size by omega] at this
  exact this

/-- One that only reads: what it yields, in every world that meets S. -/
theorem ord_quiet {T : Act → World → Prop} {i : Nat} {r : List (Nat × Bool)} {a : Act} {w : World} (oi : Oper) (v : Value) (ho : ops[i]? = some oi) (hS : S w)
    (hw : Region.wanted oi (yielded ops a.tmps) = true) (hy : ∀ w, S w → (execOp a.eval oi).run P w = .ok (.value v) w) (h : wpOrd P ops Q S T r (a.put oi.dst v) w) : wpOrd P ops Q S T ((i, true) :: r) a w :=
  ⟨hS, oi, v, ho, .inl ⟨hw, hy⟩, h⟩

/-- One whose guard says no. -/
theorem ord_skip {T : Act → World → Prop} {i : Nat} {r : List (Nat × Bool)} {a : Act} {w : World} (oi : Oper) (ho : ops[i]? = some oi) (hS : S w)
    (hw : Region.wanted oi (yielded ops a.tmps) = false) (h : wpOrd P ops Q S T r (a.put oi.dst undef) w) : wpOrd P ops Q S T ((i, true) :: r) a w :=
  ⟨hS, oi, undef, ho, .inr ⟨hw, rfl⟩, h⟩

theorem ord_tail {T : Act → World → Prop} {a : Act} {w : World} (h : T a w) : wpOrd P ops Q S T [] a w := h

/-- One that does more: walked as a list of one operation. -/
theorem ord_act {T : Act → World → Prop} {i : Nat} {r : List (Nat × Bool)} {a : Act} {w : World} (oi : Oper) (ho : ops[i]? = some oi)
    (h : ∀ K : Act → World → Prop, (∀ a' w', S w' → wpOrd P ops Q S T r a' w' → K a' w') → wpList P ops (Exit.then K Q) [oi] a w) : wpOrd P ops Q S T ((i, false) :: r) a w := by
  have h1 := h (fun a' w' => S w' ∧ wpOrd P ops Q S T r a' w') (fun _ _ h1 h2 => ⟨h1, h2⟩)
  show wpOp P ops Q i _ a w
  unfold wpOp
  simp only [ho]
  simp only [wpList] at h1
  split
  · rename_i hw
    simp only [hw, if_true] at h1
    rcases h1 with h1 | ⟨h1, a0, w0, h2⟩
    · refine .inl ?_
      unfold Oper.wp at *
      generalize (execOp a.eval oi).run P w = res at *
      cases res with
      | ok x w' =>
        cases x <;> simp only [Oper.upon] at h1 ⊢ <;> exact h1
      | halt x w' => cases x <;> simp only [Oper.upon] at h1 ⊢; exact h1
    · exact .inr ⟨h1, a0, w0, h2⟩
  · rename_i hw
    simp only [hw] at h1
    exact h1
end
end Go.Proofs.Ytghlilncdfiojaa

namespace Go.Proofs.Ytghlilncdfiojaa
set_option linter.unusedVariables false
set_option linter.unusedSimpArgs false
set_option maxRecDepth 20000
section
variable {P : Program} {l : List Oper} {S : World → Prop} {Q : Exit → Act → World → Prop}

theorem ord_quietL {T : Act → World → Prop} {i : Nat} {r : List (Nat × Bool)} {a : Act} {w : World} (oi : Oper) (v : Value) (ho : l[i]? = some oi) (hS : S w)
    (hw : Region.wanted oi (yielded l.toArray a.tmps) = true) (hy : ∀ w, S w → (execOp a.eval oi).run P w = .ok (.value v) w) (h : wpOrd P l.toArray Q S T r (a.put oi.dst v) w) : wpOrd P l.toArray Q S T ((i, true) :: r) a w :=
  ord_quiet oi v (by simpa using ho) hS hw hy h

theorem ord_skipL {T : Act → World → Prop} {i : Nat} {r : List (Nat × Bool)} {a : Act} {w : World} (oi : Oper) (ho : l[i]? = some oi) (hS : S w)
    (hw : Region.wanted oi (yielded l.toArray a.tmps) = false) (h : wpOrd P l.toArray Q S T r (a.put oi.dst undef) w) : wpOrd P l.toArray Q S T ((i, true) :: r) a w :=
  ord_skip oi (by simpa using ho) hS hw h

theorem ord_actL {T : Act → World → Prop} {i : Nat} {r : List (Nat × Bool)} {a : Act} {w : World} (oi : Oper) (ho : l[i]? = some oi)
    (h : ∀ K : Act → World → Prop, (∀ a' w', S w' → wpOrd P l.toArray Q S T r a' w' → K a' w') → wpList P l.toArray (Exit.then K Q) [oi] a w) : wpOrd P l.toArray Q S T ((i, false) :: r) a w :=
  ord_act oi (by simpa using ho) h
end
end Go.Proofs.Ytghlilncdfiojaa

namespace Go.Proofs.Ytghlilncdfiojaa
set_option linter.unusedVariables false
set_option linter.unusedSimpArgs false
set_option maxRecDepth 20000
open Go.RowKit Go.ChangeShapes Go.WideShapes Go.Deep

theorem weights_mem {H : Type} {P : Program} {e : TypeId} : ∀ {l : List (DataW H)} {d : DataW H} {n : Nat}, d ∈ l → n ∈ d.weights P e → n ∈ DataW.weightsAll P e l
  | [], _, _, h, _ => by simp at h
  | x :: l, d, n, h, hn => by
    simp only [DataW.weightsAll, List.mem_append]
    rcases List.mem_cons.1 h with rfl | h
    · exact .inl hn
    · exact .inr (weights_mem h hn)

theorem plain_of {w : World} {a : Addr} {v : Value} (h : w.cell? a = some v) : a = ⟨a.block, a.off, none⟩ := by
  obtain ⟨b, o, s⟩ := a
  cases s with
  | none => rfl
  | some s =>
    unfold World.cell? at h
    split at h <;> simp at h

theorem flat_get {α : Type} {f : α → List Value} {s : Nat} (hf : ∀ x, (f x).length = s) : ∀ {xs : List α} {i : Nat} {c : Value}, (xs.flatMap f)[i]? = some c → ∃ k j, ∃ h : k < xs.length, j < s ∧ i = k * s + j ∧ (f xs[k])[j]? = some c
  | [], i, c, h => by simp at h
  | x :: xs, i, c, h => by
    rw [List.flatMap_cons] at h
    by_cases hi : i < s
    · rw [List.getElem?_append_left (by rw [hf]; exact hi)] at h
      exact ⟨0, i, by simp, hi, by omega, by simpa using h⟩
    · rw [List.getElem?_append_right (by rw [hf]; omega), hf] at h
      obtain ⟨k, j, hk, hj, he, hc⟩ := flat_get hf h
      exact ⟨k + 1, j, by simpa using hk, hj, by rw [Nat.add_mul]; omega, by simpa using hc⟩

theorem bulk_le {H : Type} (d : DataW H) : 1 ≤ Rows.uptoBulk d := by
  cases d with
  | lit l => cases l <;> simp [Rows.uptoBulk]
  | nil => simp [Rows.uptoBulk]
  | ptr d => simp [Rows.uptoBulk]
  | slice elems spare => simp [Rows.uptoBulk]
  | agg parts => simp [Rows.uptoBulk]
  | iface t d => simp [Rows.uptoBulk]
  | map entries => simp [Rows.uptoBulk]
  | held h => simp [Rows.uptoBulk]

theorem bulk_len {H : Type} (l : List (DataW H)) : l.length ≤ Rows.uptoBulkAll l := by
  induction l with
  | nil => simp [Rows.uptoBulkAll]
  | cons x r ih => have := bulk_le x; simp only [Rows.uptoBulkAll, List.length_cons]; omega

theorem bulk_sum {H : Type} {α : Type} (z : α → Nat) : ∀ (l : List (DataW H)) (xs : List α), l.length = xs.length → (∀ i (h1 : i < l.length) (h2 : i < xs.length), z xs[i] ≤ Rows.uptoBulk l[i]) → (xs.map z).sum ≤ Rows.uptoBulkAll l
  | [], [], _, _ => by simp
  | d :: l, x :: xs, hl, h => by
    have h0 := h 0 (by simp) (by simp)
    have ih := bulk_sum z l xs (by simpa using hl) (fun i h1 h2 => h (i + 1) (by simpa using h1) (by simpa using h2))
    simp only [List.map_cons, List.sum_cons, Rows.uptoBulkAll]
    simp at h0
    omega
  | [], _ :: _, hl, _ => by simp at hl
  | _ :: _, [], hl, _ => by simp at hl

/-- What a slice that came in holds: z says how much of the bulk an element pays. -/
theorem open_rows {H : Type} {enc : TypeId × Value → H} {W : World} {fuel : Nat} {v : Value} {d : DataW H} {p : List MemPlace} {T e : TypeId} {α : Type} (x0 : α) (f : α → List Value) (s by' : Nat) (Q : α → Prop) (z : α → Nat)
    (hu : Try.prog.underlying T = some (.slice e)) (hc : Try.prog.cellsOf e = s) (hby : Try.prog.bytesOf e = by') (hs : 0 < s) (hf : ∀ x, (f x).length = s)
    (h : DataW.trod enc Try.prog W 0 (fun _ => true) true fuel T [v] = some (d, p)) (hw : ∀ n ∈ d.weights Try.prog T, n ≤ reachBytes)
    (each : ∀ (k : Nat) (cs : List Value) (dd : DataW H) (pp : List MemPlace), DataW.trod enc Try.prog W 0 (fun _ => true) true k e cs = some (dd, pp) → cs.length = s → (∀ n ∈ dd.weights Try.prog e, n ≤ reachBytes) → ∃ x : α, cs = f x ∧ Q x ∧ z x ≤ Rows.uptoBulk dd) :
    ∃ xs : List α, Slp (fun b => b < W.heap.size) W v xs.length (xs.flatMap f) ∧ xs.length * by' ≤ reachBytes ∧ (∀ x ∈ xs, Q x) ∧ xs.length + 1 ≤ Rows.uptoBulk d ∧ (xs.map z).sum + 1 ≤ Rows.uptoBulk d := by
  rcases open_slice hu h with ⟨hcs, hd⟩ | ⟨a, len, cap, m, n, D, Pl, hcs, _, hl, hm, hmm, hx, hall⟩
  · simp only [List.cons.injEq, and_true] at hcs
    subst hcs
    have := bulk_le d
    exact ⟨[], ⟨none, 0, rfl, ⟨Nat.le_refl _, Nat.zero_le _⟩, fun _ => rfl, fun i c hi => by simp at hi⟩, by simp, fun x hx => by simp at hx, by simpa using this, by simpa using this⟩
  · simp only [List.cons.injEq, and_true] at hcs
    subst hcs
    simp only [if_true] at hmm
    subst hmm
    simp only [Prod.mk.injEq] at hx
    obtain ⟨rfl, _⟩ := hx
    rw [hc] at hall
    have hwD : ∀ i, i < len → ∀ n ∈ (D i).weights Try.prog e, n ≤ reachBytes := fun i hi n hn => hw n (by
      simp only [DataW.weights, hu, List.mem_cons, List.mem_append]
      exact .inr (.inl (weights_mem (List.mem_map.2 ⟨i, List.mem_range.2 hi, rfl⟩) hn)))
    have hlen := hw ((((List.range len).map D).length + ((List.range (m - len)).map fun j => D (len + j)).length) * Try.prog.bytesOf e) (by simp [DataW.weights, hu])
    have ex : ∀ i, i < len → ∃ x : α, Q x ∧ z x ≤ Rows.uptoBulk (D i) ∧ ∀ j c, (f x)[j]? = some c → W.cell? ((a.add (i * s)).add j) = some c := by
      intro i hi
      obtain ⟨cs', h1, h2⟩ := hall i (by omega)
      obtain ⟨_, hlen, hcell⟩ := World.cells?_some h1
      obtain ⟨x, rfl, hq, hz⟩ := each _ cs' (D i) (Pl i) h2 hlen (hwD i hi)
      refine ⟨x, hq, hz, fun j c hj => ?_⟩
      have hjl : j < (f x).length := (List.getElem?_eq_some_iff.1 hj).1
      have := hcell j (by rw [hf] at hjl; exact hjl)
      rw [this]
      exact hj
    haveI : Inhabited α := ⟨x0⟩
    obtain ⟨F, hF⟩ := choose_lt ex
    have hxl : ((List.range len).map F).length = len := by simp
    have hpos : 0 < len → a = ⟨a.block, a.off, none⟩ := fun h0 => by
      have hfl : 0 < (f (F 0)).length := by rw [hf]; exact hs
      have h1 := (hF 0 h0).2.2 0 _ (List.getElem?_eq_getElem hfl)
      have e1 : (a.add (0 * s)).add 0 = a := by simp [Addr.add]
      rw [e1] at h1
      exact plain_of h1
    refine ⟨(List.range len).map F, ?_, ?_, ?_, ?_, ?_⟩
    · rw [hxl]
      refine ⟨some a, m, rfl, ⟨hl, hm⟩, fun h => by simp at h, fun i c hi => ?_⟩
      obtain ⟨k, j, hk, hj, rfl, hcj⟩ := flat_get hf hi
      rw [hxl] at hk
      have hg := (hF k hk).2.2 j c (by simpa using hcj)
      have ha := hpos (by omega)
      rw [ha, add_plain, add_plain] at hg
      refine ⟨a.block, a.off, by rw [← ha], World.block_lt_of_cell? W ⟨a.block, a.off + k * s + j, none⟩ hg, ?_⟩
      rw [← Nat.add_assoc]
      exact hg
    · rw [hxl, ← hby]
      simp only [List.length_map, List.length_range] at hlen
      exact Nat.le_trans (Nat.mul_le_mul_right _ (by omega)) hlen
    · intro x hx
      obtain ⟨i, hi, rfl⟩ := List.mem_map.1 hx
      exact (hF i (List.mem_range.1 hi)).1
    · rw [hxl]
      simp only [Rows.uptoBulk]
      have := bulk_len ((List.range len).map D)
      simp at this
      omega
    · simp only [Rows.uptoBulk]
      have := bulk_sum z ((List.range len).map D) ((List.range len).map F) (by simp) (fun i h1 h2 => by
        simp only [List.getElem_map, List.getElem_range]
        exact (hF i (by simpa using h2)).2.1)
      omega
end Go.Proofs.Ytghlilncdfiojaa

namespace Go.Proofs.Ytghlilncdfiojaa
set_option linter.unusedVariables false
set_option linter.unusedSimpArgs false
set_option maxRecDepth 20000
open Go.RowKit
section
variable {P : Program} {w : World} {ops : Array Oper} {rest : List Oper} {o : Oper} {a : Act} {Q : Exit → Act → World → Prop}

theorem nd_quiet (v : Value) (hw : Region.wanted o (yielded ops a.tmps) = true) (hy : (execOp a.eval o).run P w = .ok (.value v) w) (h : wpList P ops Q rest (a.put o.dst v) w) : wpList P ops Q (o :: rest) a w := by
  refine wpList_do hw ?_
  unfold Oper.wp
  simp only [hy]
  exact h

theorem nd_skip (hw : Region.wanted o (yielded ops a.tmps) = false) (h : wpList P ops Q rest (a.put o.dst undef) w) : wpList P ops Q (o :: rest) a w := by
  unfold wpList
  rw [if_neg (by simp [hw])]
  exact h

theorem nd_call {R : Ending → World → Prop} (f : FuncId) (args : Array Value) (hw : Region.wanted o (yielded ops a.tmps) = true) (hc : Calls P f args w R) (hy : (execOp a.eval o).run P w = .ok (.enter f args) w)
    (hR : ∀ e w', R e w' → ∃ v, e = .returned v ∧ wpList P ops Q rest (a.put o.dst v) w') : wpList P ops Q (o :: rest) a w := by
  refine wpList_do hw ?_
  unfold Oper.wp
  rw [hy, Oper.upon_enter]
  exact hc.mono (fun e w' h => by obtain ⟨v, rfl, h'⟩ := hR e w' h; exact h')
end
end Go.Proofs.Ytghlilncdfiojaa

namespace Go.Proofs.Ytghlilncdfiojaa
set_option linter.unusedVariables false
set_option linter.unusedSimpArgs false
set_option maxRecDepth 20000
open Go.RowKit Go.Shelf

def repRen : Go.Shelf.Ren := ⟨fun | 105 => 87 | 212 => 92 | 99 => 93 | 165 => 94 | 166 => 95 | 170 => 96 | 169 => 97 | 263 => 101 | 264 => 102 | 206 => 103 | 240 => 104 | 241 => 105 | 276 => 108 | 277 => 109 | n => n, fun | 9 => 9 | 3 => 3 | 4 => 4 | 20 => 20 | 0 => 0 | 46 => 116 | 109 => 127 | 5 => 5 | 72 => 132 | 76 => 136 | 51 => 144 | 146 => 145 | 53 => 23 | 148 => 147 | 70 => 130 | 37 => 28 | 75 => 135 | 127 => 149 | 164 => 151 | 80 => 139 | n => n, fun | n => n⟩

theorem repLays : Go.Proofs.Lays.n105 Try.prog repRen := {
  mixed := by kernel_rfl
  f99 := Try.func93.trans (congrArg some (by kernel_rfl))
  f105 := Try.func87.trans (congrArg some (by kernel_rfl))
  f165 := Try.func94.trans (congrArg some (by kernel_rfl))
  f166 := Try.func95.trans (congrArg some (by kernel_rfl))
  f169 := Try.func97.trans (congrArg some (by kernel_rfl))
  f170 := Try.func96.trans (congrArg some (by kernel_rfl))
  f206 := Try.func103.trans (congrArg some (by kernel_rfl))
  f212 := Try.func92.trans (congrArg some (by kernel_rfl))
  f240 := Try.func104.trans (congrArg some (by kernel_rfl))
  f241 := Try.func105.trans (congrArg some (by kernel_rfl))
  f263 := Try.func101.trans (congrArg some (by kernel_rfl))
  f264 := Try.func102.trans (congrArg some (by kernel_rfl))
  f276 := Try.func108.trans (congrArg some (by kernel_rfl))
  f277 := Try.func109.trans (congrArg some (by kernel_rfl))
  t0 := Try.underlying0
  a0 := Try.isAgg0
  z0 := Try.sizeOf0
  v0 := Try.zeroValue0
  t3 := Try.underlying3
  a3 := Try.isAgg3
  z3 := Try.sizeOf3
  v3 := Try.zeroValue3
  t4 := Try.underlying4
  a4 := Try.isAgg4
  z4 := Try.sizeOf4
  v4 := Try.zeroValue4
  t5 := Try.underlying5
  a5 := Try.isAgg5
  z5 := Try.sizeOf5
  v5 := Try.zeroValue5
  t9 := Try.underlying9
  a9 := Try.isAgg9
  z9 := Try.sizeOf9
  v9 := Try.zeroValue9
  t20 := Try.underlying20
  a20 := Try.isAgg20
  z20 := Try.sizeOf20
  v20 := Try.zeroValue20
  t37 := Try.underlying28
  a37 := Try.isAgg28
  z37 := Try.sizeOf28
  v37 := Try.zeroValue28
  t46 := Try.underlying116
  a46 := Try.isAgg116
  z46 := Try.sizeOf116
  v46 := Try.zeroValue116
  t51 := Try.underlying144
  a51 := Try.isAgg144
  z51 := Try.sizeOf144
  v51 := Try.zeroValue144
  t53 := Try.underlying23
  a53 := Try.isAgg23
  z53 := Try.sizeOf23
  v53 := Try.zeroValue23
  t70 := Try.underlying130
  a70 := Try.isAgg130
  z70 := Try.sizeOf130
  v70 := Try.zeroValue130
  t72 := Try.underlying132
  a72 := Try.isAgg132
  z72 := Try.sizeOf132
  v72 := Try.zeroValue132
  t75 := Try.underlying135
  a75 := Try.isAgg135
  z75 := Try.sizeOf135
  v75 := Try.zeroValue135
  t76 := Try.underlying136
  a76 := Try.isAgg136
  z76 := Try.sizeOf136
  v76 := Try.zeroValue136
  t109 := Try.underlying127
  a109 := Try.isAgg127
  z109 := Try.sizeOf127
  v109 := Try.zeroValue127
  t127 := Try.underlying149
  a127 := Try.isAgg149
  z127 := Try.sizeOf149
  v127 := Try.zeroValue149
  t146 := Try.underlying145
  a146 := Try.isAgg145
  z146 := Try.sizeOf145
  v146 := Try.zeroValue145
  t148 := Try.underlying147
  a148 := Try.isAgg147
  z148 := Try.sizeOf147
  v148 := Try.zeroValue147
  t164 := Try.underlying151
  a164 := Try.isAgg151
  z164 := Try.sizeOf151
  v164 := Try.zeroValue151 }
theorem repExtra : Builder.Extra Try.prog repRen := {
  sizeBuilder := by kernel_rfl
  liesBuilder := by kernel_rfl
  t5 := Try.underlying5
  a5 := Try.isAgg5
  z5 := Try.sizeOf5
  v5 := Try.zeroValue5
  infoByte := by kernel_rfl
  cellsByte := by kernel_rfl
  sizeByte := by kernel_rfl
  neB5 := by decide }

theorem c_repeat (s : ByteArray) (c : Nat) (w : World) (hc : c ≤ 9223372036854775807) (hlen : s.size * c ≤ 140737488355328) :
    Calls Try.prog 87 #[.string s, .int .i64 (c : Int)] w fun e w' => e = .returned (.string ⟨(Lib.repeatL s.data.toList c).toArray⟩) ∧ Below w.heap.size w w' := Any.strings_Repeat repLays repExtra s c w hc hlen
end Go.Proofs.Ytghlilncdfiojaa

namespace Go.Proofs.Ytghlilncdfiojaa
set_option linter.unusedVariables false
set_option linter.unusedSimpArgs false
set_option maxRecDepth 20000

/-- Operations that end where they began. -/
def simpleOp : Op → Bool
  | .move _ | .assign _ | .alloc _ | .box _ _ | .build _ _ | .buildSlice _ _ _ | .load _ _ | .store _ _ _ | .binOp _ _ _ _ _ | .convert _ _ _ | .slice _ _ _ _ _ | .fieldAddr _ _ _ | .field _ _ _ | .indexAddr _ _ _ | .index _ _ _ | .extract _ _ => true
  | .call c => match c.callee with
    | .builtin .append | .builtin .len | .builtin .cap => true
    | _ => false
  | _ => false

def plainNext : Result Next → Prop
  | .ok (.value _) _ => True
  | .ok .skip _ => True
  | .ok _ _ => False
  | .halt _ _ => True

theorem plain_v {P : Program} (s : Sem Value) (w : World) : plainNext ((do pure (Next.value (← s)) : Sem Next).run P w) := by
  rw [Sem.run_bind]
  cases s.run P w <;> simp [Result.andThen, plainNext, Sem.run_pure]
theorem plain_u {P : Program} (s : Sem Unit) (w : World) : plainNext ((do s; pure Next.skip : Sem Next).run P w) := by
  rw [Sem.run_bind]
  cases s.run P w <;> simp [Result.andThen, plainNext, Sem.run_pure]

theorem simple_plain {P : Program} {o : Oper} (h : simpleOp o.op = true) (ρ : Operand → Value) (w : World) : plainNext ((execOp ρ o).run P w) := by
  unfold execOp
  cases ho : o.op <;> rw [ho] at h <;> simp only [simpleOp, Bool.false_eq_true] at h <;> dsimp only <;> first
    | exact plain_v _ w
    | exact plain_u _ w
    | trivial
    | skip
  rename_i c
  obtain ⟨callee, args, tys⟩ := c
  cases callee with
  | builtin b =>
    simp only [resolve, Sem.run_bind, Sem.run_pure, Result.andThen, invoke]
    cases b <;> simp only [Bool.false_eq_true] at h <;> exact plain_v _ w
  | _ => simp at h

theorem simple_about {P : Program} {o : Oper} (h : simpleOp o.op = true) (ρ : Operand → Value) (w : World) : o.about P w ρ = none := by
  unfold Oper.about
  cases ho : o.op <;> rw [ho] at h <;> simp only [simpleOp, Bool.false_eq_true] at h <;> try rfl
  rename_i c
  obtain ⟨callee, args, tys⟩ := c
  cases callee with
  | builtin b => simp [resolve, Sem.run_pure, Target.leads]
  | _ => simp at h

theorem simple_defer {o : Oper} (h : simpleOp o.op = true) : ∀ c, o.op ≠ .defer c := fun c e => by rw [e] at h; cases h

theorem simple_in {F : Fence} {n : Nat} {P : Program} {o : Oper} (h : simpleOp o.op = true) {a : Act} {w : World} {K : Act → World → Prop} {Q : Exit → Act → World → Prop} (hw : o.wp P a w K Q) : o.wpIn F n P a w K Q := by
  refine ⟨fun f hf => (by rw [simple_about h] at hf; cases hf), ?_⟩
  rw [Oper.semAt_plain F _ _ (simple_defer h)]
  have hp := simple_plain (P := P) h a.eval w
  unfold Oper.wp at hw
  generalize (execOp a.eval o).run P w = r at *
  cases r with
  | ok x w' => cases x <;> simp only [plainNext] at hp <;> exact hw
  | halt x w' => cases x <;> exact hw

theorem wpOpIn_of {F : Fence} {n : Nat} {P : Program} {ops : Array Oper} {Q : Exit → Act → World → Prop} (hs : ∀ o ∈ ops, simpleOp o.op = true) (hQ : ¬ LetsOut Q) {i : Nat} {K : Act → World → Prop} {a : Act} {w : World} (h : wpOp P ops Q i K a w) : wpOpIn F n P ops Q i K a w := by
  unfold wpOp at h
  unfold wpOpIn
  cases ho : ops[i]? with
  | none => simpa [ho] using h
  | some o =>
    have hso := hs o (Array.mem_of_getElem? ho)
    simp only [ho] at h ⊢
    split
    · rename_i hw
      simp only [hw, if_true] at h
      rcases h with h | ⟨_, h⟩
      · exact simple_in hso h
      · exact absurd h hQ
    · rename_i hw
      simp only [hw] at h
      exact ⟨fun f hf => (by rw [simple_about hso] at hf; cases hf), h⟩

theorem wpAnyIn_of {F : Fence} {n : Nat} {P : Program} {md : Region.Mode} {ops : Array Oper} {Q : Exit → Act → World → Prop} (hs : ∀ o ∈ ops, simpleOp o.op = true) (hQ : ¬ LetsOut Q) : ∀ (fuel : Nat) (listed : Array Bool) (a : Act) (w : World), wpAny P md ops Q fuel listed a w → wpAnyIn F n P md ops Q fuel listed a w
  | 0, _, _, _, h => h
  | fuel + 1, listed, a, w, h => ⟨h.1, fun i hi => wpOpIn_of hs hQ (wpOp_mono (fun a' w' h' => wpAnyIn_of hs hQ fuel _ a' w' h') (h.2 i hi))⟩

/-- One walk, in the order that is handed in, serves every order, inside a fence too. -/
theorem wpIn_region_ord {F : Fence} {nn : Nat} {P : Program} {Q : Exit → Act → World → Prop} {id : Nat} {a : Act} {w : World} {l : List Oper} (keep : List Nat) (n : Nat) (order : List (Nat × Bool)) (S : World → Prop) (hm : P.follows .mixedOrders = true) (hB : ordB keep l.toArray n order = true)
    (hso : (l.all fun o => simpleOp o.op) = true) (hQ : ¬ LetsOut Q)
    (h : wpOrd P l.toArray (panicAny keep Q) S (wpList P l.toArray Q (l.drop n)) order a w.drew) : (Code.region id l.toArray true).wpIn F nn P Q a w := by
  simp only [ordB, Bool.and_eq_true, decide_eq_true_eq] at hB
  obtain ⟨⟨⟨⟨⟨hsel, hn⟩, hs⟩, hc⟩, hlen⟩, hlex⟩ := hB
  have hdl : (l.drop n).length = l.toArray.size - n := by simp
  have inv0 : HeadInv .any l.toArray n (Array.replicate l.toArray.size false) :=
    ⟨by simp, fun j oj _ hl => (by rw [getD_replicate_false] at hl; cases hl), fun t _ ht => getD_in (by simpa using ht) (getD_replicate_false _ _)⟩
  have H := wpHL_ord (md := .any) (Q := Q) hsel hs hc hn order _ a w.drew inv0 hlex h
  refine wpIn_region_any hm (wpAnyIn_of (fun o ho => List.all_eq_true.1 hso o (by simpa using ho)) hQ _ _ _ _ ?_)
  have := wpAny_of_HL (Q := Q) (Q1 := panicAny keep Q) (g := l.toArray.size - n) panicAny_post (fun listed a' w' hL => by
    have := wpAny_of_seq (md := .any) (Q' := Q) (l.drop n) n listed a' w' (fun j => by simp [List.getElem?_drop]) (by rw [hdl]; exact hL.1) hL.2
    rwa [hdl] at this) _ _ _ _ H
  rw [hlen, show n + (l.toArray.size - n) = l.toArray.size by omega] at this
  exact this
end Go.Proofs.Ytghlilncdfiojaa

namespace Go.Proofs.Ytghlilncdfiojaa
set_option linter.unusedVariables false
set_option linter.unusedSimpArgs false
set_option maxRecDepth 20000

/-- A straight order; then, if any, the ways to go on, each with the one that comes up. -/
def FT : Nat → Type
  | 0 => List (Nat × Bool)
  | d + 1 => List (Nat × Bool) × List (Nat × FT d)

def lenF : (d : Nat) → FT d → Nat
  | 0, l => List.length (α := Nat × Bool) l
  | d + 1, t => t.1.length + (match t.2 with | [] => 0 | f :: _ => 1 + lenF d f.2)

section
variable {P : Program} {ops : Array Oper} {md : Region.Mode} {S : World → Prop} {Q Q1 : Exit → Act → World → Prop}

def preB (md : Region.Mode) (ops : Array Oper) (keep : List Nat) (n : Nat) : List (Nat × Bool) → Array Bool → Bool
  | [], _ => true
  | (i, q) :: r, listed => decide (i < n) && (if q then (Region.ready md ops listed).contains i && Region.free md ops listed i && ((ops[i]?).map fun o => (o.dst.map fun d => !keep.contains d).getD true).getD false else decide (Region.ready md ops listed = [i])) &&
      preB md ops keep n r (listed.setIfInBounds i true)

def preL : List (Nat × Bool) → Array Bool → Array Bool
  | [], l => l
  | (i, _) :: r, l => preL r (l.setIfInBounds i true)

def lexF (md : Region.Mode) (ops : Array Oper) (keep : List Nat) (g n : Nat) : (d : Nat) → FT d → Array Bool → Bool
  | 0, l, listed => preB md ops keep n l listed && Region.seqB md ops g n (preL l listed)
  | d + 1, t, listed => preB md ops keep n t.1 listed && (match t.2 with
    | [] => Region.seqB md ops g n (preL t.1 listed)
    | f0 :: fs => decide (Region.ready md ops (preL t.1 listed) = (f0 :: fs).map (·.1)) && (f0 :: fs).all (fun f => decide (f.1 < n) && decide (lenF d f.2 = lenF d f0.2) && lexF md ops keep g n d f.2 ((preL t.1 listed).setIfInBounds f.1 true)))

def wpF (P : Program) (ops : Array Oper) (Q : Exit → Act → World → Prop) (S : World → Prop) (T : Act → World → Prop) : (d : Nat) → FT d → Act → World → Prop
  | 0, l, a, w => wpOrd P ops Q S T l a w
  | d + 1, t, a, w => wpOrd P ops Q S (fun a w => match t.2 with
    | [] => T a w
    | f0 :: fs => ∀ f ∈ f0 :: fs, wpOp P ops Q f.1 (fun a' w' => S w' ∧ wpF P ops Q S T d f.2 a' w') a w) t.1 a w

theorem wpHL_pre {keep : List Nat} {n f : Nat} {T : Act → World → Prop} {L : Array Bool → Act → World → Prop} (hsel : Region.noSelect ops = true) (hs : Region.sinkB md ops n = true) (hc : Region.chainB md ops n = true) (hn : n < ops.size)
    (hL : ∀ listed a w, L listed a w → ∀ j ∈ Region.ready md ops listed, n ≤ j) :
    ∀ (l : List (Nat × Bool)) (listed : Array Bool) (a : Act) (w : World), HeadInv md ops n listed → preB md ops keep n l listed = true → wpOrd P ops (panicAny keep Q) S T l a w →
    (∀ a' w', HeadInv md ops n (preL l listed) → T a' w' → wpHL P md ops (panicAny keep Q) S n L f (preL l listed) a' w') → wpHL P md ops (panicAny keep Q) S n L (l.length + f) listed a w
  | [], listed, a, w, inv, _, h, hT => by rw [List.length_nil, Nat.zero_add]; exact hT a w inv h
  | (i, true) :: l, listed, a, w, inv, hB, h, hT => by
    simp only [preB, Bool.and_eq_true, decide_eq_true_eq, if_true] at hB
    obtain ⟨⟨hin, ⟨hr, hf⟩, hk⟩, hB'⟩ := hB
    obtain ⟨hS, oi, v, ho, hy, hrest⟩ := h
    have hr' : i ∈ Region.ready md ops listed := by simpa using hr
    rw [ho] at hk
    rw [List.length_cons, show l.length + 1 + f = (l.length + f) + 1 by omega]
    exact wpHL_first ho (Region.noSelect_spec hsel) (panicAny_put (by simpa using hk)) hs hc hn hin hL (l.length + f) listed a w inv (Region.free_spec ho hf) hr' hy hS
      (wpHL_pre hsel hs hc hn hL l _ _ w (inv.set hr' hin) hB' hrest hT)
  | (i, false) :: l, listed, a, w, inv, hB, h, hT => by
    simp only [preB, Bool.and_eq_true, decide_eq_true_eq, if_false, Bool.false_eq_true] at hB
    obtain ⟨⟨hin, hr⟩, hB'⟩ := hB
    have hr' : i ∈ Region.ready md ops listed := by rw [hr]; simp
    rw [List.length_cons, show l.length + 1 + f = (l.length + f) + 1 by omega]
    refine ⟨fun h0 => (by rw [hr] at h0; cases h0), fun j hj => ?_⟩
    rw [hr] at hj
    have hji : j = i := by simpa using hj
    subst hji
    exact ⟨hin, wpOp_mono (fun a' w' h' => ⟨h'.1, wpHL_pre hsel hs hc hn hL l _ a' w' (inv.set hr' hin) hB' h'.2 hT⟩) h⟩

theorem wpHL_fork {keep : List Nat} {n g : Nat} {T : Act → World → Prop} (hsel : Region.noSelect ops = true) (hs : Region.sinkB md ops n = true) (hc : Region.chainB md ops n = true) (hn : n < ops.size) :
    ∀ (d : Nat) (t : FT d) (listed : Array Bool) (a : Act) (w : World), HeadInv md ops n listed → lexF md ops keep g n d t listed = true → wpF P ops (panicAny keep Q) S T d t a w →
    wpHL P md ops (panicAny keep Q) S n (fun listed' a' w' => Region.seqB md ops g n listed' = true ∧ T a' w') (lenF d t) listed a w
  | 0, l, listed, a, w, inv, hB, h => by
    simp only [lexF, Bool.and_eq_true] at hB
    exact wpHL_pre (f := 0) hsel hs hc hn (fun listed' a' w' hL => seqB_ready hL.1) l listed a w inv hB.1 h (fun a' w' _ hT => ⟨hB.2, hT⟩)
  | d + 1, (l, []), listed, a, w, inv, hB, h => by
    simp only [lexF, Bool.and_eq_true] at hB
    exact wpHL_pre (f := 0) hsel hs hc hn (fun listed' a' w' hL => seqB_ready hL.1) l listed a w inv hB.1 h (fun a' w' _ hT => ⟨hB.2, hT⟩)
  | d + 1, (l, f0 :: fs), listed, a, w, inv, hB, h => by
    simp only [lexF, Bool.and_eq_true, decide_eq_true_eq] at hB
    obtain ⟨h1, h2, h3⟩ := hB
    refine wpHL_pre (f := 1 + lenF d f0.2) hsel hs hc hn (fun listed' a' w' hL => seqB_ready hL.1) l listed a w inv h1 h (fun a' w' inv' hT => ?_)
    rw [Nat.add_comm 1]
    refine ⟨fun h0 => (by rw [h2] at h0; cases h0), fun j hj => ?_⟩
    have hj2 := hj
    rw [h2] at hj2
    obtain ⟨f, hf, rfl⟩ := List.mem_map.1 hj2
    have h4 := List.all_eq_true.1 h3 f hf
    simp only [Bool.and_eq_true, decide_eq_true_eq] at h4
    obtain ⟨⟨h5, h6⟩, h7⟩ := h4
    refine ⟨h5, wpOp_mono (fun a2 w2 h' => ⟨h'.1, ?_⟩) (hT f hf)⟩
    rw [← h6]
    exact wpHL_fork hsel hs hc hn d f.2 _ a2 w2 (inv'.set hj h5) h7 h'.2

def forkB (keep : List Nat) (ops : Array Oper) (n d : Nat) (t : FT d) : Bool :=
  Region.noSelect ops && decide (n < ops.size) && Region.sinkB .any ops n && Region.chainB .any ops n && decide (lenF d t = n) && lexF .any ops keep (ops.size - n) n d t (Array.replicate ops.size false)

/-- What each way leaves is said by T, and walked on from once. -/
theorem wp_region_fork {id : Nat} {a : Act} {w : World} {l : List Oper} (keep : List Nat) (n d : Nat) (t : FT d) (S : World → Prop) (T : Act → World → Prop) (hm : P.follows .mixedOrders = true) (hB : forkB keep l.toArray n d t = true)
    (h : wpF P l.toArray (panicAny keep Q) S T d t a w.drew) (hT : ∀ a' w', T a' w' → wpList P l.toArray Q (l.drop n) a' w') : (Code.region id l.toArray true).wp P Q a w := by
  simp only [forkB, Bool.and_eq_true, decide_eq_true_eq] at hB
  obtain ⟨⟨⟨⟨⟨hsel, hn⟩, hs⟩, hc⟩, hlen⟩, hlex⟩ := hB
  have hdl : (l.drop n).length = l.toArray.size - n := by simp
  have inv0 : HeadInv .any l.toArray n (Array.replicate l.toArray.size false) :=
    ⟨by simp, fun j oj _ hl => (by rw [getD_replicate_false] at hl; cases hl), fun t _ ht => getD_in (by simpa using ht) (getD_replicate_false _ _)⟩
  have H := wpHL_fork (md := .any) (Q := Q) hsel hs hc hn d t _ a w.drew inv0 hlex h
  refine wp_region_any hm ?_
  have := wpAny_of_HL (Q := Q) (Q1 := panicAny keep Q) (g := l.toArray.size - n) panicAny_post (fun listed a' w' hL => by
    have := wpAny_of_seq (md := .any) (Q' := Q) (l.drop n) n listed a' w' (fun j => by simp [List.getElem?_drop]) (by rw [hdl]; exact hL.1) (hT _ _ hL.2)
    rwa [hdl] at this) _ _ _ _ H
  rw [hlen, show n + (l.toArray.size - n) = l.toArray.size by omega] at this
  exact this
end

section
variable {P : Program} {l : List Oper} {S : World → Prop} {Q : Exit → Act → World → Prop}

theorem fork_op {i : Nat} {K : Act → World → Prop} {a : Act} {w : World} (oi : Oper) (ho : l[i]? = some oi)
    (h : wpList P l.toArray (Exit.then K Q) [oi] a w) : wpOp P l.toArray Q i K a w := by
  have ho' : l.toArray[i]? = some oi := by simpa using ho
  unfold wpOp
  simp only [ho']
  simp only [wpList] at h
  split
  · rename_i hw
    simp only [hw, if_true] at h
    rcases h with h1 | ⟨h1, a0, w0, h2⟩
    · refine .inl ?_
      unfold Oper.wp at *
      generalize (execOp a.eval oi).run P w = res at *
      cases res with
      | ok x w' =>
        cases x <;> simp only [Oper.upon] at h1 ⊢ <;> exact h1
      | halt x w' => cases x <;> simp only [Oper.upon] at h1 ⊢; exact h1
    · exact .inr ⟨h1, a0, w0, h2⟩
  · rename_i hw
    simp only [hw] at h
    exact h

theorem fork_in2 {T : Act → World → Prop} {d i j : Nat} {r s : FT d} {o : List (Nat × Bool)} {a : Act} {w : World}
    (h : wpOrd P l.toArray Q S (fun a w => ∀ f ∈ [(i, r), (j, s)], wpOp P l.toArray Q f.1 (fun a' w' => S w' ∧ wpF P l.toArray Q S T d f.2 a' w') a w) o a w) : wpF P l.toArray Q S T (d + 1) (o, [(i, r), (j, s)]) a w := h

theorem fork_leaf {T : Act → World → Prop} {o : List (Nat × Bool)} {a : Act} {w : World} (h : wpOrd P l.toArray Q S T o a w) : wpF P l.toArray Q S T 0 o a w := h

/-- A fork with two ways, at the end of a straight order. -/
theorem fork_two {T : Act → World → Prop} {d i j : Nat} {r s : FT d} {a : Act} {w : World} (oi oj : Oper) (ho : l[i]? = some oi) (hoj : l[j]? = some oj)
    (h1 : ∀ K : Act → World → Prop, (∀ a' w', S w' → wpF P l.toArray Q S T d r a' w' → K a' w') → wpList P l.toArray (Exit.then K Q) [oi] a w)
    (h2 : ∀ K : Act → World → Prop, (∀ a' w', S w' → wpF P l.toArray Q S T d s a' w' → K a' w') → wpList P l.toArray (Exit.then K Q) [oj] a w) :
    wpOrd P l.toArray Q S (fun a w => ∀ f ∈ [(i, r), (j, s)], wpOp P l.toArray Q f.1 (fun a' w' => S w' ∧ wpF P l.toArray Q S T d f.2 a' w') a w) [] a w := by
  intro f hf
  simp only [List.mem_cons, List.not_mem_nil, or_false] at hf
  rcases hf with rfl | rfl
  · exact fork_op oi ho (h1 _ (fun _ _ k1 k2 => ⟨k1, k2⟩))
  · exact fork_op oj hoj (h2 _ (fun _ _ k1 k2 => ⟨k1, k2⟩))
end
end Go.Proofs.Ytghlilncdfiojaa

namespace Go.Proofs.Ytghlilncdfiojaa
set_option linter.unusedVariables false
set_option linter.unusedSimpArgs false
set_option maxRecDepth 20000
open Go.RowKit

theorem wpList_append_new {P : Program} (w : World) {ops : Array Oper} {rest : List Oper} {o : Oper} {a : Act} {Q : Exit → Act → World → Prop} (hgd : o.guard = none) (s x : Operand) (t : TypeId)
    (ho : o.op = .call { callee := .builtin .append, args := #[s, x], argTypes := #[t, t] })
    (e : TypeId) (i : TypeInfo) (z : Value) (size bytes : Nat) (ht : P.underlying t = some (.slice e)) (hi : P.info? e = some i) (hz : i.zero = some z)
    (hsize : i.size = size) (hby : i.bytes = bytes) (hzs : z.cells.size = size) (hsz : 0 < size)
    (g : Nat) (hs : a.eval s = .slice (some ⟨g, 0, none⟩) 0 0) (hg : w.heap[g]? = some (.cells #[] e (0, 0)))
    (K : Nat) (u : Value) (m : Nat) (news : List Value) (hx : a.eval x = u) (hsl : Sl K w u m news) (hl : news.length = m * size) (h1 : ∀ u ∈ news, u.oneCell' = true)
    (h63 : m ≤ maxLen) (hbytes : m * bytes ≤ 140737488355328)
    (h : ∀ v' w', w'.ownsRow g e size v' m news → Nw w w' → wpList P ops Q rest (a.put o.dst v') w') : wpList P ops Q (o :: rest) a w := by
  have hlt := heap_lt hg
  have hown : w.ownsRow g e size (.slice (some ⟨g, 0, none⟩) 0 0) 0 [] := ⟨by simp, .inr ⟨g, 0, #[], rfl, Nat.le_refl _, hg, Nat.le_refl _, Nat.zero_le _, by simp, by simp⟩⟩
  obtain ⟨ao, cap, rfl, hc, hn, hcs⟩ := hsl
  cases ao with
  | none =>
    have hc0 := hn rfl
    subst hc0
    have hm : m = 0 := by omega
    subst hm
    have hnews : news = [] := List.eq_nil_of_length_eq_zero (by simpa using hl)
    subst hnews
    refine wpList_append_own_none hgd s x t ho g e i size ht hi _ 0 [] hs hown hx ?_
    exact h _ w hown (Fr.refl _ w)
  | some ad =>
    have hnews : ∀ j u, news[j]? = some u → w.cell? (ad.add j) = some u := by
      intro j u hj
      obtain ⟨b, off, ha, _, hcell⟩ := hcs j u hj
      obtain rfl := Option.some.inj ha
      have : (⟨b, off, none⟩ : Addr).add j = ⟨b, off + j, none⟩ := by unfold Addr.add; split <;> simp_all
      rw [this]
      exact hcell
    refine wpList_plain hgd fun K' hK => ?_
    by_cases hm : m = 0
    · subst hm
      have hnl : news = [] := List.eq_nil_of_length_eq_zero (by simpa using hl)
      subst hnl
      have hr := run_append_room_cells (P := P) w t o.type e i ht hi g 0 0 0 ad 0 cap [] (by simp) (fun j u hj => by simp at hj) (fun u hu => by simp at hu) (Nat.le_refl _) (fun j hj => by simp at hj) (fun j hj => by simp at hj)
      have hw : w.setCells g (0 + 0 * i.size) [] = w := rfl
      rw [hw] at hr
      unfold Oper.wp execOp
      simp only [ho, resolve, invoke, builtin, Sem.run_bind, Sem.run_pure, Result.andThen_ok, List.map_toArray, List.map_cons, List.map_nil, hs, hx, hr]
      exact hK _ _ (h _ w hown (Fr.refl _ w))
    · obtain ⟨v', w', hr, h2, h3⟩ := run_append_arg_grows (P := P) w t o.type e i z size bytes ht hi hz hsize hby hzs hsz ⟨g, 0, none⟩ 0 0 [] (by simp) (fun j u hj => by simp at hj) ad m cap news hl hnews (by omega) (by omega) (by rw [Nat.zero_add]; exact hbytes)
      unfold Oper.wp execOp
      simp only [ho, resolve, invoke, builtin, Sem.run_bind, Sem.run_pure, Result.andThen_ok, List.map_toArray, List.map_cons, List.map_nil, hs, hx, hr]
      refine hK _ _ (h v' w' ?_ (Fr.grown (Fr.refl _ w) h3 (fun k hk => by cases hk)))
      rw [Nat.zero_add, List.nil_append] at h2
      exact ⟨h2.1, h2.2.imp id (fun ⟨q, c, cur, e1, e2, r⟩ => ⟨q, c, cur, e1, Nat.le_trans (Nat.le_of_lt hlt) e2, r⟩)⟩
theorem pL (l : List Value) (d : Tmp) (v : Value) (D : List Deferred) : ({ tmps := l.toArray, defers := D } : Act).put (some d) v = { tmps := (l.set d v).toArray, defers := D } := by simp [Act.put]
end Go.Proofs.Ytghlilncdfiojaa
