/-
  Slices in memory: what one reads, what stays while other memory grows, what an append of one onto an owned row leaves. It names nothing of the program.
-/
import Derived.WalkKit
import Derived.WalkSpells
import Derived.WalkLawsBesides
import Derived.Laws.AppendOwnNone
import Derived.Maps.AppendAt
namespace Go.Proofs.Ytimgelekpghklaa
set_option linter.unusedVariables false
set_option linter.unusedSimpArgs false
set_option maxRecDepth 20000
open Go.RowKit

/-- The walk stands still behind it. -/
theorem stop_here {p : Prop} (h : Hid p) : p := h

/-- A byte as a cell. -/
def bv (x : UInt8) : Value := .int .u8 (x.toNat : Int)

/-- The slice value v has n elements, and its cells are cs, in a block below K. -/
def Sl (K : Nat) (w : World) (v : Value) (n : Nat) (cs : List Value) : Prop :=
  ∃ ao cap, v = .slice ao n cap ∧ (n ≤ cap ∧ cap ≤ maxLen) ∧ (ao = none → cap = 0) ∧
    ∀ i c, cs[i]? = some c → ∃ b off, ao = some ⟨b, off, none⟩ ∧ b < K ∧ w.cell? ⟨b, off + i, none⟩ = some c

theorem Sl.keep {K n : Nat} {w w' : World} {v : Value} {cs : List Value} (h : Sl K w v n cs) (hb : Below K w w') : Sl K w' v n cs := by
  obtain ⟨ao, cap, hv, hc, hn, hcs⟩ := h
  refine ⟨ao, cap, hv, hc, hn, fun i c hi => ?_⟩
  obtain ⟨b, off, ha, hbk, hcell⟩ := hcs i c hi
  exact ⟨b, off, ha, hbk, by rw [hb.cell (p := ⟨b, off + i, none⟩) hbk]; exact hcell⟩

theorem Sl.mono {K K' n : Nat} {w : World} {v : Value} {cs : List Value} (h : Sl K w v n cs) (hk : K ≤ K') : Sl K' w v n cs := by
  obtain ⟨ao, cap, hv, hc, hn, hcs⟩ := h
  refine ⟨ao, cap, hv, hc, hn, fun i c hi => ?_⟩
  obtain ⟨b, off, ha, hbk, hcell⟩ := hcs i c hi
  exact ⟨b, off, ha, Nat.lt_of_lt_of_le hbk hk, hcell⟩

theorem Sl.nil (K : Nat) (w : World) : Sl K w (.slice none 0 0) 0 [] := ⟨none, 0, rfl, ⟨Nat.le_refl _, Nat.zero_le _⟩, fun _ => rfl, fun i c h => by simp at h⟩

theorem add_plain (b o n : Nat) : (⟨b, o, none⟩ : Addr).add n = ⟨b, o + n, none⟩ := by
  unfold Addr.add; split <;> simp_all

theorem Sl.cut {K n : Nat} {w : World} {ao : Option Addr} {cap : Nat} {cs : List Value} (h : Sl K w (.slice ao n cap) n cs) (s l r : Nat) (_hs : 0 < s) (hl : cs.length = n * s) (hlr : l ≤ r) (hrn : r ≤ n) :
    Sl K w (sliced ao l r cap s) (r - l) ((cs.drop (l * s)).take ((r - l) * s)) := by
  obtain ⟨ao', cap', hv, hc, hn, hcs⟩ := h
  simp only [Value.slice.injEq, true_and] at hv
  obtain ⟨rfl, rfl⟩ := hv
  refine ⟨if cap = l then ao else ao.map (·.add (l * s)), cap - l, rfl, by omega, ?_, ?_⟩
  · intro h0
    split at h0
    · omega
    · have : ao = none := by simpa using h0
      have := hn this
      omega
  · intro i c hi
    rw [List.getElem?_take] at hi
    split at hi
    · rename_i hlt
      rw [List.getElem?_drop] at hi
      obtain ⟨b, off, ha, hbk, hcell⟩ := hcs _ _ hi
      have hne : ¬ cap = l := by
        intro e
        have : r - l = 0 := by omega
        rw [this] at hlt
        simp at hlt
      refine ⟨b, off + l * s, ?_, hbk, by rw [Nat.add_assoc]; exact hcell⟩
      rw [if_neg hne, ha]
      simp [add_plain]
    · cases hi

/-- A slice of bytes cut from l to r; its own name keeps the walk from looking inside. -/
def cut1 (ao : Option Addr) (l r cap : Nat) : Value := sliced ao l r cap 1

theorem cut1_form (ao : Option Addr) (l r cap : Nat) : ∃ ao', cut1 ao l r cap = .slice ao' (r - l) (cap - l) := ⟨_, rfl⟩

theorem Sl.cut1 {K : Nat} {w : World} {ao : Option Addr} {cap : Nat} {xs : List UInt8} (h : Sl K w (.slice ao xs.length cap) xs.length (xs.map bv)) (l r : Nat) (hlr : l ≤ r) (hrn : r ≤ xs.length) :
    Sl K w (cut1 ao l r cap) (r - l) (((xs.drop l).take (r - l)).map bv) := by
  have := h.cut 1 l r (by decide) (by simp) hlr hrn
  simpa [Proofs.Ytimgelekpghklaa.cut1] using this

theorem sl_of_owns {w : World} {base e size n : Nat} {v : Value} {xs : List Value} (h : w.ownsRow base e size v n xs) : Sl w.heap.size w v n xs := by
  obtain ⟨h1, h2⟩ := h
  rcases h2 with ⟨rfl, rfl⟩ | ⟨g, cap, cur, rfl, hb, hg, hn, hm, hs, ht⟩
  · have : xs = [] := List.eq_nil_of_length_eq_zero (by simpa using h1)
    subst this
    exact Sl.nil _ _
  · refine ⟨_, cap, rfl, ⟨hn, hm⟩, fun h => by simp at h, fun i c hi => ⟨g, 0, rfl, (Array.getElem?_eq_some_iff.1 hg).1, ?_⟩⟩
    rw [Nat.zero_add, cell_of_row w g i cur e (0, 0) hg]
    rw [← ht, List.getElem?_take] at hi
    split at hi
    · simpa using hi
    · cases hi

theorem sl_lit (w : World) (cs : Array Value) (t n : Nat) (hn : n ≤ 1000000000) : Sl (w.heap.size + 1) (w.alloc (.cells cs t)) (.slice (some ⟨w.heap.size, 0, none⟩) n n) n cs.toList := by
  refine ⟨_, n, rfl, ⟨Nat.le_refl _, by unfold maxLen; omega⟩, fun h => by simp at h, fun i c hi => ⟨w.heap.size, 0, rfl, Nat.lt_succ_self _, ?_⟩⟩
  rw [Nat.zero_add, cell_of_row _ w.heap.size i cs t (0, 0) (heap_alloc_new w _)]
  simpa using hi

theorem bv_oneCell (xs : List UInt8) : ∀ u ∈ xs.map bv, u.oneCell' = true := by
  intro u hu
  obtain ⟨x, _, rfl⟩ := List.mem_map.1 hu
  rfl

/-- An append of what any slice holds, onto an owned row. -/
theorem wpList_append_sl {P : Program} (w : World) {ops : Array Oper} {rest : List Oper} {o : Oper} {a : Act} {Q : Exit → Act → World → Prop} (hgd : o.guard = none) (s x : Operand) (t : TypeId)
    (ho : o.op = .call { callee := .builtin .append, args := #[s, x], argTypes := #[t, t] })
    (base : Nat) (e : TypeId) (i : TypeInfo) (z : Value) (size bytes : Nat) (ht : P.underlying t = some (.slice e)) (hi : P.info? e = some i) (hz : i.zero = some z)
    (hsize : i.size = size) (hby : i.bytes = bytes) (hzs : z.cells.size = size) (hsz : 0 < size)
    (v : Value) (n : Nat) (xs : List Value) (hs : a.eval s = v) (hown : w.ownsRow base e size v n xs)
    (K : Nat) (u : Value) (m : Nat) (news : List Value) (hx : a.eval x = u) (hsl : Sl K w u m news) (hl : news.length = m * size) (h1 : ∀ u ∈ news, u.oneCell' = true)
    (h63 : n + m ≤ maxLen) (hbytes : (n + m) * bytes ≤ 140737488355328) (hbase : base ≤ w.heap.size)
    (h : ∀ v' w', w'.ownsRow base e size v' (n + m) (xs ++ news) → w.grownBy w' v.ownBlock → (v'.ownBlock = v.ownBlock ∨ v'.ownBlock = some w.heap.size) → wpList P ops Q rest (a.put o.dst v') w') : wpList P ops Q (o :: rest) a w := by
  obtain ⟨ao, cap, rfl, hc, hn, hcs⟩ := hsl
  cases ao with
  | none =>
    have hc0 := hn rfl
    subst hc0
    have hm : m = 0 := by omega
    subst hm
    have hnews : news = [] := List.eq_nil_of_length_eq_zero (by simpa using hl)
    subst hnews
    refine wpList_append_own_none hgd s x t ho base e i size ht hi v n xs hs hown hx ?_
    exact h v w (by simpa using hown) (World.grownBy.refl _ _) (Or.inl rfl)
  | some ad =>
    refine wpList_plain hgd fun K' hK => ?_
    have hnews : ∀ j u, news[j]? = some u → w.cell? (ad.add j) = some u := by
      intro j u hj
      obtain ⟨b, off, ha, _, hcell⟩ := hcs j u hj
      obtain rfl := Option.some.inj ha
      rw [add_plain]
      exact hcell
    obtain ⟨v', w', hr, h2, h3, _, h5⟩ := run_append_own_at (P := P) w base t o.type e i z size bytes ht hi hz hsize hby hzs hsz v n xs hown ad m cap news hl hnews h1 h63 hbytes hbase
    unfold Oper.wp execOp
    simp only [ho, resolve, invoke, builtin, Sem.run_bind, Sem.run_pure, Result.andThen_ok, List.map_toArray, List.map_cons, List.map_nil, hs, hx, hr]
    exact hK _ _ (h v' w' h2 h3 h5)

theorem sl_bytes_get {K n : Nat} {w : World} {ao : Option Addr} {cap : Nat} {xs : List UInt8} (h : Sl K w (.slice ao n cap) n (xs.map bv)) (i : Nat) (hi : i < xs.length) :
    ∃ b off, ao = some ⟨b, off, none⟩ ∧ b < K ∧ w.cell? ⟨b, off + i, none⟩ = some (.int .u8 (xs[i].toNat : Int)) := by
  obtain ⟨ao', cap', hv, hc, hn, hcs⟩ := h
  simp only [Value.slice.injEq, true_and] at hv
  obtain ⟨rfl, rfl⟩ := hv
  exact hcs i (bv xs[i]) (by simp [hi])

/-- A conversion of bytes to a string. -/
theorem run_string_sl {P : Program} (src e dst : TypeId) (hs : P.underlying src = some (.slice e)) (he : P.underlying e = some (.int .u8)) (hd : P.underlying dst = some .string)
    {K : Nat} {w : World} {v : Value} {xs : List UInt8} (h : Sl K w v xs.length (xs.map bv)) :
    (convert src dst v).run P w = .ok (.string ⟨xs.toArray⟩) w := by
  obtain ⟨ao, cap, rfl, hc, hn, hcs⟩ := h
  cases ao with
  | none =>
    have h0 := hn rfl
    have hx : xs = [] := List.eq_nil_of_length_eq_zero (by omega)
    subst hx
    exact run_convert_bytes_nil w src e hs he _ _ dst hd
  | some ad =>
    rw [run_convert_bytes_string w src dst e _ _ cap hs he hd]
    have hl : (loadCells ad xs.length).run P w = .ok ((xs.map fun x => (x.toNat : Int)).map (Value.int .u8)).toArray w := by
      have := run_loadCells_list (P := P) w ad ((xs.map fun x => (x.toNat : Int)).map (Value.int .u8)) (fun j v hj => by
        have e : (xs.map fun x => (x.toNat : Int)).map (Value.int .u8) = xs.map bv := by simp [bv, Function.comp_def]
        rw [e] at hj
        obtain ⟨b, off, ha, _, hcell⟩ := hcs j v hj
        obtain rfl := Option.some.inj ha
        rw [add_plain]
        exact hcell)
      simpa using this
    rw [run_bytesToString w ad xs.length cap _ hl, foldl_push_bytes]
    congr 2
    simp only [ByteArray.empty, ByteArray.emptyWithCapacity, List.map_map]
    congr 1
    have : ∀ l : List UInt8, l.map ((fun n : Int => UInt8.ofNat n.toNat) ∘ fun x => (x.toNat : Int)) = l := by
      intro l
      induction l with
      | nil => rfl
      | cons a l ih => simp [ih]
    rw [this]
    simp
    rfl

theorem owns_form {w : World} {B e size n : Nat} {v : Value} {xs : List Value} (h : w.ownsRow B e size v n xs) : ∃ ao cap, v = .slice ao n cap := by
  rcases h.2 with ⟨rfl, rfl⟩ | ⟨g, cap, cur, rfl, _⟩
  · exact ⟨none, 0, rfl⟩
  · exact ⟨_, cap, rfl⟩

theorem sl_form {K n : Nat} {w : World} {v : Value} {cs : List Value} (h : Sl K w v n cs) : ∃ ao cap, v = .slice ao n cap := by
  obtain ⟨ao, cap, hv, _⟩ := h
  exact ⟨ao, cap, hv⟩

theorem owns_ge {w : World} {B e size n : Nat} {v : Value} {xs : List Value} (h : w.ownsRow B e size v n xs) : ∀ k, v.ownBlock = some k → B ≤ k := fun k hk => (h.lt k hk).1

theorem owns_of_block {w w' : World} {base e size n : Nat} {v : Value} {xs : List Value} (h : w.ownsRow base e size v n xs) (hb : ∀ k, v.ownBlock = some k → w'.heap[k]? = w.heap[k]?) : w'.ownsRow base e size v n xs := by
  refine ⟨h.1, ?_⟩
  rcases h.2 with h2 | ⟨g, cap, cur, rfl, h3, h4, r⟩
  · exact .inl h2
  · exact .inr ⟨g, cap, cur, rfl, h3, by rw [hb g rfl]; exact h4, r⟩

/-- A slice whose cells lie in blocks of one class. -/
def Slp (X : Nat → Prop) (w : World) (v : Value) (n : Nat) (cs : List Value) : Prop :=
  ∃ ao cap, v = .slice ao n cap ∧ (n ≤ cap ∧ cap ≤ maxLen) ∧ (ao = none → cap = 0) ∧
    ∀ i c, cs[i]? = some c → ∃ b off, ao = some ⟨b, off, none⟩ ∧ X b ∧ w.cell? ⟨b, off + i, none⟩ = some c

theorem Slp.sl {X : Nat → Prop} {w : World} {v : Value} {n : Nat} {cs : List Value} (h : Slp X w v n cs) {K : Nat} (hX : ∀ b, X b → b < K) : Sl K w v n cs := by
  obtain ⟨ao, cap, hv, hc, hn, hcs⟩ := h
  refine ⟨ao, cap, hv, hc, hn, fun i c hi => ?_⟩
  obtain ⟨b, off, h1, h2, h3⟩ := hcs i c hi
  exact ⟨b, off, h1, hX b h2, h3⟩

theorem Slp.keep {X X' : Nat → Prop} {w w' : World} {v : Value} {n : Nat} {cs : List Value} (h : Slp X w v n cs) (hX : ∀ b, X b → X' b ∧ w'.heap[b]? = w.heap[b]?) : Slp X' w' v n cs := by
  obtain ⟨ao, cap, hv, hc, hn, hcs⟩ := h
  refine ⟨ao, cap, hv, hc, hn, fun i c hi => ?_⟩
  obtain ⟨b, off, h1, h2, h3⟩ := hcs i c hi
  obtain ⟨h4, h5⟩ := hX b h2
  exact ⟨b, off, h1, h4, by rw [World.cell?_of_block (w := w) h5]; exact h3⟩

theorem slp_of_owns {w : World} {base e size n : Nat} {v : Value} {xs : List Value} (h : w.ownsRow base e size v n xs) : Slp (fun b => v.ownBlock = some b) w v n xs := by
  obtain ⟨h1, h2⟩ := h
  rcases h2 with ⟨rfl, rfl⟩ | ⟨g, cap, cur, rfl, hb, hg, hn, hm, hs, ht⟩
  · have : xs = [] := List.eq_nil_of_length_eq_zero (by simpa using h1)
    subst this
    exact ⟨none, 0, rfl, ⟨Nat.le_refl _, Nat.zero_le _⟩, fun _ => rfl, fun i c h => by simp at h⟩
  · refine ⟨_, cap, rfl, ⟨hn, hm⟩, fun h => by simp at h, fun i c hi => ⟨g, 0, rfl, rfl, ?_⟩⟩
    rw [Nat.zero_add, cell_of_row w g i cur e (0, 0) hg]
    rw [← ht, List.getElem?_take] at hi
    split at hi
    · simpa using hi
    · cases hi
end Go.Proofs.Ytimgelekpghklaa
