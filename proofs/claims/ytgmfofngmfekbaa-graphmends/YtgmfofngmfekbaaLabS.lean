/-
  LabM, LabPlain, LabS1, LabPlain2, LabS5, LabPlain3, LabC1, LabC3, LabPlain4, LabD1, LabD2, LabD3, LabPlain5, LabD4, LabD5, LabR60, LabPlain6, LabR1, LabR2, LabR3, LabI1, LabI2, LabI3, LabR5, LabR6, LabOpen: in one text.
-/
import Derived.Test.YtgmfofngmfekbaaChecked
import Derived.Test.YtgmfofngmfekbaaRows
import Derived.Test.YtgmfofngmfekbaaLibS
import Derived.BigRegion
import Derived.BigQuiet
import Derived.Shelf.Abstract
import Derived.Deep.DeepCutAuto
import Derived.Deep.CutBlock
import Derived.Lib.SliceRun
import Derived.Deep.QuietTactic
import Derived.Laws.StructEq
import Derived.Lib.AppendZeros
import Derived.Laws.CopyOwn
import Derived.Lib.Overlaps
import Derived.Laws.Externs
import Derived.Deep.RegionLaw
import Derived.Deep.Slices
import Derived.ProofKit
import Derived.OpenShut
import Derived.SizedLaws
namespace Go.Proofs.Ytgmfofngmfekbaa
set_option linter.unusedVariables false
set_option linter.unusedSimpArgs false
set_option maxRecDepth 20000
open Go.RowKit

theorem info_parts3 {P:Program} {t:TypeId} {z:Value} {s b:Nat} (h:(P.info? t).map (fun i=>(i.zero,i.size,i.bytes)) = some (some z,s,b)):∃ i,P.info? t = some i∧i.zero = some z∧i.size = s∧i.bytes = b:=by
 cases hq:P.info? t with
 | none=>rw [hq] at h;cases h
 | some i=>rw [hq] at h;exact ⟨i,rfl,by simpa using h⟩

theorem nw_trans {a b c:World} (h:Nw a b) (k:Nw b c):Nw a c:=Fr.trans h k (fun _=>False.elim)
theorem nw_refl (a:World):Nw a a:=Fr.refl _ a

theorem Try.infoC:(Try.prog.info? 91).map (fun i=>(i.zero,i.size,i.bytes)) = some (some (.agg #[.int .u64 0,.int .i64 0]),2,16):=by kernel_rfl

/-- A category with its level. -/
abbrev Cat:=Int × Int
def ccell (c:Cat):List Value:=[.int .u64 c.1,.int .i64 c.2]
def ccells (es:List Cat):List Value:=(es.map ccell).flatten

theorem ccells_append (a b:List Cat):ccells (a ++ b) = ccells a ++ ccells b:=by simp [ccells]
theorem ccells_one (e:Cat):ccells [e] = ccell e:=by simp [ccells]
theorem ccells_cons (e:Cat) (es:List Cat):ccells (e :: es) = .int .u64 e.1 :: .int .i64 e.2 :: ccells es:=by simp [ccells,ccell]
theorem ccells_length:∀ es:List Cat,(ccells es).length = es.length * 2
 | []=>rfl
 | e :: es=>by
  have:=ccells_length es
  rw [ccells_cons]
  simp [this]
  omega

theorem ccells_get (es:List Cat) (i:Nat) (h:i < es.length):(ccells es)[i * 2]? = some (.int .u64 es[i].1)∧(ccells es)[i * 2 + 1]? = some (.int .i64 es[i].2):=by
 have e:es = es.take i ++ (es[i] :: es.drop (i + 1)):=by simp
 have e2:ccells es = ccells (es.take i) ++ (ccell es[i] ++ ccells (es.drop (i + 1))):=by
  have:=congrArg ccells e
  rw [ccells_append,show es[i] :: es.drop (i + 1) = [es[i]] ++ es.drop (i + 1) from rfl,ccells_append,ccells_one] at this
  exact this
 have hl:(ccells (es.take i)).length = i * 2:=by rw [ccells_length,List.length_take,Nat.min_eq_left (by omega)]
 rw [e2]
 constructor
 ·rw [List.getElem?_append_right (by omega),hl];simp [ccell]
 ·rw [List.getElem?_append_right (by omega),hl];simp [ccell]

theorem ccells_set:∀ (es:List Cat) (i:Nat) (c:Cat),i < es.length→((ccells es).set (i * 2) (.int .u64 c.1)).set (i * 2 + 1) (.int .i64 c.2) = ccells (es.set i c)
 | e :: es,0,c,_=>by simp [ccells_cons]
 | e :: es,i + 1,c,h=>by
  have:=ccells_set es i c (by simpa using h)
  rw [List.set_cons_succ,ccells_cons,ccells_cons,← this,show (i + 1) * 2 = i * 2 + 1 + 1 by omega]
  simp

theorem ccells_oneCell (es:List Cat):∀ u ∈ ccells es,u.oneCell' = true:=by
 intro u hu
 unfold ccells at hu
 obtain ⟨l,hl,hul⟩:=List.mem_flatten.1 hu
 obtain ⟨e,_,rfl⟩:=List.mem_map.1 hl
 simp [ccell] at hul
 rcases hul with rfl | rfl <;> rfl

/-- The block g holds the categories xs, and what is behind them. -/
def CB (w:World) (g:Nat) (xs:List Cat) (tl:List Value):Prop:=w.heap[g]? = some (.cells (ccells xs ++ tl).toArray 91 (0,0))

theorem CB.lt {w:World} {g:Nat} {xs:List Cat} {tl:List Value} (h:CB w g xs tl):g < w.heap.size:=heap_lt h

theorem CB.get {w:World} {g:Nat} {xs:List Cat} {tl:List Value} (h:CB w g xs tl) (k:Nat) (hk:k < xs.length) :
  w.cell? ⟨g,k * 2,none⟩ = some (.int .u64 xs[k].1)∧w.cell? ⟨g,k * 2 + 1,none⟩ = some (.int .i64 xs[k].2):=by
 obtain ⟨h1,h2⟩:=ccells_get xs k hk
 have hl:=ccells_length xs
 constructor
 ·refine cell_blk h ?_
  rw [List.getElem?_toArray,List.getElem?_append_left (by omega)];exact h1
 ·refine cell_blk h ?_
  rw [List.getElem?_toArray,List.getElem?_append_left (by omega)];exact h2

theorem CB.free {w:World} {g:Nat} {xs:List Cat} {tl:List Value} (h:CB w g xs tl) (k:Nat):w.frozen? ⟨g,k,none⟩ = false:=free_blk h

theorem CB.keep {w w':World} {g:Nat} {xs:List Cat} {tl:List Value} (h:CB w g xs tl) {T:Nat→Prop} (hf:Fr T w w') (hb:¬ T g):CB w' g xs tl:=(hf.block g h.lt hb).trans h

theorem CB.nw {w w':World} {g:Nat} {xs:List Cat} {tl:List Value} (h:CB w g xs tl) (hf:Nw w w'):CB w' g xs tl:=h.keep hf id

/-- One laid anew. -/
theorem CB.set {w:World} {g:Nat} {xs:List Cat} {tl:List Value} (h:CB w g xs tl) (k:Nat) (hk:k < xs.length) (c:Cat) :
  CB ((w.setCell ⟨g,k * 2,none⟩ (.int .u64 c.1)).setCell ⟨g,k * 2 + 1,none⟩ (.int .i64 c.2)) g (xs.set k c) tl:=by
 have hl:=ccells_length xs
 unfold CB at *
 rw [blk_setCell (blk_setCell h)]
 congr 2
 apply Array.toList_inj.1
 rw [Array.toList_setIfInBounds,Array.toList_setIfInBounds,List.set_append_left _ _ (by omega),List.set_append_left _ _ (by rw [List.length_set];omega),ccells_set xs k c hk]

/-- The slice ao of n categories is written in place: its block, or none. -/
def DB (w:World) (ao:Option Addr) (xs:List Cat) (tl:List Value):Prop:=(ao = none∧xs = []∧tl = [])∨∃ g,ao = some ⟨g,0,none⟩∧CB w g xs tl

/-- All stays but the block of ao. -/
def Of (ao:Option Addr) (k:Nat):Prop:=ao = some ⟨k,0,none⟩

theorem DB.keep {w w':World} {ao:Option Addr} {xs:List Cat} {tl:List Value} (h:DB w ao xs tl) (hf:Nw w w'):DB w' ao xs tl:=by
 rcases h with h | ⟨g,rfl,h⟩
 ·exact .inl h
 ·exact .inr ⟨g,rfl,h.nw hf⟩

theorem DB.at {w:World} {ao:Option Addr} {xs:List Cat} {tl:List Value} (h:DB w ao xs tl) (hx:0 < xs.length):∃ g,ao = some ⟨g,0,none⟩∧CB w g xs tl:=by
 rcases h with ⟨_,rfl,_⟩ | h
 ·simp at hx
 ·exact h

theorem fr_of_nw {S:Nat→Prop} {w w':World} (h:Nw w w'):Fr S w w':=h.mono (fun _=>False.elim)
theorem fr_nw {S:Nat→Prop} {a w w':World} (h:Fr S a w) (k:Nw w w'):Fr S a w':=h.trans k (fun _=>False.elim)
end Go.Proofs.Ytgmfofngmfekbaa

namespace Go.Proofs.Ytgmfofngmfekbaa
set_option linter.unusedVariables false
set_option linter.unusedSimpArgs false
set_option maxRecDepth 20000

def gt (xs:List Cat) (i:Nat):Cat:=(xs[i]?).getD (0,0)
def ky (xs:List Cat) (i:Nat):Int:=(gt xs i).1
def swp (xs:List Cat) (i j:Nat):List Cat:=(xs.set i (gt xs j)).set j (gt xs i)
def Srt (xs:List Cat) (a b:Nat):Prop:=∀ i j,a ≤ i→i < j→j < b→ky xs i ≤ ky xs j
def seg (xs:List Cat) (a b:Nat):List Cat:=(xs.take b).drop a
def Sw (a b:Nat) (xs ys:List Cat):Prop:=ys.length = xs.length∧(∀ i,i < a∨b ≤ i→ys[i]? = xs[i]?)∧∀ id:Int,(seg ys a b).filter (fun c=>c.1 == id) = (seg xs a b).filter (fun c=>c.1 == id)

theorem gt_of {xs:List Cat} {i:Nat} (h:i < xs.length):gt xs i = xs[i]:=by simp [gt,h]
theorem get_gt {xs:List Cat} {i:Nat} (h:i < xs.length):xs[i]? = some (gt xs i):=by simp [gt,h]
theorem gt_eq {xs ys:List Cat} {i j:Nat} (h:xs[i]? = ys[j]?):gt xs i = gt ys j:=by simp [gt,h]
theorem ky_eq {xs ys:List Cat} {i j:Nat} (h:xs[i]? = ys[j]?):ky xs i = ky ys j:=by simp [ky,gt_eq h]

theorem seg_get (xs:List Cat) (a b i:Nat):(seg xs a b)[i]? = if a + i < b then xs[a + i]? else none:=by
 unfold seg
 rw [List.getElem?_drop,List.getElem?_take]

theorem seg_append (xs:List Cat) {a b c:Nat} (h1:a ≤ b) (h2:b ≤ c) (h3:c ≤ xs.length):seg xs a c = seg xs a b ++ seg xs b c:=by
 apply List.ext_getElem?
 intro i
 have hl:(seg xs a b).length = b - a:=by simp [seg];omega
 rw [List.getElem?_append,hl,seg_get]
 split
 ·rename_i h
  split
  ·rw [seg_get,if_pos (by omega)]
  ·rw [seg_get,if_pos (by omega)]
   congr 1
   omega
 ·rename_i h
  split
  ·omega
  ·rw [seg_get,if_neg (by omega)]

theorem seg_length (xs:List Cat) {a b:Nat} (h:b ≤ xs.length):(seg xs a b).length = b - a:=by simp [seg];omega

theorem Sw.refl (a b:Nat) (xs:List Cat):Sw a b xs xs:=⟨rfl,fun _ _=>rfl,fun _=>rfl⟩
theorem Sw.trans {a b:Nat} {xs ys zs:List Cat} (h:Sw a b xs ys) (k:Sw a b ys zs):Sw a b xs zs:=⟨k.1.trans h.1,fun i hi=>(k.2.1 i hi).trans (h.2.1 i hi),fun id=>(k.2.2 id).trans (h.2.2 id)⟩

/-- What lies within lay within. -/
theorem Sw.mem {a b:Nat} {xs ys:List Cat} (h:Sw a b xs ys) (hb:b ≤ xs.length) {i:Nat} (h1:a ≤ i) (h2:i < b):∃ j,a ≤ j∧j < b∧ys[i]? = xs[j]?:=by
 have hl:=h.1
 have hy:gt ys i ∈ seg ys a b:=by
  apply List.mem_of_getElem? (i:=i - a)
  rw [seg_get,if_pos (by omega),show a + (i - a) = i by omega]
  exact get_gt (by omega)
 have hf:gt ys i ∈ (seg ys a b).filter (fun c=>c.1 == (gt ys i).1):=List.mem_filter.2 ⟨hy,by simp⟩
 rw [h.2.2] at hf
 obtain ⟨j,hj⟩:=List.getElem?_of_mem (List.mem_filter.1 hf).1
 rw [seg_get] at hj
 split at hj
 ·exact ⟨a + j,by omega,by omega,by rw [hj,get_gt (by omega)]⟩
 ·cases hj

theorem swp_length (xs:List Cat) (i j:Nat):(swp xs i j).length = xs.length:=by simp [swp]

theorem swp_get (xs:List Cat) {i j:Nat} (hi:i < xs.length) (hj:j < xs.length) (k:Nat):(swp xs i j)[k]? = if k = j then xs[i]? else if k = i then xs[j]? else xs[k]?:=by
 unfold swp
 rw [List.getElem?_set,List.getElem?_set]
 by_cases h1:j = k
 ·subst h1
  simp [hj,get_gt hi]
 ·by_cases h2:i = k
  ·subst h2
   have h3:¬ i = j:=fun h=>h1 h.symm
   simp [h1,h3,hi,get_gt hj]
  ·have h3:¬ k = j:=fun h=>h1 h.symm
   have h4:¬ k = i:=fun h=>h2 h.symm
   simp [h1,h2,h3,h4]

theorem swp_ky (xs:List Cat) {i j:Nat} (hi:i < xs.length) (hj:j < xs.length) (k:Nat):ky (swp xs i j) k = if k = j then ky xs i else if k = i then ky xs j else ky xs k:=by
 have h:=swp_get xs hi hj k
 split
 ·rename_i h1;rw [if_pos h1] at h;exact ky_eq h
 ·rename_i h1
  rw [if_neg h1] at h
  split
  ·rename_i h2;rw [if_pos h2] at h;exact ky_eq h
  ·rename_i h2;rw [if_neg h2] at h;exact ky_eq h

/-! ### By insertion -/
structure Ins (a i j:Nat) (zs:List Cat):Prop where
 aj:a ≤ j
 ji:j ≤ i
 il:i < zs.length
 rest:∀ p q,a ≤ p→p < q→q ≤ i→p ≠ j→q ≠ j→ky zs p ≤ ky zs q
 behind:∀ q,j < q→q ≤ i→ky zs j ≤ ky zs q

theorem Ins.start {a i:Nat} {zs:List Cat} (h:Srt zs a i) (h1:a ≤ i) (h2:i < zs.length):Ins a i i zs :=
 ⟨h1,Nat.le_refl _,h2,fun p q hp hq hi _ hqi=>h p q hp hq (by omega),fun q hq hi=>by omega⟩

theorem Ins.step {a i j:Nat} {zs:List Cat} (h:Ins a i (j + 1) zs) (h1:a ≤ j) (hk:ky zs (j + 1) < ky zs j):Ins a i j (swp zs j (j + 1)):=by
 obtain ⟨_,h3,h4,h5,h6⟩:=h
 have hs:=swp_ky zs (i:=j) (j:=j + 1) (by omega) (by omega)
 refine ⟨h1,by omega,by rw [swp_length];exact h4,fun p q hp hpq hq hpj hqj=>?_,fun q hq hi=>?_⟩
 ·rw [hs p,hs q,if_neg hpj,if_neg hqj]
  split
  ·split
   ·omega
   ·exact h5 j q (by omega) (by omega) hq (by omega) (by omega)
  ·split
   ·exact h5 p j hp (by omega) (by omega) (by omega) (by omega)
   ·exact h5 p q hp hpq hq (by omega) (by omega)
 ·rw [hs j,hs q,if_neg (by omega),if_pos rfl]
  split
  ·omega
  ·rw [if_neg (by omega)]
   exact h6 q (by omega) hi

theorem Ins.fin {a i j:Nat} {zs:List Cat} (h:Ins a i j zs) (hk:j = a∨ky zs (j - 1) ≤ ky zs j):Srt zs a (i + 1):=by
 obtain ⟨h1,h3,h4,h5,h6⟩:=h
 intro p q hp hpq hq
 by_cases e1:p = j
 ·subst e1;exact h6 q hpq (by omega)
 ·by_cases e2:q = j
  ·subst e2
   rcases hk with hk | hk
   ·omega
   ·by_cases e3:p = q - 1
    ·subst e3;exact hk
    ·exact Int.le_trans (h5 p (q - 1) hp (by omega) (by omega) e1 (by omega)) hk
  ·exact h5 p q hp hpq (by omega) e1 e2

end Go.Proofs.Ytgmfofngmfekbaa

namespace Go.Proofs.Ytgmfofngmfekbaa
set_option linter.unusedVariables false
set_option linter.unusedSimpArgs false
set_option maxRecDepth 20000
open Go.RowKit

def cmpI (x y:Int):Int:=if x < y then -1 else if x > y then 1 else 0

theorem c_isNaN (x:Int) (w:World):Calls Try.prog 91 #[.int .u64 x] w fun e w'=>e = .returned (.bool false)∧w = w':=by
 go_enter Try.func91,Try.ntmps91
 go_wp2
 go_ret
 simp

theorem c_cmp (x y:Int) (w:World):Calls Try.prog 69 #[.int .u64 x,.int .u64 y] w fun e w'=>e = .returned (.int .i64 (cmpI x y))∧w = w':=by
 go_enter Try.func69,Try.ntmps69
 go_wp2_with (go_at_call 91;refine (c_isNaN _ _).mono ?_;rintro e w' ⟨rfl,rfl⟩)
 all_goals go_ret
 all_goals (refine ⟨?_,rfl⟩;unfold cmpI)
 all_goals (first | (rw [if_pos (by omega)];rfl) | (rw [if_neg (by omega),if_pos (by omega)];rfl) | (rw [if_neg (by omega),if_neg (by omega)];rfl))

theorem cmpI_lt (x y:Int):decide (cmpI x y < 0) = decide (x < y):=by
 unfold cmpI
 repeat' split
 all_goals simp
 all_goals omega

end Go.Proofs.Ytgmfofngmfekbaa

namespace Go.Proofs.Ytgmfofngmfekbaa
set_option linter.unusedVariables false
set_option linter.unusedSimpArgs false
set_option maxRecDepth 20000

/-- Two ranges of n exchanged. -/
def ExR (xs ys:List Cat) (a b n:Nat):Prop:=ys.length = xs.length∧∀ k,ys[k]? = if a ≤ k∧k < a + n then xs[k - a + b]? else if b ≤ k∧k < b + n then xs[k - b + a]? else xs[k]?

theorem ExR.zero (xs:List Cat) (a b:Nat):ExR xs xs a b 0:=⟨rfl,fun k=>by rw [if_neg (by omega),if_neg (by omega)]⟩

theorem ExR.step {xs zs:List Cat} {a b i:Nat} (h:ExR xs zs a b i) (hab:a + i < b) (hb:b + i < xs.length):ExR xs (swp zs (a + i) (b + i)) a b (i + 1):=by
 obtain ⟨h1,h2⟩:=h
 refine ⟨by rw [swp_length,h1],fun k=>?_⟩
 rw [swp_get zs (by omega) (by omega)]
 split
 ·rename_i e
  rw [h2,if_neg (by omega),if_neg (by omega),if_neg (by omega),if_pos (by omega)]
  congr 1;omega
 ·split
  ·rw [h2,if_neg (by omega),if_neg (by omega),if_pos (by omega)]
   congr 1;omega
  ·rw [h2]
   repeat' split
   all_goals first | rfl | (exfalso;omega)

/-- Two blocks side by side turned round. -/
def Rot (xs ys:List Cat) (a m b:Nat):Prop:=ys.length = xs.length∧∀ k,ys[k]? = if a ≤ k∧k < a + (b - m) then xs[k - a + m]? else if a + (b - m) ≤ k∧k < b then xs[k - (b - m)]? else xs[k]?

theorem Rot.left (xs:List Cat) (s m:Nat):Rot xs xs s m m:=⟨rfl,fun k=>by
 rw [if_neg (by omega)]
 split
 ·congr 1;omega
 ·rfl⟩

theorem Rot.right (xs:List Cat) (m e:Nat) (h:m ≤ e):Rot xs xs m m e:=⟨rfl,fun k=>by
 split
 ·congr 1;omega
 ·rw [if_neg (by omega)]⟩

/-- The first one goes up. -/
theorem Rot.up {xs zs:List Cat} {a k:Nat} (h:Rot xs zs a (a + 1) (k + 1)) (hk:a ≤ k) (hl:k + 1 < xs.length):Rot xs (swp zs k (k + 1)) a (a + 1) (k + 2):=by
 obtain ⟨h1,h2⟩:=h
 refine ⟨by rw [swp_length,h1],fun q=>?_⟩
 rw [swp_get zs (by omega) (by omega)]
 simp only [h2]
 repeat' split
 all_goals first | rfl | (exfalso;omega) | (congr 1;omega)

theorem Rot.ky {xs ys:List Cat} {a m b:Nat} (h:Rot xs ys a m b) (k:Nat):ky ys k = if a ≤ k∧k < a + (b - m) then Proofs.Ytgmfofngmfekbaa.ky xs (k - a + m) else if a + (b - m) ≤ k∧k < b then Proofs.Ytgmfofngmfekbaa.ky xs (k - (b - m)) else Proofs.Ytgmfofngmfekbaa.ky xs k:=by
 have h2:=h.2 k
 split
 ·rename_i h1;rw [if_pos h1] at h2;exact ky_eq h2
 ·rename_i h1
  rw [if_neg h1] at h2
  split
  ·rename_i h3;rw [if_pos h3] at h2;exact ky_eq h2
  ·rename_i h3;rw [if_neg h3] at h2;exact ky_eq h2

/-- Blocks with unlike keys may be turned round. -/
theorem Rot.sw {xs ys:List Cat} {s m e:Nat} (h:Rot xs ys s m e) (h1:s ≤ m) (h2:m ≤ e) (h3:e ≤ xs.length) (hk:∀ p q,s ≤ p→p < m→m ≤ q→q < e→Proofs.Ytgmfofngmfekbaa.ky xs q < Proofs.Ytgmfofngmfekbaa.ky xs p):Sw s e xs ys:=by
 refine ⟨h.1,fun i hi=>?_,fun id=>?_⟩
 ·rw [h.2,if_neg (by omega),if_neg (by omega)]
 ·have e1:seg ys s e = seg xs m e ++ seg xs s m:=by
   apply List.ext_getElem?
   intro i
   rw [List.getElem?_append,seg_length xs h3,seg_get,seg_get,seg_get,h.2]
   repeat' split
   all_goals first | rfl | (exfalso;omega) | (congr 1;omega)
  rw [e1,seg_append xs h1 h2 h3,List.filter_append,List.filter_append]
  by_cases hv:(seg xs m e).filter (fun c=>c.1 == id) = []
  ·rw [hv];simp
  ·have hu:(seg xs s m).filter (fun c=>c.1 == id) = []:=by
    rw [List.filter_eq_nil_iff]
    intro c hc hci
    obtain ⟨d,hd⟩:=List.exists_mem_of_ne_nil _ hv
    obtain ⟨hd1,hd2⟩:=List.mem_filter.1 hd
    obtain ⟨i,hi⟩:=List.getElem?_of_mem hc
    obtain ⟨j,hj⟩:=List.getElem?_of_mem hd1
    rw [seg_get] at hi hj
    split at hi
    ·split at hj
     ·have:=hk (s + i) (m + j) (by omega) (by omega) (by omega) (by omega)
      unfold Proofs.Ytgmfofngmfekbaa.ky gt at this
      rw [hi,hj] at this
      simp at this hci hd2
      omega
     ·cases hj
    ·cases hi
   rw [hu];simp

theorem Srt.le {xs:List Cat} {a b i j:Nat} (h:Srt xs a b) (h1:a ≤ i) (h2:i ≤ j) (h3:j < b):ky xs i ≤ ky xs j:=by
 by_cases e:i = j
 ·subst e;exact Int.le_refl _
 ·exact h i j h1 (by omega) h3

structure Halved (xs zs:List Cat) (a s mid e b:Nat):Prop where
 sw:Sw a b xs zs
 s1:Srt zs a s
 s2:Srt zs s mid
 s3:Srt zs mid e
 s4:Srt zs e b
 low:∀ p q,a ≤ p→p < mid→mid ≤ q→q < b→ky zs p ≤ ky zs q

end Go.Proofs.Ytgmfofngmfekbaa

namespace Go.Proofs.Ytgmfofngmfekbaa
set_option linter.unusedVariables false
set_option linter.unusedSimpArgs false
set_option maxRecDepth 20000
open Go.RowKit

/-- How far the search between the two parts has come. -/
structure Mid (xs:List Cat) (n s0 r0 s r:Nat):Prop where
 lo:∀ k,s0 ≤ k→k < s→ky xs k ≤ ky xs (n - 1 - k)
 hi:∀ k,r ≤ k→k < r0→ky xs (n - 1 - k) < ky xs k

theorem Mid.le {xs:List Cat} {a m b mid s0 r0 s r c:Nat} (h:Mid xs (mid + m) s0 r0 s r) (ha:Srt xs a m) (hb:Srt xs m b) (h0:a ≤ s0) (h1:r0 ≤ m) (h2:r0 ≤ mid) (h3:mid + m ≤ b + s0) (hc1:s0 ≤ c) (hc2:c < r0) (hk:ky xs c ≤ ky xs (mid + m - 1 - c)):Mid xs (mid + m) s0 r0 (c + 1) r:=by
 refine ⟨fun k k1 k2=>?_,h.hi⟩
 have a1:=ha.le (i:=k) (j:=c) (by omega) (by omega) (by omega)
 have a2:=hb.le (i:=mid + m - 1 - c) (j:=mid + m - 1 - k) (by omega) (by omega) (by omega)
 omega

theorem Mid.gt {xs:List Cat} {a m b mid s0 r0 s r c:Nat} (h:Mid xs (mid + m) s0 r0 s r) (ha:Srt xs a m) (hb:Srt xs m b) (h0:a ≤ s0) (h1:r0 ≤ m) (h2:r0 ≤ mid) (h3:mid + m ≤ b + s0) (hc1:s0 ≤ c) (hc2:c < r0) (hk:ky xs (mid + m - 1 - c) < ky xs c):Mid xs (mid + m) s0 r0 s c:=by
 refine ⟨h.lo,fun k k1 k2=>?_⟩
 have a1:=ha.le (i:=c) (j:=k) (by omega) (by omega) (by omega)
 have a2:=hb.le (i:=mid + m - 1 - k) (j:=mid + m - 1 - c) (by omega) (by omega) (by omega)
 omega

end Go.Proofs.Ytgmfofngmfekbaa

namespace Go.Proofs.Ytgmfofngmfekbaa
set_option linter.unusedVariables false
set_option linter.unusedSimpArgs false
set_option maxRecDepth 20000

/-- Sorted in blocks of s, as far as n. -/
def Blk (s n:Nat) (xs:List Cat):Prop:=∀ i j,i < j→j < n→i / s = j / s→ky xs i ≤ ky xs j

/-- A wider block is sorted: those ahead of it stay, those behind it too. -/
theorem Blk.one {s n:Nat} {xs ys:List Cat} (h:Blk s n xs):∀ i j,i < j→j < n→i / s = j / s→ky xs i ≤ ky xs j:=h

/-- Merged as far as a, in blocks of 2 s; behind it in blocks of s. -/
structure Mrg (s n a:Nat) (xs:List Cat):Prop where
 lo:∀ i j,i < j→j < a→i / (2 * s) = j / (2 * s)→ky xs i ≤ ky xs j
 hi:∀ i j,a ≤ i→i < j→j < n→i / s = j / s→ky xs i ≤ ky xs j

theorem Mrg.start {s n:Nat} {xs:List Cat} (h:Blk s n xs):Mrg s n 0 xs:=⟨fun i j h1 h2=>by omega,fun i j _ h1 h2 h3=>h i j h1 h2 h3⟩

theorem div_in {q s i:Nat} (h1:q * s ≤ i) (h2:i < (q + 1) * s):i / s = q:=Nat.div_eq_of_lt_le (by simpa using h1) h2

theorem Mrg.left {s n q:Nat} {xs:List Cat} (h:Mrg s n (q * (2 * s)) xs) (hs:0 < s) {b:Nat} (hb:b ≤ n) (hq:b ≤ q * (2 * s) + s):Srt xs (q * (2 * s)) b:=by
 intro i j h1 h2 h3
 have e:q * (2 * s) = (2 * q) * s:=by rw [← Nat.mul_assoc,Nat.mul_comm q 2]
 have e2:(2 * q + 1) * s = q * (2 * s) + s:=by rw [e,Nat.succ_mul]
 refine h.hi i j h1 h2 (by omega) ?_
 rw [div_in (q:=2 * q) (by omega) (by omega),div_in (q:=2 * q) (by omega) (by omega)]

theorem Mrg.right {s n q:Nat} {xs:List Cat} (h:Mrg s n (q * (2 * s)) xs) (hs:0 < s) {b:Nat} (hb:b ≤ n) (hq:b ≤ q * (2 * s) + 2 * s):Srt xs (q * (2 * s) + s) b:=by
 intro i j h1 h2 h3
 have e:q * (2 * s) = (2 * q) * s:=by rw [← Nat.mul_assoc,Nat.mul_comm q 2]
 have e2:(2 * q + 1) * s = q * (2 * s) + s:=by rw [e,Nat.succ_mul]
 have e3:(2 * q + 1 + 1) * s = q * (2 * s) + 2 * s:=by rw [Nat.succ_mul,e2];omega
 refine h.hi i j (by omega) h2 (by omega) ?_
 rw [div_in (q:=2 * q + 1) (by omega) (by omega),div_in (q:=2 * q + 1) (by omega) (by omega)]

/-- One more is merged. -/
theorem Mrg.step {s n q b:Nat} {xs ys:List Cat} (h:Mrg s n (q * (2 * s)) xs) (hb:b ≤ n) (hq:b = (q + 1) * (2 * s)) (hn:n ≤ xs.length) (k:Sw (q * (2 * s)) b xs ys) (hst:Srt ys (q * (2 * s)) b):Mrg s n ((q + 1) * (2 * s)) ys:=by
 have e:(q + 1) * (2 * s) = q * (2 * s) + 2 * s:=Nat.succ_mul _ _
 refine ⟨fun i j h1 h2 h3=>?_,fun i j h1 h2 h3 h4=>?_⟩
 ·by_cases hj:j < q * (2 * s)
  ·rw [ky_eq (k.2.1 i (.inl (by omega))),ky_eq (k.2.1 j (.inl hj))]
   exact h.lo i j h1 hj h3
  ·by_cases hi:q * (2 * s) ≤ i
   ·exact hst i j hi h1 (by omega)
   ·have e1:j / (2 * s) = q:=div_in (by omega) (by omega)
    have e2:i / (2 * s) < q:=Nat.div_lt_of_lt_mul (by rw [Nat.mul_comm];omega)
    omega
 ·rw [ky_eq (k.2.1 i (.inr (by omega))),ky_eq (k.2.1 j (.inr (by omega)))]
  exact h.hi i j (by omega) h2 h3 h4

/-- The last ones, fewer than a block. -/
theorem Mrg.last {s n q:Nat} {xs ys:List Cat} (h:Mrg s n (q * (2 * s)) xs) (hq:n < (q + 1) * (2 * s)) (k:Sw (q * (2 * s)) n xs ys) (hst:Srt ys (q * (2 * s)) n):Blk (2 * s) n ys:=by
 intro i j h1 h2 h3
 by_cases hj:j < q * (2 * s)
 ·rw [ky_eq (k.2.1 i (.inl (by omega))),ky_eq (k.2.1 j (.inl hj))]
  exact h.lo i j h1 hj h3
 ·by_cases hi:q * (2 * s) ≤ i
  ·exact hst i j hi h1 h2
  ·have e1:j / (2 * s) = q:=div_in (by omega) (by omega)
   have e2:i / (2 * s) < q:=Nat.div_lt_of_lt_mul (by rw [Nat.mul_comm];omega)
   omega

/-- Nothing is left to be merged. -/
theorem Mrg.none {s n q:Nat} {xs:List Cat} (h:Mrg s n (q * (2 * s)) xs) (hs:0 < s) (hq:n ≤ q * (2 * s) + s):Blk (2 * s) n xs:=by
 refine h.last (by rw [Nat.succ_mul];omega) (Sw.refl _ _ _) ?_
 exact h.left hs (Nat.le_refl _) hq

theorem Blk.all {s n:Nat} {xs:List Cat} (h:Blk s n xs) (hs:n ≤ s):Srt xs 0 n:=by
 intro i j _ h1 h2
 refine h i j h1 h2 ?_
 rw [Nat.div_eq_of_lt (by omega),Nat.div_eq_of_lt (by omega)]

/-- The first blocks, by insertion. -/
structure Fst (s a:Nat) (xs:List Cat):Prop where
 lo:∀ i j,i < j→j < a→i / s = j / s→ky xs i ≤ ky xs j

theorem Fst.step {s q b:Nat} {xs ys:List Cat} (h:Fst s (q * s) xs) (hb:b ≤ (q + 1) * s) (k:Sw (q * s) b xs ys) (hst:Srt ys (q * s) b):Fst s b ys:=by
 refine ⟨fun i j h1 h2 h3=>?_⟩
 by_cases hj:j < q * s
 ·rw [ky_eq (k.2.1 i (.inl (by omega))),ky_eq (k.2.1 j (.inl hj))]
  exact h.lo i j h1 hj h3
 ·by_cases hi:q * s ≤ i
  ·exact hst i j hi h1 h2
  ·have e1:j / s = q:=div_in (by omega) (by omega)
   have e2:i / s < q:=Nat.div_lt_of_lt_mul (by rw [Nat.mul_comm];omega)
   omega

end Go.Proofs.Ytgmfofngmfekbaa

namespace Go.Proofs.Ytgmfofngmfekbaa
set_option linter.unusedVariables false
set_option linter.unusedSimpArgs false
set_option maxRecDepth 20000
open Go.RowKit

theorem zeroCells_two (n:Nat):(Builtin.zeroCells (Value.agg #[.int .u64 0,.int .i64 0]).cells n).toList = ccells (List.replicate n (0,0)):=by
 apply List.ext_getElem?
 intro i
 have hl:(ccells (List.replicate n ((0,0):Cat))).length = n * 2:=by rw [ccells_length,List.length_replicate]
 by_cases hi:i < n * 2
 ·have h2:i / 2 < (List.replicate n ((0,0):Cat)).length:=by rw [List.length_replicate];omega
  obtain ⟨g1,g2⟩:=ccells_get (List.replicate n ((0,0):Cat)) (i / 2) h2
  rw [List.getElem_replicate] at g1 g2
  rcases Nat.mod_two_eq_zero_or_one i with hm | hm
  ·have e:i = i / 2 * 2:=by omega
   have:(ccells (List.replicate n ((0,0):Cat)))[i]? = some (.int .u64 0):=by rw [e];exact g1
   rw [this]
   have hi':i < n * (Value.agg #[.int .u64 0,.int .i64 0]).cells.size:=hi
   unfold Builtin.zeroCells
   rw [Array.getElem?_toList,Array.getElem?_map,Array.getElem?_eq_getElem (by simpa using hi'),Array.getElem_range]
   show some ((#[Value.int .u64 0,Value.int .i64 0])[i % 2]!) = _
   rw [hm]
   rfl
  ·have e:i = i / 2 * 2 + 1:=by omega
   have:(ccells (List.replicate n ((0,0):Cat)))[i]? = some (.int .i64 0):=by rw [e];exact g2
   rw [this]
   have hi':i < n * (Value.agg #[.int .u64 0,.int .i64 0]).cells.size:=hi
   unfold Builtin.zeroCells
   rw [Array.getElem?_toList,Array.getElem?_map,Array.getElem?_eq_getElem (by simpa using hi'),Array.getElem_range]
   show some ((#[Value.int .u64 0,Value.int .i64 0])[i % 2]!) = _
   rw [hm]
   rfl
 ·rw [List.getElem?_eq_none (by omega:(ccells (List.replicate n ((0,0):Cat))).length ≤ i)]
  apply List.getElem?_eq_none
  simp [Builtin.zeroCells,Value.cells]
  omega

theorem blk_setCells {g:Nat} {t:TypeId} (post:List Value):∀ (vs pre mid:List Value) (w:World),mid.length = vs.length→w.heap[g]? = some (.cells (pre ++ mid ++ post).toArray t (0,0))→(w.setCells g pre.length vs).heap[g]? = some (.cells (pre ++ vs ++ post).toArray t (0,0))
 | [],pre,mid,w,h1,h2=>by
  have:mid = []:=List.eq_nil_of_length_eq_zero (by simpa using h1)
  subst this
  simpa [World.setCells] using h2
 | v :: vs,pre,[],w,h1,h2=>by simp at h1
 | v :: vs,pre,m :: mid,w,h1,h2=>by
  rw [World.setCells]
  have h3:(w.setCell ⟨g,pre.length,none⟩ v).heap[g]? = some (.cells ((pre ++ [v]) ++ mid ++ post).toArray t (0,0)):=by
   rw [blk_setCell h2]
   congr 2
   apply Array.toList_inj.1
   simp
  have h4:=blk_setCells post vs (pre ++ [v]) mid (w.setCell ⟨g,pre.length,none⟩ v) (by simpa using h1) h3
  rw [List.length_append] at h4
  simpa using h4

theorem fr_setCells {g:Nat} {S:Nat→Prop} {a:World} (hp:S g∨a.heap.size ≤ g):∀ (vs:List Value) (o:Nat) (w:World),Fr S a w→Fr S a (w.setCells g o vs)
 | [],o,w,h=>h
 | v :: vs,o,w,h=>fr_setCells hp vs (o + 1) _ (h.setCell (p:=⟨g,o,none⟩) hp v)

/-- What is behind k is cleared. -/
theorem CB.clear {w:World} {g:Nat} {zs:List Cat} {tl:List Value} (h:CB w g zs tl) (k:Nat) (hk:k ≤ zs.length):CB (w.setCells g (k * 2) (ccells (List.replicate (zs.length - k) (0,0)))) g (zs.take k) (ccells (List.replicate (zs.length - k) (0,0)) ++ tl):=by
 have e:zs = zs.take k ++ zs.drop k:=(List.take_append_drop k zs).symm
 have e2:ccells zs = ccells (zs.take k) ++ ccells (zs.drop k):=by rw [← ccells_append,← e]
 unfold CB at *
 rw [e2] at h
 have hl:(ccells (zs.take k)).length = k * 2:=by rw [ccells_length,List.length_take,Nat.min_eq_left hk]
 have:=blk_setCells tl (ccells (List.replicate (zs.length - k) (0,0))) (ccells (zs.take k)) (ccells (zs.drop k)) w (by rw [ccells_length,ccells_length];simp) h
 rw [hl] at this
 rw [this,List.append_assoc]

theorem CB.cellAll {w:World} {g:Nat} {xs:List Cat} {tl:List Value} (h:CB w g xs tl) (j:Nat) (hj:j < xs.length * 2):(w.cell? ⟨g,j,none⟩).isSome = true:=by
 have hl:=ccells_length xs
 rw [cell_blk h (v:=(ccells xs ++ tl)[j]'(by simp;omega)) (by simp)]
 rfl

/-! ### The first of each run -/
def ddT (xs:List Cat):Nat→List Cat
 | 0=>[]
 | k + 1=>if k = 0∨ky xs k ≠ ky xs (k - 1) then ddT xs k ++ [gt xs k] else ddT xs k

theorem ddT_take (xs:List Cat):∀ k,k ≤ xs.length→(∀ i,0 < i→i < k→ky xs i ≠ ky xs (i - 1))→ddT xs k = xs.take k
 | 0,_,_=>by simp [ddT]
 | k + 1,hk,h=>by
  rw [ddT,if_pos,ddT_take xs k (by omega) (fun i h1 h2=>h i h1 (by omega)),List.take_succ_eq_append_getElem (by omega),gt_of (by omega)]
  by_cases h0:k = 0
  ·exact .inl h0
  ·exact .inr (h k (by omega) (by omega))

/-- So far packed together. -/
structure Cmp (xs zs:List Cat) (j k:Nat):Prop where
 len:zs.length = xs.length
 k1:k + 1 ≤ j
 dd:(ddT xs j).length = k
 low:zs.take k = ddT xs j
 high:∀ i,j ≤ i + 1→zs[i]? = xs[i]?

theorem Cmp.start {xs:List Cat} {k:Nat} (hk:0 < k) (hl:k < xs.length) (h:∀ i,0 < i→i < k→ky xs i ≠ ky xs (i - 1)) (he:ky xs k = ky xs (k - 1)):Cmp xs xs (k + 1) k:=by
 have e:ddT xs (k + 1) = xs.take k:=by
  rw [ddT,if_neg,ddT_take xs k (by omega) h]
  rintro (h1 | h1)
  ·omega
  ·exact h1 he
 exact ⟨rfl,Nat.le_refl _,by rw [e];simp;omega,e.symm,fun _ _=>rfl⟩

theorem Cmp.skip {xs zs:List Cat} {j k:Nat} (h:Cmp xs zs j k) (he:ky xs j = ky xs (j - 1)):Cmp xs zs (j + 1) k:=by
 have e:ddT xs (j + 1) = ddT xs j:=by
  rw [ddT,if_neg]
  rintro (h1 | h1)
  ·have:=h.k1;omega
  ·exact h1 he
 exact ⟨h.len,by have:=h.k1;omega,by rw [e];exact h.dd,by rw [e];exact h.low,fun i hi=>h.high i (by omega)⟩

theorem take_set_snoc (zs:List Cat) (k:Nat) (c:Cat) (h:k < zs.length):(zs.set k c).take (k + 1) = zs.take k ++ [c]:=by
 rw [List.take_succ_eq_append_getElem (by simpa using h),List.take_set_of_le (Nat.le_refl k)]
 simp

theorem Cmp.put {xs zs:List Cat} {j k:Nat} (h:Cmp xs zs j k) (hj:j < xs.length) (he:ky xs j ≠ ky xs (j - 1)):Cmp xs (zs.set k (gt xs j)) (j + 1) (k + 1):=by
 have e:ddT xs (j + 1) = ddT xs j ++ [gt xs j]:=by rw [ddT,if_pos (.inr he)]
 have h1:=h.k1
 refine ⟨by rw [List.length_set];exact h.len,by omega,by rw [e];simp [h.dd],?_,fun i hi=>?_⟩
 ·rw [e,take_set_snoc _ _ _ (by have:=h.len;omega),h.low]
 ·rw [List.getElem?_set_ne (by omega)]
  exact h.high i (by omega)
end Go.Proofs.Ytgmfofngmfekbaa

namespace Go.Proofs.Ytgmfofngmfekbaa
set_option linter.unusedVariables false
set_option linter.unusedSimpArgs false
set_option maxRecDepth 20000
open Go.RowKit

def keepC (d:Int) (c:Cat):Bool:=!(c.2 == d)

structure Dl (d:Int) (xs zs:List Cat) (j i:Nat):Prop where
 len:zs.length = xs.length
 ij:i < j
 low:zs.take i = (xs.take j).filter (keepC d)
 low2:((xs.take j).filter (keepC d)).length = i
 high:∀ q,j ≤ q→zs[q]? = xs[q]?

theorem Dl.start {d:Int} {xs:List Cat} {k:Nat} (hk:k < xs.length) (h:∀ i,i < k→(gt xs i).2 ≠ d) (he:(gt xs k).2 = d):Dl d xs xs (k + 1) k:=by
 have e:(xs.take (k + 1)).filter (keepC d) = xs.take k:=by
  rw [List.take_succ_eq_append_getElem hk,List.filter_append,← gt_of hk]
  have e1:(xs.take k).filter (keepC d) = xs.take k:=by
   rw [List.filter_eq_self]
   intro c hc
   obtain ⟨i,hi⟩:=List.getElem?_of_mem hc
   rw [List.getElem?_take] at hi
   split at hi
   ·rename_i hik
    have:=h i hik
    unfold gt at this
    rw [hi] at this
    simp [keepC] at this ⊢
    exact this
   ·cases hi
  rw [e1]
  simp [keepC,he]
 exact ⟨rfl,by omega,e.symm,by rw [e];simp;omega,fun _ _=>rfl⟩

theorem Dl.skip {d:Int} {xs zs:List Cat} {j i:Nat} (h:Dl d xs zs j i) (hj:j < xs.length) (he:(gt xs j).2 = d):Dl d xs zs (j + 1) i:=by
 have e:(xs.take (j + 1)).filter (keepC d) = (xs.take j).filter (keepC d):=by
  rw [List.take_succ_eq_append_getElem hj,List.filter_append,← gt_of hj]
  simp [keepC,he]
 exact ⟨h.len,by have:=h.ij;omega,by rw [e];exact h.low,by rw [e];exact h.low2,fun q hq=>h.high q (by omega)⟩

theorem Dl.put {d:Int} {xs zs:List Cat} {j i:Nat} (h:Dl d xs zs j i) (hj:j < xs.length) (he:(gt xs j).2 ≠ d):Dl d xs (zs.set i (gt xs j)) (j + 1) (i + 1):=by
 have e:(xs.take (j + 1)).filter (keepC d) = (xs.take j).filter (keepC d) ++ [gt xs j]:=by
  rw [List.take_succ_eq_append_getElem hj,List.filter_append,← gt_of hj]
  simp [keepC,he]
 have h1:=h.ij
 refine ⟨by rw [List.length_set];exact h.len,by omega,?_,by rw [e,List.length_append,h.low2];rfl,fun q hq=>?_⟩
 ·rw [e,take_set_snoc _ _ _ (by have:=h.len;omega),h.low]
 ·rw [List.getElem?_set_ne (by omega)]
  exact h.high q (by omega)

end Go.Proofs.Ytgmfofngmfekbaa

namespace Go.Proofs.Ytgmfofngmfekbaa
set_option linter.unusedVariables false
set_option linter.unusedSimpArgs false
set_option maxRecDepth 20000

def lev (d:Int):List Cat→Int→Int
 | [],_=>d
 | c :: r,id=>if c.1 = id then c.2 else lev d r id

def Rs (xs:List Cat):Prop:=xs.Pairwise (fun a b=>a.1 < b.1)
structure Fm (d:Int) (xs:List Cat):Prop where
 rs:Rs xs
 ne:∀ c ∈ xs,c.2 ≠ d

theorem lev_append (d:Int) (b:List Cat) (id:Int):∀ a:List Cat,lev d (a ++ b) id = lev (lev d b id) a id
 | []=>rfl
 | c :: a=>by
  rw [List.cons_append,lev,lev,lev_append d b id a]

theorem lev_none {d:Int} {id:Int}:∀ {a:List Cat},(∀ c ∈ a,c.1 ≠ id)→lev d a id = d
 | [],_=>rfl
 | e :: a,h=>by
  rw [lev,if_neg (h e List.mem_cons_self)]
  exact lev_none (fun c hc=>h c (List.mem_cons_of_mem _ hc))

theorem form_unique {d:Int}:∀ {xs ys:List Cat},Fm d xs→Fm d ys→(∀ id,lev d xs id = lev d ys id)→xs = ys
 | [],[],_,_,_=>rfl
 | [],c :: r,_,h2,h=>by
  have:=h c.1
  rw [lev,lev,if_pos rfl] at this
  exact absurd this.symm (h2.ne c List.mem_cons_self)
 | c :: r,[],h1,_,h=>by
  have:=h c.1
  rw [lev,lev,if_pos rfl] at this
  exact absurd this (h1.ne c List.mem_cons_self)
 | c :: r,e :: s,h1,h2,h=>by
  have r1:=List.pairwise_cons.1 h1.rs
  have r2:=List.pairwise_cons.1 h2.rs
  have hk:c.1 = e.1:=by
   rcases Int.lt_trichotomy c.1 e.1 with q | q | q
   ·have:=h c.1
    rw [lev,if_pos rfl,lev_none (fun x hx=>by
     rcases List.mem_cons.1 hx with rfl | hx
     ·omega
     ·have:=r2.1 x hx;omega)] at this
    exact absurd this (h1.ne c List.mem_cons_self)
   ·exact q
   ·have:=h e.1
    rw [lev_none (fun x hx=>by
     rcases List.mem_cons.1 hx with rfl | hx
     ·omega
     ·have:=r1.1 x hx;omega),lev,if_pos rfl] at this
    exact absurd this.symm (h2.ne e List.mem_cons_self)
  have hl:c.2 = e.2:=by
   have:=h c.1
   rwa [lev,if_pos rfl,lev,if_pos hk.symm] at this
  have ht:r = s:=by
   refine form_unique ⟨r1.2,fun x hx=>h1.ne x (List.mem_cons_of_mem _ hx)⟩ ⟨r2.2,fun x hx=>h2.ne x (List.mem_cons_of_mem _ hx)⟩ (fun id=>?_)
   by_cases hid:c.1 = id
   ·rw [lev_none (fun x hx=>by have:=r1.1 x hx;omega),lev_none (fun x hx=>by have:=r2.1 x hx;omega)]
   ·have:=h id
    rwa [lev,if_neg hid,lev,if_neg (by rw [← hk];exact hid)] at this
  rw [ht,Prod.ext hk hl]

end Go.Proofs.Ytgmfofngmfekbaa

namespace Go.Proofs.Ytgmfofngmfekbaa
set_option linter.unusedVariables false
set_option linter.unusedSimpArgs false
set_option maxRecDepth 20000
open Go.RowKit

/-- The slice v holds the categories xs, in blocks of the class X. -/
def CSl (X:Nat→Prop) (w:World) (v:Value) (es:List Cat):Prop:=Slp X w v es.length (ccells es)

theorem CSl.form {X:Nat→Prop} {w:World} {v:Value} {es:List Cat} (h:CSl X w v es):∃ ao cap,v = .slice ao es.length cap∧es.length ≤ cap∧cap ≤ 9223372036854775807:=by
 obtain ⟨ao,cap,rfl,⟨h1,h2⟩,_⟩:=h
 exact ⟨ao,cap,rfl,h1,h2⟩

theorem CSl.get {X:Nat→Prop} {w:World} {ao:Option Addr} {n cap:Nat} {es:List Cat} (h:CSl X w (.slice ao n cap) es) (k:Nat) (hk:k < es.length) :
  ∃ q off,ao = some ⟨q,off,none⟩∧X q∧w.cell? ⟨q,off + k * 2,none⟩ = some (.int .u64 es[k].1)∧w.cell? ⟨q,off + k * 2 + 1,none⟩ = some (.int .i64 es[k].2):=by
 obtain ⟨ao',cap',hv,_,_,hcs⟩:=h
 simp only [Value.slice.injEq] at hv
 obtain ⟨rfl,_,rfl⟩:=hv
 obtain ⟨h1,h2⟩:=ccells_get es k hk
 obtain ⟨q,off,h3,h4,h5⟩:=hcs _ _ h1
 obtain ⟨q',off',h3',_,h5'⟩:=hcs _ _ h2
 rw [h3] at h3'
 simp only [Option.some.injEq,Addr.mk.injEq,and_true] at h3'
 obtain ⟨rfl,rfl⟩:=h3'
 exact ⟨q,off,h3,h4,h5,by rw [Nat.add_assoc];exact h5'⟩

theorem CSl.keep {X X':Nat→Prop} {w w':World} {v:Value} {es:List Cat} (h:CSl X w v es) {T:Nat→Prop} (hf:Fr T w w') (hT:∀ b,X b→b < w.heap.size→¬ T b) (hX:∀ b,X b→b < w.heap.size→X' b):CSl X' w' v es:=by
 obtain ⟨ao,cap,hv,hc,hn,hcs⟩:=h
 refine ⟨ao,cap,hv,hc,hn,fun i c hi=>?_⟩
 obtain ⟨b,off,h1,h2,h3⟩:=hcs i c hi
 have hb:b < w.heap.size:=World.block_lt_of_cell? w _ h3
 exact ⟨b,off,h1,hX b h2 hb,by rw [World.cell?_of_block (w:=w) (hf.block b hb (hT b h2 hb))];exact h3⟩

theorem CSl.nw {X:Nat→Prop} {w w':World} {v:Value} {es:List Cat} (h:CSl X w v es) (hf:Nw w w'):CSl X w' v es:=h.keep hf (fun _ _ _=>id) (fun _ h _=>h)
theorem CSl.mono {X X':Nat→Prop} {w:World} {v:Value} {es:List Cat} (h:CSl X w v es) (hX:∀ b,X b→b < w.heap.size→X' b):CSl X' w v es:=h.keep (Fr.refl (fun _=>False) w) (fun _ _ _=>id) hX
theorem CSl.any {X:Nat→Prop} {w:World} {v:Value} {es:List Cat} (h:CSl X w v es):CSl (fun _=>True) w v es:=h.mono (fun _ _ _=>trivial)

theorem CSl.sl {X:Nat→Prop} {w:World} {v:Value} {es:List Cat} (h:CSl X w v es):Sl w.heap.size w v es.length (ccells es):=by
 obtain ⟨ao,cap,hv,hc,hn,hcs⟩:=h
 refine ⟨ao,cap,hv,hc,hn,fun i c hi=>?_⟩
 obtain ⟨b,off,h1,h2,h3⟩:=hcs i c hi
 exact ⟨b,off,h1,World.block_lt_of_cell? w _ h3,h3⟩

theorem csl_nil (X:Nat→Prop) (w:World):CSl X w (.slice none 0 0) []:=⟨none,0,rfl,⟨Nat.le_refl _,Nat.zero_le _⟩,fun _=>rfl,fun i c h=>by simp [ccells] at h⟩

/-- A slice of one's own, written in place. -/
def MkAt (base:Nat) (w:World) (u:Value) (ys:List Cat):Prop :=
 (u = .slice none 0 0∧ys = [])∨∃ g n cap tl,u = .slice (some ⟨g,0,none⟩) n cap∧Hid (ys.length = n)∧n ≤ cap∧cap ≤ 9223372036854775807∧base ≤ g∧CB w g ys tl

theorem MkAt.csl {base:Nat} {w:World} {u:Value} {ys:List Cat} (h:MkAt base w u ys):CSl (fun b=>base ≤ b) w u ys:=by
 rcases h with ⟨rfl,rfl⟩ | ⟨g,n,cap,tl,rfl,hn,hc,hm,hb,hcb⟩
 ·exact csl_nil _ _
 ·have hn:=hn.out
  subst hn
  refine ⟨_,cap,rfl,⟨hc,hm⟩,fun h=>by simp at h,fun i c hi=>⟨g,0,rfl,hb,?_⟩⟩
  rw [Nat.zero_add]
  refine cell_blk hcb ?_
  rw [List.getElem?_toArray,List.getElem?_append_left ((List.getElem?_eq_some_iff.1 hi).1)]
  exact hi

theorem mk_of_owns {base:Nat} {w:World} {u:Value} {ys:List Cat} (h:w.ownsRow base 91 2 u ys.length (ccells ys)):MkAt base w u ys:=by
 rcases h.2 with ⟨h1,h2⟩ | ⟨g,cap,cur,hv,hb,hg,hnc,hcm,hcs,ht⟩
 ·exact .inl ⟨h1,List.eq_nil_of_length_eq_zero h2⟩
 ·refine .inr ⟨g,ys.length,cap,cur.toList.drop (ys.length * 2),hv,rfl,hnc,hcm,hb,?_⟩
  unfold CB
  rw [← ht,List.take_append_drop]
  exact hg

theorem MkAt.keep {base:Nat} {w w':World} {u:Value} {ys:List Cat} (h:MkAt base w u ys) (hf:Nw w w'):MkAt base w' u ys:=by
 rcases h with h | ⟨g,n,cap,tl,h1,h2,h3,h4,h5,h6⟩
 ·exact .inl h
 ·exact .inr ⟨g,n,cap,tl,h1,h2,h3,h4,h5,h6.nw hf⟩

theorem nw_alloc {a w:World} (h:Nw a w) (o:Obj):Nw a (w.alloc o):=Fr.alloc h o

end Go.Proofs.Ytgmfofngmfekbaa

namespace Go.Proofs.Ytgmfofngmfekbaa
set_option linter.unusedVariables false
set_option linter.unusedSimpArgs false
set_option maxRecDepth 20000
open Go.RowKit

theorem Try.rowL:(Try.prog.underlying 26).map TypeDesc.isRow = some true:=by kernel_rfl
theorem Try.sizeL:(Try.prog.info? 26).map (·.size) = some 2:=by kernel_rfl

/-- A label as a value. -/
def labV (d:Int) (u:Value):Value:=.agg #[.int .i64 d,u]

def MadeL (w:World) (d:Int) (f:Int→Int) (N:Nat) (e:Ending) (w':World):Prop :=
 ∃ u ys,e = .returned (labV d u)∧CSl (fun b=>w.heap.size ≤ b) w' u ys∧Fm d ys∧(∀ id,lev d ys id = f id)∧ys.length ≤ N∧Nw w w'

end Go.Proofs.Ytgmfofngmfekbaa

namespace Go.Proofs.Ytgmfofngmfekbaa
set_option linter.unusedVariables false
set_option linter.unusedSimpArgs false
set_option maxRecDepth 20000
open Go.RowKit

theorem nw_drewN (w:World) (q:Nat):Nw w (w.drewN q):=⟨rfl,rfl,rfl,Nat.le_refl _,fun _ _ _=>rfl⟩

theorem lev_drop {d id:Int} {xs:List Cat} {k:Nat} (hk:k < xs.length):lev d (xs.drop k) id = if xs[k].1 = id then xs[k].2 else lev d (xs.drop (k + 1)) id:=by
 rw [List.drop_eq_getElem_cons hk,lev]

/-- The form so far. -/
def FmT (d:Int) (xs:List Cat) (k:Nat):Prop:=∀ i,i < k→(gt xs i).2 ≠ d∧(0 < i→ky xs (i - 1) < ky xs i)

theorem fm_of {d:Int} {xs:List Cat} (h:FmT d xs xs.length):Fm d xs:=by
 refine ⟨List.pairwise_iff_getElem.2 (fun i j hi hj hij=>?_),fun c hc=>?_⟩
 ·have key:∀ m,i + m + 1 < xs.length→ky xs i < ky xs (i + m + 1):=by
   intro m
   induction m with
   | zero=>intro hm;have:=(h (i + 1) hm).2 (by omega);simpa using this
   | succ m ih=>intro hm;have h1:=ih (by omega);have h2:=(h (i + (m + 1) + 1) hm).2 (by omega);rw [show i + (m + 1) + 1 - 1 = i + m + 1 by omega] at h2;omega
  have:=key (j - i - 1) (by omega)
  rw [show i + (j - i - 1) + 1 = j by omega] at this
  unfold ky at this
  rwa [gt_of hi,gt_of hj] at this
 ·obtain ⟨i,hi,rfl⟩:=List.getElem_of_mem hc
  have:=(h i hi).1
  rwa [gt_of hi] at this

theorem of_fm {d:Int} {xs:List Cat} (h:Fm d xs):FmT d xs xs.length:=by
 intro i hi
 refine ⟨by rw [gt_of hi];exact h.ne _ (List.getElem_mem hi),fun h0=>?_⟩
 have:=List.pairwise_iff_getElem.1 h.rs (i - 1) i (by omega) hi (by omega)
 unfold ky
 rwa [gt_of hi,gt_of (by omega)]

set_option maxHeartbeats 1600000 in
theorem c_hasForm {X:Nat→Prop} {v:Value} {xs:List Cat} (d:Int) (w:World) (h:CSl X w v xs) :
  Calls Try.prog 95 #[labV d v] w fun e w'=>∃ r:Bool,e = .returned (.bool r)∧(r = true↔Fm d xs)∧Nw w w':=by
 unfold labV
 obtain ⟨ao,cap,rfl,hcl,hcm⟩:=h.form
 have hB:(w.alloc (.cells #[.int .i64 d,.slice ao xs.length cap] 26)).heap[w.heap.size]? = some (.cells #[.int .i64 d,.slice ao xs.length cap] 26 (0,0)):=heap_alloc_new w _
 have hnw:Nw w (w.alloc (.cells #[.int .i64 d,.slice ao xs.length cap] 26)):=nw_alloc (nw_refl w) _
 have hc1:=h.nw hnw
 go_enter Try.func95,Try.ntmps95
 go_upto_region 1 with fail
 generalize w.alloc (.cells #[.int .i64 d,.slice ao xs.length cap] 26) = W at *
 generalize hBB:w.heap.size = B at *
 replace hBB:Hid _:=hBB
 have b1:W.cell? ⟨B,1,none⟩ = some (.slice ao xs.length cap):=cell_blk hB rfl
 go_wp2
 clear b1
 go_loopw [8] (fun kv wr=>∃ k:Nat,k ≤ xs.length∧kv = .int .i64 k∧Hid (FmT d xs k)∧Nw W wr) (fun kv _=>xs.length - (intOf kv).toNat)
 case atStart=>exact ⟨0,Nat.zero_le _,rfl,fun i hi=>by omega,nw_refl _⟩
 case round =>
  obtain ⟨k,hk,rfl,hl,hw⟩:=hrel
  have hcr:=hc1.nw hw
  by_cases hlt:k < xs.length
  ·obtain ⟨q,off,rfl,_,d1,d2⟩:=hcr.get k hlt
   have hg:Hid (gt xs k = xs[k]):=gt_of hlt
   have hA:Hid (∀ o,Nw W (wr.alloc o)):=fun o=>nw_alloc hw o
   have hBr:=(hw.block B (heap_lt hB) (fun h=>h)).trans hB
   have hBl:=heap_lt hBr
   generalize hcc:xs[k] = c at *
   have hV:(wr.alloc (.cells #[.int .u64 c.1,.int .i64 c.2] 91)).heap[wr.heap.size]? = some (.cells #[.int .u64 c.1,.int .i64 c.2] 91 (0,0)):=heap_alloc_new wr _
   have hcA:=hcr.nw (nw_alloc (nw_refl wr) (.cells #[.int .u64 c.1,.int .i64 c.2] 91))
   have hBA:(wr.alloc (.cells #[.int .u64 c.1,.int .i64 c.2] 91)).heap[B]? = some (.cells #[.int .i64 d,.slice (some ⟨q,off,none⟩) xs.length cap] 26 (0,0)):=(Below.heap_alloc _ _ _ hBl).trans hBr
   have hnA:=hA.out (.cells #[.int .u64 c.1,.int .i64 c.2] 91)
   replace hcc:Hid _:=hcc
   clear hA hBr hw hcr
   go_upto_region 4 with fail
   generalize wr.alloc (.cells #[.int .u64 c.1,.int .i64 c.2] 91) = U at *
   generalize wr.heap.size = V at *
   clear d1 d2
   have v0:∀ q,(U.drewN q).cell? ⟨V,0,none⟩ = some (.int .u64 c.1):=fun q=>cell_blk (w:=U.drewN q) hV rfl
   have v1:∀ q,(U.drewN q).cell? ⟨V,1,none⟩ = some (.int .i64 c.2):=fun q=>cell_blk (w:=U.drewN q) hV rfl
   have b0:∀ q,(U.drewN q).cell? ⟨B,0,none⟩ = some (.int .i64 d):=fun q=>cell_blk (w:=U.drewN q) hBA rfl
   by_cases hcd:c.2 = d
   ·have hb:(c.2 == d) = true:=by simp [hcd]
    have hno:Hid (¬ Fm d xs):=fun hf=>((of_fm hf) k hlt).1 (by rw [hg.out];exact hcd)
    clear hcd hl
    go_quiet (fail)
    go_wp2
    go_ret
    exact ⟨false,rfl,⟨(fun h=>Bool.noConfusion h),(fun h=>absurd h hno.out)⟩,nw_trans hnw (nw_trans hnA (nw_drewN U _))⟩
   ·have hb:(c.2 == d) = false:=by simp [hcd]
    by_cases hk0:0 < k
    ·obtain ⟨k,rfl⟩:∃ k':Nat,k = k' + 1:=⟨k - 1,by omega⟩
     obtain ⟨q',off',hq',_,d3,d4⟩:=hcA.get k (by omega)
     simp only [Option.some.injEq,Addr.mk.injEq,and_true] at hq'
     obtain ⟨rfl,rfl⟩:=hq'
     have hg2:Hid (gt xs k = xs[k]'(by omega)):=gt_of (by omega)
     generalize xs[k]'(by omega) = e at *
     have e0:∀ z,(U.drewN z).cell? ⟨q,off + k * 2,none⟩ = some (.int .u64 e.1):=fun z=>d3
     have b1:∀ z,(U.drewN z).cell? ⟨B,1,none⟩ = some (.slice (some ⟨q,off,none⟩) xs.length cap):=fun z=>cell_blk (w:=U.drewN z) hBA rfl
     clear d3 d4
     by_cases hce:c.1 ≤ e.1
     ·have hno:Hid (¬ Fm d xs):=fun hf=>by
       have:=((of_fm hf) (k + 1) hlt).2 (by omega)
       unfold ky at this
       rw [Nat.add_sub_cancel,hg.out,hg2.out] at this
       omega
      clear hcd hl
      go_quiet (fail)
      go_wp2
      go_ret
      exact ⟨false,rfl,⟨(fun h=>Bool.noConfusion h),(fun h=>absurd h hno.out)⟩,nw_trans hnw (nw_trans hnA (nw_drewN U _))⟩
     ·have hl':Hid (FmT d xs (k + 1 + 1)):=fun i hi=>by
       by_cases hik:i = k + 1
       ·subst hik
        exact ⟨by rw [hg.out];exact hcd,fun _=>by unfold ky;rw [Nat.add_sub_cancel,hg.out,hg2.out];omega⟩
       ·exact hl.out i (by omega)
      clear hcd hl
      go_quiet (fail)
      go_wp2
      go_roundw
      case rel=>exact ⟨k + 1 + 1,by omega,by go_num,hl',nw_trans hnA (nw_drewN U _)⟩
      case measure=>simp [intOf];omega
    ·have hl':Hid (FmT d xs (k + 1)):=fun i hi=>by
      have:i = k:=by omega
      subst this
      exact ⟨by rw [hg.out];exact hcd,fun h=>absurd h hk0⟩
     clear hcd hl
     go_quiet (fail)
     go_wp2
     go_roundw
     case rel=>exact ⟨k + 1,by omega,by go_num,hl',nw_trans hnA (nw_drewN U _)⟩
     case measure=>simp [intOf];omega
  ·have hfin:Hid (FmT d xs xs.length):=by
    have:k = xs.length:=by omega
    subst this;exact hl
   clear hl
   go_wp2
   go_ret
   exact ⟨true,rfl,⟨fun _=>fm_of hfin.out,fun _=>rfl⟩,nw_trans hnw hw⟩
end Go.Proofs.Ytgmfofngmfekbaa

namespace Go.Proofs.Ytgmfofngmfekbaa
set_option linter.unusedVariables false
set_option linter.unusedSimpArgs false
set_option maxRecDepth 20000

theorem noM {p:Prop} {α:Type} {a:α} (h:a ∈ ([]:List α)):p:=absurd h List.not_mem_nil

abbrev Vs:=Int × Int × Int

def lid:List Cat→List Cat→Int
 | [],[]=>0
 | c :: _,[]=>c.1
 | [],e :: _=>e.1
 | c :: _,e :: _=>if c.1 < e.1 then c.1 else e.1

def laV (d:Int) (xs:List Cat) (id:Int):Int:=match xs with
 | []=>d
 | c :: _=>if c.1 = id then c.2 else d
def laR (xs:List Cat) (id:Int):List Cat:=match xs with
 | []=>[]
 | c :: r=>if c.1 = id then r else c :: r

/-- Walked so far: D visited, xs and ys left. -/
structure Wk (da db:Int) (fa fb:List Cat) (D:List Vs) (xs ys:List Cat):Prop where
 pa:∃ p,fa = p ++ xs∧∀ c ∈ p,∃ v ∈ D,v.1 = c.1
 pb:∃ p,fb = p ++ ys∧∀ c ∈ p,∃ v ∈ D,v.1 = c.1
 rs:D.Pairwise (fun u v=>u.1 < v.1)
 la:∀ v ∈ D,∀ c ∈ xs,v.1 < c.1
 lb:∀ v ∈ D,∀ c ∈ ys,v.1 < c.1
 va:∀ v ∈ D,v.2.1 = lev da fa v.1∧v.2.2 = lev db fb v.1
 len:D.length + xs.length + ys.length ≤ fa.length + fb.length

theorem Wk.start (da db:Int) (fa fb:List Cat):Wk da db fa fb [] fa fb :=
 ⟨⟨[],rfl,fun c h=>noM h⟩,⟨[],rfl,fun c h=>noM h⟩,List.Pairwise.nil,fun v h=>noM h,fun v h=>noM h,fun v h=>noM h,by simp⟩

theorem lid_mem {xs ys:List Cat} (h:0 < xs.length + ys.length):(∃ c ∈ xs,c.1 = lid xs ys)∨∃ c ∈ ys,c.1 = lid xs ys:=by
 match xs,ys with
 | [],[]=>simp at h
 | c :: _,[]=>exact .inl ⟨c,List.mem_cons_self,rfl⟩
 | [],e :: _=>exact .inr ⟨e,List.mem_cons_self,rfl⟩
 | c :: r,e :: s =>
  simp only [lid]
  by_cases q:c.1 < e.1
  ·exact .inl ⟨c,List.mem_cons_self,by rw [if_pos q]⟩
  ·exact .inr ⟨e,List.mem_cons_self,by rw [if_neg q]⟩

theorem rs_head {c:Cat} {r:List Cat} (h:Rs (c :: r)) {x:Cat} (hx:x ∈ c :: r):c.1 ≤ x.1:=by
 rcases List.mem_cons.1 hx with rfl | hx
 ·exact Int.le_refl _
 ·exact Int.le_of_lt ((List.pairwise_cons.1 h).1 x hx)

theorem lid_le {xs ys:List Cat} (h1:Rs xs) (h2:Rs ys):(∀ c ∈ xs,lid xs ys ≤ c.1)∧∀ c ∈ ys,lid xs ys ≤ c.1:=by
 match xs,ys with
 | [],[]=>exact ⟨fun c h=>noM h,fun c h=>noM h⟩
 | c :: r,[]=>exact ⟨fun x h=>rs_head h1 h,fun c h=>noM h⟩
 | [],e :: s=>exact ⟨fun c h=>noM h,fun x h=>rs_head h2 h⟩
 | c :: r,e :: s =>
  simp only [lid]
  refine ⟨fun x h=>?_,fun x h=>?_⟩
  ·have:=rs_head h1 h
   split <;> omega
  ·have:=rs_head h2 h
   split <;> omega

theorem la_spec {d:Int} {p xs:List Cat} {id:Int} (hp:∀ c ∈ p,c.1 ≠ id) (hr:Rs xs) (hle:∀ c ∈ xs,id ≤ c.1):laV d xs id = lev d (p ++ xs) id∧(∀ c ∈ laR xs id,id < c.1)∧∃ q,xs = q ++ laR xs id∧∀ c ∈ q,c.1 = id:=by
 rw [lev_append]
 match xs with
 | []=>exact ⟨by rw [lev_none hp];rfl,fun c h=>noM h,[],rfl,fun c h=>noM h⟩
 | c :: r =>
  have h1:=List.pairwise_cons.1 hr
  simp only [laV,laR]
  by_cases hc:c.1 = id
  ·rw [if_pos hc,if_pos hc,lev_none hp,lev,if_pos hc]
   exact ⟨rfl,fun x hx=>by have:=h1.1 x hx;omega,[c],rfl,fun x hx=>by simp at hx;rw [hx];exact hc⟩
  ·have hlt:id < c.1:=by have:=hle c List.mem_cons_self;omega
   rw [if_neg hc,if_neg hc,lev_none hp,lev_none (fun x hx=>by have:=rs_head hr hx;omega)]
   exact ⟨rfl,fun x hx=>by have:=rs_head hr hx;omega,[],rfl,fun x hx=>noM hx⟩

theorem rs_suffix {p xs:List Cat} (h:Rs (p ++ xs)):Rs xs:=(List.pairwise_append.1 h).2.1

theorem Wk.step {da db:Int} {fa fb:List Cat} {D:List Vs} {xs ys:List Cat} (h:Wk da db fa fb D xs ys) (ha:Rs fa) (hb:Rs fb) (hne:0 < xs.length + ys.length) :
  Wk da db fa fb (D ++ [(lid xs ys,laV da xs (lid xs ys),laV db ys (lid xs ys))]) (laR xs (lid xs ys)) (laR ys (lid xs ys)):=by
 obtain ⟨p,hp,hpD⟩:=h.pa
 obtain ⟨q,hq,hqD⟩:=h.pb
 have rx:Rs xs:=rs_suffix (by rw [← hp];exact ha)
 have ry:Rs ys:=rs_suffix (by rw [← hq];exact hb)
 obtain ⟨l1,l2⟩:=lid_le rx ry
 have hD:∀ v ∈ D,v.1 < lid xs ys:=fun v hv=>by
  rcases lid_mem hne with ⟨c,hc,he⟩ | ⟨c,hc,he⟩
  ·rw [← he];exact h.la v hv c hc
  ·rw [← he];exact h.lb v hv c hc
 have sa:=la_spec (d:=da) (p:=p) (fun c hc=>by obtain ⟨v,hv,he⟩:=hpD c hc;have:=hD v hv;omega) rx l1
 have sb:=la_spec (d:=db) (p:=q) (fun c hc=>by obtain ⟨v,hv,he⟩:=hqD c hc;have:=hD v hv;omega) ry l2
 have hm:=lid_mem hne
 generalize lid xs ys = id at *
 obtain ⟨a1,a2,qa,a3,a4⟩:=sa
 obtain ⟨b1,b2,qb,b3,b4⟩:=sb
 have lx:=congrArg List.length a3
 have ly:=congrArg List.length b3
 rw [List.length_append] at lx ly
 refine ⟨⟨p ++ qa,by rw [List.append_assoc,← a3];exact hp,fun c hc=>?_⟩,⟨q ++ qb,by rw [List.append_assoc,← b3];exact hq,fun c hc=>?_⟩,?_,fun v hv c hc=>?_,fun v hv c hc=>?_,fun v hv=>?_,?_⟩
 ·rcases List.mem_append.1 hc with hc | hc
  ·obtain ⟨v,hv,he⟩:=hpD c hc
   exact ⟨v,List.mem_append_left _ hv,he⟩
  ·exact ⟨_,List.mem_append_right _ List.mem_cons_self,(a4 c hc).symm⟩
 ·rcases List.mem_append.1 hc with hc | hc
  ·obtain ⟨v,hv,he⟩:=hqD c hc
   exact ⟨v,List.mem_append_left _ hv,he⟩
  ·exact ⟨_,List.mem_append_right _ List.mem_cons_self,(b4 c hc).symm⟩
 ·refine List.pairwise_append.2 ⟨h.rs,List.pairwise_singleton _ _,fun u hu v hv=>?_⟩
  have:v = (id,laV da xs id,laV db ys id):=by simpa using hv
  subst this
  exact hD u hu
 ·rcases List.mem_append.1 hv with hv | hv
  ·have:=hD v hv
   have:=a2 c hc
   omega
  ·have:v = (id,laV da xs id,laV db ys id):=by simpa using hv
   subst this
   exact a2 c hc
 ·rcases List.mem_append.1 hv with hv | hv
  ·have:=hD v hv
   have:=b2 c hc
   omega
  ·have:v = (id,laV da xs id,laV db ys id):=by simpa using hv
   subst this
   exact b2 c hc
 ·rcases List.mem_append.1 hv with hv | hv
  ·exact h.va v hv
  ·have:v = (id,laV da xs id,laV db ys id):=by simpa using hv
   subst this
   exact ⟨by rw [hp];exact a1,by rw [hq];exact b1⟩
 ·have hlen:=h.len
  have hdec:1 ≤ qa.length + qb.length:=by
   rcases hm with ⟨c,hc,he⟩ | ⟨c,hc,he⟩
   ·rw [a3] at hc
    rcases List.mem_append.1 hc with hc | hc
    ·have:=List.length_pos_of_mem hc;omega
    ·have:=a2 c hc;omega
   ·rw [b3] at hc
    rcases List.mem_append.1 hc with hc | hc
    ·have:=List.length_pos_of_mem hc;omega
    ·have:=b2 c hc;omega
  simp only [List.length_append,List.length_singleton]
  omega

theorem Wk.less {da db:Int} {fa fb:List Cat} {D:List Vs} {xs ys:List Cat} (h:Wk da db fa fb D xs ys) (ha:Rs fa) (hb:Rs fb) (hne:0 < xs.length + ys.length) :
  (laR xs (lid xs ys)).length + (laR ys (lid xs ys)).length < xs.length + ys.length:=by
 match xs,ys with
 | [],[]=>simp at hne
 | c :: r,[]=>simp [laR,lid]
 | [],e :: s=>simp [laR,lid]
 | c :: r,e :: s =>
  by_cases q:c.1 < e.1
  ·have he:lid (c :: r) (e :: s) = c.1:=by simp [lid,q]
   rw [he]
   simp only [laR]
   rw [if_pos trivial]
   split <;> simp <;> omega
  ·have he:lid (c :: r) (e :: s) = e.1:=by simp [lid,q]
   rw [he]
   simp only [laR]
   rw [if_pos trivial]
   split <;> simp <;> omega

/-- All that was visited. -/
structure Vis (da db:Int) (f g:Int→Int) (D:List Vs):Prop where
 rs:D.Pairwise (fun u v=>u.1 < v.1)
 va:∀ v ∈ D,v.2.1 = f v.1∧v.2.2 = g v.1
 all:∀ id,(∃ v ∈ D,v.1 = id)∨(f id = da∧g id = db)
 out:∃ id,f id = da∧g id = db

theorem far (xs:List Cat):∃ m:Int,∀ c ∈ xs,c.1 < m:=by
 induction xs with
 | nil=>exact ⟨0,fun c h=>noM h⟩
 | cons c r ih =>
  obtain ⟨m,hm⟩:=ih
  refine ⟨max m (c.1 + 1),fun x hx=>?_⟩
  rcases List.mem_cons.1 hx with rfl | hx
  ·omega
  ·have:=hm x hx;omega

/-- Held everywhere. -/
theorem Vis.holds {da db:Int} {f g:Int→Int} {D:List Vs} (h:Vis da db f g D) (R:Int→Int→Bool):(R da db && D.all (fun v=>R v.2.1 v.2.2)) = true↔∀ id,R (f id) (g id) = true:=by
 rw [Bool.and_eq_true,List.all_eq_true]
 constructor
 ·rintro ⟨h1,h2⟩ id
  rcases h.all id with ⟨v,hv,rfl⟩ | ⟨e1,e2⟩
  ·have:=h2 v hv
   rwa [(h.va v hv).1,(h.va v hv).2] at this
  ·rw [e1,e2];exact h1
 ·intro hall
  obtain ⟨id,e1,e2⟩:=h.out
  refine ⟨by have:=hall id;rwa [e1,e2] at this,fun v hv=>?_⟩
  rw [(h.va v hv).1,(h.va v hv).2]
  exact hall v.1

/-- What is chosen. -/
def chs (c:Int→Int→Int) (d:Int) (D:List Vs):List Cat:=(D.filter (fun v=>!(c v.2.1 v.2.2 == d))).map (fun v=>(v.1,c v.2.1 v.2.2))

theorem chs_snoc (c:Int→Int→Int) (d:Int) (D:List Vs) (v:Vs):chs c d (D ++ [v]) = if c v.2.1 v.2.2 = d then chs c d D else chs c d D ++ [(v.1,c v.2.1 v.2.2)]:=by
 unfold chs
 rw [List.filter_append,List.map_append]
 by_cases h:c v.2.1 v.2.2 = d
 ·simp [h]
 ·simp [h]

theorem chs_le (c:Int→Int→Int) (d:Int) (D:List Vs):(chs c d D).length ≤ D.length:=by
 unfold chs
 rw [List.length_map]
 exact List.length_filter_le _ _

theorem chs_lev (c:Int→Int→Int) (d id:Int):∀ D:List Vs,D.Pairwise (fun u v=>u.1 < v.1)→∀ v ∈ D,v.1 = id→lev d (chs c d D) id = c v.2.1 v.2.2
 | u :: D,hp,v,hv,he=>by
  have h1:=List.pairwise_cons.1 hp
  have hc:chs c d (u :: D) = if c u.2.1 u.2.2 = d then chs c d D else (u.1,c u.2.1 u.2.2) :: chs c d D:=by
   unfold chs
   rw [List.filter_cons]
   by_cases h:c u.2.1 u.2.2 = d <;> simp [h]
  rw [hc]
  rcases List.mem_cons.1 hv with rfl | hv
  ·by_cases h:c v.2.1 v.2.2 = d
   ·rw [if_pos h,h]
    apply lev_none
    intro x hx
    unfold chs at hx
    obtain ⟨y,hy,rfl⟩:=List.mem_map.1 hx
    have:=h1.1 y (List.mem_filter.1 hy).1
    show y.1 ≠ id
    omega
   ·rw [if_neg h,lev,if_pos he]
  ·have hne:u.1 ≠ id:=by have:=h1.1 v hv;omega
   split
   ·exact chs_lev c d id D h1.2 v hv he
   ·rw [lev,if_neg hne]
    exact chs_lev c d id D h1.2 v hv he

theorem Vis.chosen {da db:Int} {f g:Int→Int} {D:List Vs} (h:Vis da db f g D) (c:Int→Int→Int):Fm (c da db) (chs c (c da db) D)∧∀ id,lev (c da db) (chs c (c da db) D) id = c (f id) (g id):=by
 refine ⟨⟨?_,fun x hx=>?_⟩,fun id=>?_⟩
 ·unfold chs
  exact List.pairwise_map.2 (List.Pairwise.filter _ h.rs)
 ·unfold chs at hx
  obtain ⟨y,hy,rfl⟩:=List.mem_map.1 hx
  have:=(List.mem_filter.1 hy).2
  simpa using this
 ·by_cases hid:∃ v ∈ D,v.1 = id
  ·obtain ⟨v,hv,he⟩:=hid
   rw [chs_lev c _ id D h.rs v hv he,(h.va v hv).1,(h.va v hv).2,he]
  ·rcases h.all id with q | ⟨e1,e2⟩
   ·exact absurd q hid
   ·rw [e1,e2]
    apply lev_none
    intro x hx he
    unfold chs at hx
    obtain ⟨y,hy,rfl⟩:=List.mem_map.1 hx
    exact hid ⟨y,(List.mem_filter.1 hy).1,he⟩
end Go.Proofs.Ytgmfofngmfekbaa

namespace Go.Proofs.Ytgmfofngmfekbaa
set_option linter.unusedVariables false
set_option linter.unusedSimpArgs false
set_option maxRecDepth 20000
open Go.RowKit

theorem CSl.tail {X:Nat→Prop} {w:World} {q off n cap:Nat} {c:Cat} {r:List Cat} (h:CSl X w (.slice (some ⟨q,off,none⟩) n cap) (c :: r)) (hc:¬ cap = 1):CSl X w (.slice (some ⟨q,off + 2,none⟩) (n - 1) (cap - 1)) r:=by
 obtain ⟨ao,cap',hv,⟨h1,h2⟩,h3,h4⟩:=h
 simp only [Value.slice.injEq] at hv
 obtain ⟨rfl,rfl,rfl⟩:=hv
 refine ⟨_,_,by rw [List.length_cons,Nat.add_sub_cancel],⟨by simp at h1;omega,by omega⟩,fun h=>by simp at h,fun i x hi=>?_⟩
 obtain ⟨b,o,e1,e2,e3⟩:=h4 (i + 2) x (by rw [ccells_cons];simpa using hi)
 simp only [Option.some.injEq,Addr.mk.injEq,and_true] at e1
 obtain ⟨rfl,rfl⟩:=e1
 exact ⟨q,off + 2,rfl,e2,by rw [show off + 2 + i = off + (i + 2) by omega];exact e3⟩

end Go.Proofs.Ytgmfofngmfekbaa

namespace Go.Proofs.Ytgmfofngmfekbaa
set_option linter.unusedVariables false
set_option linter.unusedSimpArgs false
set_option maxRecDepth 20000
open Go.RowKit

def lenV:Value→Nat
 | .slice _ n _=>n
 | _=>0

theorem CSl.len {X:Nat→Prop} {w:World} {v:Value} {es:List Cat} (h:CSl X w v es):lenV v = es.length:=by
 obtain ⟨ao,cap,rfl,_⟩:=h.form
 rfl

end Go.Proofs.Ytgmfofngmfekbaa

namespace Go.Proofs.Ytgmfofngmfekbaa
set_option linter.unusedVariables false
set_option linter.unusedSimpArgs false
set_option maxRecDepth 20000
open Go.RowKit

/-- Which labels may be an object's. -/
structure Rgt (d:Int) (xs:List Cat):Prop where
 lo:1 ≤ d
 hi:d ≤ 4
 len:xs.length ≤ 6
 fm:Fm d xs
 each:∀ i (h:i < xs.length),1 ≤ xs[i].1∧xs[i].1 ≤ 2305843009213693951∧0 ≤ xs[i].2∧xs[i].2 ≤ 4

def RgtP (d:Int) (xs:List Cat) (w:World) (e:Ending) (w':World):Prop:=∃ r:Bool,e = .returned (.bool r)∧(r = true↔Rgt d xs)∧Nw w w'

theorem rgt_no {d:Int} {xs:List Cat} {w w':World} (h:¬ Rgt d xs) (n:Nw w w'):RgtP d xs w (.returned (.bool false)) w':=⟨false,rfl,⟨(fun h=>Bool.noConfusion h),(fun h'=>absurd h' h)⟩,n⟩

set_option maxHeartbeats 6400000 in
theorem c_right {X:Nat→Prop} {v:Value} {xs:List Cat} (d:Int) (w:World) (h:CSl X w v xs) (hl:xs.length ≤ 8796093022208) :
  Calls Try.prog 83 #[labV d v] w (RgtP d xs w):=by
 obtain ⟨ao,cap,rfl,ha1,ha2⟩:=h.form
 have hA:(w.alloc (.cells #[.int .i64 d,.slice ao xs.length cap] 26)).heap[w.heap.size]? = some (.cells #[.int .i64 d,.slice ao xs.length cap] 26 (0,0)):=heap_alloc_new w _
 have nW:Nw w (w.alloc (.cells #[.int .i64 d,.slice ao xs.length cap] 26)):=nw_alloc (nw_refl w) _
 replace h:=h.nw nW
 unfold labV
 go_enter Try.func83,Try.ntmps83
 go_upto_region 1 with fail
 generalize w.alloc (.cells #[.int .i64 d,.slice ao xs.length cap] 26) = W at *
 generalize w.heap.size = N at *
 have a0:W.cell? ⟨N,0,none⟩ = some (.int .i64 d):=cell_blk hA rfl
 have a1:W.cell? ⟨N,1,none⟩ = some (.slice ao xs.length cap):=cell_blk hA rfl
 by_cases g1:d < 1
 ·have hno:Hid (¬ Rgt d xs):=fun h=>by have:=h.lo;omega
  go_wp2
  go_ret
  exact rgt_no hno.out nW
 ·by_cases g2:4 < d
  ·have hno:Hid (¬ Rgt d xs):=fun h=>by have:=h.hi;omega
   go_wp2
   go_ret
   exact rgt_no hno.out nW
  ·by_cases g3:6 < xs.length
   ·have hno:Hid (¬ Rgt d xs):=fun h=>by have:=h.len;omega
    go_wp2
    go_ret
    exact rgt_no hno.out nW
   ·have hcon:Hid _:=c_hasForm d W h
    unfold labV at hcon
    go_wp2_with (go_at_call 95;refine Calls.mono hcon.out ?_;rintro e V ⟨r,rfl,q1,n1⟩;refine stop_here ?_)
    unfold Hid
    clear hcon
    replace hA:=(n1.block _ (heap_lt hA) (fun h=>h)).trans hA
    replace h:=h.nw n1
    have nV:=nw_trans nW n1
    clear n1 nW
    cases r with
    | false =>
     have hno:Hid (¬ Rgt d xs):=fun h=>by have:=q1.2 h.fm;cases this
     clear q1
     go_wp2
     go_ret
     exact rgt_no hno.out nV
    | true =>
     have hfm:Hid (Fm d xs):=q1.1 rfl
     clear q1
     clear a0 a1
     have b1:V.cell? ⟨N,1,none⟩ = some (.slice ao xs.length cap):=cell_blk hA rfl
     go_wp2
     clear b1
     go_loopw [27] (fun kv wr=>∃ k:Nat,k ≤ xs.length∧kv = .int .i64 k∧Hid (∀ i (h:i < xs.length),i < k→1 ≤ xs[i].1∧xs[i].1 ≤ 2305843009213693951∧0 ≤ xs[i].2∧xs[i].2 ≤ 4)∧Nw V wr) (fun kv _=>xs.length - (intOf kv).toNat)
     case atStart=>exact ⟨0,Nat.zero_le _,rfl,fun i _ h=>by omega,nw_refl _⟩
     case round =>
      obtain ⟨k,hk,rfl,hall,hw⟩:=hrel
      by_cases hlt:k < xs.length
      ·obtain ⟨q,off,rfl,_,d1,d2⟩:=(h.nw hw).get k hlt
       have hbad:Hid (¬ (1 ≤ xs[k].1∧xs[k].1 ≤ 2305843009213693951∧0 ≤ xs[k].2∧xs[k].2 ≤ 4)→¬ Rgt d xs):=fun h1 h2=>h1 (h2.each k hlt)
       have hgood:Hid (1 ≤ xs[k].1∧xs[k].1 ≤ 2305843009213693951∧0 ≤ xs[k].2∧xs[k].2 ≤ 4→∀ i (h:i < xs.length),i < k + 1→1 ≤ xs[i].1∧xs[i].1 ≤ 2305843009213693951∧0 ≤ xs[i].2∧xs[i].2 ≤ 4):=fun h1 i hi hik=>by
        by_cases e:i = k
        ·subst e;exact h1
        ·exact hall.out i hi (by omega)
       generalize xs[k] = c at *
       have hnA:Hid (∀ o,Nw w (wr.alloc o)∧Nw V (wr.alloc o)):=fun o=>⟨nw_alloc (nw_trans nV hw) o,nw_alloc hw o⟩
       clear hall
       by_cases c1:c.1 < 1
       ·have hno:Hid _:=hbad.out (by omega)
        clear hbad hgood
        go_wp2
        go_ret
        exact rgt_no hno.out (hnA.out _).1
       ·by_cases c2:2305843009213693951 < c.1
        ·have hno:Hid _:=hbad.out (by omega)
         clear hbad hgood
         go_wp2
         go_ret
         exact rgt_no hno.out (hnA.out _).1
        ·by_cases c3:c.2 < 0
         ·have hno:Hid _:=hbad.out (by omega)
          clear hbad hgood
          go_wp2
          go_ret
          exact rgt_no hno.out (hnA.out _).1
         ·by_cases c4:4 < c.2
          ·have hno:Hid _:=hbad.out (by omega)
           clear hbad hgood
           go_wp2
           go_ret
           exact rgt_no hno.out (hnA.out _).1
          ·have hyes:Hid _:=hgood.out (by omega)
           clear hbad hgood
           go_wp2
           go_roundw
           case rel=>exact ⟨k + 1,by omega,by go_num,hyes,(hnA.out _).2⟩
           case measure=>simp [intOf];omega
      ·have hfin:Hid (Rgt d xs):=⟨by omega,by omega,by omega,hfm.out,fun i hi=>hall.out i hi (by omega)⟩
       clear hall
       go_wp2
       go_ret
       exact ⟨true,rfl,⟨(fun _=>hfin.out),(fun _=>rfl)⟩,nw_trans nV hw⟩
end Go.Proofs.Ytgmfofngmfekbaa

namespace Go.Proofs.Ytgmfofngmfekbaa
set_option linter.unusedVariables false
set_option linter.unusedSimpArgs false
set_option maxRecDepth 20000

def insS (c:Int) (s:List Int × Bool) (id:Int):List Int × Bool :=
 let t:List Int × Bool:=if s.2 = false∧c ≤ id then (s.1 ++ [c],true) else s
 if id = c then t else (t.1 ++ [id],t.2)

def insF (c:Int) (out:List Int) (k:Nat):List Int × Bool:=(out.take k).foldl (insS c) ([],false)
def insI (c:Int) (out:List Int):List Int:=if (insF c out out.length).2 = true then (insF c out out.length).1 else (insF c out out.length).1 ++ [c]

theorem insF_succ (c:Int) (out:List Int) (k:Nat) (h:k < out.length):insF c out (k + 1) = insS c (insF c out k) out[k]:=by
 unfold insF
 rw [List.take_succ_eq_append_getElem h,List.foldl_append]
 rfl

structure InsI (c:Int) (pre:List Int) (s:List Int × Bool):Prop where
 rs:s.1.Pairwise (· < ·)
 mem:∀ x,x ∈ s.1↔x ∈ pre∨(s.2 = true∧x = c)
 no:s.2 = false→∀ x ∈ pre,x < c
 len:s.1.length ≤ pre.length + 1∧(s.2 = false→s.1.length ≤ pre.length)
 hi:s.2 = true→∃ x ∈ pre,c ≤ x

theorem InsI.step {c:Int} {pre:List Int} {s:List Int × Bool} {id:Int} (h:InsI c pre s) (hlt:∀ x ∈ pre,x < id):InsI c (pre ++ [id]) (insS c s id):=by
 obtain ⟨n,d⟩:=s
 have hN:∀ x ∈ n,x < id∨x = c:=fun x hx=>by
  rcases (h.mem x).1 hx with h1 | ⟨_,h1⟩
  ·exact .inl (hlt x h1)
  ·exact .inr h1
 cases d with
 | true =>
  have hci:c < id:=by
   obtain ⟨x,hx,hcx⟩:=h.hi rfl
   have:=hlt x hx
   omega
  have e:insS c (n,true) id = (n ++ [id],true):=by
   unfold insS
   have:¬ id = c:=by omega
   simp [this]
  rw [e]
  refine ⟨List.pairwise_append.2 ⟨h.rs,List.pairwise_singleton _ _,fun a ha b hb=>?_⟩,fun x=>?_,(fun h0=>Bool.noConfusion h0),?_,fun _=>?_⟩
  ·have:b = id:=by simpa using hb
   subst this
   rcases hN a ha with h1 | h1 <;> omega
  ·have:=h.mem x
   simp only [List.mem_append,List.mem_singleton] at *
   rw [this]
   constructor
   ·rintro ((h1 | h1) | h1)
    ·exact .inl (.inl h1)
    ·exact .inr ⟨trivial,h1.2⟩
    ·exact .inl (.inr h1)
   ·rintro ((h1 | h1) | ⟨_,h1⟩)
    ·exact .inl (.inl h1)
    ·exact .inr h1
    ·exact .inl (.inr ⟨trivial,h1⟩)
  ·have:=h.len.1
   simp at *
   omega
  ·obtain ⟨x,hx,hcx⟩:=h.hi rfl
   exact ⟨x,List.mem_append_left _ hx,hcx⟩
 | false =>
  have hm:∀ x,x ∈ n↔x ∈ pre:=fun x=>by
   rw [h.mem x]
   simp
  have hl:=h.len.2 rfl
  have hno:=h.no rfl
  by_cases hci:c ≤ id
  ·by_cases he:id = c
   ·subst he
    have e:insS id (n,false) id = (n ++ [id],true):=by unfold insS;simp
    rw [e]
    refine ⟨List.pairwise_append.2 ⟨h.rs,List.pairwise_singleton _ _,fun a ha b hb=>?_⟩,fun x=>?_,(fun h0=>Bool.noConfusion h0),?_,fun _=>?_⟩
    ·have:b = id:=by simpa using hb
     subst this
     exact hno a ((hm a).1 ha)
    ·simp only [List.mem_append,List.mem_singleton,hm x]
     constructor
     ·rintro (h1 | h1)
      ·exact .inl (.inl h1)
      ·exact .inl (.inr h1)
     ·rintro ((h1 | h1) | ⟨_,h1⟩)
      ·exact .inl h1
      ·exact .inr h1
      ·exact .inr h1
    ·simp at *
     omega
    ·exact ⟨id,List.mem_append_right _ List.mem_cons_self,Int.le_refl _⟩
   ·have e:insS c (n,false) id = (n ++ [c] ++ [id],true):=by unfold insS;simp [hci,he]
    rw [e]
    refine ⟨List.pairwise_append.2 ⟨List.pairwise_append.2 ⟨h.rs,List.pairwise_singleton _ _,fun a ha b hb=>?_⟩,List.pairwise_singleton _ _,fun a ha b hb=>?_⟩,fun x=>?_,(fun h0=>Bool.noConfusion h0),?_,fun _=>?_⟩
    ·have:b = c:=by simpa using hb
     subst this
     exact hno a ((hm a).1 ha)
    ·have:b = id:=by simpa using hb
     subst this
     rcases List.mem_append.1 ha with h1 | h1
     ·exact hlt a ((hm a).1 h1)
     ·have:a = c:=by simpa using h1
      omega
    ·simp only [List.mem_append,List.mem_singleton,hm x]
     constructor
     ·rintro ((h1 | h1) | h1)
      ·exact .inl (.inl h1)
      ·exact .inr ⟨trivial,h1⟩
      ·exact .inl (.inr h1)
     ·rintro ((h1 | h1) | ⟨_,h1⟩)
      ·exact .inl (.inl h1)
      ·exact .inr h1
      ·exact .inl (.inr h1)
    ·simp at *
     omega
    ·exact ⟨id,List.mem_append_right _ List.mem_cons_self,hci⟩
  ·have he:¬ id = c:=by omega
   have e:insS c (n,false) id = (n ++ [id],false):=by unfold insS;simp [hci,he]
   rw [e]
   refine ⟨List.pairwise_append.2 ⟨h.rs,List.pairwise_singleton _ _,fun a ha b hb=>?_⟩,fun x=>?_,fun _ x hx=>?_,?_,(fun h0=>Bool.noConfusion h0)⟩
   ·have:b = id:=by simpa using hb
    subst this
    exact hlt a ((hm a).1 ha)
   ·simp [List.mem_append,hm x]
   ·rcases List.mem_append.1 hx with h1 | h1
    ·exact hno x h1
    ·have:x = id:=by simpa using h1
     omega
   ·simp at *
    omega

theorem insF_inv {c:Int} {out:List Int} (h:out.Pairwise (· < ·)):∀ k,k ≤ out.length→InsI c (out.take k) (insF c out k)
 | 0,_=>⟨List.Pairwise.nil,fun x=>by simp [insF],fun _ x hx=>by simp at hx,by simp [insF],fun h0=>by simp [insF] at h0⟩
 | k + 1,hk=>by
  rw [insF_succ c out k (by omega),List.take_succ_eq_append_getElem (by omega)]
  refine (insF_inv h k (by omega)).step (fun x hx=>?_)
  obtain ⟨i,hi,rfl⟩:=List.mem_take_iff_getElem.1 hx
  exact List.pairwise_iff_getElem.1 h i k (by omega) (by omega) (by omega)

theorem insI_rs {c:Int} {out:List Int} (h:out.Pairwise (· < ·)):(insI c out).Pairwise (· < ·)∧(∀ x,x ∈ insI c out↔x = c∨x ∈ out)∧(insI c out).length ≤ out.length + 1:=by
 have hi:=insF_inv (c:=c) h out.length (Nat.le_refl _)
 rw [List.take_length] at hi
 unfold insI
 generalize insF c out out.length = s at *
 obtain ⟨n,d⟩:=s
 cases d with
 | true =>
  refine ⟨by simpa using hi.rs,fun x=>?_,by simpa using hi.len.1⟩
  have:=hi.mem x
  simp at this
  simp [this]
  exact Or.comm
 | false =>
  have hm:∀ x,x ∈ n↔x ∈ out:=fun x=>by have:=hi.mem x;simpa using this
  have hno:=hi.no rfl
  refine ⟨?_,fun x=>?_,by have:=hi.len.2 rfl;simp at *;omega⟩
  ·simp only [if_neg,Bool.false_eq_true]
   refine List.pairwise_append.2 ⟨hi.rs,List.pairwise_singleton _ _,fun a ha b hb=>?_⟩
   have:b = c:=by simpa using hb
   subst this
   exact hno a ((hm a).1 ha)
  ·simp [hm x]
   exact Or.comm

def idsF (cs:List Cat) (out:List Int):List Int:=cs.foldl (fun o c=>insI c.1 o) out

theorem idsF_snoc (cs:List Cat) (c:Cat) (out:List Int):idsF (cs ++ [c]) out = insI c.1 (idsF cs out):=by
 unfold idsF
 rw [List.foldl_append]
 rfl

theorem idsF_rs:∀ (cs:List Cat) {out:List Int},out.Pairwise (· < ·)→(idsF cs out).Pairwise (· < ·)∧(∀ x,x ∈ idsF cs out↔(∃ c ∈ cs,c.1 = x)∨x ∈ out)∧(idsF cs out).length ≤ out.length + cs.length
 | [],out,h=>⟨h,fun x=>by simp [idsF],by simp [idsF]⟩
 | c :: cs,out,h=>by
  obtain ⟨h1,h2,h3⟩:=insI_rs (c:=c.1) h
  obtain ⟨k1,k2,k3⟩:=idsF_rs cs h1
  have e:idsF (c :: cs) out = idsF cs (insI c.1 out):=rfl
  rw [e]
  refine ⟨k1,fun x=>?_,by simp;omega⟩
  rw [k2,h2]
  constructor
  ·rintro (⟨d,hd,he⟩ | rfl | h0)
   ·exact .inl ⟨d,List.mem_cons_of_mem _ hd,he⟩
   ·exact .inl ⟨c,List.mem_cons_self,rfl⟩
   ·exact .inr h0
  ·rintro (⟨d,hd,he⟩ | h0)
   ·rcases List.mem_cons.1 hd with rfl | hd
    ·exact .inr (.inl he.symm)
    ·exact .inl ⟨d,hd,he⟩
   ·exact .inr (.inr h0)

/-- The document's list of the categories of two labels. -/
def idsL (xa xb:List Cat):List Int:=idsF xb (idsF xa [])

theorem idsL_rs (xa xb:List Cat):(idsL xa xb).Pairwise (· < ·)∧(∀ x,x ∈ idsL xa xb↔(∃ c ∈ xa,c.1 = x)∨∃ c ∈ xb,c.1 = x)∧(idsL xa xb).length ≤ xa.length + xb.length:=by
 obtain ⟨h1,h2,h3⟩:=idsF_rs xa (out:=[]) List.Pairwise.nil
 obtain ⟨k1,k2,k3⟩:=idsF_rs xb h1
 refine ⟨k1,fun x=>?_,by unfold idsL;simp at h3;omega⟩
 unfold idsL
 rw [k2,h2]
 simp only [List.not_mem_nil,or_false]
 exact Or.comm
end Go.Proofs.Ytgmfofngmfekbaa

namespace Go.Proofs.Ytgmfofngmfekbaa
set_option linter.unusedVariables false
set_option linter.unusedSimpArgs false
set_option maxRecDepth 20000
open Go.RowKit

theorem Try.infoU:(Try.prog.info? 23).map (fun i=>(i.zero,i.size,i.bytes)) = some (some (.int .u64 0),1,8):=by kernel_rfl

def uv (x:Int):Value:=.int .u64 x
/-- The slice v holds the numbers xs. -/
def USl (X:Nat→Prop) (w:World) (v:Value) (xs:List Int):Prop:=Slp X w v xs.length (xs.map uv)

theorem USl.form {X:Nat→Prop} {w:World} {v:Value} {es:List Int} (h:USl X w v es):∃ ao cap,v = .slice ao es.length cap∧es.length ≤ cap∧cap ≤ 9223372036854775807:=by
 obtain ⟨ao,cap,rfl,⟨h1,h2⟩,_⟩:=h
 exact ⟨ao,cap,rfl,h1,h2⟩

theorem USl.get {X:Nat→Prop} {w:World} {ao:Option Addr} {n cap:Nat} {es:List Int} (h:USl X w (.slice ao n cap) es) (k:Nat) (hk:k < es.length) :
  ∃ q off,ao = some ⟨q,off,none⟩∧X q∧w.cell? ⟨q,off + k,none⟩ = some (.int .u64 es[k]):=by
 obtain ⟨ao',cap',hv,_,_,hcs⟩:=h
 simp only [Value.slice.injEq] at hv
 obtain ⟨rfl,_,rfl⟩:=hv
 obtain ⟨q,off,h3,h4,h5⟩:=hcs k (uv es[k]) (by simp [hk])
 exact ⟨q,off,h3,h4,h5⟩

theorem USl.keep {X X':Nat→Prop} {w w':World} {v:Value} {es:List Int} (h:USl X w v es) {T:Nat→Prop} (hf:Fr T w w') (hT:∀ b,X b→b < w.heap.size→¬ T b) (hX:∀ b,X b→b < w.heap.size→X' b):USl X' w' v es:=by
 obtain ⟨ao,cap,hv,hc,hn,hcs⟩:=h
 refine ⟨ao,cap,hv,hc,hn,fun i c hi=>?_⟩
 obtain ⟨b,off,h1,h2,h3⟩:=hcs i c hi
 have hb:b < w.heap.size:=World.block_lt_of_cell? w _ h3
 exact ⟨b,off,h1,hX b h2 hb,by rw [World.cell?_of_block (w:=w) (hf.block b hb (hT b h2 hb))];exact h3⟩

theorem USl.nw {X:Nat→Prop} {w w':World} {v:Value} {es:List Int} (h:USl X w v es) (hf:Nw w w'):USl X w' v es:=h.keep hf (fun _ _ _=>fun h=>h) (fun _ h _=>h)
theorem USl.mono {X X':Nat→Prop} {w:World} {v:Value} {es:List Int} (h:USl X w v es) (hX:∀ b,X b→b < w.heap.size→X' b):USl X' w v es:=h.keep (Fr.refl (fun _=>False) w) (fun _ _ _=>fun h=>h) hX

theorem usl_owns {base:Nat} {w:World} {v:Value} {xs:List Int} (h:w.ownsRow base 23 1 v xs.length (xs.map uv)):USl (fun b=>base ≤ b) w v xs:=by
 obtain ⟨ao,cap,hv,hc,hn,hcs⟩:=slp_of_owns h
 refine ⟨ao,cap,hv,hc,hn,fun i c hi=>?_⟩
 obtain ⟨b,off,h1,h2,h3⟩:=hcs i c hi
 exact ⟨b,off,h1,(h.lt b h2).1,h3⟩

def URow (base:Nat) (w:World) (v:Value) (xs:List Int):Prop:=w.ownsRow base 23 1 v xs.length (xs.map uv)

/-- What an append of one has left. -/
theorem URow.snoc {base:Nat} {w w1 w9:World} {v v9:Value} {xs:List Int} {x:Int} {W:World} (h:URow base w v xs) (hf:Fr (fun k=>base ≤ k) W w) (o:Obj) (h1:w1 = w.alloc o) (h9:w9.ownsRow base 23 1 v9 (xs.length + 1) (xs.map uv ++ [.int .u64 x])) (hg:w1.grownBy w9 v.ownBlock) :
  URow base w9 v9 (xs ++ [x])∧Fr (fun k=>base ≤ k) W w9:=by
 subst h1
 refine ⟨?_,(hf.alloc o).grown hg (fun q hq=>.inl (h.lt q hq).1)⟩
 unfold URow
 rw [List.length_append,List.map_append]
 simpa [uv] using h9

theorem insS_cases (c:Int) (n:List Int) (id:Int) :
  (id = c→insS c (n,true) id = (n,true))∧(¬ id = c→insS c (n,true) id = (n ++ [id],true))∧(c ≤ id→id = c→insS c (n,false) id = (n ++ [c],true))∧(c ≤ id→¬ id = c→insS c (n,false) id = (n ++ [c] ++ [id],true))∧(¬ c ≤ id→insS c (n,false) id = (n ++ [id],false)):=by
 refine ⟨fun h=>?_,fun h=>?_,fun h1 h2=>?_,fun h1 h2=>?_,fun h1=>?_⟩
 ·simp [insS,h]
 ·simp [insS,h]
 ·simp [insS,h1,h2]
 ·simp [insS,h1,h2]
 ·have:¬ id = c:=by omega
  simp [insS,h1,this]

def idsAt (xa xb:List Cat) (i:Nat):List Int:=if i = 0 then [] else if i = 1 then idsF xa [] else idsL xa xb

theorem ids_sel {da db:Int} {aa ba:Option Addr} {ac bc:Nat} (xa xb:List Cat) (i:Nat) (hi:i < 2):∃ (z:Int) (xs:List Cat) (la:Option Addr) (lc:Nat) (prev:List Int),(∀ w:World,(Instr.index 119 (.agg #[.int .i64 da,.slice aa xa.length ac,.int .i64 db,.slice ba xb.length bc]) (.int .i64 (i:Int))).run Try.prog w = .ok (.agg #[.int .i64 z,.slice la xs.length lc]) w) ∧
  ((xs = xa∧la = aa∧lc = ac∧i = 0)∨(xs = xb∧la = ba∧lc = bc∧i = 1))∧prev = idsAt xa xb i∧idsF xs prev = idsAt xa xb (i + 1)∧prev.Pairwise (· < ·)∧prev.length + xs.length ≤ xa.length + xb.length:=by
 have h1:=idsF_rs xa (out:=[]) List.Pairwise.nil
 match i,hi with
 | 0,_=>exact ⟨da,xa,aa,ac,[],fun w=>by kernel_rfl,.inl ⟨rfl,rfl,rfl,rfl⟩,rfl,rfl,List.Pairwise.nil,by simp⟩
 | 1,_=>exact ⟨db,xb,ba,bc,idsF xa [],fun w=>by kernel_rfl,.inr ⟨rfl,rfl,rfl,rfl⟩,rfl,rfl,h1.1,by have:=h1.2.2;simp at this;omega⟩

set_option maxHeartbeats 6400000 in
theorem c_ids {X Y:Nat→Prop} {va vb:Value} {xa xb:List Cat} (da db:Int) (w:World) (ha:CSl X w va xa) (hb:CSl Y w vb xb) (hl:xa.length + xb.length ≤ 17592186044416) :
  Calls Try.prog 105 #[.agg #[.int .i64 da,va,.int .i64 db,vb]] w fun e w'=>∃ u,e = .returned u∧USl (fun b=>w.heap.size ≤ b) w' u (idsL xa xb)∧Nw w w':=by
 obtain ⟨i0,hj,hj0,hj1,hj2⟩:=info_parts3 Try.infoU
 obtain ⟨aa,ac,rfl,ha1,ha2⟩:=ha.form
 obtain ⟨ba,bc,rfl,hb1,hb2⟩:=hb.form
 obtain ⟨W0,hW0⟩:∃ W0,Hid (W0 = (w.alloc (.cells #[.int .i64 da,.slice aa xa.length ac,.int .i64 db,.slice ba xb.length bc] 119)).alloc (.cells #[] 23)):=⟨_,rfl⟩
 have n0:Nw w W0:=by rw [hW0.out];exact nw_alloc (nw_alloc (nw_refl w) _) _
 have hB:W0.heap[w.heap.size]? = some (.cells #[.int .i64 da,.slice aa xa.length ac,.int .i64 db,.slice ba xb.length bc] 119 (0,0)):=by rw [hW0.out];exact heap_alloc2_old w _ _
 replace ha:=ha.any
 replace hb:=hb.any
 have hout0:USl (fun b=>w.heap.size ≤ b) W0 (.slice (some ⟨w.heap.size + 1,0,none⟩) 0 0) []:=⟨_,0,rfl,⟨Nat.le_refl _,Nat.zero_le _⟩,fun h=>by simp at h,fun i c hi=>by simp at hi⟩
 go_enter Try.func105,Try.ntmps105
 go_upto_region 2 with (refine wpList_buildSlice0 rfl 45 23 rfl Try.underlying45 (by kernel_rfl) ?_)
 rw [← hW0.out]
 have b0:W0.cell? ⟨w.heap.size,0,none⟩ = some (.int .i64 da):=cell_blk hB rfl
 have b1:W0.cell? ⟨w.heap.size,1,none⟩ = some (.slice aa xa.length ac):=cell_blk hB rfl
 have b2:W0.cell? ⟨w.heap.size,2,none⟩ = some (.int .i64 db):=cell_blk hB rfl
 have b3:W0.cell? ⟨w.heap.size,3,none⟩ = some (.slice ba xb.length bc):=cell_blk hB rfl
 clear hW0
 go_wp2
 clear b0 b1 b2 b3 hB
 generalize hN:w.heap.size = N at *
 replace hN:Hid _:=hN
 go_loopw [3,14] (fun ov iv wr=>∃ i:Nat,i ≤ 2∧iv = .int .i64 i∧USl (fun b=>N ≤ b) wr ov (idsAt xa xb i)∧Nw w wr) (fun _ iv _=>2 - (intOf iv).toNat)
 case atStart=>exact ⟨0,by omega,rfl,hout0,n0⟩
 case round =>
  clear hout0 n0
  obtain ⟨i,hi,rfl,hov,nr⟩:=hrel
  by_cases hlt:i < 2
  ·obtain ⟨z,xs,la,lc,prev,hidx,hsel,hprev,hnx,hprs,hpl⟩:=ids_sel (da:=da) (db:=db) (aa:=aa) (ba:=ba) (ac:=ac) (bc:=bc) xa xb i hlt
   have hxs:CSl (fun _=>True) w (.slice la xs.length lc) xs:=by
    rcases hsel with ⟨rfl,rfl,rfl,_⟩ | ⟨rfl,rfl,rfl,_⟩
    ·exact ha
    ·exact hb
   rw [← hprev] at hov
   replace hnx:Hid _:=hnx
   replace hprs:Hid _:=hprs
   clear hsel hprev
   have hxf:=hxs.form
   obtain ⟨oa,oc,rfl,_,_⟩:=hov.form
   have hxl2:xs.length ≤ lc∧lc ≤ 9223372036854775807:=by
    obtain ⟨a',c',h1,h2,h3⟩:=hxf
    simp only [Value.slice.injEq,true_and] at h1
    obtain ⟨_,rfl⟩:=h1
    exact ⟨h2,h3⟩
   obtain ⟨hx2,hx3⟩:=hxl2
   clear hxf
   have nA:Hid (∀ o,Nw w (wr.alloc o)):=fun o=>nw_alloc nr o
   have hovA:Hid (∀ o,USl (fun b=>N ≤ b) (wr.alloc o) (.slice oa prev.length oc) prev):=fun o=>hov.nw (nw_alloc (nw_refl wr) o)
   go_wp2
   clear hidx
   generalize hWW:wr.alloc (.cells #[.int .i64 z,.slice la xs.length lc] 26) = W1 at *
   have hov1:USl (fun b=>N ≤ b) W1 (.slice oa prev.length oc) prev:=by rw [← hWW];exact hovA.out _
   have n1:Nw w W1:=by rw [← hWW];exact nA.out _
   clear hov nr nA hovA hWW
   have hdi:decide ((i:Int) < 2) = true:=by simp;omega
   rw [hdi]
   clear hdi
   replace hlt:Hid (i < 2):=hlt
   replace hi:Hid _:=hi
   go_loopw [3,20] (fun ov kv wr=>∃ k:Nat,k ≤ xs.length∧kv = .int .i64 k∧USl (fun b=>N ≤ b) wr ov (idsF (xs.take k) prev)∧Nw w wr) (fun _ kv _=>xs.length - (intOf kv).toNat)
   case atStart=>exact ⟨0,Nat.zero_le _,rfl,hov1,n1⟩
   case round =>
    clear hov1 n1
    obtain ⟨k,hk,rfl,hov,nr⟩:=hrel
    by_cases hlt2:k < xs.length
    ·obtain ⟨q,off,rfl,_,d1,d2⟩:=(hxs.nw nr).get k hlt2
     have hids:=idsF_rs (xs.take k) hprs.out
     have hnext:Hid (idsF (xs.take (k + 1)) prev = insI xs[k].1 (idsF (xs.take k) prev)):=by unfold Hid;rw [List.take_succ_eq_append_getElem hlt2,idsF_snoc]
     have hrs:Hid _:=hids.1
     have hol:=hids.2.2
     rw [List.length_take,Nat.min_eq_left hk] at hol
     clear hids
     generalize xs[k] = c at *
     generalize idsF (xs.take k) prev = out at *
     obtain ⟨oa,oc,rfl,_,_⟩:=hov.form
     obtain ⟨W,hW⟩:∃ W,Hid (W = (wr.alloc (.cells #[.int .u64 c.1,.int .i64 c.2] 91)).alloc (.cells #[] 23)):=⟨_,rfl⟩
     have nW:Nw wr W:=by rw [hW.out];exact nw_alloc (nw_alloc (nw_refl wr) _) _
     have hV:W.heap[wr.heap.size]? = some (.cells #[.int .u64 c.1,.int .i64 c.2] 91 (0,0)):=by rw [hW.out];exact heap_alloc2_old wr _ _
     have hrow0:URow (wr.heap.size + 1) W (.slice (some ⟨wr.heap.size + 1,0,none⟩) 0 0) []:=⟨rfl,.inr ⟨wr.heap.size + 1,0,#[],rfl,Nat.le_refl _,by rw [hW.out];exact heap_alloc2_new wr _ _,Nat.le_refl _,Nat.zero_le _,rfl,rfl⟩⟩
     have hout:=(hov.mono (X':=fun b=>b < wr.heap.size + 1) (fun b _ h=>Nat.lt_succ_of_lt h)).nw nW
     have nWH:Hid (Nw w W):=nw_trans nr nW
     have hNV:N ≤ wr.heap.size:=by rw [← hN.out];exact nr.size
     have hVl:=heap_lt hV
     have hWs:W.heap.size = wr.heap.size + 1 + 1:=by rw [hW.out];simp
     clear hov nr nW
     go_upto_region 9 with (refine wpList_buildSlice0 rfl 45 23 rfl Try.underlying45 (by kernel_rfl) ?_)
     rw [← hW.out]
     clear hW d1 d2
     generalize wr.heap.size = V at *
     go_wp2
     go_loopw [8,9,27] (fun nv dv mv wr=>∃ m:Nat,m ≤ out.length∧mv = .int .i64 m∧dv = .bool (insF c.1 out m).2∧URow (V + 1) wr nv (insF c.1 out m).1∧Fr (fun k=>V + 1 ≤ k) W wr) (fun _ _ mv _=>out.length - (intOf mv).toNat)
     case atStart=>exact ⟨0,Nat.zero_le _,rfl,rfl,hrow0,Fr.refl _ _⟩
     case round =>
      as_aux_lemma =>
       clear hrow0
       obtain ⟨m,hm,rfl,rfl,hrow,hfr⟩:=hrel
       have hinv:=insF_inv (c:=c.1) hrs.out m hm
       obtain ⟨na,nc,rfl⟩:=owns_form hrow
       have hc0:wr.cell? ⟨V,0,none⟩ = some (.int .u64 c.1):=cell_blk ((hfr.block V (heap_lt hV) (by omega)).trans hV) rfl
       have hlen:=hinv.len
       have hSs:=hfr.size
       rw [List.length_take,Nat.min_eq_left hm] at hlen
       by_cases hlt:m < out.length
       ·obtain ⟨q,off,rfl,hqS,d1⟩:=(hout.keep (X':=fun b=>b < V + 1) hfr (fun b hb _ h=>by omega) (fun b hb _=>hb)).get m hlt
        have hsucc:=insF_succ c.1 out m hlt
        obtain ⟨k1,k2,k3,k4,k5⟩:=insS_cases c.1 (insF c.1 out m).1 out[m]
        generalize out[m] = id at *
        generalize hst:insF c.1 out m = st at *
        obtain ⟨n,d⟩:=st
        replace hst:Hid _:=hst
        simp only at k1 k2 k3 k4 k5 hlen hrow hsucc
        clear hinv
        cases d with
        | true =>
         by_cases he:id = c.1
         ·have hb:(id != c.1) = false:=by simp [he]
          have hs9:Hid (insF c.1 out (m + 1) = (n,true)):=by unfold Hid;rw [hsucc];exact k1 he
          clear k1 k2 k3 k4 k5 hsucc he
          go_wp2
          go_roundw
          case rel=>exact ⟨m + 1,by omega,by go_num,by rw [hs9.out],by rw [hs9.out];exact hrow,hfr⟩
          case measure=>simp [intOf];omega
         ·have hb:(id != c.1) = true:=by simp [he]
          have hs9:Hid (insF c.1 out (m + 1) = (n ++ [id],true)):=by unfold Hid;rw [hsucc];exact k2 he
          replace hlen:=hlen.1
          clear k1 k2 k3 k4 k5 hsucc he
          go_wp2_with (at_builtin;refine wpList_append_sl _ rfl _ _ 45 rfl (V + 1) 23 i0 _ 1 8 Try.underlying45 hj hj0 hj1 hj2 rfl (by decide) _ _ _ rfl (World.ownsRow.alloc hrow (.cells #[.int .u64 (id)] 23)) _ _ 1 _ rfl (sl_lit _ #[.int .u64 (id)] 23 1 (by omega)) rfl ?d1 ?d2 ?d3 ?d4 ?_)
          case d1=>first | (intro u hu;simp at hu;rcases hu with rfl | rfl <;> rfl) | simp [Value.oneCell',uv]
          case d2=>unfold maxLen;(try simp);omega
          case d3=>(try simp);omega
          case d4=>have:=hfr.size;simp;omega
          intro v9 w9 hown9 hgrow9 hat9
          obtain ⟨hrow9,hfr9⟩:=URow.snoc (x:=id) (xs:=n) hrow hfr _ rfl (by first | exact hown9 | simpa [uv,List.length_append,List.map_append] using hown9) hgrow9
          obtain ⟨a9,c9,rfl⟩:=owns_form hrow9
          have hl9:(n ++ [id]).length = (n).length + 1:=by simp
          rw [hl9] at hrow9 ⊢
          clear hown9 hgrow9 hat9
          go_wp2
          go_roundw
          case rel=>exact ⟨m + 1,by omega,by go_num,by rw [hs9.out],by rw [hs9.out];exact hrow9,hfr9⟩
          case measure=>simp [intOf];omega
        | false =>
         replace hlen:=hlen.2 rfl
         by_cases hge:c.1 ≤ id
         ·by_cases he:id = c.1
          ·have hb:(id != c.1) = false:=by simp [he]
           have hs9:Hid (insF c.1 out (m + 1) = (n ++ [c.1],true)):=by unfold Hid;rw [hsucc];exact k3 hge he
           clear k1 k2 k3 k4 k5 hsucc
           replace he:Hid _:=he
           go_wp2_with (at_builtin;refine wpList_append_sl _ rfl _ _ 45 rfl (V + 1) 23 i0 _ 1 8 Try.underlying45 hj hj0 hj1 hj2 rfl (by decide) _ _ _ rfl (World.ownsRow.alloc hrow (.cells #[.int .u64 (c.1)] 23)) _ _ 1 _ rfl (sl_lit _ #[.int .u64 (c.1)] 23 1 (by omega)) rfl ?d1 ?d2 ?d3 ?d4 ?_)
           case d1=>first | (intro u hu;simp at hu;rcases hu with rfl | rfl <;> rfl) | simp [Value.oneCell',uv]
           case d2=>unfold maxLen;(try simp);omega
           case d3=>(try simp);omega
           case d4=>have:=hfr.size;simp;omega
           intro v9 w9 hown9 hgrow9 hat9
           obtain ⟨hrow9,hfr9⟩:=URow.snoc (x:=c.1) (xs:=n) hrow hfr _ rfl (by first | exact hown9 | simpa [uv,List.length_append,List.map_append] using hown9) hgrow9
           obtain ⟨a9,c9,rfl⟩:=owns_form hrow9
           have hl9:(n ++ [c.1]).length = (n).length + 1:=by simp
           rw [hl9] at hrow9 ⊢
           clear hown9 hgrow9 hat9
           have hc9:w9.cell? ⟨V,0,none⟩ = some (.int .u64 c.1):=cell_blk ((hfr9.block V (heap_lt hV) (by omega)).trans hV) rfl
           go_wp2
           go_roundw
           case rel=>exact ⟨m + 1,by omega,by go_num,by rw [hs9.out],by rw [hs9.out];exact hrow9,hfr9⟩
           case measure=>simp [intOf];omega
          ·have hb:(id != c.1) = true:=by simp [he]
           have hs9:Hid (insF c.1 out (m + 1) = (n ++ [c.1] ++ [id],true)):=by unfold Hid;rw [hsucc];exact k4 hge he
           clear k1 k2 k3 k4 k5 hsucc
           replace he:Hid _:=he
           go_wp2_with (at_builtin;refine wpList_append_sl _ rfl _ _ 45 rfl (V + 1) 23 i0 _ 1 8 Try.underlying45 hj hj0 hj1 hj2 rfl (by decide) _ _ _ rfl (World.ownsRow.alloc hrow (.cells #[.int .u64 (c.1)] 23)) _ _ 1 _ rfl (sl_lit _ #[.int .u64 (c.1)] 23 1 (by omega)) rfl ?d1 ?d2 ?d3 ?d4 ?_)
           case d1=>first | (intro u hu;simp at hu;rcases hu with rfl | rfl <;> rfl) | simp [Value.oneCell',uv]
           case d2=>unfold maxLen;(try simp);omega
           case d3=>(try simp);omega
           case d4=>have:=hfr.size;simp;omega
           intro v9 w9 hown9 hgrow9 hat9
           obtain ⟨hrow9,hfr9⟩:=URow.snoc (x:=c.1) (xs:=n) hrow hfr _ rfl (by first | exact hown9 | simpa [uv,List.length_append,List.map_append] using hown9) hgrow9
           obtain ⟨a9,c9,rfl⟩:=owns_form hrow9
           have hl9:(n ++ [c.1]).length = (n).length + 1:=by simp
           rw [hl9] at hrow9 ⊢
           clear hown9 hgrow9 hat9
           have hc9:w9.cell? ⟨V,0,none⟩ = some (.int .u64 c.1):=cell_blk ((hfr9.block V (heap_lt hV) (by omega)).trans hV) rfl
           clear hrow hfr hc0
           go_wp2_with (at_builtin;refine wpList_append_sl _ rfl _ _ 45 rfl (V + 1) 23 i0 _ 1 8 Try.underlying45 hj hj0 hj1 hj2 rfl (by decide) _ _ _ rfl (World.ownsRow.alloc hrow9 (.cells #[.int .u64 (id)] 23)) _ _ 1 _ rfl (sl_lit _ #[.int .u64 (id)] 23 1 (by omega)) rfl ?d1 ?d2 ?d3 ?d4 ?_)
           case d1=>first | (intro u hu;simp at hu;rcases hu with rfl | rfl <;> rfl) | simp [Value.oneCell',uv]
           case d2=>unfold maxLen;(try simp);omega
           case d3=>(try simp);omega
           case d4=>have:=hfr9.size;simp;omega
           intro v8 w8 hown8 hgrow8 hat8
           obtain ⟨hrow8,hfr8⟩:=URow.snoc (x:=id) (xs:=n ++ [c.1]) hrow9 hfr9 _ rfl (by first | exact hown8 | simpa [uv,List.length_append,List.map_append] using hown8) hgrow8
           obtain ⟨a8,c8,rfl⟩:=owns_form hrow8
           have hl8:(n ++ [c.1] ++ [id]).length = (n ++ [c.1]).length + 1:=by simp
           rw [hl8,hl9] at hrow8
           rw [hl8,hl9]
           clear hown8 hgrow8 hat8
           go_wp2
           go_roundw
           case rel=>exact ⟨m + 1,by omega,by go_num,by rw [hs9.out],by rw [hs9.out];exact hrow8,hfr8⟩
           case measure=>simp [intOf];omega
         ·have hb:(id != c.1) = true:=by simp;omega
          have hs9:Hid (insF c.1 out (m + 1) = (n ++ [id],false)):=by unfold Hid;rw [hsucc];exact k5 hge
          clear k1 k2 k3 k4 k5 hsucc
          go_wp2_with (at_builtin;refine wpList_append_sl _ rfl _ _ 45 rfl (V + 1) 23 i0 _ 1 8 Try.underlying45 hj hj0 hj1 hj2 rfl (by decide) _ _ _ rfl (World.ownsRow.alloc hrow (.cells #[.int .u64 (id)] 23)) _ _ 1 _ rfl (sl_lit _ #[.int .u64 (id)] 23 1 (by omega)) rfl ?d1 ?d2 ?d3 ?d4 ?_)
          case d1=>first | (intro u hu;simp at hu;rcases hu with rfl | rfl <;> rfl) | simp [Value.oneCell',uv]
          case d2=>unfold maxLen;(try simp);omega
          case d3=>(try simp);omega
          case d4=>have:=hfr.size;simp;omega
          intro v9 w9 hown9 hgrow9 hat9
          obtain ⟨hrow9,hfr9⟩:=URow.snoc (x:=id) (xs:=n) hrow hfr _ rfl (by first | exact hown9 | simpa [uv,List.length_append,List.map_append] using hown9) hgrow9
          obtain ⟨a9,c9,rfl⟩:=owns_form hrow9
          have hl9:(n ++ [id]).length = (n).length + 1:=by simp
          rw [hl9] at hrow9 ⊢
          clear hown9 hgrow9 hat9
          go_wp2
          go_roundw
          case rel=>exact ⟨m + 1,by omega,by go_num,by rw [hs9.out],by rw [hs9.out];exact hrow9,hfr9⟩
          case measure=>simp [intOf];omega
       ·have hmn:m = out.length:=by omega
        subst hmn
        have hfin:Hid (∀ (u:Value) (w':World),URow (V + 1) w' u (insI c.1 out)→Fr (fun k=>V + 1 ≤ k) W w'→USl (fun b=>N ≤ b) w' u (idsF (xs.take (k + 1)) prev)∧Nw w w'):=fun u w' r1 r2=>⟨by rw [hnext.out];exact (usl_owns r1).mono (fun b hb _=>by omega),Fr.trans nWH.out r2 (fun q hq=>.inr (by rw [hN.out];omega))⟩
        generalize hst:insF c.1 out out.length = st at *
        obtain ⟨n,d⟩:=st
        have hII:insI c.1 out = if d = true then n else n ++ [c.1]:=by unfold insI;rw [hst]
        replace hst:Hid _:=hst
        simp only at hlen hrow
        clear hinv
        cases d with
        | true =>
         rw [if_pos rfl] at hII
         replace hII:Hid _:=hII
         go_wp2
         go_roundw
         case rel=>exact ⟨k + 1,by omega,by go_num,(hfin.out _ _ (by rw [hII.out];exact hrow) hfr).1,(hfin.out _ _ (by rw [hII.out];exact hrow) hfr).2⟩
         case measure=>simp [intOf];omega
        | false =>
         replace hlen:=hlen.2 rfl
         rw [if_neg (by simp)] at hII
         replace hII:Hid _:=hII
         go_wp2_with (at_builtin;refine wpList_append_sl _ rfl _ _ 45 rfl (V + 1) 23 i0 _ 1 8 Try.underlying45 hj hj0 hj1 hj2 rfl (by decide) _ _ _ rfl (World.ownsRow.alloc hrow (.cells #[.int .u64 (c.1)] 23)) _ _ 1 _ rfl (sl_lit _ #[.int .u64 (c.1)] 23 1 (by omega)) rfl ?d1 ?d2 ?d3 ?d4 ?_)
         case d1=>first | (intro u hu;simp at hu;rcases hu with rfl | rfl <;> rfl) | simp [Value.oneCell',uv]
         case d2=>unfold maxLen;(try simp);omega
         case d3=>(try simp);omega
         case d4=>have:=hfr.size;simp;omega
         intro v9 w9 hown9 hgrow9 hat9
         obtain ⟨hrow9,hfr9⟩:=URow.snoc (x:=c.1) (xs:=n) hrow hfr _ rfl (by first | exact hown9 | simpa [uv,List.length_append,List.map_append] using hown9) hgrow9
         obtain ⟨a9,c9,rfl⟩:=owns_form hrow9
         have hl9:(n ++ [c.1]).length = (n).length + 1:=by simp
         rw [hl9] at hrow9 ⊢
         clear hown9 hgrow9 hat9
         go_wp2
         go_roundw
         case rel=>exact ⟨k + 1,by omega,by go_num,(hfin.out _ _ (by rw [hII.out];exact hrow9) hfr9).1,(hfin.out _ _ (by rw [hII.out];exact hrow9) hfr9).2⟩
         case measure=>simp [intOf];omega
    ·have hkn:k = xs.length:=by omega
     rw [hkn,List.take_length,hnx.out] at hov
     obtain ⟨oa,oc,rfl,_,_⟩:=hov.form
     go_wp2
     go_roundw
     case rel=>exact ⟨i + 1,hlt.out,by go_num,hov,nr⟩
     case measure=>have:=hlt.out;simp [intOf];omega
  ·have hi2:i = 2:=by omega
   subst hi2
   have e2:idsAt xa xb 2 = idsL xa xb:=rfl
   rw [e2] at hov
   obtain ⟨oa,oc,rfl,_,_⟩:=hov.form
   go_wp2
   go_ret
   exact ⟨_,rfl,hov.mono (fun b hb _=>by rw [hN.out];exact hb),nr⟩
end Go.Proofs.Ytgmfofngmfekbaa

namespace Go.Proofs.Ytgmfofngmfekbaa
set_option linter.unusedVariables false
set_option linter.unusedSimpArgs false
set_option maxRecDepth 20000
open Go.RowKit

set_option maxHeartbeats 1600000 in
theorem c_rlevel {X:Nat→Prop} {v:Value} {xs:List Cat} (d id:Int) (w:World) (h:CSl X w v xs) :
  Calls Try.prog 106 #[labV d v,.int .u64 id] w fun e w'=>e = .returned (.int .i64 (lev d xs id))∧Nw w w':=by
 unfold labV
 obtain ⟨ao,cap,rfl,hcl,hcm⟩:=h.form
 have hB:(w.alloc (.cells #[.int .i64 d,.slice ao xs.length cap] 26)).heap[w.heap.size]? = some (.cells #[.int .i64 d,.slice ao xs.length cap] 26 (0,0)):=heap_alloc_new w _
 have hnw:Nw w (w.alloc (.cells #[.int .i64 d,.slice ao xs.length cap] 26)):=nw_alloc (nw_refl w) _
 have hc1:=h.nw hnw
 go_enter Try.func106,Try.ntmps106
 go_upto_region 1 with fail
 generalize w.alloc (.cells #[.int .i64 d,.slice ao xs.length cap] 26) = W at *
 generalize hBB:w.heap.size = B at *
 replace hBB:Hid _:=hBB
 have b1:W.cell? ⟨B,1,none⟩ = some (.slice ao xs.length cap):=cell_blk hB rfl
 go_wp2
 clear b1
 go_loopw [10] (fun kv wr=>∃ k:Nat,k ≤ xs.length∧kv = .int .i64 k∧Hid (lev d (xs.drop k) id = lev d xs id)∧Nw W wr) (fun kv _=>xs.length - (intOf kv).toNat)
 case atStart=>exact ⟨0,Nat.zero_le _,rfl,rfl,nw_refl _⟩
 case round =>
  obtain ⟨k,hk,rfl,hl,hw⟩:=hrel
  have hcr:=hc1.nw hw
  by_cases hlt:k < xs.length
  ·obtain ⟨q,off,rfl,_,d1,d2⟩:=hcr.get k hlt
   have hst:Hid (lev d (xs.drop k) id = if xs[k].1 = id then xs[k].2 else lev d (xs.drop (k + 1)) id):=lev_drop hlt
   generalize xs[k] = c at *
   have hnA:Hid (∀ o,Nw W (wr.alloc o)):=fun o=>nw_alloc hw o
   by_cases hc:c.1 = id
   ·have hb:(c.1 == id) = true:=by simp [hc]
    have hfin:Hid (c.2 = lev d xs id):=by unfold Hid;rw [← hl.out,hst.out,if_pos hc]
    clear hst hl hc
    go_wp2
    go_ret
    exact ⟨congrArg (fun z=>Ending.returned (Value.int .i64 z)) hfin.out,nw_trans hnw (hnA.out _)⟩
   ·have hb:(c.1 == id) = false:=by simp [hc]
    have hl':Hid (lev d (xs.drop (k + 1)) id = lev d xs id):=by unfold Hid;rw [← hl.out,hst.out,if_neg hc]
    clear hst hl hc
    go_wp2
    go_roundw
    case rel=>exact ⟨k + 1,by omega,by go_num,hl',hnA.out _⟩
    case measure=>simp [intOf];omega
  ·have b0:wr.cell? ⟨B,0,none⟩ = some (.int .i64 d):=cell_blk ((hw.block B (heap_lt hB) (fun h=>h)).trans hB) rfl
   have hfin:Hid (d = lev d xs id):=by unfold Hid;rw [← hl.out,List.drop_of_length_le (by omega)];rfl
   clear hl
   go_wp2
   go_ret
   refine ⟨?_,nw_trans hnw hw⟩
   have:=hfin.out
   exact congrArg (fun z=>Ending.returned (Value.int .i64 z)) this

theorem take_eq_succ {xa xb:List Cat} {k:Nat} (h:xa.take k = xb.take k) (h1:k < xa.length) (h2:k < xb.length) (he:xa[k] = xb[k]):xa.take (k + 1) = xb.take (k + 1):=by
 rw [List.take_succ_eq_append_getElem h1,List.take_succ_eq_append_getElem h2,h,he]

theorem run_neq_cat (x y:Cat) (w:World):(binOp .neq 91 (.agg #[.int .u64 x.1,.int .i64 x.2]) (.agg #[.int .u64 y.1,.int .i64 y.2])).run Try.prog w = .ok (.bool (!(x.1 == y.1 && x.2 == y.2))) w:=by
 simp [go_sem]
 by_cases h1:x.1 = y.1 <;> by_cases h2:x.2 = y.2 <;> simp [h1,h2]

set_option maxHeartbeats 3200000 in
theorem c_exact {X Y:Nat→Prop} {va vb:Value} {xa xb:List Cat} (da db:Int) (w:World) (ha:CSl X w va xa) (hb:CSl Y w vb xb) :
  Calls Try.prog 40 #[labV da va,labV db vb] w fun e w'=>∃ r:Bool,e = .returned (.bool r)∧(r = true↔da = db∧xa = xb)∧Nw w w':=by
 obtain ⟨aa,ac,rfl,ha1,ha2⟩:=ha.form
 obtain ⟨ba,bc,rfl,hb1,hb2⟩:=hb.form
 obtain ⟨W,hW⟩:∃ W,Hid (W = (w.alloc (.cells #[.int .i64 da,.slice aa xa.length ac] 26)).alloc (.cells #[.int .i64 db,.slice ba xb.length bc] 26)):=⟨_,rfl⟩
 have nW:Nw w W:=by rw [hW.out];exact nw_alloc (nw_alloc (nw_refl w) _) _
 have hA:W.heap[w.heap.size]? = some (.cells #[.int .i64 da,.slice aa xa.length ac] 26 (0,0)):=by rw [hW.out];exact heap_alloc2_old w _ _
 have hB:W.heap[w.heap.size + 1]? = some (.cells #[.int .i64 db,.slice ba xb.length bc] 26 (0,0)):=by rw [hW.out];exact heap_alloc2_new w _ _
 replace ha:=ha.nw nW
 replace hb:=hb.nw nW
 unfold labV
 go_enter Try.func40,Try.ntmps40
 go_upto_region 1 with fail
 rw [← hW.out]
 clear hW
 generalize w.heap.size = N at *
 have a0:W.cell? ⟨N,0,none⟩ = some (.int .i64 da):=cell_blk hA rfl
 have a1:W.cell? ⟨N,1,none⟩ = some (.slice aa xa.length ac):=cell_blk hA rfl
 have b0:W.cell? ⟨N + 1,0,none⟩ = some (.int .i64 db):=cell_blk hB rfl
 have b1:W.cell? ⟨N + 1,1,none⟩ = some (.slice ba xb.length bc):=cell_blk hB rfl
 by_cases hd:da = db
 ·have hdb:(da != db) = false:=by simp [hd]
  by_cases hl:xa.length = xb.length
  ·have hlb:(((xa.length:Nat):Int) != ((xb.length:Nat):Int)) = false:=by simp [hl]
   replace hd:Hid _:=hd
   have hl':xb.length ≤ xa.length:=by omega
   have hl'':xa.length ≤ xb.length:=by omega
   replace hl:Hid _:=hl
   go_wp2
   clear hlb hdb
   go_loopw [23] (fun kv wr=>∃ k:Nat,k ≤ xa.length∧kv = .int .i64 k∧Hid (xa.take k = xb.take k)∧Nw W wr) (fun kv _=>xa.length - (intOf kv).toNat)
   case atStart=>exact ⟨0,Nat.zero_le _,rfl,rfl,nw_refl _⟩
   case round =>
    obtain ⟨k,hk,rfl,ht,hw⟩:=hrel
    by_cases hlt:k < xa.length
    ·obtain ⟨q,off,rfl,_,d1,d2⟩:=(ha.nw hw).get k hlt
     obtain ⟨q',off',rfl,_,d3,d4⟩:=(hb.nw hw).get k (by omega)
     have hltb:k < xb.length:=by omega
     have hstep:Hid (xa[k] = xb[k]→xa.take (k + 1) = xb.take (k + 1)):=fun he=>take_eq_succ ht.out hlt hltb he
     have hbad:Hid (xa[k] ≠ xb[k]→xa ≠ xb):=fun he hx=>he (by subst hx;rfl)
     generalize xa[k] = x at *
     generalize xb[k] = y at *
     have hne:=run_neq_cat x y
     have D1:∀ z,(wr.drewN z).cell? ⟨q,off + k * 2,none⟩ = some (.int .u64 x.1):=fun z=>d1
     have D2:∀ z,(wr.drewN z).cell? ⟨q,off + k * 2 + 1,none⟩ = some (.int .i64 x.2):=fun z=>d2
     have D3:∀ z,(wr.drewN z).cell? ⟨q',off' + k * 2,none⟩ = some (.int .u64 y.1):=fun z=>d3
     have D4:∀ z,(wr.drewN z).cell? ⟨q',off' + k * 2 + 1,none⟩ = some (.int .i64 y.2):=fun z=>d4
     have hAr:=(hw.block _ (heap_lt hA) (fun h=>h)).trans hA
     have hBr:=(hw.block _ (heap_lt hB) (fun h=>h)).trans hB
     have A1:∀ z,(wr.drewN z).cell? ⟨N,1,none⟩ = some (.slice (some ⟨q,off,none⟩) xa.length ac):=fun z=>cell_blk (w:=wr.drewN z) hAr rfl
     have B1:∀ z,(wr.drewN z).cell? ⟨N + 1,1,none⟩ = some (.slice (some ⟨q',off',none⟩) xb.length bc):=fun z=>cell_blk (w:=wr.drewN z) hBr rfl
     clear a0 a1 b0 b1 d1 d2 d3 d4 hAr hBr
     by_cases hxy:x = y
     ·have hb2:(!(x.1 == y.1 && x.2 == y.2)) = false:=by simp [hxy]
      rw [hb2] at hne
      have ht':Hid (xa.take (k + 1) = xb.take (k + 1)):=hstep.out hxy
      clear hxy hstep hbad hb2
      go_wp2
      go_quiet (fail)
      go_wp2
      go_roundw
      case rel=>exact ⟨k + 1,by omega,by go_num,ht',nw_trans hw (nw_drewN wr _)⟩
      case measure=>simp [intOf];omega
     ·have hb2:(!(x.1 == y.1 && x.2 == y.2)) = true:=by
       by_cases h1:x.1 = y.1
       ·have h2:¬ x.2 = y.2:=fun h2=>hxy (Prod.ext h1 h2)
        simp [h1,h2]
       ·simp [h1]
      rw [hb2] at hne
      have hbad':Hid (xa ≠ xb):=hbad.out hxy
      clear hxy hstep hbad hb2
      go_wp2
      go_quiet (fail)
      go_wp2
      go_ret
      exact ⟨false,rfl,⟨(fun h=>Bool.noConfusion h),(fun h=>absurd h.2 hbad'.out)⟩,nw_trans nW (nw_trans hw (nw_drewN wr _))⟩
    ·have hfin:Hid (xa = xb):=by
      have h1:=ht.out
      have h2:=hl.out
      rw [List.take_of_length_le (by omega),List.take_of_length_le (by omega)] at h1
      exact h1
     clear ht
     go_wp2
     go_ret
     exact ⟨true,rfl,⟨(fun _=>⟨hd.out,hfin.out⟩),(fun _=>rfl)⟩,nw_trans nW hw⟩
  ·have hlb:(((xa.length:Nat):Int) != ((xb.length:Nat):Int)) = true:=by simp;omega
   have hno:Hid (xa ≠ xb):=fun h=>hl (by rw [h])
   clear hl hd
   go_wp2
   go_ret
   exact ⟨false,rfl,⟨(fun h=>Bool.noConfusion h),(fun h=>absurd h.2 hno.out)⟩,nW⟩
 ·have hdb:(da != db) = true:=by simp [hd]
  replace hd:Hid _:=hd
  go_wp2
  go_ret
  exact ⟨false,rfl,⟨(fun h=>Bool.noConfusion h),(fun h=>absurd h.1 hd.out)⟩,nW⟩
end Go.Proofs.Ytgmfofngmfekbaa

namespace Go.Proofs.Ytgmfofngmfekbaa
set_option linter.unusedVariables false
set_option linter.unusedSimpArgs false
set_option maxRecDepth 20000
open Go.RowKit

/-- A label laid into a result's variable. -/
theorem store_lab {w W w2:World} {d:Int} {B:Nat} {u:Value} {ys:List Cat} (hnw:Nw w W) (hZ:W.heap[B]? = some (.cells #[.int .i64 0,.slice none 0 0] 26 (0,0))) (hB:w.heap.size ≤ B) (q1:CSl (fun b=>W.heap.size ≤ b) w2 u ys) (q5:Nw W w2) :
  CSl (fun b=>w.heap.size ≤ b) ((w2.setCell ⟨B,0,none⟩ (.int .i64 d)).setCell ⟨B,1,none⟩ u) u ys∧Nw w ((w2.setCell ⟨B,0,none⟩ (.int .i64 d)).setCell ⟨B,1,none⟩ u)∧((w2.setCell ⟨B,0,none⟩ (.int .i64 d)).setCell ⟨B,1,none⟩ u).rangeAt B 0 [.int .i64 d,u]∧w2.cell? ⟨B,0,none⟩ = some (.int .i64 0)∧w2.cell? ⟨B,1,none⟩ = some (.slice none 0 0)∧∀ k,w2.frozen? ⟨B,k,none⟩ = false:=by
 have hZ2:=(q5.block _ (heap_lt hZ) (fun h=>h)).trans hZ
 have hlt:=heap_lt hZ
 have hsz:=hnw.size
 have hR6:((w2.setCell ⟨B,0,none⟩ (.int .i64 d)).setCell ⟨B,1,none⟩ u).heap[B]? = some (.cells #[.int .i64 d,u] 26 (0,0)):=by
  rw [blk_setCell (blk_setCell hZ2)];rfl
 have hf6:Fr (fun k=>k = B) w2 ((w2.setCell ⟨B,0,none⟩ (.int .i64 d)).setCell ⟨B,1,none⟩ u):=((Fr.refl (fun k=>k = B) w2).setCell (p:=⟨B,0,none⟩) (.inl rfl) _).setCell (p:=⟨B,1,none⟩) (.inl rfl) _
 exact ⟨q1.keep hf6 (fun b hb _ h=>by omega) (fun b hb _=>by omega),Fr.trans (nw_trans hnw q5) hf6 (fun k hk=>.inr (by omega)),range_all (C:=[.int .i64 d,u]) hR6,cell_blk hZ2 rfl,cell_blk hZ2 rfl,fun k=>free_blk hZ2⟩

set_option maxHeartbeats 1600000 in
theorem c_copy {X:Nat→Prop} {v:Value} {xs:List Cat} (d:Int) (w:World) (h:CSl X w v xs) (hl:xs.length ≤ 8796093022208) :
  Calls Try.prog 55 #[labV d v] w fun e w'=>∃ u,e = .returned (labV d u)∧CSl (fun b=>w.heap.size ≤ b) w' u xs∧Nw w w':=by
 obtain ⟨i0,hj,hj0,hj1,hj2⟩:=info_parts3 Try.infoC
 obtain ⟨ao,cap,rfl,ha1,ha2⟩:=h.form
 obtain ⟨W,hW⟩:∃ W,Hid (W = (w.alloc (.cells #[.int .i64 d,.slice ao xs.length cap] 26)).alloc (.cells #[.int .i64 0,.slice none 0 0] 26)):=⟨_,rfl⟩
 have nW:Nw w W:=by rw [hW.out];exact nw_alloc (nw_alloc (nw_refl w) _) _
 have hA:W.heap[w.heap.size]? = some (.cells #[.int .i64 d,.slice ao xs.length cap] 26 (0,0)):=by rw [hW.out];exact heap_alloc2_old w _ _
 have hZ:W.heap[w.heap.size + 1]? = some (.cells #[.int .i64 0,.slice none 0 0] 26 (0,0)):=by rw [hW.out];exact heap_alloc2_new w _ _
 have hsl:=(h.nw nW).sl
 unfold labV
 go_enter Try.func55,Try.ntmps55
 go_upto_region 1 with fail
 rw [← hW.out]
 clear hW
 have hN0:w.heap.size + 1 < W.heap.size:=heap_lt hZ
 have hSof:∀ w',Nw W w'→(fun w':World=>Nw W w'∧w'.cell? ⟨w.heap.size,0,none⟩ = some (.int .i64 d)∧w'.cell? ⟨w.heap.size,1,none⟩ = some (.slice ao xs.length cap)) w':=fun w' hw=>⟨hw,cell_blk ((hw.block _ (heap_lt hA) (fun h=>h)).trans hA) rfl,cell_blk ((hw.block _ (heap_lt hA) (fun h=>h)).trans hA) rfl⟩
 have hW0:Nw W W.drew:=Fr.drew (Fr.refl _ W)
 have hS:=hSof _ hW0
 refine wp_region_ord [] 7 [(0,true),(1,true),(3,true),(4,true),(2,false),(5,false),(6,true)] (fun w':World=>Nw W w'∧w'.cell? ⟨w.heap.size,0,none⟩ = some (.int .i64 d)∧w'.cell? ⟨w.heap.size,1,none⟩ = some (.slice ao xs.length cap)) (by kernel_rfl) (by kernel_rfl) ?_
 refine ord_quietL _ ?_ rfl hS rfl ?_ ?_
 rotate_left
 ·rintro w' ⟨hn,h0,h1⟩;go_simp;first | rfl | (rw [if_pos (by omega)];done) | (rw [if_pos (by omega)];rfl) | (rw [if_pos (by omega)];go_simp;rfl)
 simp only [pL,List.set]
 refine ord_quietL _ ?_ rfl hS rfl ?_ ?_
 rotate_left
 ·rintro w' ⟨hn,h0,h1⟩;go_simp;first | rfl | (rw [if_pos (by omega)];done) | (rw [if_pos (by omega)];rfl) | (rw [if_pos (by omega)];go_simp;rfl)
 simp only [pL,List.set]
 refine ord_quietL _ ?_ rfl hS rfl ?_ ?_
 rotate_left
 ·rintro w' ⟨hn,h0,h1⟩;go_simp;first | rfl | (rw [if_pos (by omega)];done) | (rw [if_pos (by omega)];rfl) | (rw [if_pos (by omega)];go_simp;rfl)
 simp only [pL,List.set]
 refine ord_quietL _ ?_ rfl hS rfl ?_ ?_
 rotate_left
 ·rintro w' ⟨hn,h0,h1⟩;go_simp;first | rfl | (rw [if_pos (by omega)];done) | (rw [if_pos (by omega)];rfl) | (rw [if_pos (by omega)];go_simp;rfl)
 simp only [pL,List.set]
 refine ord_actL _ rfl (fun K1 hK1=>?_)
 have hrA:(W.drew.alloc (.cells #[] 91)).ownsRow W.heap.size 91 2 (.slice (some ⟨W.heap.size,0,none⟩) 0 0) 0 []:=⟨rfl,.inr ⟨W.heap.size,0,#[],rfl,Nat.le_refl _,heap_alloc_new W.drew _,Nat.le_refl _,Nat.zero_le _,rfl,rfl⟩⟩
 have hslA:Sl W.heap.size (W.drew.alloc (.cells #[] 91)) (.slice ao xs.length cap) xs.length (ccells xs):=hsl.keep (((Below.refl _ W).drew).alloc (Nat.le_refl _) _)
 have hkl:(ccells xs).length = xs.length * 2:=ccells_length xs
 have hone:=ccells_oneCell xs
 have hmk:Hid (∀ (u:Value) (w':World),w'.ownsRow W.heap.size 91 2 u xs.length (ccells xs)→MkAt W.heap.size w' u xs):=fun u w' h=>mk_of_owns h
 have nA:Nw W (W.drew.alloc (.cells #[] 91)):=nw_alloc hW0 _
 go_wp2_with (refine wpList_buildSlice0 rfl 24 91 rfl Try.underlying24 (by kernel_rfl) ?_)
 refine hK1 _ _ (hSof _ nA) ?_
 clear hK1 K1 hS
 refine ord_actL _ rfl (fun K1 hK1=>?_)
 go_wp2_with (at_builtin;refine wpList_append_sl _ rfl _ _ 24 rfl W.heap.size 91 i0 _ 2 16 Try.underlying24 hj hj0 hj1 hj2 rfl (by decide) _ _ _ rfl hrA _ _ _ _ rfl hslA hkl hone ?d2 ?d3 ?d4 ?_)
 case d2=>unfold maxLen;omega
 case d3=>omega
 case d4=>simp
 intro v9 w9 hown9 hgrow9 hat9
 have n9:Nw W w9:=Fr.grown nA hgrow9 (fun q hq=>.inr (hrA.lt q hq).1)
 have hm9:=hmk.out v9 w9 (by simpa using hown9)
 obtain ⟨a9,c9,rfl⟩:=owns_form hown9
 go_wp2
 refine hK1 _ _ (hSof _ n9) ?_
 clear hK1 K1 hgrow9 hat9 hown9 hrA hslA
 have hS:=hSof _ n9
 refine ord_quietL _ ?_ rfl hS rfl ?_ ?_
 rotate_left
 ·rintro w' ⟨hn,h0,h1⟩;go_simp;first | rfl | (rw [if_pos (by omega)];done) | (rw [if_pos (by omega)];rfl) | (rw [if_pos (by omega)];go_simp;rfl)
 simp only [pL,List.set]
 refine ord_tail ?_
 simp only [List.drop_succ_cons,List.drop_zero]
 obtain ⟨k1,k2,hrr,z0,z1,zf⟩:=store_lab (d:=d) (B:=w.heap.size + 1) nW hZ (by omega) hm9.csl n9
 have hans:Hid _:=And.intro k1 k2
 clear k1 k2 hS hSof hm9 n9 nA hA hZ hmk
 go_wp2
 refine bodyPost_ret (results_cell1 rfl _ (w.heap.size + 1) _ _ rfl rfl hrr Try.rowL Try.sizeL) rfl ?_
 exact ⟨_,rfl,hans.out.1,hans.out.2⟩
end Go.Proofs.Ytgmfofngmfekbaa

namespace Go.Proofs.Ytgmfofngmfekbaa
set_option linter.unusedVariables false
set_option linter.unusedSimpArgs false
set_option maxRecDepth 20000
open Go.RowKit

theorem run_copy_sized {P:Program} (w:World) (dT sT ty elem:TypeId) (b o dLen dCap:Nat) (a:Addr) (sLen sCap sz:Nat) (cs:List Value)
  (hu:P.underlying dT = some (.slice elem)) (hs:(P.info? elem).map (·.size) = some sz) (hn:cs.length = Nat.min sLen dLen * sz)
  (hsrc:∀ j v,cs[j]? = some v→w.cell? (a.add j) = some v) (hc:∀ j,j < cs.length→(w.cell? ⟨b,o + j,none⟩).isSome = true) (hf:∀ j,j < cs.length→w.frozen? ⟨b,o + j,none⟩ = false) (h1:∀ v ∈ cs,v.oneCell' = true) :
  (Builtin.copy_ #[dT,sT] ty #[.slice (some ⟨b,o,none⟩) dLen dCap,.slice (some a) sLen sCap]).run P w = .ok (goInt (Nat.min sLen dLen)) (w.setCells b o cs):=by
 have hl:=run_loadCells_list (P:=P) w a cs hsrc
 have hst:=run_storeCells_cells (P:=P) b o cs 0 w (by simpa using hc) (by simpa using hf) h1
 cases hq:P.info? elem with
 | none=>simp [hq] at hs
 | some i =>
  have hi:i.size = sz:=by simpa [hq] using hs
  simp [Builtin.copy_,run_underlying hu,Builtin.lenOf,Builtin.firstCells,sizeOf,typeInfo,hq,hi,← hn,hl,hst]

/-- A copy whose run is known as an equation. -/
theorem wp_copy_run {P:Program} (w:World) {o:Oper} {a:Act} {K:Act→World→Prop} {Q:Exit→Act→World→Prop} (d s:Operand) (dT sT:TypeId)
  (ho:o.op = .call { callee:=.builtin .copy,args:=#[d,s],argTypes:=#[dT,sT] }) (vd vs:Value) (hd:a.eval d = vd) (hs:a.eval s = vs)
  (v':Value) (w':World) (hr:(Builtin.copy_ #[dT,sT] o.type #[vd,vs]).run P w = .ok v' w') (h:K (a.put o.dst v') w'):o.wp P a w K Q:=by
 unfold Oper.wp execOp
 simp only [ho,resolve,invoke,builtin,Sem.run_bind,Sem.run_pure,Result.andThen_ok,List.map_toArray,List.map_cons,List.map_nil,hd,hs,hr]
 exact h

theorem wpList_copy_run {P:Program} (w:World) {ops:Array Oper} {rest:List Oper} {o:Oper} {a:Act} {Q:Exit→Act→World→Prop} (hgd:o.guard = none) (d s:Operand) (dT sT:TypeId)
  (ho:o.op = .call { callee:=.builtin .copy,args:=#[d,s],argTypes:=#[dT,sT] }) (vd vs:Value) (hd:a.eval d = vd) (hs:a.eval s = vs)
  (v':Value) (w':World) (hr:(Builtin.copy_ #[dT,sT] o.type #[vd,vs]).run P w = .ok v' w') (h:wpList P ops Q rest (a.put o.dst v') w'):wpList P ops Q (o :: rest) a w :=
 wpList_plain hgd fun _ hK=>wp_copy_run w d s dT sT ho vd vs hd hs v' w' hr (hK _ _ h)

end Go.Proofs.Ytgmfofngmfekbaa

namespace Go.Proofs.Ytgmfofngmfekbaa
set_option linter.unusedVariables false
set_option linter.unusedSimpArgs false
set_option maxRecDepth 20000
open Go.RowKit

theorem step_copy_run {P:Program} {ops:Array Oper} {o:Oper} {a:Act} {w:World} {K:Act→World→Prop} {Q:Exit→Act→World→Prop} {E:Prop}
  (hg:o.guard = none) (d x:Operand) (dT sT:TypeId) (hop:o.op = Op.call { callee:=Callee.builtin Builtin.copy,args:=#[d,x],argTypes:=#[dT,sT] })
  (v u:Value) (hd:a.eval d = v) (hx:a.eval x = u) {v':Value} {w':World} (hr:(Builtin.copy_ #[dT,sT] o.type #[v,u]).run P w = .ok v' w') (hK:K (a.put o.dst v') w') :
  if Region.wanted o (yielded ops a.tmps) = true then Oper.wp P o a w K Q else E:=by
 have hw:Region.wanted o (yielded ops a.tmps) = true:=by simp [Region.wanted,hg]
 rw [if_pos hw]
 exact wp_copy_run w d x dT sT hop v u hd hx v' w' hr hK

end Go.Proofs.Ytgmfofngmfekbaa

namespace Go.Proofs.Ytgmfofngmfekbaa
set_option linter.unusedVariables false
set_option linter.unusedSimpArgs false
set_option maxRecDepth 20000
open Go.RowKit

theorem isSome_setCells (b:Nat) (vs:List Value) (o:Nat) (w:World) (h:∀ j,j < vs.length→(w.cell? ⟨b,o + j,none⟩).isSome = true) (k:Nat) (hk:(w.cell? ⟨b,k,none⟩).isSome = true):((w.setCells b o vs).cell? ⟨b,k,none⟩).isSome = true:=by
 by_cases hin:o ≤ k∧k < o + vs.length
 ·have:=World.cell?_setCells_in b vs o w h (k - o) (by omega)
  rw [show o + (k - o) = k by omega] at this
  rw [this];rfl
 ·rw [World.cell?_setCells_out b vs o w ⟨b,k,none⟩ (fun _ _=>by show k < o∨o + vs.length ≤ k;omega)]
  exact hk

end Go.Proofs.Ytgmfofngmfekbaa

namespace Go.Proofs.Ytgmfofngmfekbaa
set_option linter.unusedVariables false
set_option linter.unusedSimpArgs false
set_option maxRecDepth 20000
open Go.RowKit

/-- The categories of a label, with their levels. -/
def frD (d:Int) (xs:List Cat):List Vs:=(idsL xs []).map (fun i=>(i,lev d xs i,0))

theorem frD_vis (d:Int) (xs:List Cat):Vis d 0 (lev d xs) (fun _=>0) (frD d xs):=by
 obtain ⟨h1,h2,h3⟩:=idsL_rs xs []
 refine ⟨?_,fun v hv=>?_,fun id=>?_,?_⟩
 ·unfold frD
  exact List.pairwise_map.2 h1
 ·unfold frD at hv
  obtain ⟨i,_,rfl⟩:=List.mem_map.1 hv
  exact ⟨rfl,rfl⟩
 ·by_cases hid:id ∈ idsL xs []
  ·exact .inl ⟨_,List.mem_map.2 ⟨id,hid,rfl⟩,rfl⟩
  ·rw [h2] at hid
   exact .inr ⟨lev_none (fun c hc he=>hid (.inl ⟨c,hc,he⟩)),rfl⟩
 ·obtain ⟨m,hm⟩:=far xs
  exact ⟨m,lev_none (fun c hc=>by have:=hm c hc;omega),rfl⟩

theorem frD_length (d:Int) (xs:List Cat):(frD d xs).length = (idsL xs []).length:=by simp [frD]

theorem chs_take (d:Int) (xs:List Cat) (k:Nat) (hk:k < (idsL xs []).length):chs (fun x _:Int=>x) d ((frD d xs).take (k + 1)) = if lev d xs (idsL xs [])[k] = d then chs (fun x _:Int=>x) d ((frD d xs).take k) else chs (fun x _:Int=>x) d ((frD d xs).take k) ++ [((idsL xs [])[k],lev d xs (idsL xs [])[k])]:=by
 rw [List.take_succ_eq_append_getElem (by rw [frD_length];exact hk),chs_snoc]
 simp [frD]

theorem chs_len (d:Int) (xs:List Cat) (k:Nat):(chs (fun x _:Int=>x) d ((frD d xs).take k)).length ≤ k:=Nat.le_trans (chs_le _ _ _) (by simp;omega)

set_option maxHeartbeats 6400000 in
theorem c_form {X:Nat→Prop} {v:Value} {xs:List Cat} (d:Int) (w:World) (h:CSl X w v xs) (hl:xs.length ≤ 8796093022208) :
  Calls Try.prog 89 #[labV d v] w (MadeL w d (lev d xs) xs.length):=by
 obtain ⟨i0,hj,hj0,hj1,hj2⟩:=info_parts3 Try.infoC
 obtain ⟨ao,cap,rfl,ha1,ha2⟩:=h.form
 obtain ⟨W,hW⟩:∃ W,Hid (W = ((w.alloc (.cells #[.int .i64 d,.slice ao xs.length cap] 26)).alloc (.cells #[.int .i64 0,.slice none 0 0] 26)).alloc (.cells #[.int .i64 d,.slice none 0 0] 26)):=⟨_,rfl⟩
 have nW:Nw w W:=by rw [hW.out];exact nw_alloc (nw_alloc (nw_alloc (nw_refl w) _) _) _
 have hA:W.heap[w.heap.size]? = some (.cells #[.int .i64 d,.slice ao xs.length cap] 26 (0,0)):=by
  rw [hW.out,Below.heap_alloc _ _ _ (by simp;try omega)];exact heap_alloc2_old w _ _
 have hZ:W.heap[w.heap.size + 1]? = some (.cells #[.int .i64 0,.slice none 0 0] 26 (0,0)):=by
  rw [hW.out,Below.heap_alloc _ _ _ (by simp;try omega)];exact heap_alloc2_new w _ _
 have hO:W.heap[w.heap.size + 1 + 1]? = some (.cells #[.int .i64 d,.slice none 0 0] 26 (0,0)):=by
  rw [hW.out]
  have:=heap_alloc_new ((w.alloc (.cells #[.int .i64 d,.slice ao xs.length cap] 26)).alloc (.cells #[.int .i64 0,.slice none 0 0] 26)) (.cells #[.int .i64 d,.slice none 0 0] 26)
  simpa using this
 have hsz:W.heap.size = w.heap.size + 1 + 1 + 1:=by rw [hW.out];simp
 replace h:=(h.mono (X':=fun b=>b < w.heap.size) (fun b _ h=>h)).nw nW
 have hcon:Hid _:=c_ids d 0 W h (csl_nil (fun _=>True) W) (by simp;omega)
 unfold labV
 go_enter Try.func89,Try.ntmps89
 go_upto_region 2 with fail
 rw [← hW.out]
 clear hW
 generalize hNN:w.heap.size = N at *
 replace hNN:Hid _:=hNN
 have a0:W.cell? ⟨N,0,none⟩ = some (.int .i64 d):=cell_blk hA rfl
 have a1:W.cell? ⟨N,1,none⟩ = some (.slice ao xs.length cap):=cell_blk hA rfl
 have hidl:=(idsL_rs xs []).2.2
 simp only [List.length_nil,Nat.add_zero] at hidl
 go_wp2_with (go_at_call 105;refine Calls.mono hcon.out ?_;rintro e W1 ⟨u,rfl,hu,n1⟩;refine stop_here ?_)
 unfold Hid
 clear hcon a0 a1
 replace hA:=(n1.block _ (heap_lt hA) (fun h=>h)).trans hA
 replace hZ:=(n1.block _ (heap_lt hZ) (fun h=>h)).trans hZ
 replace hO:=(n1.block _ (heap_lt hO) (fun h=>h)).trans hO
 replace h:=h.nw n1
 have nW1:=nw_trans nW n1
 have hs1:=n1.size
 clear n1 nW
 obtain ⟨ua,uc,rfl,hu1,hu2⟩:=hu.form
 obtain ⟨S,hS⟩:∃ S,Hid (S = W1.heap.size):=⟨_,rfl⟩
 have hS1:N + 1 + 1 < S:=by rw [hS.out];omega
 replace hu:=hu.mono (X':=fun b=>N + 1 + 1 < b∧b < S) (fun b hb hlt=>⟨by omega,by rw [hS.out];exact hlt⟩)
 have hrow0:W1.ownsRow S 91 2 (.slice none 0 0) 0 []:=World.ownsRow_nil _ _ _ _
 go_wp2
 go_loopw [14] (fun kv wr=>∃ (k:Nat) (u:Value),k ≤ (idsL xs []).length∧kv = .int .i64 k∧wr.heap[N + 1 + 1]? = some (.cells #[.int .i64 d,u] 26 (0,0))∧wr.ownsRow S 91 2 u (chs (fun x _:Int=>x) d ((frD d xs).take k)).length (ccells (chs (fun x _:Int=>x) d ((frD d xs).take k)))∧Fr (fun q=>q = N + 1 + 1∨S ≤ q) W1 wr∧S ≤ wr.heap.size) (fun kv _=>(idsL xs []).length - (intOf kv).toNat)
 case atStart=>exact ⟨0,_,Nat.zero_le _,rfl,hO,hrow0,Fr.refl _ _,by rw [hS.out];exact Nat.le_refl _⟩
 case round =>
  clear hrow0 hO
  obtain ⟨k,ov,hk,rfl,hO,hrow,hfr,hSr⟩:=hrel
  obtain ⟨oa,oc,rfl⟩:=owns_form hrow
  have hAr:=(hfr.block _ (heap_lt hA) (by omega)).trans hA
  have hZr:=(hfr.block _ (heap_lt hZ) (by omega)).trans hZ
  by_cases hlt:k < (idsL xs []).length
  ·obtain ⟨q,off,rfl,_,d1⟩:=(hu.keep (X':=fun _=>True) hfr (fun b hb _ h=>by rcases h with h | h <;> omega) (fun _ _ _=>trivial)).get k hlt
   have hxr:=h.keep (X':=fun b=>b < N) hfr (fun b hb _ h=>by rcases h with h | h <;> omega) (fun b hb _=>hb)
   have hstep:=chs_take d xs k hlt
   have hcl:=chs_len d xs k
   generalize (idsL xs [])[k] = id at *
   generalize hes:(chs (fun x _:Int=>x) d ((frD d xs).take k)) = es at *
   replace hes:Hid _:=hes
   have hSof:∀ w',Fr (fun q=>S ≤ q) wr w'→(fun w':World=>Fr (fun q=>S ≤ q) wr w'∧w'.cell? ⟨N,0,none⟩ = some (.int .i64 d)∧w'.cell? ⟨N,1,none⟩ = some (.slice ao xs.length cap)∧w'.cell? ⟨N + 1 + 1,0,none⟩ = some (.int .i64 d)∧w'.cell? ⟨N + 1 + 1,1,none⟩ = some (.slice oa es.length oc)) w':=fun w' hw=>⟨hw,cell_blk ((hw.block _ (heap_lt hAr) (by omega)).trans hAr) rfl,cell_blk ((hw.block _ (heap_lt hAr) (by omega)).trans hAr) rfl,cell_blk ((hw.block _ (heap_lt hO) (by omega)).trans hO) rfl,cell_blk ((hw.block _ (heap_lt hO) (by omega)).trans hO) rfl⟩
   have hlev:Hid (∀ w',Fr (fun q=>S ≤ q) wr w'→Calls Try.prog 106 #[.agg #[.int .i64 d,.slice ao xs.length cap],.int .u64 id] w' fun e w''=>e = .returned (.int .i64 (lev d xs id))∧Nw w' w''):=fun w' hw=>c_rlevel d id w' (hxr.keep (X':=fun _=>True) hw (fun b hb _ h=>by omega) (fun _ _ _=>trivial))
   have hW0:Fr (fun q=>S ≤ q) wr wr.drew:=Fr.drew (Fr.refl _ wr)
   generalize hx:lev d xs id = x at *
   replace hx:Hid _:=hx
   go_wp2
   have hSS:=hSof _ hW0
   refine wp_region_ord [] 5 [(0,true),(1,true),(3,true),(4,true),(2,false)] (fun w':World=>Fr (fun q=>S ≤ q) wr w'∧w'.cell? ⟨N,0,none⟩ = some (.int .i64 d)∧w'.cell? ⟨N,1,none⟩ = some (.slice ao xs.length cap)∧w'.cell? ⟨N + 1 + 1,0,none⟩ = some (.int .i64 d)∧w'.cell? ⟨N + 1 + 1,1,none⟩ = some (.slice oa es.length oc)) (by kernel_rfl) (by kernel_rfl) ?_
   refine ord_quietL _ ?_ rfl hSS rfl ?_ ?_
   rotate_left
   ·rintro w' ⟨hn,h0,h1,h2,h3⟩;go_simp;first | rfl | (rw [if_pos (by omega)];done) | (rw [if_pos (by omega)];rfl) | (rw [if_pos (by omega)];go_simp;rfl)
   simp only [pL,List.set]
   refine ord_quietL _ ?_ rfl hSS rfl ?_ ?_
   rotate_left
   ·rintro w' ⟨hn,h0,h1,h2,h3⟩;go_simp;first | rfl | (rw [if_pos (by omega)];done) | (rw [if_pos (by omega)];rfl) | (rw [if_pos (by omega)];go_simp;rfl)
   simp only [pL,List.set]
   refine ord_quietL _ ?_ rfl hSS rfl ?_ ?_
   rotate_left
   ·rintro w' ⟨hn,h0,h1,h2,h3⟩;go_simp;first | rfl | (rw [if_pos (by omega)];done) | (rw [if_pos (by omega)];rfl) | (rw [if_pos (by omega)];go_simp;rfl)
   simp only [pL,List.set]
   refine ord_quietL _ ?_ rfl hSS rfl ?_ ?_
   rotate_left
   ·rintro w' ⟨hn,h0,h1,h2,h3⟩;go_simp;first | rfl | (rw [if_pos (by omega)];done) | (rw [if_pos (by omega)];rfl) | (rw [if_pos (by omega)];go_simp;rfl)
   simp only [pL,List.set]
   refine ord_actL _ rfl (fun K1 hK1=>?_)
   have hcon:=hlev.out _ hW0
   go_wp2_with (go_at_call 106;refine Calls.mono hcon ?_;rintro e w3 ⟨rfl,q1⟩)
   have m1:=fr_nw hW0 q1
   have m1n:Nw wr w3:=nw_trans (Fr.drew (Fr.refl _ wr)) q1
   refine hK1 _ _ (hSof _ m1) ?_
   clear hK1 K1 hcon q1 hSS
   refine ord_tail ?_
   simp only [List.drop_succ_cons,List.drop_zero]
   by_cases hxd:x = d
   ·have hb:(x != d) = false:=by simp [hxd]
    have hstep':Hid ((chs (fun x _:Int=>x) d ((frD d xs).take (k + 1))) = es):=by unfold Hid;rw [hstep,if_pos hxd]
    have hO':=(m1.block _ (heap_lt hO) (by omega)).trans hO
    have hrow':=owns_of_block (w':=w3) hrow (fun q hq=>m1n.block q (hrow.lt q hq).2 (fun h=>h))
    have hfr':=fr_nw hfr m1n
    have hS':=Nat.le_trans hSr m1.size
    clear hSof hstep hxd hO hrow hfr hlev
    go_wp2
    go_roundw
    case rel=>exact ⟨k + 1,_,by omega,by go_num,hO',by rw [hstep'.out];exact hrow',hfr',hS'⟩
    case measure=>simp [intOf];omega
   ·have hb:(x != d) = true:=by simp [hxd]
    have hstep':Hid ((chs (fun x _:Int=>x) d ((frD d xs).take (k + 1))) = es ++ [(id,x)]):=by unfold Hid;rw [hstep,if_neg hxd]
    clear hstep hxd
    go_wp2
    have m2:Fr (fun q=>S ≤ q) wr w3.drew:=Fr.drew m1
    have m2n:Nw wr w3.drew:=Fr.drew m1n
    have hSS:=hSof _ m2
    refine wp_region_ord [] 9 [(0,true),(1,true),(2,true),(3,true),(4,true),(5,false),(6,true),(7,false),(8,false)] (fun w':World=>Fr (fun q=>S ≤ q) wr w'∧w'.cell? ⟨N,0,none⟩ = some (.int .i64 d)∧w'.cell? ⟨N,1,none⟩ = some (.slice ao xs.length cap)∧w'.cell? ⟨N + 1 + 1,0,none⟩ = some (.int .i64 d)∧w'.cell? ⟨N + 1 + 1,1,none⟩ = some (.slice oa es.length oc)) (by kernel_rfl) (by kernel_rfl) ?_
    refine ord_quietL _ ?_ rfl hSS rfl ?_ ?_
    rotate_left
    ·rintro w' ⟨hn,h0,h1,h2,h3⟩;go_simp;first | rfl | (rw [if_pos (by omega)];done) | (rw [if_pos (by omega)];rfl) | (rw [if_pos (by omega)];go_simp;rfl)
    simp only [pL,List.set]
    refine ord_quietL _ ?_ rfl hSS rfl ?_ ?_
    rotate_left
    ·rintro w' ⟨hn,h0,h1,h2,h3⟩;go_simp;first | rfl | (rw [if_pos (by omega)];done) | (rw [if_pos (by omega)];rfl) | (rw [if_pos (by omega)];go_simp;rfl)
    simp only [pL,List.set]
    refine ord_quietL _ ?_ rfl hSS rfl ?_ ?_
    rotate_left
    ·rintro w' ⟨hn,h0,h1,h2,h3⟩;go_simp;first | rfl | (rw [if_pos (by omega)];done) | (rw [if_pos (by omega)];rfl) | (rw [if_pos (by omega)];go_simp;rfl)
    simp only [pL,List.set]
    refine ord_quietL _ ?_ rfl hSS rfl ?_ ?_
    rotate_left
    ·rintro w' ⟨hn,h0,h1,h2,h3⟩;go_simp;first | rfl | (rw [if_pos (by omega)];done) | (rw [if_pos (by omega)];rfl) | (rw [if_pos (by omega)];go_simp;rfl)
    simp only [pL,List.set]
    refine ord_quietL _ ?_ rfl hSS rfl ?_ ?_
    rotate_left
    ·rintro w' ⟨hn,h0,h1,h2,h3⟩;go_simp;first | rfl | (rw [if_pos (by omega)];done) | (rw [if_pos (by omega)];rfl) | (rw [if_pos (by omega)];go_simp;rfl)
    simp only [pL,List.set]
    refine ord_actL _ rfl (fun K1 hK1=>?_)
    have hcon:=hlev.out _ m2
    go_wp2_with (go_at_call 106;refine Calls.mono hcon ?_;rintro e w4 ⟨rfl,q1⟩)
    have m3:=fr_nw m2 q1
    have m3n:=nw_trans m2n q1
    refine hK1 _ _ (hSof _ m3) ?_
    clear hK1 K1 hcon q1 hSS
    have hSS:=hSof _ m3
    refine ord_quietL _ ?_ rfl hSS rfl ?_ ?_
    rotate_left
    ·rintro w' ⟨hn,h0,h1,h2,h3⟩;go_simp;first | rfl | (rw [if_pos (by omega)];done) | (rw [if_pos (by omega)];rfl) | (rw [if_pos (by omega)];go_simp;rfl)
    simp only [pL,List.set]
    refine ord_actL _ rfl (fun K1 hK1=>?_)
    have m4:Fr (fun q=>S ≤ q) wr (w4.alloc (.cells #[.int .u64 id,.int .i64 x] 91)):=m3.alloc _
    have hrow4:=owns_of_block (w':=w4) hrow (fun q hq=>m3n.block q (hrow.lt q hq).2 (fun h=>h))
    have hrA:=World.ownsRow.alloc hrow4 (.cells #[.int .u64 id,.int .i64 x] 91)
    have hsl:=sl_lit w4 #[.int .u64 id,.int .i64 x] 91 1 (by omega)
    have hs4:=m3.size
    go_wp2
    refine hK1 _ _ (hSof _ m4) ?_
    clear hK1 K1 hSS
    refine ord_actL _ rfl (fun K1 hK1=>?_)
    go_wp2_with (at_builtin;refine wpList_append_sl _ rfl _ _ 24 rfl S 91 i0 _ 2 16 Try.underlying24 hj hj0 hj1 hj2 rfl (by decide) _ _ _ rfl hrA _ _ 1 _ rfl hsl rfl ?d1 ?d2 ?d3 ?d4 ?_)
    case d1=>first | (intro u hu;simp at hu;rcases hu with rfl | rfl <;> rfl) | simp [Value.oneCell']
    case d2=>unfold maxLen;omega
    case d3=>omega
    case d4=>simp;omega
    intro v9 w9 hown9 hgrow9 hat9
    have m9:Fr (fun q=>S ≤ q) wr w9:=m4.grown hgrow9 (fun q hq=>.inl (hrow4.lt q hq).1)
    obtain ⟨a9,c9,rfl⟩:=owns_form hown9
    go_wp2
    refine hK1 _ _ (hSof _ m9) ?_
    clear hK1 K1 hgrow9 hat9 hrA hsl
    refine ord_tail ?_
    simp only [List.drop_succ_cons,List.drop_zero]
    have hO9:=(m9.block _ (heap_lt hO) (by omega)).trans hO
    have hf9:Fr (fun q=>q = N + 1 + 1) w9 (w9.setCell ⟨N + 1 + 1,1,none⟩ (.slice a9 (es.length + 1) c9)):=(Fr.refl (fun q=>q = N + 1 + 1) w9).setCell (p:=⟨N + 1 + 1,1,none⟩) (.inl rfl) _
    have hO':(w9.setCell ⟨N + 1 + 1,1,none⟩ (.slice a9 (es.length + 1) c9)).heap[N + 1 + 1]? = some (.cells #[.int .i64 d,.slice a9 (es.length + 1) c9] 26 (0,0)):=by rw [blk_setCell hO9];rfl
    have hrow':=owns_of_block (w':=w9.setCell ⟨N + 1 + 1,1,none⟩ (.slice a9 (es.length + 1) c9)) hown9 (fun q hq=>hf9.block q (hown9.lt q hq).2 (by have:=(hown9.lt q hq).1;omega))
    have hrow'':(w9.setCell ⟨N + 1 + 1,1,none⟩ (.slice a9 (es.length + 1) c9)).ownsRow S 91 2 (.slice a9 (es.length + 1) c9) (es ++ [(id,x)]).length (ccells (es ++ [(id,x)])):=by
     rw [ccells_append,ccells_one,List.length_append]
     simpa [ccell] using hrow'
    have hfr':=(hfr.trans m9 (fun q hq=>.inl (.inr hq))).trans hf9 (fun q hq=>.inl (.inl hq))
    have hS':S ≤ (w9.setCell ⟨N + 1 + 1,1,none⟩ (.slice a9 (es.length + 1) c9)).heap.size:=Nat.le_trans hSr (Nat.le_trans m9.size hf9.size)
    have o1:w9.cell? ⟨N + 1 + 1,1,none⟩ = some (.slice oa es.length oc):=cell_blk hO9 rfl
    have o2:w9.frozen? ⟨N + 1 + 1,1,none⟩ = false:=free_blk hO9
    have hans:Hid _:=And.intro hO' (And.intro hrow'' (And.intro hfr' hS'))
    clear hO' hrow' hrow'' hfr' hS' hf9 hO9 hown9 hSof hO hrow hfr hlev m1 m1n m2 m2n m3 m3n m4 m9 hrow4
    go_wp2
    go_roundw
    case rel=>exact ⟨k + 1,_,by omega,by go_num,hans.out.1,by rw [hstep'.out];exact hans.out.2.1,hans.out.2.2.1,hans.out.2.2.2⟩
    case measure=>simp [intOf];omega
  ·have hkn:k = (frD d xs).length:=by rw [frD_length];omega
   have hall:(frD d xs).take k = frD d xs:=by rw [hkn,List.take_length]
   rw [hall] at hrow hO
   have hvis:=(frD_vis d xs).chosen (fun x _:Int=>x)
   have hcl:(chs (fun x _:Int=>x) d (frD d xs)).length ≤ xs.length:=Nat.le_trans (chs_le _ _ _) (by rw [frD_length];exact hidl)
   generalize chs (fun x _:Int=>x) d (frD d xs) = es at *
   have k1:=(mk_of_owns hrow).csl
   have o0:wr.cell? ⟨N + 1 + 1,0,none⟩ = some (.int .i64 d):=cell_blk hO rfl
   have o1:wr.cell? ⟨N + 1 + 1,1,none⟩ = some (.slice oa es.length oc):=cell_blk hO rfl
   have nwr:Nw w wr:=Fr.trans nW1 hfr (fun q hq=>.inr (by rw [hNN.out];rcases hq with h | h <;> omega))
   have hZ2:=hZr
   have hR6:((wr.setCell ⟨N + 1,0,none⟩ (.int .i64 d)).setCell ⟨N + 1,1,none⟩ (.slice oa es.length oc)).heap[N + 1]? = some (.cells #[.int .i64 d,.slice oa es.length oc] 26 (0,0)):=by
    rw [blk_setCell (blk_setCell hZ2)];rfl
   have hf6:Fr (fun q=>q = N + 1) wr ((wr.setCell ⟨N + 1,0,none⟩ (.int .i64 d)).setCell ⟨N + 1,1,none⟩ (.slice oa es.length oc)):=((Fr.refl (fun q=>q = N + 1) wr).setCell (p:=⟨N + 1,0,none⟩) (.inl rfl) _).setCell (p:=⟨N + 1,1,none⟩) (.inl rfl) _
   have hans:Hid (MadeL w d (lev d xs) xs.length (.returned (labV d (.slice oa es.length oc))) ((wr.setCell ⟨N + 1,0,none⟩ (.int .i64 d)).setCell ⟨N + 1,1,none⟩ (.slice oa es.length oc))):=⟨_,es,rfl,k1.keep hf6 (fun b hb _ h=>by omega) (fun b hb _=>by rw [hNN.out];omega),hvis.1,hvis.2,hcl,Fr.trans nwr hf6 (fun q hq=>.inr (by rw [hNN.out];omega))⟩
   have hrr:=range_all (C:=[.int .i64 d,.slice oa es.length oc]) hR6
   have z0:wr.cell? ⟨N + 1,0,none⟩ = some (.int .i64 0):=cell_blk hZ2 rfl
   have z1:wr.cell? ⟨N + 1,1,none⟩ = some (.slice none 0 0):=cell_blk hZ2 rfl
   have zf:∀ k,wr.frozen? ⟨N + 1,k,none⟩ = false:=fun k=>free_blk hZ2
   clear k1 hvis hcl hR6 hf6 hZ2 hZr hAr hO hrow hfr nwr hall
   go_wp2
   refine bodyPost_ret (results_cell1 rfl _ (N + 1) _ _ rfl rfl hrr Try.rowL Try.sizeL) rfl ?_
   exact hans.out
end Go.Proofs.Ytgmfofngmfekbaa

namespace Go.Proofs.Ytgmfofngmfekbaa
set_option linter.unusedVariables false
set_option linter.unusedSimpArgs false
set_option maxRecDepth 20000
open Go.RowKit

set_option maxHeartbeats 6400000 in
theorem c_rright {X:Nat→Prop} {v:Value} {xs:List Cat} (d:Int) (w:World) (h:CSl X w v xs) (hl:xs.length ≤ 8796093022208) :
  Calls Try.prog 62 #[labV d v] w (RgtP d xs w):=by
 obtain ⟨ao,cap,rfl,ha1,ha2⟩:=h.form
 have hA:(w.alloc (.cells #[.int .i64 d,.slice ao xs.length cap] 26)).heap[w.heap.size]? = some (.cells #[.int .i64 d,.slice ao xs.length cap] 26 (0,0)):=heap_alloc_new w _
 have nW:Nw w (w.alloc (.cells #[.int .i64 d,.slice ao xs.length cap] 26)):=nw_alloc (nw_refl w) _
 replace h:=h.nw nW
 unfold labV
 go_enter Try.func62,Try.ntmps62
 go_upto_region 1 with fail
 generalize w.alloc (.cells #[.int .i64 d,.slice ao xs.length cap] 26) = W at *
 generalize w.heap.size = N at *
 have a0:W.cell? ⟨N,0,none⟩ = some (.int .i64 d):=cell_blk hA rfl
 have a1:W.cell? ⟨N,1,none⟩ = some (.slice ao xs.length cap):=cell_blk hA rfl
 have hSof:∀ w',Nw W w'→(fun w':World=>Nw W w'∧w'.cell? ⟨N,0,none⟩ = some (.int .i64 d)∧w'.cell? ⟨N,1,none⟩ = some (.slice ao xs.length cap)) w':=fun w' hw=>⟨hw,cell_blk ((hw.block _ (heap_lt hA) (fun h=>h)).trans hA) rfl,cell_blk ((hw.block _ (heap_lt hA) (fun h=>h)).trans hA) rfl⟩
 have hW0:Nw W W.drew:=Fr.drew (Fr.refl _ W)
 have nD:Nw w W.drew:=nw_trans nW hW0
 have hS:=hSof _ hW0
 by_cases g1:d < 1
 ·have hno:Hid (¬ Rgt d xs):=fun h=>by have:=h.lo;omega
  refine wp_region_ord [] 20 [(0,true),(1,true),(2,true),(3,true),(4,true),(5,true),(6,true),(7,true),(8,true),(9,true),(10,true),(11,true),(12,true),(13,true),(14,true),(15,true),(16,true),(17,true),(18,true),(19,true)] (fun w':World=>Nw W w'∧w'.cell? ⟨N,0,none⟩ = some (.int .i64 d)∧w'.cell? ⟨N,1,none⟩ = some (.slice ao xs.length cap)) (by kernel_rfl) (by kernel_rfl) ?_
  refine ord_quietL _ ?_ rfl hS rfl ?_ ?_
  rotate_left
  ·rintro w' ⟨hn,h0,h1⟩;go_simp;first | rfl | (rw [if_pos (by omega)];done) | (rw [if_pos (by omega)];rfl) | (rw [if_pos (by omega)];go_simp;rfl)
  simp only [pL,List.set]
  refine ord_quietL _ ?_ rfl hS rfl ?_ ?_
  rotate_left
  ·rintro w' ⟨hn,h0,h1⟩;go_simp;first | rfl | (rw [if_pos (by omega)];done) | (rw [if_pos (by omega)];rfl) | (rw [if_pos (by omega)];go_simp;rfl)
  simp only [pL,List.set]
  refine ord_quietL _ ?_ rfl hS rfl ?_ ?_
  rotate_left
  ·rintro w' ⟨hn,h0,h1⟩;go_simp;first | rfl | (rw [if_pos (by omega)];done) | (rw [if_pos (by omega)];rfl) | (rw [if_pos (by omega)];go_simp;rfl)
  simp only [pL,List.set]
  refine ord_quietL _ ?_ rfl hS rfl ?_ ?_
  rotate_left
  ·rintro w' ⟨hn,h0,h1⟩;go_simp;first | rfl | (rw [if_pos (by omega)];done) | (rw [if_pos (by omega)];rfl) | (rw [if_pos (by omega)];go_simp;rfl)
  simp only [pL,List.set]
  refine ord_skipL _ rfl hS rfl ?_
  simp only [pL,List.set]
  refine ord_skipL _ rfl hS rfl ?_
  simp only [pL,List.set]
  refine ord_skipL _ rfl hS rfl ?_
  simp only [pL,List.set]
  refine ord_quietL _ ?_ rfl hS rfl ?_ ?_
  rotate_left
  ·rintro w' ⟨hn,h0,h1⟩;go_simp;first | rfl | (rw [if_pos (by omega)];done) | (rw [if_pos (by omega)];rfl) | (rw [if_pos (by omega)];go_simp;rfl)
  simp only [pL,List.set]
  refine ord_quietL _ ?_ rfl hS rfl ?_ ?_
  rotate_left
  ·rintro w' ⟨hn,h0,h1⟩;go_simp;first | rfl | (rw [if_pos (by omega)];done) | (rw [if_pos (by omega)];rfl) | (rw [if_pos (by omega)];go_simp;rfl)
  simp only [pL,List.set]
  refine ord_skipL _ rfl hS rfl ?_
  simp only [pL,List.set]
  refine ord_skipL _ rfl hS rfl ?_
  simp only [pL,List.set]
  refine ord_skipL _ rfl hS rfl ?_
  simp only [pL,List.set]
  refine ord_skipL _ rfl hS rfl ?_
  simp only [pL,List.set]
  refine ord_quietL _ ?_ rfl hS rfl ?_ ?_
  rotate_left
  ·rintro w' ⟨hn,h0,h1⟩;go_simp;first | rfl | (rw [if_pos (by omega)];done) | (rw [if_pos (by omega)];rfl) | (rw [if_pos (by omega)];go_simp;rfl)
  simp only [pL,List.set]
  refine ord_quietL _ ?_ rfl hS rfl ?_ ?_
  rotate_left
  ·rintro w' ⟨hn,h0,h1⟩;go_simp;first | rfl | (rw [if_pos (by omega)];done) | (rw [if_pos (by omega)];rfl) | (rw [if_pos (by omega)];go_simp;rfl)
  simp only [pL,List.set]
  refine ord_skipL _ rfl hS rfl ?_
  simp only [pL,List.set]
  refine ord_skipL _ rfl hS rfl ?_
  simp only [pL,List.set]
  refine ord_skipL _ rfl hS rfl ?_
  simp only [pL,List.set]
  refine ord_skipL _ rfl hS rfl ?_
  simp only [pL,List.set]
  refine ord_skipL _ rfl hS rfl ?_
  simp only [pL,List.set]
  refine ord_tail ?_
  simp only [List.drop_succ_cons,List.drop_zero]
  go_wp2
  go_ret
  exact rgt_no hno.out nD
 ·by_cases g2:4 < d
  ·have hno:Hid (¬ Rgt d xs):=fun h=>by have:=h.hi;omega
   refine wp_region_ord [] 20 [(0,true),(1,true),(2,true),(3,true),(4,true),(5,true),(6,true),(7,true),(8,true),(9,true),(10,true),(11,true),(12,true),(13,true),(14,true),(15,true),(16,true),(17,true),(18,true),(19,true)] (fun w':World=>Nw W w'∧w'.cell? ⟨N,0,none⟩ = some (.int .i64 d)∧w'.cell? ⟨N,1,none⟩ = some (.slice ao xs.length cap)) (by kernel_rfl) (by kernel_rfl) ?_
   refine ord_quietL _ ?_ rfl hS rfl ?_ ?_
   rotate_left
   ·rintro w' ⟨hn,h0,h1⟩;go_simp;first | rfl | (rw [if_pos (by omega)];done) | (rw [if_pos (by omega)];rfl) | (rw [if_pos (by omega)];go_simp;rfl)
   simp only [pL,List.set]
   refine ord_quietL _ ?_ rfl hS rfl ?_ ?_
   rotate_left
   ·rintro w' ⟨hn,h0,h1⟩;go_simp;first | rfl | (rw [if_pos (by omega)];done) | (rw [if_pos (by omega)];rfl) | (rw [if_pos (by omega)];go_simp;rfl)
   simp only [pL,List.set]
   refine ord_quietL _ ?_ rfl hS rfl ?_ ?_
   rotate_left
   ·rintro w' ⟨hn,h0,h1⟩;go_simp;first | rfl | (rw [if_pos (by omega)];done) | (rw [if_pos (by omega)];rfl) | (rw [if_pos (by omega)];go_simp;rfl)
   simp only [pL,List.set]
   refine ord_quietL _ ?_ rfl hS rfl ?_ ?_
   rotate_left
   ·rintro w' ⟨hn,h0,h1⟩;go_simp;first | rfl | (rw [if_pos (by omega)];done) | (rw [if_pos (by omega)];rfl) | (rw [if_pos (by omega)];go_simp;rfl)
   simp only [pL,List.set]
   refine ord_quietL _ ?_ rfl hS rfl ?_ ?_
   rotate_left
   ·rintro w' ⟨hn,h0,h1⟩;go_simp;first | rfl | (rw [if_pos (by omega)];done) | (rw [if_pos (by omega)];rfl) | (rw [if_pos (by omega)];go_simp;rfl)
   simp only [pL,List.set]
   refine ord_quietL _ ?_ rfl hS rfl ?_ ?_
   rotate_left
   ·rintro w' ⟨hn,h0,h1⟩;go_simp;first | rfl | (rw [if_pos (by omega)];done) | (rw [if_pos (by omega)];rfl) | (rw [if_pos (by omega)];go_simp;rfl)
   simp only [pL,List.set]
   refine ord_quietL _ ?_ rfl hS rfl ?_ ?_
   rotate_left
   ·rintro w' ⟨hn,h0,h1⟩;go_simp;first | rfl | (rw [if_pos (by omega)];done) | (rw [if_pos (by omega)];rfl) | (rw [if_pos (by omega)];go_simp;rfl)
   simp only [pL,List.set]
   refine ord_quietL _ ?_ rfl hS rfl ?_ ?_
   rotate_left
   ·rintro w' ⟨hn,h0,h1⟩;go_simp;first | rfl | (rw [if_pos (by omega)];done) | (rw [if_pos (by omega)];rfl) | (rw [if_pos (by omega)];go_simp;rfl)
   simp only [pL,List.set]
   refine ord_quietL _ ?_ rfl hS rfl ?_ ?_
   rotate_left
   ·rintro w' ⟨hn,h0,h1⟩;go_simp;first | rfl | (rw [if_pos (by omega)];done) | (rw [if_pos (by omega)];rfl) | (rw [if_pos (by omega)];go_simp;rfl)
   simp only [pL,List.set]
   refine ord_skipL _ rfl hS rfl ?_
   simp only [pL,List.set]
   refine ord_skipL _ rfl hS rfl ?_
   simp only [pL,List.set]
   refine ord_skipL _ rfl hS rfl ?_
   simp only [pL,List.set]
   refine ord_skipL _ rfl hS rfl ?_
   simp only [pL,List.set]
   refine ord_quietL _ ?_ rfl hS rfl ?_ ?_
   rotate_left
   ·rintro w' ⟨hn,h0,h1⟩;go_simp;first | rfl | (rw [if_pos (by omega)];done) | (rw [if_pos (by omega)];rfl) | (rw [if_pos (by omega)];go_simp;rfl)
   simp only [pL,List.set]
   refine ord_quietL _ ?_ rfl hS rfl ?_ ?_
   rotate_left
   ·rintro w' ⟨hn,h0,h1⟩;go_simp;first | rfl | (rw [if_pos (by omega)];done) | (rw [if_pos (by omega)];rfl) | (rw [if_pos (by omega)];go_simp;rfl)
   simp only [pL,List.set]
   refine ord_skipL _ rfl hS rfl ?_
   simp only [pL,List.set]
   refine ord_skipL _ rfl hS rfl ?_
   simp only [pL,List.set]
   refine ord_skipL _ rfl hS rfl ?_
   simp only [pL,List.set]
   refine ord_skipL _ rfl hS rfl ?_
   simp only [pL,List.set]
   refine ord_skipL _ rfl hS rfl ?_
   simp only [pL,List.set]
   refine ord_tail ?_
   simp only [List.drop_succ_cons,List.drop_zero]
   go_wp2
   go_ret
   exact rgt_no hno.out nD
  ·by_cases g3:6 < xs.length
   ·have hb3:decide ((6:Int) < ((xs.length:Nat):Int)) = true:=by simp;omega
    have hno:Hid (¬ Rgt d xs):=fun h=>by have:=h.len;omega
    refine wp_region_ord [] 20 [(0,true),(1,true),(2,true),(3,true),(4,true),(5,true),(6,true),(7,true),(8,true),(9,true),(10,true),(11,true),(12,true),(13,true),(14,true),(15,true),(16,true),(17,true),(18,true),(19,true)] (fun w':World=>Nw W w'∧w'.cell? ⟨N,0,none⟩ = some (.int .i64 d)∧w'.cell? ⟨N,1,none⟩ = some (.slice ao xs.length cap)) (by kernel_rfl) (by kernel_rfl) ?_
    refine ord_quietL _ ?_ rfl hS rfl ?_ ?_
    rotate_left
    ·rintro w' ⟨hn,h0,h1⟩;go_simp;first | rfl | (rw [if_pos (by omega)];done) | (rw [if_pos (by omega)];rfl) | (rw [if_pos (by omega)];go_simp;rfl)
    simp only [pL,List.set]
    refine ord_quietL _ ?_ rfl hS rfl ?_ ?_
    rotate_left
    ·rintro w' ⟨hn,h0,h1⟩;go_simp;first | rfl | (rw [if_pos (by omega)];done) | (rw [if_pos (by omega)];rfl) | (rw [if_pos (by omega)];go_simp;rfl)
    simp only [pL,List.set]
    refine ord_quietL _ ?_ rfl hS rfl ?_ ?_
    rotate_left
    ·rintro w' ⟨hn,h0,h1⟩;go_simp;first | rfl | (rw [if_pos (by omega)];done) | (rw [if_pos (by omega)];rfl) | (rw [if_pos (by omega)];go_simp;rfl)
    simp only [pL,List.set]
    refine ord_quietL _ ?_ rfl hS rfl ?_ ?_
    rotate_left
    ·rintro w' ⟨hn,h0,h1⟩;go_simp;first | rfl | (rw [if_pos (by omega)];done) | (rw [if_pos (by omega)];rfl) | (rw [if_pos (by omega)];go_simp;rfl)
    simp only [pL,List.set]
    refine ord_quietL _ ?_ rfl hS rfl ?_ ?_
    rotate_left
    ·rintro w' ⟨hn,h0,h1⟩;go_simp;first | rfl | (rw [if_pos (by omega)];done) | (rw [if_pos (by omega)];rfl) | (rw [if_pos (by omega)];go_simp;rfl)
    simp only [pL,List.set]
    refine ord_quietL _ ?_ rfl hS rfl ?_ ?_
    rotate_left
    ·rintro w' ⟨hn,h0,h1⟩;go_simp;first | rfl | (rw [if_pos (by omega)];done) | (rw [if_pos (by omega)];rfl) | (rw [if_pos (by omega)];go_simp;rfl)
    simp only [pL,List.set]
    refine ord_quietL _ ?_ rfl hS rfl ?_ ?_
    rotate_left
    ·rintro w' ⟨hn,h0,h1⟩;go_simp;first | rfl | (rw [if_pos (by omega)];done) | (rw [if_pos (by omega)];rfl) | (rw [if_pos (by omega)];go_simp;rfl)
    simp only [pL,List.set]
    refine ord_quietL _ ?_ rfl hS rfl ?_ ?_
    rotate_left
    ·rintro w' ⟨hn,h0,h1⟩;go_simp;first | rfl | (rw [if_pos (by omega)];done) | (rw [if_pos (by omega)];rfl) | (rw [if_pos (by omega)];go_simp;rfl)
    simp only [pL,List.set]
    refine ord_quietL _ ?_ rfl hS rfl ?_ ?_
    rotate_left
    ·rintro w' ⟨hn,h0,h1⟩;go_simp;first | rfl | (rw [if_pos (by omega)];done) | (rw [if_pos (by omega)];rfl) | (rw [if_pos (by omega)];go_simp;rfl)
    simp only [pL,List.set]
    refine ord_quietL _ ?_ rfl hS rfl ?_ ?_
    rotate_left
    ·rintro w' ⟨hn,h0,h1⟩;go_simp;first | rfl | (rw [if_pos (by omega)];done) | (rw [if_pos (by omega)];rfl) | (rw [if_pos (by omega)];go_simp;rfl)
    simp only [pL,List.set]
    refine ord_quietL _ ?_ rfl hS rfl ?_ ?_
    rotate_left
    ·rintro w' ⟨hn,h0,h1⟩;go_simp;first | rfl | (rw [if_pos (by omega)];done) | (rw [if_pos (by omega)];rfl) | (rw [if_pos (by omega)];go_simp;rfl)
    simp only [pL,List.set]
    refine ord_quietL _ ?_ rfl hS rfl ?_ ?_
    rotate_left
    ·rintro w' ⟨hn,h0,h1⟩;go_simp;first | rfl | (rw [if_pos (by omega)];done) | (rw [if_pos (by omega)];rfl) | (rw [if_pos (by omega)];go_simp;rfl)
    simp only [pL,List.set]
    refine ord_quietL _ ?_ rfl hS rfl ?_ ?_
    rotate_left
    ·rintro w' ⟨hn,h0,h1⟩;go_simp;first | rfl | (rw [if_pos (by omega)];done) | (rw [if_pos (by omega)];rfl) | (rw [if_pos (by omega)];go_simp;rfl)
    simp only [pL,List.set]
    refine ord_quietL _ ?_ rfl hS rfl ?_ ?_
    rotate_left
    ·rintro w' ⟨hn,h0,h1⟩;go_simp;first | rfl | (rw [if_pos (by omega)];done) | (rw [if_pos (by omega)];rfl) | (rw [if_pos (by omega)];go_simp;rfl)
    simp only [pL,List.set]
    refine ord_quietL _ ?_ rfl hS rfl ?_ ?_
    rotate_left
    ·rintro w' ⟨hn,h0,h1⟩;go_simp;first | rfl | (rw [if_pos (by omega)];done) | (rw [if_pos (by omega)];rfl) | (rw [if_pos (by omega)];go_simp;rfl)
    simp only [pL,List.set]
    refine ord_skipL _ rfl hS rfl ?_
    simp only [pL,List.set]
    refine ord_skipL _ rfl hS rfl ?_
    simp only [pL,List.set]
    refine ord_skipL _ rfl hS rfl ?_
    simp only [pL,List.set]
    refine ord_skipL _ rfl hS rfl ?_
    simp only [pL,List.set]
    refine ord_skipL _ rfl hS rfl ?_
    simp only [pL,List.set]
    refine ord_tail ?_
    simp only [List.drop_succ_cons,List.drop_zero]
    go_wp2
    go_ret
    exact rgt_no hno.out nD
   ·have hb3:decide ((6:Int) < ((xs.length:Nat):Int)) = false:=by simp;omega
    refine wp_region_ord [] 20 [(0,true),(1,true),(2,true),(3,true),(4,true),(5,true),(6,true),(7,true),(8,true),(9,true),(10,true),(11,true),(12,true),(13,true),(14,true),(15,true),(16,true),(17,false),(18,false),(19,true)] (fun w':World=>Nw W w'∧w'.cell? ⟨N,0,none⟩ = some (.int .i64 d)∧w'.cell? ⟨N,1,none⟩ = some (.slice ao xs.length cap)) (by kernel_rfl) (by kernel_rfl) ?_
    refine ord_quietL _ ?_ rfl hS rfl ?_ ?_
    rotate_left
    ·rintro w' ⟨hn,h0,h1⟩;go_simp;first | rfl | (rw [if_pos (by omega)];done) | (rw [if_pos (by omega)];rfl) | (rw [if_pos (by omega)];go_simp;rfl)
    simp only [pL,List.set]
    refine ord_quietL _ ?_ rfl hS rfl ?_ ?_
    rotate_left
    ·rintro w' ⟨hn,h0,h1⟩;go_simp;first | rfl | (rw [if_pos (by omega)];done) | (rw [if_pos (by omega)];rfl) | (rw [if_pos (by omega)];go_simp;rfl)
    simp only [pL,List.set]
    refine ord_quietL _ ?_ rfl hS rfl ?_ ?_
    rotate_left
    ·rintro w' ⟨hn,h0,h1⟩;go_simp;first | rfl | (rw [if_pos (by omega)];done) | (rw [if_pos (by omega)];rfl) | (rw [if_pos (by omega)];go_simp;rfl)
    simp only [pL,List.set]
    refine ord_quietL _ ?_ rfl hS rfl ?_ ?_
    rotate_left
    ·rintro w' ⟨hn,h0,h1⟩;go_simp;first | rfl | (rw [if_pos (by omega)];done) | (rw [if_pos (by omega)];rfl) | (rw [if_pos (by omega)];go_simp;rfl)
    simp only [pL,List.set]
    refine ord_quietL _ ?_ rfl hS rfl ?_ ?_
    rotate_left
    ·rintro w' ⟨hn,h0,h1⟩;go_simp;first | rfl | (rw [if_pos (by omega)];done) | (rw [if_pos (by omega)];rfl) | (rw [if_pos (by omega)];go_simp;rfl)
    simp only [pL,List.set]
    refine ord_quietL _ ?_ rfl hS rfl ?_ ?_
    rotate_left
    ·rintro w' ⟨hn,h0,h1⟩;go_simp;first | rfl | (rw [if_pos (by omega)];done) | (rw [if_pos (by omega)];rfl) | (rw [if_pos (by omega)];go_simp;rfl)
    simp only [pL,List.set]
    refine ord_quietL _ ?_ rfl hS rfl ?_ ?_
    rotate_left
    ·rintro w' ⟨hn,h0,h1⟩;go_simp;first | rfl | (rw [if_pos (by omega)];done) | (rw [if_pos (by omega)];rfl) | (rw [if_pos (by omega)];go_simp;rfl)
    simp only [pL,List.set]
    refine ord_quietL _ ?_ rfl hS rfl ?_ ?_
    rotate_left
    ·rintro w' ⟨hn,h0,h1⟩;go_simp;first | rfl | (rw [if_pos (by omega)];done) | (rw [if_pos (by omega)];rfl) | (rw [if_pos (by omega)];go_simp;rfl)
    simp only [pL,List.set]
    refine ord_quietL _ ?_ rfl hS rfl ?_ ?_
    rotate_left
    ·rintro w' ⟨hn,h0,h1⟩;go_simp;first | rfl | (rw [if_pos (by omega)];done) | (rw [if_pos (by omega)];rfl) | (rw [if_pos (by omega)];go_simp;rfl)
    simp only [pL,List.set]
    refine ord_quietL _ ?_ rfl hS rfl ?_ ?_
    rotate_left
    ·rintro w' ⟨hn,h0,h1⟩;go_simp;first | rfl | (rw [if_pos (by omega)];done) | (rw [if_pos (by omega)];rfl) | (rw [if_pos (by omega)];go_simp;rfl)
    simp only [pL,List.set]
    refine ord_quietL _ ?_ rfl hS rfl ?_ ?_
    rotate_left
    ·rintro w' ⟨hn,h0,h1⟩;go_simp;first | rfl | (rw [if_pos (by omega)];done) | (rw [if_pos (by omega)];rfl) | (rw [if_pos (by omega)];go_simp;rfl)
    simp only [pL,List.set]
    refine ord_quietL _ ?_ rfl hS rfl ?_ ?_
    rotate_left
    ·rintro w' ⟨hn,h0,h1⟩;go_simp;first | rfl | (rw [if_pos (by omega)];done) | (rw [if_pos (by omega)];rfl) | (rw [if_pos (by omega)];go_simp;rfl)
    simp only [pL,List.set]
    refine ord_quietL _ ?_ rfl hS rfl ?_ ?_
    rotate_left
    ·rintro w' ⟨hn,h0,h1⟩;go_simp;first | rfl | (rw [if_pos (by omega)];done) | (rw [if_pos (by omega)];rfl) | (rw [if_pos (by omega)];go_simp;rfl)
    simp only [pL,List.set]
    refine ord_quietL _ ?_ rfl hS rfl ?_ ?_
    rotate_left
    ·rintro w' ⟨hn,h0,h1⟩;go_simp;first | rfl | (rw [if_pos (by omega)];done) | (rw [if_pos (by omega)];rfl) | (rw [if_pos (by omega)];go_simp;rfl)
    simp only [pL,List.set]
    refine ord_quietL _ ?_ rfl hS rfl ?_ ?_
    rotate_left
    ·rintro w' ⟨hn,h0,h1⟩;go_simp;first | rfl | (rw [if_pos (by omega)];done) | (rw [if_pos (by omega)];rfl) | (rw [if_pos (by omega)];go_simp;rfl)
    simp only [pL,List.set]
    refine ord_quietL _ ?_ rfl hS rfl ?_ ?_
    rotate_left
    ·rintro w' ⟨hn,h0,h1⟩;go_simp;first | rfl | (rw [if_pos (by omega)];done) | (rw [if_pos (by omega)];rfl) | (rw [if_pos (by omega)];go_simp;rfl)
    simp only [pL,List.set]
    refine ord_quietL _ ?_ rfl hS rfl ?_ ?_
    rotate_left
    ·rintro w' ⟨hn,h0,h1⟩;go_simp;first | rfl | (rw [if_pos (by omega)];done) | (rw [if_pos (by omega)];rfl) | (rw [if_pos (by omega)];go_simp;rfl)
    simp only [pL,List.set]
    refine ord_actL _ rfl (fun K1 hK1=>?_)
    have hcon:Hid _:=c_form d W.drew (h.nw hW0) hl
    unfold labV at hcon
    go_wp2_with (go_at_call 89;refine Calls.mono hcon.out ?_;rintro e V1 ⟨u1,y1,rfl,q1,q2,q3,q4,q5⟩)
    have m1:=nw_trans hW0 q5
    have hF1:Hid (Fm d y1∧∀ id,lev d y1 id = lev d xs id):=⟨q2,q3⟩
    have g1':=q1.any
    obtain ⟨ma,mc,rfl,_,_⟩:=q1.form
    refine hK1 _ _ (hSof _ m1) ?_
    clear hK1 K1 hcon q1 q2 q3 q4 q5 hS
    have hS:=hSof _ m1
    refine ord_actL _ rfl (fun K1 hK1=>?_)
    have hcon:Hid _:=c_exact d d V1 (h.nw m1) g1'
    unfold labV at hcon
    go_wp2_with (go_at_call 40;refine Calls.mono hcon.out ?_;rintro e V ⟨r,rfl,q1,qn⟩)
    have m2:=nw_trans m1 qn
    have hiff:Hid (r = true↔Fm d xs):=⟨fun hr=>by
     have h1:xs = y1:=by have:=q1.1 hr;first | exact this.2 | exact this
     rw [h1];exact hF1.out.1,fun hf=>q1.2 (by
     have h1:xs = y1:=form_unique hf hF1.out.1 (fun id=>(hF1.out.2 id).symm)
     first | exact ⟨rfl,h1⟩ | exact h1 | simp [h1])⟩
    refine hK1 _ _ (hSof _ m2) ?_
    clear hK1 K1 hcon q1 qn hS g1' hF1
    have hS:=hSof _ m2
    have nV:=nw_trans nW m2
    replace hA:=(m2.block _ (heap_lt hA) (fun h=>h)).trans hA
    replace h:=h.nw m2
    cases r with
    | false =>
     have hno:Hid (¬ Rgt d xs):=fun h=>by have:=hiff.out.2 h.fm;cases this
     refine ord_quietL _ ?_ rfl hS rfl ?_ ?_
     rotate_left
     ·rintro w' ⟨hn,h0,h1⟩;go_simp;first | rfl | (rw [if_pos (by omega)];done) | (rw [if_pos (by omega)];rfl) | (rw [if_pos (by omega)];go_simp;rfl)
     simp only [pL,List.set]
     refine ord_tail ?_
     simp only [List.drop_succ_cons,List.drop_zero]
     go_wp2
     go_ret
     exact rgt_no hno.out nV
    | true =>
     have hfm:Hid (Fm d xs):=hiff.out.1 rfl
     refine ord_quietL _ ?_ rfl hS rfl ?_ ?_
     rotate_left
     ·rintro w' ⟨hn,h0,h1⟩;go_simp;first | rfl | (rw [if_pos (by omega)];done) | (rw [if_pos (by omega)];rfl) | (rw [if_pos (by omega)];go_simp;rfl)
     simp only [pL,List.set]
     refine ord_tail ?_
     simp only [List.drop_succ_cons,List.drop_zero]
     clear hiff hS hSof
     clear a0 a1
     have b1:V.cell? ⟨N,1,none⟩ = some (.slice ao xs.length cap):=cell_blk hA rfl
     go_wp2
     clear b1
     go_loopw [29] (fun kv wr=>∃ k:Nat,k ≤ xs.length∧kv = .int .i64 k∧Hid (∀ i (h:i < xs.length),i < k→1 ≤ xs[i].1∧xs[i].1 ≤ 2305843009213693951∧0 ≤ xs[i].2∧xs[i].2 ≤ 4)∧Nw V wr) (fun kv _=>xs.length - (intOf kv).toNat)
     case atStart=>exact ⟨0,Nat.zero_le _,rfl,fun i _ h=>by omega,nw_refl _⟩
     case round =>
      obtain ⟨k,hk,rfl,hall,hw⟩:=hrel
      by_cases hlt:k < xs.length
      ·obtain ⟨q,off,rfl,_,d1,d2⟩:=(h.nw hw).get k hlt
       have hbad:Hid (¬ (1 ≤ xs[k].1∧xs[k].1 ≤ 2305843009213693951∧0 ≤ xs[k].2∧xs[k].2 ≤ 4)→¬ Rgt d xs):=fun h1 h2=>h1 (h2.each k hlt)
       have hgood:Hid (1 ≤ xs[k].1∧xs[k].1 ≤ 2305843009213693951∧0 ≤ xs[k].2∧xs[k].2 ≤ 4→∀ i (h:i < xs.length),i < k + 1→1 ≤ xs[i].1∧xs[i].1 ≤ 2305843009213693951∧0 ≤ xs[i].2∧xs[i].2 ≤ 4):=fun h1 i hi hik=>by
        by_cases e:i = k
        ·subst e;exact h1
        ·exact hall.out i hi (by omega)
       generalize xs[k] = c at *
       have hnA:Hid (∀ o,Nw w (wr.alloc o)∧Nw V (wr.alloc o)):=fun o=>⟨nw_alloc (nw_trans nV hw) o,nw_alloc hw o⟩
       clear hall
       by_cases c1:c.1 < 1
       ·have hno:Hid _:=hbad.out (by omega)
        clear hbad hgood
        go_wp2
        go_ret
        exact rgt_no hno.out (hnA.out _).1
       ·by_cases c2:2305843009213693951 < c.1
        ·have hno:Hid _:=hbad.out (by omega)
         clear hbad hgood
         go_wp2
         go_ret
         exact rgt_no hno.out (hnA.out _).1
        ·by_cases c3:c.2 < 0
         ·have hno:Hid _:=hbad.out (by omega)
          clear hbad hgood
          go_wp2
          go_ret
          exact rgt_no hno.out (hnA.out _).1
         ·by_cases c4:4 < c.2
          ·have hno:Hid _:=hbad.out (by omega)
           clear hbad hgood
           go_wp2
           go_ret
           exact rgt_no hno.out (hnA.out _).1
          ·have hyes:Hid _:=hgood.out (by omega)
           clear hbad hgood
           go_wp2
           go_roundw
           case rel=>exact ⟨k + 1,by omega,by go_num,hyes,(hnA.out _).2⟩
           case measure=>simp [intOf];omega
      ·have hfin:Hid (Rgt d xs):=⟨by omega,by omega,by omega,hfm.out,fun i hi=>hall.out i hi (by omega)⟩
       clear hall
       go_wp2
       go_ret
       exact ⟨true,rfl,⟨(fun _=>hfin.out),(fun _=>rfl)⟩,nw_trans nV hw⟩
end Go.Proofs.Ytgmfofngmfekbaa

namespace Go.Proofs.Ytgmfofngmfekbaa
set_option linter.unusedVariables false
set_option linter.unusedSimpArgs false
set_option maxRecDepth 20000
open Go.RowKit Go.ChangeShapes Go.WideShapes Go.Deep

theorem plain_of_cell {w:World} {a:Addr} {v:Value} (h:w.cell? a = some v):a = ⟨a.block,a.off,none⟩:=by
 obtain ⟨b,o,s⟩:=a
 cases s with
 | none=>rfl
 | some s =>
  unfold World.cell? at h
  split at h <;> simp at h

theorem bulk_one {H:Type} (d:DataW H):1 ≤ Rows.uptoBulk d:=by
 cases d with
 | lit l=>cases l <;> simp [Rows.uptoBulk]
 | nil=>simp [Rows.uptoBulk]
 | ptr d=>simp [Rows.uptoBulk]
 | slice elems spare=>simp [Rows.uptoBulk]
 | agg parts=>simp [Rows.uptoBulk]
 | iface t d=>simp [Rows.uptoBulk]
 | map entries=>simp [Rows.uptoBulk]
 | held h=>simp [Rows.uptoBulk]

theorem bulk_length {H:Type} (l:List (DataW H)):l.length ≤ Rows.uptoBulkAll l:=by
 induction l with
 | nil=>simp [Rows.uptoBulkAll]
 | cons x r ih=>have:=bulk_one x;simp only [Rows.uptoBulkAll,List.length_cons];omega

theorem Try.cellsInt:Try.prog.cellsOf 3 = 1:=by kernel_rfl
theorem Try.cellsU:Try.prog.cellsOf 23 = 1:=by kernel_rfl
theorem Try.cellsC:Try.prog.cellsOf 91 = 2:=by kernel_rfl
theorem Try.bytesC:Try.prog.bytesOf 91 = 16:=by kernel_rfl
theorem Try.cellsCs:Try.prog.cellsOf 24 = 1:=by kernel_rfl
theorem Try.cellsL:Try.prog.cellsOf 26 = 2:=by kernel_rfl

theorem list2 {l:List Value} (h:l.length = 2):∃ a b,l = [a,b]:=by
 match l,h with
 | [a,b],_=>exact ⟨a,b,rfl⟩

/-- A category's cells. -/
theorem open_cat0 {H:Type} {enc:TypeId × Value→H} {W:World} {fuel:Nat} {b0 b1:Value} {x:DataW H × List MemPlace}
  (h2:DataW.trod enc Try.prog W 0 (fun _=>true) true fuel 91 [b0,b1] = some x):∃ c:Cat,b0 = .int .u64 c.1∧b1 = .int .i64 c.2:=by
 obtain ⟨xs,k,hk,hxy,_,hxl,hf⟩:=DataW.trod_struct Try.underlying91 h2
 obtain ⟨y0,y1,rfl⟩:∃ y0 y1,xs = [y0,y1]:=by
  match xs,hxl with
  | [y0,y1],_=>exact ⟨y0,y1,rfl⟩
 have g0:DataW.trod enc Try.prog W 0 (fun _=>true) true k 23 (([b0,b1].drop 0).take (Try.prog.cellsOf 23)) = some y0:=hf 0 _ rfl
 have g1:DataW.trod enc Try.prog W 0 (fun _=>true) true k 3 (([b0,b1].drop 1).take (Try.prog.cellsOf 3)) = some y1:=hf 1 _ rfl
 rw [Try.cellsU] at g0
 rw [Try.cellsInt] at g1
 obtain ⟨z0,e0,_,wf0⟩:=DataW.trod_int Try.underlying23 g0
 obtain ⟨z1,e1,_,wf1⟩:=DataW.trod_int Try.underlying3 g1
 exact ⟨(z0,z1),(List.cons.inj (show [b0] = [Value.int .u64 z0] from e0)).1,(List.cons.inj (show [b1] = [Value.int .i64 z1] from e1)).1⟩

/-- Categories that came in. -/
theorem open_cats {H:Type} {enc:TypeId × Value→H} {W:World} {fuel:Nat} {v:Value} {d:DataW H} {p:List MemPlace}
  (h:DataW.trod enc Try.prog W 0 (fun _=>true) true fuel 24 [v] = some (d,p)) (hw:∀ n ∈ d.weights Try.prog 24,n ≤ reachBytes) :
  ∃ xs:List Cat,CSl (fun b=>b < W.heap.size) W v xs∧xs.length ≤ 8796093021952∧xs.length + 1 ≤ Rows.uptoBulk d:=by
 rcases open_slice Try.underlying24 h with ⟨hcs,hd⟩ | ⟨a,len,cap,m,n,D,Pl,hcs,_,hl,hm,hmm,hx,hall⟩
 ·simp only [List.cons.injEq,and_true] at hcs
  subst hcs
  exact ⟨[],csl_nil _ _,by simp,by have:=bulk_one d;simp;omega⟩
 ·simp only [List.cons.injEq,and_true] at hcs
  subst hcs
  simp only [if_true] at hmm
  subst hmm
  simp only [Prod.mk.injEq] at hx
  obtain ⟨rfl,_⟩:=hx
  have hwl:=hw ((((List.range len).map D).length + ((List.range (m - len)).map fun j=>D (len + j)).length) * 16) (by simp [DataW.weights,Try.underlying24,Try.bytesC])
  have each:∀ i,i < len→∃ c:Cat,W.cell? (a.add (i * 2)) = some (.int .u64 c.1)∧W.cell? ((a.add (i * 2)).add 1) = some (.int .i64 c.2):=by
   intro i hi
   obtain ⟨cs',h1,h2⟩:=hall i (by omega)
   rw [Try.cellsC] at h1
   obtain ⟨_,hlen,hcell⟩:=World.cells?_some h1
   obtain ⟨b0,b1,rfl⟩:=list2 hlen
   obtain ⟨c,rfl,rfl⟩:=open_cat0 h2
   have h0:=hcell 0 (by omega)
   have e:(a.add (i * 2)).add 0 = a.add (i * 2):=by simp [Addr.add]
   rw [e] at h0
   exact ⟨c,h0,hcell 1 (by omega)⟩
  haveI:Inhabited Cat:=⟨(0,0)⟩
  obtain ⟨F,hF⟩:=choose_lt each
  refine ⟨(List.range len).map F,?_,?_,?_⟩
  ·have hpos:0 < len→a = ⟨a.block,a.off,none⟩:=fun h0=>by
    have h1:=(hF 0 h0).1
    have e:a.add (0 * 2) = a:=by simp [Addr.add]
    rw [e] at h1
    exact plain_of_cell h1
   refine ⟨some a,m,by simp,⟨by simpa using hl,hm⟩,fun h=>by simp at h,fun i c hi=>?_⟩
   have hil:i < len * 2:=by
    have:=(List.getElem?_eq_some_iff.1 hi).1
    rw [ccells_length] at this
    simpa using this
   have ha:=hpos (by omega)
   obtain ⟨h1,h2⟩:=hF (i / 2) (by omega)
   rw [ha,add_plain] at h1 h2
   rw [add_plain] at h2
   have hlt:=World.block_lt_of_cell? W _ h1
   have hli:i / 2 < ((List.range len).map F).length:=by simp;omega
   obtain ⟨g1,g2⟩:=ccells_get ((List.range len).map F) (i / 2) hli
   rw [show ((List.range len).map F)[i / 2] = F (i / 2) by simp] at g1 g2
   refine ⟨a.block,a.off,by rw [← ha],hlt,?_⟩
   rcases Nat.mod_two_eq_zero_or_one i with hm2 | hm2
   ·have e:i = i / 2 * 2:=by omega
    have hi':(ccells ((List.range len).map F))[i / 2 * 2]? = some c:=by rw [← e];exact hi
    rw [g1] at hi'
    rw [show a.off + i = a.off + i / 2 * 2 by omega,h1,← hi']
   ·have e:i = i / 2 * 2 + 1:=by omega
    have hi':(ccells ((List.range len).map F))[i / 2 * 2 + 1]? = some c:=by rw [← e];exact hi
    rw [g2] at hi'
    rw [show a.off + i = a.off + i / 2 * 2 + 1 by omega,h2,← hi']
  ·simp only [List.length_map,List.length_range] at hwl ⊢
   unfold reachBytes at hwl
   omega
  ·simp only [Rows.uptoBulk,List.length_map,List.length_range]
   have:=bulk_length ((List.range len).map D)
   simp at this
   omega

end Go.Proofs.Ytgmfofngmfekbaa
