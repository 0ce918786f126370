/-
  Read: labelOf.
-/
import Derived.Test.YtghlilncdfiojaaThK4S
namespace Go.Proofs.Ytghlilncdfiojaa
set_option linter.unusedVariables false
set_option linter.unusedSimpArgs false
set_option maxRecDepth 20000
open Go.RowKit Go.Shelf

attribute [local go_sem] Oper.semAt_some

/-- Unpack at a label's bytes, where they are none. -/
theorem c_unpLabN {K:Nat} {v:Value} {bs:List UInt8} (sh:ByteArray) (hsh:sh.data.toList = 49 :: repS 56 49 (bs.length / 9)) (h63:bs.length ≤ 1000000)
  (hu:unpack (49 :: repS 56 49 (bs.length / 9)) bs = none) (w:World) (hx:Sl K w v bs.length (bs.map bv)) (hK:K ≤ w.heap.size) :
  Calls Try.prog 75 #[.string sh,v] w fun e w'=>e = .returned (.tuple #[.slice none 0 0,.int .i64 21])∧Below w.heap.size w w':=by
 have hs:sh.size ≤ maxLen:=by
  have e:=ba_len sh
  rw [hsh,List.length_cons,repS_len] at e
  unfold maxLen
  omega
 refine (c_unpack sh K v bs w hs hx hK).mono ?_
 rintro e w' ⟨hb,⟨fs,v2,h1,rfl,h2⟩ | ⟨h1,rfl⟩⟩
 ·rw [hsh,hu] at h1
  cases h1
 ·exact ⟨rfl,hb⟩

theorem c_unpLabS {K:Nat} {v:Value} {bs:List UInt8} {d:Int} {xs:List Cat} (sh:ByteArray) (hsh:sh.data.toList = 49 :: repS 56 49 (bs.length / 9)) (h63:bs.length ≤ 1000000) (hd:0 ≤ d) (hf:FitsB 1 xs) (hl:xs.length ≤ 100)
  (hu:unpack (49 :: repS 56 49 (bs.length / 9)) bs = some (nF d :: prF xs)) (w:World) (hx:Sl K w v bs.length (bs.map bv)) (hK:K ≤ w.heap.size) :
  Calls Try.prog 75 #[.string sh,v] w fun e w'=>∃ b off cap,e = .returned (.tuple #[.slice (some ⟨b,off,none⟩) (1 + 2 * xs.length) cap,.int .i64 0])∧1 + 2 * xs.length ≤ cap∧b < w'.heap.size∧w'.cell? ⟨b,off,none⟩ = some (.int .u64 d)∧PrM w' b (off + 2) xs∧Below w.heap.size w w':=by
 have hs:sh.size ≤ maxLen:=by
  have e:=ba_len sh
  rw [hsh,List.length_cons,repS_len] at e
  unfold maxLen
  omega
 refine (c_unpack sh K v bs w hs hx hK).mono ?_
 rintro e w' ⟨hb,⟨fs,v2,h1,rfl,h2⟩ | ⟨h1,rfl⟩⟩
 ·rw [hsh,hu] at h1
  cases h1
  obtain ⟨b,off,cap,rfl,h3,h4,h5,h6⟩:=prs_tail hd hf h2 (by omega)
  exact ⟨b,off,cap,rfl,h3,h4,h5,h6,hb⟩
 ·rw [hsh,hu] at h1
  cases h1

theorem Try.infoLabF:(Try.prog.info? 52).map (fun i=>(i.zero,i.size,i.bytes)) = some (some (.agg #[.int .u64 0,.int .i64 0]),2,16):=by kernel_rfl

/-- A label's variable: its default and a slice. -/
def LBox (W:World) (B:Nat) (d:Int) (u:Value):Prop:=W.heap[B]? = some (.cells #[.int .i64 d,u] 26 (0,0))
theorem LBox.kept {W W':World} {row:Option Nat} {B:Nat} {d:Int} {u:Value} (h:LBox W B d u) (hg:W.grownBy W' row) (hne:some B ≠ row):LBox W' B d u:=(hg.block B (heap_lt h) hne).trans h
theorem LBox.not_row {W:World} {B:Nat} {d:Int} {u:Value} (h:LBox W B d u) {base size k:Nat} {v:Value} {xs:List Value} (hr:W.ownsRow base 52 size v k xs):some B ≠ v.ownBlock:=by
 rcases hr.2 with ⟨rfl,_⟩ | ⟨g,cap,cur,rfl,_,hgb,_⟩
 ·simp [Value.ownBlock]
 ·intro e'
  obtain rfl:B = g:=by simpa [Value.ownBlock] using e'
  have:=(show W.heap[B]? = _ from h).symm.trans hgb
  simp at this
theorem lholds_own {β:Type} (n₀ B:Nat) (d:Int) (k:β→Nat) (f:β→List Value):Own (fun s W=>∃ u,LBox W B d u∧W.ownsRow n₀ 52 2 u (k s) (f s)):=by
 rintro s X Y row ⟨v,hv,hr⟩ hg hrow
 refine ⟨v,hv.kept hg (fun e'=>?_),hr.kept hg ?_⟩
 ·obtain ⟨o,ho,hc⟩:=hrow B e'.symm
  rw [show X.heap[B]? = _ from hv] at ho;cases ho;cases hc
 ·rcases hr.2 with ⟨rfl,_⟩ | ⟨g,cap,cur,rfl,_,hgb,_⟩
  ·exact .inl rfl
  ·refine .inr fun e'=>?_
   obtain ⟨o,ho,hc⟩:=hrow g (by simpa [Value.ownBlock] using e'.symm)
   rw [hgb] at ho;cases ho;cases hc
theorem appendedL {W w1:World} {N B:Nat} {d:Int} {v v':Value} {k m:Nat} {xs ys:List Value} {tmp:Obj}
  (hv:LBox W B d v) (hrow:W.ownsRow N 52 2 v k xs) (hO:B < N) (hN:N ≤ W.heap.size)
  (hown':w1.ownsRow N 52 2 v' m ys) (hgrow:(W.alloc tmp).grownBy w1 v.ownBlock) :
  LBox w1 B d v∧LBox (w1.setCell ⟨B,1,none⟩ v') B d v'∧(w1.setCell ⟨B,1,none⟩ v').ownsRow N 52 2 v' m ys∧KeepsOthers W (w1.setCell ⟨B,1,none⟩ v')∧Kx N B W (w1.setCell ⟨B,1,none⟩ v'):=by
 have hv0:LBox (W.alloc tmp) B d v:=hv.kept (World.grownBy_alloc W tmp none) (by simp)
 have a1:LBox w1 B d v:=hv0.kept hgrow (hv.not_row hrow)
 have hgs:w1.grownBy (w1.setCell ⟨B,1,none⟩ v') (some B):=⟨rfl,rfl,rfl,(KeepsWalks.setCell w1 _ v').size,fun k _ hk=>Below.heap_setCell _ _ _ k (fun e=>hk (by rw [e]))⟩
 refine ⟨a1,blk_setCell a1,hown'.kept hgs (.inr (a1.not_row hown').symm),?_,?_⟩
 ·refine ((KeepsOthers.alloc W tmp).trans (KeepsOthers.of_grownBy hgrow fun j o ej hj=>?_)).trans (KeepsOthers.setCell _ _ _)
  rcases (hrow.alloc tmp).2 with ⟨rfl,_⟩ | ⟨g,cap,cur,rfl,_,hgb,_⟩
  ·simp [Value.ownBlock] at ej
  ·obtain rfl:g = j:=by simpa [Value.ownBlock] using ej
   rw [hgb] at hj;cases hj;rfl
 ·have k1:Kx N B W (W.alloc tmp):=Kx.of_grown hO (World.grownBy_alloc W tmp none) hN (fun r e=>by cases e)
  have k2:Kx N B (W.alloc tmp) w1:=Kx.of_grown hO hgrow (Nat.le_trans hN k1.1.size) (fun r ej=>by
   rcases hrow.2 with ⟨rfl,_⟩ | ⟨g,cap,cur,rfl,hb,_,_⟩
   ·simp [Value.ownBlock] at ej
   ·obtain rfl:g = r:=by simpa [Value.ownBlock] using ej
    exact hb)
  exact (k1.trans k2).trans ⟨(Below.refl B w1).setCell (p:=⟨B,1,none⟩) (Nat.le_refl _) v',fun b hb hne=>hgs.block b (by have:=k1.1.size;have:=k2.1.size;omega) (fun e=>hne (Option.some.inj e))⟩
end Go.Proofs.Ytghlilncdfiojaa
