/-
  GrQ3, GrQ4: in one text.
-/
import Derived.Test.YtgmfofngmfekbaaGrGqS
import Derived.Test.YtgmfofngmfekbaaGrOpenS
import Derived.Test.YtgmfofngmfekbaaGrGiS
import Derived.Test.YtgmfofngmfekbaaGrGgS
namespace Go.Proofs.Ytgmfofngmfekbaa
set_option linter.unusedVariables false
set_option linter.unusedSimpArgs false
set_option maxRecDepth 20000
open Go.RowKit

/-- The thing of an ID, or the zero thing. -/
def fT (xs:List TC) (id:Int):Th:=((findX xs id).map (·.t)).getD zeroT
theorem gfind_one {xs:List TC} {id:Int} {w w':World} {e:Ending} (h:GFindP xs id w e w'):∃ l c k d,e = .returned (.tuple #[thV (fT xs id) l c k d,.bool (foundX xs id)])∧ThAt (fun b=>w.heap.size ≤ b) w' (fT xs id) l c k d∧Nw w w':=by
 obtain ⟨n,h2⟩:=h
 unfold fT foundX
 rcases h2 with ⟨x,y,h1,h3,h4,h5⟩ | ⟨h1,h4⟩
 ·rw [h1]
  obtain ⟨t,l,c,k,d⟩:=y
  have e3:t = x.t:=h3
  subst e3
  exact ⟨l,c,k,d,h4,h5,n⟩
 ·rw [h1]
  exact ⟨_,_,_,_,h4,⟨csl_nil _ _,csl_nil _ _,csl_nil _ _,bsl_nil _ _⟩,n⟩
theorem rfind_one {xs:List TC} {id:Int} {Y:Nat→Prop} {w w':World} {e:Ending} (h:FindP xs id Y w e w'):∃ l c k d,e = .returned (.tuple #[thV (fT xs id) l c k d,.bool (foundX xs id)])∧ThAt Y w' (fT xs id) l c k d∧Nw w w':=by
 obtain ⟨n,h2⟩:=h
 unfold fT foundX
 rcases h2 with ⟨x,h1,h4,h5⟩ | ⟨h1,h4⟩
 ·rw [h1]
  obtain ⟨t,l,c,k,d⟩:=x
  exact ⟨l,c,k,d,h4,h5,n⟩
 ·rw [h1]
  exact ⟨_,_,_,_,h4,⟨csl_nil _ _,csl_nil _ _,csl_nil _ _,bsl_nil _ _⟩,n⟩
theorem same_fT {a b:List TC} (h:a.map (·.t) = b.map (·.t)) (id:Int):fT a id = fT b id:=by
 unfold fT
 rw [same_find h]
theorem put_len {xs:List TC} (h:PwX xs) (t:TC):(putX xs t).length ≤ xs.length + 1:=by
 rw [put_pos h]
 split
 ·rw [List.length_set];omega
 ·rw [List.length_append,List.length_cons,List.length_take,List.length_drop];omega
theorem put_all {P:Th→Prop} {xs:List TC} (h:PwX xs) {t:TC} (hx:∀ x ∈ xs,P x.t) (ht:P t.t):∀ x ∈ putX xs t,P x.t:=fun x hm=>by
 rcases (put_mem h t x).1 hm with rfl | ⟨h1,_⟩
 ·exact ht
 ·exact hx x h1
/-- What is put is found, all else stays. -/
theorem put_told {xs zs:List TC} (h:PwX xs) {t:Th} {l c k d:Value} (hz:zs.map (·.t) = (putX xs ⟨t,l,c,k,d⟩).map (·.t)) :
  PwX zs∧zs.length ≤ xs.length + 1∧foundX zs t.id = true∧fT zs t.id = t∧(∀ id,id ≠ t.id→foundX zs id = foundX xs id∧fT zs id = fT xs id):=by
 have hf:=put_find h ⟨t,l,c,k,d⟩
 refine ⟨same_pw hz (put_pw h _),by rw [same_len hz];exact put_len h _,?_,?_,fun id hid=>?_⟩
 ·rw [same_found hz]
  unfold foundX
  rw [show t.id = (⟨t,l,c,k,d⟩:TC).t.id from rfl,hf]
  rfl
 ·rw [same_fT hz]
  unfold fT
  rw [show t.id = (⟨t,l,c,k,d⟩:TC).t.id from rfl,hf]
  rfl
 ·have ho:=put_other h ⟨t,l,c,k,d⟩ (id:=id) hid
  rw [same_found hz,same_fT hz]
  unfold foundX fT
  rw [ho]
  exact ⟨rfl,rfl⟩
end Go.Proofs.Ytgmfofngmfekbaa

namespace Go.Proofs.Ytgmfofngmfekbaa
set_option linter.unusedVariables false
set_option linter.unusedSimpArgs false
set_option maxRecDepth 20000
open Go.RowKit

theorem USl.all {X:Nat→Prop} {w:World} {v:Value} {xs:List Int} (h:USl X w v xs):USl (fun _=>True) w v xs:=by
 obtain ⟨ao,cap,hv,hc,hn,hcs⟩:=h
 refine ⟨ao,cap,hv,hc,hn,fun i c hi=>?_⟩
 obtain ⟨b,off,h1,_,h3⟩:=hcs i c hi
 exact ⟨b,off,h1,trivial,h3⟩
structure KeepsP (xs zs:List TC) (hold:Int) (ids:List Int):Prop where
 len:zs.length + ids.length = xs.length
 gone:∀ x ∈ ids,foundX zs x = false∧refsX zs x = 0
 was:∀ z ∈ zs,foundX xs z.t.id = true∧(z.t.id ≠ hold→z.t = fT xs z.t.id)∧(z.t.id = hold→z.t.links.length + 1 = (fT xs z.t.id).links.length)
 held:∀ z ∈ zs,∀ l ∈ z.t.links,foundX zs l.1 = true
theorem keeps_same {xs zs now:List TC} {hold:Int} {ids:List Int} (h:zs.map (·.t) = now.map (·.t)) (hk:KeepsP xs now hold ids):KeepsP xs zs hold ids where
 len:=by rw [same_len h];exact hk.len
 gone:=fun x hx=>by rw [same_found h,same_refs h];exact hk.gone x hx
 was:=same_mem (P:=fun t=>foundX xs t.id = true∧(t.id ≠ hold→t = fT xs t.id)∧(t.id = hold→t.links.length + 1 = (fT xs t.id).links.length)) h hk.was
 held:=same_mem (P:=fun t=>∀ l ∈ t.links,foundX zs l.1 = true) h (fun z hz l hl=>by rw [same_found h];exact hk.held z hz l hl)
theorem sound_held {xs:List TC} (h:SoundX xs):∀ z ∈ xs,∀ l ∈ z.t.links,foundX xs l.1 = true:=fun z hz l hl=>by
 obtain ⟨i,hi,rfl⟩:=List.getElem_of_mem hz
 have h1:=(h.each i hi).fits l hl
 unfold fitsX at h1
 unfold foundX
 cases hf:findX xs l.1 with
 | none=>rw [hf] at h1;exact absurd h1 (by simp)
 | some u=>rfl
theorem un_keeps {xs:List TC} (h:SoundX xs) {hold id:Int} (he:(unX xs hold id).2.2 = 0):KeepsP xs (unX xs hold id).1 hold (unX xs hold id).2.1:=by
 have hs:=un_sound h hold id
 have hp:=rise_pw h.rise
 cases hf:findX xs hold with
 | none=>unfold unX at he;rw [hf] at he;exact absurd he (show ¬ (131:Int) = 0 by decide)
 | some d =>
  by_cases hk:d.t.kind = 1
  ·by_cases hh:hasB d.t.links id = true
   ·obtain ⟨t,ht⟩:∃ t:TC,t = { d with t:={ d.t with links:=rmL d.t.links id } }:=⟨_,rfl⟩
    have htt:t.t = { d.t with links:=rmL d.t.links id }:=by rw [ht]
    have e0:unX xs hold id = (downX (putX xs t),goneX xs (downX (putX xs t)),0):=by
     rw [ht]
     unfold unX
     simp only [hf,if_pos hk,if_pos hh]
    rw [e0] at hs ⊢
    obtain ⟨hd,hde⟩:=find_mem hf
    have hput:=un_put hp hd (t:=t) (by rw [htt])
    have hless:LessX (unF d.t t):=un_less htt
    obtain ⟨a,hL⟩:=left_of h hless
    have e1:downX (putX xs t) = downU (xs.map (unF d.t t)).length (xs.map (unF d.t t)):=by unfold downX;rw [hput]
    rw [e1] at hs ⊢
    have hdr:=sound_right h d hd
    refine ⟨gone_len hless.keep hp hL.sub,fun x hx=>?_,fun z hz=>?_,sound_held hs⟩
    ·obtain ⟨h1,h2⟩:=gone_free hL hx
     exact ⟨by unfold foundX;rw [h1];rfl,h2⟩
    ·obtain ⟨x,h1,h2,h3⟩:=left_was hp hd (right_dir hdr hk).lk hh htt hL.sub z hz
     rw [← hde]
     unfold foundX fT
     rw [h1]
     exact ⟨rfl,h2,h3⟩
   ·unfold unX at he;rw [hf] at he;simp only [if_pos hk,if_neg hh] at he;exact absurd he (show ¬ (124:Int) = 0 by decide)
  ·unfold unX at he;rw [hf] at he;simp only [if_neg hk] at he;exact absurd he (show ¬ (131:Int) = 0 by decide)
theorem un_not {xs:List TC} {hold id:Int} (he:(unX xs hold id).2.2 ≠ 0):(unX xs hold id).1 = xs∧(unX xs hold id).2.1 = []:=by
 cases hf:findX xs hold with
 | none=>unfold unX;rw [hf];exact ⟨rfl,rfl⟩
 | some d =>
  by_cases hk:d.t.kind = 1
  ·by_cases hh:hasB d.t.links id = true
   ·exfalso
    apply he
    unfold unX
    simp only [hf,if_pos hk,if_pos hh]
   ·unfold unX;simp only [hf,if_pos hk,if_neg hh];exact ⟨trivial,trivial⟩
  ·unfold unX;simp only [hf,if_neg hk];exact ⟨trivial,trivial⟩
end Go.Proofs.Ytgmfofngmfekbaa
