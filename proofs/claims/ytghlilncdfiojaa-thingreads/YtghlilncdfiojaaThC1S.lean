/-
  slices.Clone of categories, of links and of bytes: a row of one's own.
-/
import Derived.Test.YtghlilncdfiojaaThW3S
import Derived.Test.YtghlilncdfiojaaLabS
namespace Go.Proofs.Ytghlilncdfiojaa
set_option linter.unusedVariables false
set_option linter.unusedSimpArgs false
set_option maxRecDepth 20000
open Go.RowKit

theorem slp_mono {X X':Nat→Prop} {w:World} {v:Value} {n:Nat} {cs:List Value} (h:Slp X w v n cs) (hX:∀ b,X b→X' b):Slp X' w v n cs:=by
 obtain ⟨ao,cap,hv,hc,hn,hcs⟩:=h
 refine ⟨ao,cap,hv,hc,hn,fun i c hi=>?_⟩
 obtain ⟨b,off,h1,h2,h3⟩:=hcs i c hi
 exact ⟨b,off,h1,hX b h2,h3⟩
theorem csl_of_own {w:World} {base e:Nat} {v:Value} {ls:List Cat} (h:w.ownsRow base e 2 v ls.length (ccells ls)):CSl (fun b=>base ≤ b) w v ls:=slp_mono (slp_of_owns h) (owns_ge h)
theorem bsl_of_own {w:World} {base e:Nat} {v:Value} {bs:List UInt8} (h:w.ownsRow base e 1 v bs.length (bs.map bv)):BSl (fun b=>base ≤ b) w v bs:=slp_mono (slp_of_owns h) (owns_ge h)
theorem owns_nw {W w1:World} {base e size n:Nat} {v:Value} {xs:List Value} (h:W.ownsRow base e size v n xs) (hb:Nw W w1):w1.ownsRow base e size v n xs:=owns_of_block h (fun k hk=>hb.block k (h.lt k hk).2 (fun h=>h))

theorem owns_fr {S:Nat→Prop} {W w1:World} {base e size n:Nat} {v:Value} {xs:List Value} (h:W.ownsRow base e size v n xs) (hb:Fr S W w1) (hS:∀ k,S k→k < base):w1.ownsRow base e size v n xs:=owns_of_block h (fun k hk=>hb.block k (h.lt k hk).2 (fun hs=>by have:=hS k hs;have:=(h.lt k hk).1;omega))
theorem owns_mono {w:World} {base base' e size n:Nat} {v:Value} {xs:List Value} (h:w.ownsRow base e size v n xs) (hb:base' ≤ base):w.ownsRow base' e size v n xs:=by
 refine ⟨h.1,?_⟩
 rcases h.2 with h2 | ⟨g,cap,cur,h1,h2,r⟩
 ·exact .inl h2
 ·exact .inr ⟨g,cap,cur,h1,Nat.le_trans hb h2,r⟩

/-- A copy: each list in a row of its own. -/
structure CopT (base:Nat) (w:World) (t:Th) (u1 u2 u3 u4:Value):Prop where
 l:w.ownsRow base 52 2 u1 t.cats.length (ccells t.cats)
 c:w.ownsRow base 52 2 u2 t.ccats.length (ccells t.ccats)
 k:w.ownsRow base 50 2 u3 t.links.length (ccells t.links)
 d:w.ownsRow base 5 1 u4 t.data.length (t.data.map bv)

theorem CopT.fr {S:Nat→Prop} {base:Nat} {w w':World} {t:Th} {u1 u2 u3 u4:Value} (h:CopT base w t u1 u2 u3 u4) (hb:Fr S w w') (hS:∀ k,S k→k < base):CopT base w' t u1 u2 u3 u4:=⟨owns_fr h.l hb hS,owns_fr h.c hb hS,owns_fr h.k hb hS,owns_fr h.d hb hS⟩
theorem CopT.mono {base base':Nat} {w:World} {t:Th} {u1 u2 u3 u4:Value} (h:CopT base w t u1 u2 u3 u4) (hb:base' ≤ base):CopT base' w t u1 u2 u3 u4:=⟨owns_mono h.l hb,owns_mono h.c hb,owns_mono h.k hb,owns_mono h.d hb⟩
theorem CopT.at {base:Nat} {w:World} {t:Th} {u1 u2 u3 u4:Value} (h:CopT base w t u1 u2 u3 u4):ThAt (fun b=>base ≤ b) w t u1 u2 u3 u4:=⟨csl_of_own h.l,csl_of_own h.c,csl_of_own h.k,bsl_of_own h.d⟩

end Go.Proofs.Ytghlilncdfiojaa
