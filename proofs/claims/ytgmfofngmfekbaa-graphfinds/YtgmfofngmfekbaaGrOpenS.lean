/-
  Arguments opened: a slice of things that came in.
-/
import Derived.Test.YtgmfofngmfekbaaGrGeS
namespace Go.Proofs.Ytgmfofngmfekbaa
set_option linter.unusedVariables false
set_option linter.unusedSimpArgs false
set_option maxRecDepth 20000
open Go.RowKit Go.ChangeShapes Go.WideShapes Go.Deep

/-- What a thing that came in keeps. -/
structure TIn (t:Th):Prop where
 ok:TOk t
 len:TLen t

theorem Try.bytesT:Try.prog.bytesOf 34 = 272:=by kernel_rfl

set_option maxHeartbeats 1600000 in
theorem open_tcells {H:Type} {enc:TypeId × Value→H} {W:World} {fuel:Nat} {cs:List Value} {d:DataW H} {p:List MemPlace} (h:DataW.trod enc Try.prog W 0 (fun _=>true) true fuel 34 cs = some (d,p)) (hl:cs.length = 26)
  (hw:∀ n ∈ d.weights Try.prog 34,n ≤ reachBytes):∃ x:TC,cs = tcC x∧x.At (fun b=>b < W.heap.size) W∧TIn x.t:=by
 obtain ⟨b0,b1,b2,b3,b4,b5,b6,b7,b8,b9,b10,b11,b12,b13,b14,b15,b16,b17,b18,b19,b20,b21,b22,b23,b24,b25,rfl⟩:=list26 hl
 obtain ⟨xs,k,hk,hxy,_,hxl,hf⟩:=DataW.trod_struct Try.underlying34 h
 obtain ⟨y0,y1,y2,y3,y4,y5,y6,y7,y8,y9,y10,y11,y12,y13,rfl⟩:∃ y0 y1 y2 y3 y4 y5 y6 y7 y8 y9 y10 y11 y12 y13,xs = [y0,y1,y2,y3,y4,y5,y6,y7,y8,y9,y10,y11,y12,y13]:=by
  match xs,hxl with
  | [y0,y1,y2,y3,y4,y5,y6,y7,y8,y9,y10,y11,y12,y13],_=>exact ⟨y0,y1,y2,y3,y4,y5,y6,y7,y8,y9,y10,y11,y12,y13,rfl⟩
 have g0:DataW.trod enc Try.prog W 0 (fun _=>true) true k 23 (([b0,b1,b2,b3,b4,b5,b6,b7,b8,b9,b10,b11,b12,b13,b14,b15,b16,b17,b18,b19,b20,b21,b22,b23,b24,b25].drop 0).take (Try.prog.cellsOf 23)) = some y0:=hf 0 _ rfl
 rw [Try.cellsU] at g0
 have g0:DataW.trod enc Try.prog W 0 (fun _=>true) true k 23 [b0] = some (y0.1,y0.2):=g0
 have g1:DataW.trod enc Try.prog W 0 (fun _=>true) true k 3 (([b0,b1,b2,b3,b4,b5,b6,b7,b8,b9,b10,b11,b12,b13,b14,b15,b16,b17,b18,b19,b20,b21,b22,b23,b24,b25].drop 1).take (Try.prog.cellsOf 3)) = some y1:=hf 1 _ rfl
 rw [Try.cellsInt] at g1
 have g1:DataW.trod enc Try.prog W 0 (fun _=>true) true k 3 [b1] = some (y1.1,y1.2):=g1
 have g2:DataW.trod enc Try.prog W 0 (fun _=>true) true k 26 (([b0,b1,b2,b3,b4,b5,b6,b7,b8,b9,b10,b11,b12,b13,b14,b15,b16,b17,b18,b19,b20,b21,b22,b23,b24,b25].drop 2).take (Try.prog.cellsOf 26)) = some y2:=hf 2 _ rfl
 rw [Try.cellsL] at g2
 have g2:DataW.trod enc Try.prog W 0 (fun _=>true) true k 26 [b2,b3] = some (y2.1,y2.2):=g2
 have g3:DataW.trod enc Try.prog W 0 (fun _=>true) true k 26 (([b0,b1,b2,b3,b4,b5,b6,b7,b8,b9,b10,b11,b12,b13,b14,b15,b16,b17,b18,b19,b20,b21,b22,b23,b24,b25].drop 4).take (Try.prog.cellsOf 26)) = some y3:=hf 3 _ rfl
 rw [Try.cellsL] at g3
 have g3:DataW.trod enc Try.prog W 0 (fun _=>true) true k 26 [b4,b5] = some (y3.1,y3.2):=g3
 have g4:DataW.trod enc Try.prog W 0 (fun _=>true) true k 3 (([b0,b1,b2,b3,b4,b5,b6,b7,b8,b9,b10,b11,b12,b13,b14,b15,b16,b17,b18,b19,b20,b21,b22,b23,b24,b25].drop 6).take (Try.prog.cellsOf 3)) = some y4:=hf 4 _ rfl
 rw [Try.cellsInt] at g4
 have g4:DataW.trod enc Try.prog W 0 (fun _=>true) true k 3 [b6] = some (y4.1,y4.2):=g4
 have g5:DataW.trod enc Try.prog W 0 (fun _=>true) true k 3 (([b0,b1,b2,b3,b4,b5,b6,b7,b8,b9,b10,b11,b12,b13,b14,b15,b16,b17,b18,b19,b20,b21,b22,b23,b24,b25].drop 7).take (Try.prog.cellsOf 3)) = some y5:=hf 5 _ rfl
 rw [Try.cellsInt] at g5
 have g5:DataW.trod enc Try.prog W 0 (fun _=>true) true k 3 [b7] = some (y5.1,y5.2):=g5
 have g6:DataW.trod enc Try.prog W 0 (fun _=>true) true k 27 (([b0,b1,b2,b3,b4,b5,b6,b7,b8,b9,b10,b11,b12,b13,b14,b15,b16,b17,b18,b19,b20,b21,b22,b23,b24,b25].drop 8).take (Try.prog.cellsOf 27)) = some y6:=hf 6 _ rfl
 rw [Try.cellsKs] at g6
 have g6:DataW.trod enc Try.prog W 0 (fun _=>true) true k 27 [b8] = some (y6.1,y6.2):=g6
 have g7:DataW.trod enc Try.prog W 0 (fun _=>true) true k 28 (([b0,b1,b2,b3,b4,b5,b6,b7,b8,b9,b10,b11,b12,b13,b14,b15,b16,b17,b18,b19,b20,b21,b22,b23,b24,b25].drop 9).take (Try.prog.cellsOf 28)) = some y7:=hf 7 _ rfl
 rw [Try.cellsBs] at g7
 have g7:DataW.trod enc Try.prog W 0 (fun _=>true) true k 28 [b9] = some (y7.1,y7.2):=g7
 have g8:DataW.trod enc Try.prog W 0 (fun _=>true) true k 29 (([b0,b1,b2,b3,b4,b5,b6,b7,b8,b9,b10,b11,b12,b13,b14,b15,b16,b17,b18,b19,b20,b21,b22,b23,b24,b25].drop 10).take (Try.prog.cellsOf 29)) = some y8:=hf 8 _ rfl
 rw [Try.cellsR4] at g8
 have g8:DataW.trod enc Try.prog W 0 (fun _=>true) true k 29 [b10,b11,b12,b13] = some (y8.1,y8.2):=g8
 have g9:DataW.trod enc Try.prog W 0 (fun _=>true) true k 3 (([b0,b1,b2,b3,b4,b5,b6,b7,b8,b9,b10,b11,b12,b13,b14,b15,b16,b17,b18,b19,b20,b21,b22,b23,b24,b25].drop 14).take (Try.prog.cellsOf 3)) = some y9:=hf 9 _ rfl
 rw [Try.cellsInt] at g9
 have g9:DataW.trod enc Try.prog W 0 (fun _=>true) true k 3 [b14] = some (y9.1,y9.2):=g9
 have g10:DataW.trod enc Try.prog W 0 (fun _=>true) true k 3 (([b0,b1,b2,b3,b4,b5,b6,b7,b8,b9,b10,b11,b12,b13,b14,b15,b16,b17,b18,b19,b20,b21,b22,b23,b24,b25].drop 15).take (Try.prog.cellsOf 3)) = some y10:=hf 10 _ rfl
 rw [Try.cellsInt] at g10
 have g10:DataW.trod enc Try.prog W 0 (fun _=>true) true k 3 [b15] = some (y10.1,y10.2):=g10
 have g11:DataW.trod enc Try.prog W 0 (fun _=>true) true k 4 (([b0,b1,b2,b3,b4,b5,b6,b7,b8,b9,b10,b11,b12,b13,b14,b15,b16,b17,b18,b19,b20,b21,b22,b23,b24,b25].drop 16).take (Try.prog.cellsOf 4)) = some y11:=hf 11 _ rfl
 rw [Try.cellsBo] at g11
 have g11:DataW.trod enc Try.prog W 0 (fun _=>true) true k 4 [b16] = some (y11.1,y11.2):=g11
 have g12:DataW.trod enc Try.prog W 0 (fun _=>true) true k 23 (([b0,b1,b2,b3,b4,b5,b6,b7,b8,b9,b10,b11,b12,b13,b14,b15,b16,b17,b18,b19,b20,b21,b22,b23,b24,b25].drop 17).take (Try.prog.cellsOf 23)) = some y12:=hf 12 _ rfl
 rw [Try.cellsU] at g12
 have g12:DataW.trod enc Try.prog W 0 (fun _=>true) true k 23 [b17] = some (y12.1,y12.2):=g12
 have g13:DataW.trod enc Try.prog W 0 (fun _=>true) true k 32 (([b0,b1,b2,b3,b4,b5,b6,b7,b8,b9,b10,b11,b12,b13,b14,b15,b16,b17,b18,b19,b20,b21,b22,b23,b24,b25].drop 18).take (Try.prog.cellsOf 32)) = some y13:=hf 13 _ rfl
 rw [Try.cellsS4] at g13
 have g13:DataW.trod enc Try.prog W 0 (fun _=>true) true k 32 [b18,b19,b20,b21,b22,b23,b24,b25] = some (y13.1,y13.2):=g13
 simp only [Prod.mk.injEq] at hxy
 have hd:d = .agg [y0.1,y1.1,y2.1,y3.1,y4.1,y5.1,y6.1,y7.1,y8.1,y9.1,y10.1,y11.1,y12.1,y13.1]:=by simpa using hxy.1
 obtain ⟨z0,e0,_,wf0⟩:=DataW.trod_int Try.underlying23 g0
 have q0:b0 = .int .u64 z0:=(List.cons.inj (show [b0] = [Value.int .u64 z0] from e0)).1
 subst q0
 obtain ⟨z1,e1,_,wf1⟩:=DataW.trod_int Try.underlying3 g1
 have q1:b1 = .int .i64 z1:=(List.cons.inj (show [b1] = [Value.int .i64 z1] from e1)).1
 subst q1
 obtain ⟨z2,xs2,rfl,kk2,l2,_⟩:=open_label0 g2 (fun n hn=>hw n (by
  rw [hd]
  simp [DataW.weights,Try.underlying34,DataW.weightsEach,hn]))
 obtain ⟨z4,xs4,rfl,kk4,l4,_⟩:=open_label0 g3 (fun n hn=>hw n (by
  rw [hd]
  simp [DataW.weights,Try.underlying34,DataW.weightsEach,hn]))
 obtain ⟨z6,e6,_,wf6⟩:=DataW.trod_int Try.underlying3 g4
 have q6:b6 = .int .i64 z6:=(List.cons.inj (show [b6] = [Value.int .i64 z6] from e6)).1
 subst q6
 obtain ⟨z7,e7,_,wf7⟩:=DataW.trod_int Try.underlying3 g5
 have q7:b7 = .int .i64 z7:=(List.cons.inj (show [b7] = [Value.int .i64 z7] from e7)).1
 subst q7
 obtain ⟨xs8,kk8,l8⟩:=open_links g6 (fun n hn=>hw n (by
  rw [hd]
  simp [DataW.weights,Try.underlying34,DataW.weightsEach,hn]))
 obtain ⟨xs9,kk9,l9,_⟩:=open_bytes g7 (fun n hn=>hw n (by
  rw [hd]
  simp [DataW.weights,Try.underlying34,DataW.weightsEach,hn]))
 obtain ⟨r0,r1,r2,r3,m4,_,h0,h1,h2,h3⟩:=trod_array4 Try.underlying29 Try.cellsU g8
 obtain ⟨z10,e10,_,wf10⟩:=DataW.trod_int Try.underlying23 h0
 have q10:b10 = .int .u64 z10:=(List.cons.inj (show [b10] = [Value.int .u64 z10] from e10)).1
 subst q10
 obtain ⟨z11,e11,_,wf11⟩:=DataW.trod_int Try.underlying23 h1
 have q11:b11 = .int .u64 z11:=(List.cons.inj (show [b11] = [Value.int .u64 z11] from e11)).1
 subst q11
 obtain ⟨z12,e12,_,wf12⟩:=DataW.trod_int Try.underlying23 h2
 have q12:b12 = .int .u64 z12:=(List.cons.inj (show [b12] = [Value.int .u64 z12] from e12)).1
 subst q12
 obtain ⟨z13,e13,_,wf13⟩:=DataW.trod_int Try.underlying23 h3
 have q13:b13 = .int .u64 z13:=(List.cons.inj (show [b13] = [Value.int .u64 z13] from e13)).1
 subst q13
 obtain ⟨z14,e14,_,wf14⟩:=DataW.trod_int Try.underlying3 g9
 have q14:b14 = .int .i64 z14:=(List.cons.inj (show [b14] = [Value.int .i64 z14] from e14)).1
 subst q14
 obtain ⟨z15,e15,_,wf15⟩:=DataW.trod_int Try.underlying3 g10
 have q15:b15 = .int .i64 z15:=(List.cons.inj (show [b15] = [Value.int .i64 z15] from e15)).1
 subst q15
 obtain ⟨z16,e16,_⟩:=DataW.trod_bool Try.underlying4 g11
 have q16:b16 = .bool z16:=(List.cons.inj (show [b16] = [Value.bool z16] from e16)).1
 subst q16
 obtain ⟨z17,e17,_,wf17⟩:=DataW.trod_int Try.underlying23 g12
 have q17:b17 = .int .u64 z17:=(List.cons.inj (show [b17] = [Value.int .u64 z17] from e17)).1
 subst q17
 obtain ⟨ss,m8,_,_,_,hl8,h8⟩:=DataW.trod_array Try.underlying32 g13
 have s0:=h8 0 (by omega)
 rw [Try.cellsSl1,List.getElem?_eq_getElem (show 0 < ss.length by omega)] at s0
 obtain ⟨z18,z19,q18,q19⟩:=open_slot0 (show DataW.trod enc Try.prog W 0 (fun _=>true) true m8 31 [b18,b19] = some _ from s0)
 subst q18
 subst q19
 have s1:=h8 1 (by omega)
 rw [Try.cellsSl1,List.getElem?_eq_getElem (show 1 < ss.length by omega)] at s1
 obtain ⟨z20,z21,q20,q21⟩:=open_slot0 (show DataW.trod enc Try.prog W 0 (fun _=>true) true m8 31 [b20,b21] = some _ from s1)
 subst q20
 subst q21
 have s2:=h8 2 (by omega)
 rw [Try.cellsSl1,List.getElem?_eq_getElem (show 2 < ss.length by omega)] at s2
 obtain ⟨z22,z23,q22,q23⟩:=open_slot0 (show DataW.trod enc Try.prog W 0 (fun _=>true) true m8 31 [b22,b23] = some _ from s2)
 subst q22
 subst q23
 have s3:=h8 3 (by omega)
 rw [Try.cellsSl1,List.getElem?_eq_getElem (show 3 < ss.length by omega)] at s3
 obtain ⟨z24,z25,q24,q25⟩:=open_slot0 (show DataW.trod enc Try.prog W 0 (fun _=>true) true m8 31 [b24,b25] = some _ from s3)
 subst q24
 subst q25
 exact ⟨⟨⟨z0,z1,z2,xs2,z4,xs4,z6,z7,xs8,xs9,z10,z11,z12,z13,z14,z15,z16,z17,z18,z19,z20,z21,z22,z23,z24,z25⟩,b3,b5,b8,b9⟩,rfl,⟨kk2,kk4,kk8,bsl_of_sl kk9⟩,⟨⟨⟨u64b wf10,u64b wf11,u64b wf12,u64b wf13,u64b wf17⟩,u64b wf0,Nat.le_trans l2 (by decide),Nat.le_trans l4 (by decide)⟩,⟨Nat.le_trans l2 (by decide),Nat.le_trans l4 (by decide),Nat.le_trans l8 (by decide),Nat.le_trans l9 (by decide)⟩⟩⟩

theorem open_things {H:Type} {enc:TypeId × Value→H} {W:World} {fuel:Nat} {v:Value} {d:DataW H} {p:List MemPlace}
  (h:DataW.trod enc Try.prog W 0 (fun _=>true) true fuel 22 [v] = some (d,p)) (hw:∀ n ∈ d.weights Try.prog 22,n ≤ reachBytes) :
  ∃ xs:List TC,TSl (fun b=>b < W.heap.size) (fun b=>b < W.heap.size) W v xs∧(∀ x ∈ xs,TIn x.t):=by
 obtain ⟨xs,h1,h2,h3,_⟩:=open_rows (α:=TC) zTC tcC 26 272 (fun x=>x.At (fun b=>b < W.heap.size) W∧TIn x.t) (fun _=>0) Try.underTs Try.cellsT Try.bytesT (by decide) (fun _=>rfl) h hw (fun k cs dd pp ht hl hwd=>by
  obtain ⟨x,hx,ha,hi⟩:=open_tcells ht hl hwd
  exact ⟨x,hx,⟨ha,hi⟩,Nat.zero_le _⟩)
 exact ⟨xs,⟨h1,fun x hx=>(h3 x hx).1⟩,fun x hx=>(h3 x hx).2⟩
end Go.Proofs.Ytgmfofngmfekbaa
