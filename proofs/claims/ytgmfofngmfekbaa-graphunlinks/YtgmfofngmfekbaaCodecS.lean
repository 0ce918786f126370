/-
  Plain mathematics of layer 2: numbers as bytes, fields packed after a shape and unpacked again. It names nothing of the program.
-/
import Derived.WalkKit
namespace Go.Proofs.Ytgmfofngmfekbaa
set_option linter.unusedVariables false
set_option linter.unusedSimpArgs false
set_option maxRecDepth 20000

structure Fld where
 num:Nat
 bytes:List UInt8

def be:Nat→Nat→List UInt8
 | 0,_=>[]
 | k + 1,n=>UInt8.ofNat (n / 256 ^ k) :: be k n

def valFrom (m:Nat) (bs:List UInt8):Nat:=bs.foldl (fun n b=>n * 256 + b.toNat) m
def val (bs:List UInt8):Nat:=valFrom 0 bs

def wdt (c:UInt8):Option Nat :=
 if c = 49 then some 1 else if c = 50 then some 2 else if c = 52 then some 4 else if c = 56 then some 8 else none

def packF (c:UInt8) (f:Fld):Option (List UInt8) :=
 if c = 98 then (if f.bytes.length ≤ 1024 then some (be 2 f.bytes.length ++ f.bytes) else none)
 else match wdt c with
  | some k=>if f.num < 256 ^ k then some (be k f.num) else none
  | none=>none

theorem valFrom_lt (m:Nat) (bs:List UInt8):valFrom m bs < (m + 1) * 256 ^ bs.length:=by
 induction bs generalizing m with
 | nil=>simp [valFrom]
 | cons x bs ih =>
  have h:=ih (m * 256 + x.toNat)
  have hx:x.toNat < 256:=x.toNat_lt
  simp only [valFrom,List.foldl_cons,List.length_cons] at *
  refine Nat.lt_of_lt_of_le h ?_
  rw [Nat.pow_succ,Nat.mul_comm (256 ^ bs.length) 256,← Nat.mul_assoc]
  exact Nat.mul_le_mul_right _ (by omega)

theorem val_lt (bs:List UInt8):val bs < 256 ^ bs.length:=by
 have:=valFrom_lt 0 bs
 simpa [val] using this

end Go.Proofs.Ytgmfofngmfekbaa
