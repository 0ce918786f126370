/-
  The sum as plain functions on words of 32 bits; what it keeps. It names nothing of the program.
-/
import Derived.WalkKit
import Derived.Laws.BitsLemmas
namespace Go.Proofs.Ytihdhlciblkbiaa
set_option linter.unusedVariables false
set_option linter.unusedSimpArgs false
set_option maxRecDepth 20000

/-- One bit moved out of a turned sum. -/
def stp (n : BitVec 32) : BitVec 32 := (n >>> 1) ^^^ (if n.getLsbD 0 then 0xEDB88320#32 else 0#32)

def mv (n : BitVec 32) : BitVec 32 := stp (stp (stp (stp (stp (stp (stp (stp n)))))))

/-- A turned sum with a byte more. -/
def upd (s : BitVec 32) (x : UInt8) : BitVec 32 := mv (s ^^^ x.toBitVec.setWidth 32)

def raw (s : BitVec 32) (xs : List UInt8) : BitVec 32 := xs.foldl upd s

def crcAdd (s : BitVec 32) (xs : List UInt8) : BitVec 32 := ~~~ raw (~~~ s) xs

def crcSum (ps : List (List UInt8)) : BitVec 32 := ps.foldl crcAdd 0#32

theorem stp_xor (a b : BitVec 32) : stp (a ^^^ b) = stp a ^^^ stp b := by
  unfold stp
  rw [BitVec.ushiftRight_xor_distrib, BitVec.getLsbD_xor]
  cases a.getLsbD 0 <;> cases b.getLsbD 0 <;> simp
  · ac_rfl
  · ac_rfl
  · rw [show a >>> 1 ^^^ 3988292384#32 ^^^ (b >>> 1 ^^^ 3988292384#32) = (a >>> 1 ^^^ b >>> 1) ^^^ (3988292384#32 ^^^ 3988292384#32) by ac_rfl]
    simp

theorem stp_msb (a : BitVec 32) : (stp a).getLsbD 31 = a.getLsbD 0 := by
  unfold stp
  rw [BitVec.getLsbD_xor, BitVec.getLsbD_ushiftRight]
  cases h : a.getLsbD 0 <;> simp

theorem stp_zero {a : BitVec 32} (h : stp a = 0#32) : a = 0#32 := by
  have h0 : a.getLsbD 0 = false := by rw [← stp_msb, h]; simp
  unfold stp at h
  rw [h0] at h
  simp at h
  apply BitVec.eq_of_getLsbD_eq
  intro i hi
  cases i with
  | zero => simpa using h0
  | succ j =>
    have : (a >>> 1).getLsbD j = false := by rw [h]; simp
    rw [BitVec.getLsbD_ushiftRight] at this
    rw [Nat.add_comm]
    simpa using this

theorem stp_inj {a b : BitVec 32} (h : stp a = stp b) : a = b := by
  have : stp (a ^^^ b) = 0#32 := by rw [stp_xor, h, BitVec.xor_self]
  have := stp_zero this
  have e : a ^^^ b ^^^ b = 0#32 ^^^ b := by rw [this]
  rw [BitVec.xor_assoc, BitVec.xor_self] at e
  simpa using e

theorem mv_xor (a b : BitVec 32) : mv (a ^^^ b) = mv a ^^^ mv b := by
  unfold mv; simp only [stp_xor]

theorem mv_inj {a b : BitVec 32} (h : mv a = mv b) : a = b :=
  stp_inj (stp_inj (stp_inj (stp_inj (stp_inj (stp_inj (stp_inj (stp_inj h)))))))

theorem raw_append (s : BitVec 32) (xs ys : List UInt8) : raw s (xs ++ ys) = raw (raw s xs) ys := by
  unfold raw; rw [List.foldl_append]

theorem raw_inj : ∀ (xs : List UInt8) {s t : BitVec 32}, raw s xs = raw t xs → s = t
  | [], s, t, h => h
  | x :: xs, s, t, h => by
    have h1 : upd s x = upd t x := raw_inj xs h
    have h2 := mv_inj h1
    have e : s ^^^ x.toBitVec.setWidth 32 ^^^ x.toBitVec.setWidth 32 = t ^^^ x.toBitVec.setWidth 32 ^^^ x.toBitVec.setWidth 32 := by rw [h2]
    rw [BitVec.xor_assoc, BitVec.xor_assoc, BitVec.xor_self] at e
    simpa using e

theorem crcAdd_append (s : BitVec 32) (xs ys : List UInt8) : crcAdd s (xs ++ ys) = crcAdd (crcAdd s xs) ys := by
  unfold crcAdd; rw [raw_append, BitVec.not_not]

theorem crcAdd_nil (s : BitVec 32) : crcAdd s [] = s := by
  unfold crcAdd raw; simp

theorem crcSum_flat (ps : List (List UInt8)) : crcSum ps = crcAdd 0#32 ps.flatten := by
  have : ∀ (ps : List (List UInt8)) (s : BitVec 32), ps.foldl crcAdd s = crcAdd s ps.flatten := by
    intro ps
    induction ps with
    | nil => intro s; exact (crcAdd_nil s).symm
    | cons p ps ih => intro s; rw [List.foldl_cons, ih, List.flatten_cons, crcAdd_append]
  exact this ps _

theorem crcSum_one (xs : List UInt8) : crcSum [xs] = crcAdd 0#32 xs := rfl

/-- Bytes of which one is another one have another sum. -/
theorem crcAdd_set (s : BitVec 32) (xs : List UInt8) (i : Nat) (h : i < xs.length) (y : UInt8) (hy : y ≠ xs[i]) : crcAdd s (xs.set i y) ≠ crcAdd s xs := by
  intro e
  have e0 : raw (~~~ s) (xs.set i y) = raw (~~~ s) xs := by
    have := congrArg (fun z => ~~~ z) e
    unfold crcAdd at this
    simpa using this
  have e1 : xs = xs.take i ++ xs[i] :: xs.drop (i + 1) := by simp
  have e2 : xs.set i y = xs.take i ++ y :: xs.drop (i + 1) := List.set_eq_take_append_cons_drop.trans (if_pos h)
  rw [e2] at e0
  conv at e0 => rhs; rw [e1]
  rw [raw_append, raw_append] at e0
  have e3 : upd (raw (~~~ s) (xs.take i)) y = upd (raw (~~~ s) (xs.take i)) xs[i] := raw_inj _ e0
  have e4 := mv_inj e3
  generalize raw (~~~ s) (xs.take i) = a at e4
  have e5 : a ^^^ (a ^^^ y.toBitVec.setWidth 32) = a ^^^ (a ^^^ xs[i].toBitVec.setWidth 32) := by rw [e4]
  rw [← BitVec.xor_assoc, ← BitVec.xor_assoc, BitVec.xor_self, BitVec.zero_xor, BitVec.zero_xor] at e5
  apply hy
  have e6 := congrArg BitVec.toNat e5
  simp at e6
  exact UInt8.toNat_inj.1 (by have := y.toNat_lt; have := xs[i].toNat_lt; omega)

def xor3 (a b c : UInt8) : UInt8 := a ^^^ b ^^^ c

theorem raw_xor3 : ∀ (n : Nat) (a b c : List UInt8) (s t u : BitVec 32), a.length = n → b.length = n → c.length = n →
    raw (s ^^^ t ^^^ u) (List.zipWith (fun p z => p ^^^ z) (List.zipWith (fun x y => x ^^^ y) a b) c) = raw s a ^^^ raw t b ^^^ raw u c
  | 0, [], [], [], s, t, u, _, _, _ => rfl
  | n + 1, x :: a, y :: b, z :: c, s, t, u, ha, hb, hc => by
    have h := raw_xor3 n a b c (upd s x) (upd t y) (upd u z) (by simpa using ha) (by simpa using hb) (by simpa using hc)
    show raw (upd (s ^^^ t ^^^ u) (x ^^^ y ^^^ z)) _ = raw (upd s x) a ^^^ raw (upd t y) b ^^^ raw (upd u z) c
    rw [← h]
    congr 1
    unfold upd
    rw [← mv_xor, ← mv_xor]
    congr 1
    rw [show (x ^^^ y ^^^ z).toBitVec = x.toBitVec ^^^ y.toBitVec ^^^ z.toBitVec from rfl, BitVec.setWidth_xor, BitVec.setWidth_xor]
    ac_rfl

/-- Of three texts of one length the sums, added without carry, are the sum of the three so added. -/
theorem crcAdd_xor3 (a b c : List UInt8) (hb : b.length = a.length) (hc : c.length = a.length) :
    crcAdd 0#32 (List.zipWith (fun p z => p ^^^ z) (List.zipWith (fun x y => x ^^^ y) a b) c) = crcAdd 0#32 a ^^^ crcAdd 0#32 b ^^^ crcAdd 0#32 c := by
  have h := raw_xor3 a.length a b c (~~~ 0#32) (~~~ 0#32) (~~~ 0#32) rfl hb hc
  rw [show ~~~ 0#32 ^^^ ~~~ 0#32 ^^^ ~~~ 0#32 = ~~~ 0#32 from by decide] at h
  unfold crcAdd
  rw [h]
  generalize raw (~~~ 0#32) a = p
  generalize raw (~~~ 0#32) b = q
  generalize raw (~~~ 0#32) c = r
  apply BitVec.eq_of_getLsbD_eq
  intro i hi
  simp only [BitVec.getLsbD_not, BitVec.getLsbD_xor, hi, decide_true, Bool.true_and]
  cases p.getLsbD i <;> cases q.getLsbD i <;> cases r.getLsbD i <;> rfl

/-! Words of 32 bits as the program's numbers; names of their own keep the walk from looking inside. -/

def tn (n : BitVec 32) : Int := (n.toNat : Int)
def u32v (n : BitVec 32) : Value := .int .u32 (tn n)
def nt (n : BitVec 32) : BitVec 32 := ~~~ n
def xo (a b : BitVec 32) : BitVec 32 := a ^^^ b
def xb (a : BitVec 32) (x : UInt8) : BitVec 32 := a ^^^ x.toBitVec.setWidth 32

theorem tn_lo (a : BitVec 32) : 0 ≤ tn a := Int.natCast_nonneg _
theorem tn_hi (a : BitVec 32) : tn a ≤ 4294967295 := by unfold tn; have := a.isLt; omega
theorem tn_inj {a b : BitVec 32} (h : tn a = tn b) : a = b := BitVec.eq_of_toNat_eq (by unfold tn at h; omega)

theorem ofInt_tn (a : BitVec 32) : BitVec.ofInt 32 (tn a) = a := by
  unfold tn; rw [BitVec.ofInt_natCast]; simp

theorem tn_of {z : Int} (h0 : 0 ≤ z) (h1 : z ≤ 4294967295) : tn (BitVec.ofInt 32 z) = z := by
  unfold tn; rw [BitVec.toNat_ofInt]; omega

theorem bits_xor_u32 (a b : BitVec 32) : bits .xor .u32 (tn a) (tn b) = tn (xo a b) := by
  show IntKind.u32.wrap ((BitVec.ofInt 32 (tn a) ^^^ BitVec.ofInt 32 (tn b)).toNat : Int) = _
  rw [ofInt_tn, ofInt_tn, IntKind.wrap_u32]
  have := (a ^^^ b).isLt
  unfold tn xo
  omega

theorem bits_and_u32 (a b : BitVec 32) : bits .and .u32 (tn a) (tn b) = tn (a &&& b) := by
  show IntKind.u32.wrap ((BitVec.ofInt 32 (tn a) &&& BitVec.ofInt 32 (tn b)).toNat : Int) = _
  rw [ofInt_tn, ofInt_tn, IntKind.wrap_u32]
  have := (a &&& b).isLt
  unfold tn
  omega

theorem not_u32 (a : BitVec 32) : 4294967295 - tn a = tn (nt a) := by
  unfold tn nt
  rw [BitVec.toNat_not]
  have := a.isLt
  omega

theorem bits_not_u32 (a : BitVec 32) : bits .xor .u32 IntKind.u32.max (tn a) = tn (nt a) := by
  have h := bits_xor_u32 (BitVec.allOnes 32) a
  unfold xo at h
  rw [BitVec.allOnes_xor] at h
  exact h

theorem lsb_mod (a : BitVec 32) : a.toNat % 2 = (a.getLsbD 0).toNat := by
  rw [BitVec.getLsbD, Nat.testBit_zero]
  cases h : decide (a.toNat % 2 = 1) <;> simp at h ⊢ <;> omega

theorem stp_even (a : BitVec 32) (h : a.toNat % 2 = 0) : (stp a).toNat = a.toNat / 2 := by
  have h0 : a.getLsbD 0 = false := by
    have := lsb_mod a
    cases hb : a.getLsbD 0
    · rfl
    · rw [hb] at this; simp at this; omega
  unfold stp
  rw [h0]
  simp [Nat.shiftRight_eq_div_pow]

theorem stp_odd (a : BitVec 32) (h : a.toNat % 2 = 1) : stp a = BitVec.ofNat 32 (a.toNat / 2) ^^^ 0xEDB88320#32 := by
  have h0 : a.getLsbD 0 = true := by
    have := lsb_mod a
    cases hb : a.getLsbD 0
    · rw [hb] at this; simp at this; omega
    · rfl
  unfold stp
  rw [h0]
  simp only [if_true]
  congr 1
  apply BitVec.eq_of_toNat_eq
  have := a.isLt
  rw [BitVec.toNat_ushiftRight, BitVec.toNat_ofNat, Nat.shiftRight_eq_div_pow]
  omega

/-- So many bits moved out. -/
def stps : Nat → BitVec 32 → BitVec 32
  | 0, n => n
  | k + 1, n => stp (stps k n)

theorem stps_eight (n : BitVec 32) : stps 8 n = mv n := rfl

theorem raw_take_succ (s : BitVec 32) (xs : List UInt8) (k : Nat) (h : k < xs.length) : raw s (xs.take (k + 1)) = mv (xb (raw s (xs.take k)) xs[k]) := by
  rw [List.take_succ_eq_append_getElem h, raw_append]; rfl

theorem byte_u32 (x : UInt8) : (x.toNat : Int) % 4294967296 = tn (x.toBitVec.setWidth 32) := by
  have h := x.toNat_lt
  unfold tn
  rw [BitVec.toNat_setWidth]
  show (x.toNat : Int) % 4294967296 = ((x.toNat % 2 ^ 32 : Nat) : Int)
  omega

theorem half_u32 (a : BitVec 32) : tn a / 2 = tn (BitVec.ofNat 32 (a.toNat / 2)) := by
  have := a.isLt
  unfold tn
  rw [BitVec.toNat_ofNat]
  omega

theorem close_even (a : BitVec 32) (h : tn a % 2 = 0) : tn a / 2 = tn (stp a) := by
  unfold tn at h ⊢
  rw [stp_even a (by omega)]
  omega

theorem close_odd (a : BitVec 32) (h : tn a % 2 = 1) : bits .xor .u32 (tn a / 2) 3988292384 = tn (stp a) := by
  have h2 : a.toNat % 2 = 1 := by unfold tn at h; omega
  have := bits_xor_u32 (BitVec.ofNat 32 (a.toNat / 2)) 0xEDB88320#32
  rw [← half_u32] at this
  rw [stp_odd a h2]
  exact this

theorem and_one (a : BitVec 32) : bits .and .u32 (tn a) 1 = tn a % 2 := by
  have h := bits_and_u32 a 1#32
  have e : (a &&& 1#32).toNat = a.toNat % 2 := by rw [BitVec.toNat_and]; simp
  have e2 : tn (a &&& 1#32) = tn a % 2 := by unfold tn; rw [e]; omega
  rw [e2] at h
  exact h

theorem close_with (a : BitVec 32) (x : UInt8) : bits .xor .u32 (tn a) ((x.toNat : Int) % 4294967296) = tn (xb a x) := by
  rw [byte_u32, bits_xor_u32]; rfl

theorem tn_parity (a : BitVec 32) : tn a % 2 = 0 ∨ tn a % 2 = 1 := by omega
end Go.Proofs.Ytihdhlciblkbiaa
