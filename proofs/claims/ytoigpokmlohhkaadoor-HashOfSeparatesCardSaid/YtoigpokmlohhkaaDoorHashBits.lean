/-
  PLAIN FACTS, OF NO PROGRAM: Go's words of 64 and 32 bits as bit vectors.
-/
import Derived.WalkKit
import Derived.Laws.Bits64
import Derived.Laws.Bits64b
import Derived.Laws.BitsLemmas
import Derived.Test.YtoigpokmlohhkaaDoorHashMath
import Derived.Test.YtoigpokmlohhkaaDoorHashSha
namespace Go.Proofs.YtoigpokmlohhkaaDoor
open Go.RowKit

def q64 (A : BitVec 64) : Int := (A.toNat : Int)
def q40 (A : BitVec 40) : Int := (A.toNat : Int)
def q32 (A : BitVec 32) : Int := (A.toNat : Int)
def q8 (A : BitVec 8) : Int := (A.toNat : Int)

theorem q64_bd (A : BitVec 64) : 0 ≤ q64 A ∧ q64 A < 18446744073709551616 := by
  have := A.isLt; unfold q64; omega
theorem q40_bd (A : BitVec 40) : 0 ≤ q40 A ∧ q40 A < 1099511627776 := by
  have := A.isLt; unfold q40; omega
theorem q32_bd (A : BitVec 32) : 0 ≤ q32 A ∧ q32 A < 4294967296 := by
  have := A.isLt; unfold q32; omega
theorem q8_bd (A : BitVec 8) : 0 ≤ q8 A ∧ q8 A < 256 := by
  have := A.isLt; unfold q8; omega
theorem q40_64 (A : BitVec 40) : q40 A = q64 (A.setWidth 64) := by
  unfold q40 q64; rw [BitVec.toNat_setWidth, Nat.mod_eq_of_lt (Nat.lt_trans A.isLt (by decide))]
theorem q40_inj {A B : BitVec 40} (h : q40 A = q40 B) : A = B := BitVec.eq_of_toNat_eq (by unfold q40 at h; omega)
theorem q32_inj {A B : BitVec 32} (h : q32 A = q32 B) : A = B := BitVec.eq_of_toNat_eq (by unfold q32 at h; omega)
theorem q8_64 (A : BitVec 8) : q8 A = q64 (A.setWidth 64) := by
  unfold q8 q64; rw [BitVec.toNat_setWidth, Nat.mod_eq_of_lt (Nat.lt_trans A.isLt (by decide))]
theorem q8_32 (A : BitVec 8) : q8 A = q32 (A.setWidth 32) := by
  unfold q8 q32; rw [BitVec.toNat_setWidth, Nat.mod_eq_of_lt (Nat.lt_trans A.isLt (by decide))]

theorem and_xor {n : Nat} (a b m : BitVec n) : (a ^^^ b) &&& m = (a &&& m) ^^^ (b &&& m) := by
  apply BitVec.eq_of_getLsbD_eq
  intro i hi
  simp only [BitVec.getLsbD_and, BitVec.getLsbD_xor]
  cases a.getLsbD i <;> cases b.getLsbD i <;> cases m.getLsbD i <;> rfl

/-- The byte of an integer. -/
def ob (x : Int) : BitVec 8 := BitVec.ofInt 8 x
theorem q8_ob {x : Int} (h : 0 ≤ x ∧ x < 256) : q8 (ob x) = x := by
  unfold q8 ob; rw [BitVec.toNat_ofInt]
  show (((x % 256).toNat : Nat) : Int) = x
  omega
theorem ob_q8 (A : BitVec 8) : ob (q8 A) = A := BitVec.eq_of_toNat_eq (by
  have := A.isLt
  unfold q8 ob; rw [BitVec.toNat_ofInt]
  show ((A.toNat : Int) % 256).toNat = _
  omega)

theorem xor64 (A B : BitVec 64) : bits .xor .u64 (q64 A) (q64 B) = q64 (A ^^^ B) := by
  unfold q64; rw [BitVec.toNat_xor]; exact bits_xor_u64_nat _ _ A.isLt B.isLt
theorem and64 (A B : BitVec 64) : bits .and .u64 (q64 A) (q64 B) = q64 (A &&& B) := by
  unfold q64; rw [BitVec.toNat_and]; exact bits_and_u64_nat _ _ A.isLt B.isLt
theorem shl64 (A : BitVec 64) (k : Nat) (m : Int) (h : m = ((2 ^ k : Nat) : Int)) : IntKind.u64.wrap (q64 A * m) = q64 (A <<< k) := by
  rw [IntKind.wrap_u64, h]
  unfold q64
  rw [BitVec.toNat_shiftLeft, Nat.shiftLeft_eq, ← Int.natCast_mul]
  omega
theorem shr64 (A : BitVec 64) (k : Nat) (m : Int) (h : m = ((2 ^ k : Nat) : Int)) : q64 A / m = q64 (A >>> k) := by
  rw [h]
  unfold q64
  rw [BitVec.toNat_ushiftRight, Nat.shiftRight_eq_div_pow]
  rfl
theorem add64 (A B : BitVec 64) : IntKind.u64.wrap (q64 A + q64 B) = q64 (A + B) := by
  rw [IntKind.wrap_u64]; unfold q64; rw [BitVec.toNat_add]; omega

theorem of32 (A : BitVec 32) : BitVec.ofInt 32 (q32 A) = A := by
  unfold q32; rw [BitVec.ofInt_natCast]; exact BitVec.eq_of_toNat_eq (by simp)
theorem wrap32 (A : BitVec 32) : IntKind.u32.wrap (A.toNat : Int) = q32 A := by
  have := A.isLt
  rw [IntKind.wrap_u32]; unfold q32; omega
theorem xor32 (A B : BitVec 32) : bits .xor .u32 (q32 A) (q32 B) = q32 (A ^^^ B) := by
  show IntKind.u32.wrap ((BitVec.ofInt 32 (q32 A) ^^^ BitVec.ofInt 32 (q32 B)).toNat : Int) = _
  rw [of32, of32, wrap32]
theorem and32 (A B : BitVec 32) : bits .and .u32 (q32 A) (q32 B) = q32 (A &&& B) := by
  show IntKind.u32.wrap ((BitVec.ofInt 32 (q32 A) &&& BitVec.ofInt 32 (q32 B)).toNat : Int) = _
  rw [of32, of32, wrap32]
theorem or32 (A B : BitVec 32) : bits .or .u32 (q32 A) (q32 B) = q32 (A ||| B) := by
  show IntKind.u32.wrap ((BitVec.ofInt 32 (q32 A) ||| BitVec.ofInt 32 (q32 B)).toNat : Int) = _
  rw [of32, of32, wrap32]
theorem add32 (A B : BitVec 32) : IntKind.u32.wrap (q32 A + q32 B) = q32 (A + B) := by
  rw [IntKind.wrap_u32]; unfold q32; rw [BitVec.toNat_add]; omega
theorem shl32 (A : BitVec 32) (k : Nat) (m : Int) (h : m = ((2 ^ k : Nat) : Int)) : IntKind.u32.wrap (q32 A * m) = q32 (A <<< k) := by
  rw [IntKind.wrap_u32, h]
  unfold q32
  rw [BitVec.toNat_shiftLeft, Nat.shiftLeft_eq, ← Int.natCast_mul]
  omega
theorem shr32 (A : BitVec 32) (k : Nat) (m : Int) (h : m = ((2 ^ k : Nat) : Int)) : q32 A / m = q32 (A >>> k) := by
  rw [h]
  unfold q32
  rw [BitVec.toNat_ushiftRight, Nat.shiftRight_eq_div_pow]
  rfl
theorem not32 (A : BitVec 32) : bits .xor .u32 (q32 A) 4294967295 = q32 (~~~A) := by
  have e : (4294967295 : Int) = q32 (BitVec.allOnes 32) := by decide
  rw [e, xor32, BitVec.xor_allOnes]
theorem not32' (A : BitVec 32) : bits .xor .u32 4294967295 (q32 A) = q32 (~~~A) := by
  have e : (4294967295 : Int) = q32 (BitVec.allOnes 32) := by decide
  rw [e, xor32, BitVec.allOnes_xor]

theorem of8 (A : BitVec 8) : BitVec.ofInt 8 (q8 A) = A := by
  unfold q8; rw [BitVec.ofInt_natCast]; exact BitVec.eq_of_toNat_eq (by simp)
theorem wrap8 (A : BitVec 8) : IntKind.u8.wrap (A.toNat : Int) = q8 A := by
  have := A.isLt
  rw [IntKind.wrap_u8]; unfold q8; omega
theorem xor8 (A B : BitVec 8) : bits .xor .u8 (q8 A) (q8 B) = q8 (A ^^^ B) := by
  show IntKind.u8.wrap ((BitVec.ofInt 8 (q8 A) ^^^ BitVec.ofInt 8 (q8 B)).toNat : Int) = _
  rw [of8, of8, wrap8]

/-- hash.shift, on words of 64 bits. -/
def shift64 (A C : BitVec 64) : BitVec 64 :=
  ((A <<< 8) &&& 1099511627775#64) ^^^ (((A >>> 32) ^^^ C) <<< 26) ^^^ (((A >>> 32) ^^^ C) <<< 23) ^^^ (((A >>> 32) ^^^ C) <<< 17) ^^^ (((A >>> 32) ^^^ C) <<< 3) ^^^ ((A >>> 32) ^^^ C)
theorem shift64_xor (A B C D : BitVec 64) : shift64 (A ^^^ B) (C ^^^ D) = shift64 A C ^^^ shift64 B D := by
  have hand : ((A ^^^ B) <<< 8) &&& 1099511627775#64 = ((A <<< 8) &&& 1099511627775#64) ^^^ ((B <<< 8) &&& 1099511627775#64) := by
    rw [BitVec.shiftLeft_xor_distrib, and_xor]
  have hf : ((A ^^^ B) >>> 32) ^^^ (C ^^^ D) = ((A >>> 32) ^^^ C) ^^^ ((B >>> 32) ^^^ D) := by
    rw [BitVec.ushiftRight_xor_distrib]
    generalize A >>> 32 = a; generalize B >>> 32 = b
    ac_rfl
  unfold shift64
  rw [hand, hf]
  generalize (A >>> 32) ^^^ C = f
  generalize (B >>> 32) ^^^ D = g
  simp only [BitVec.shiftLeft_xor_distrib]
  generalize (A <<< 8) &&& 1099511627775#64 = a0; generalize (B <<< 8) &&& 1099511627775#64 = b0
  generalize f <<< 26 = f1; generalize f <<< 23 = f2; generalize f <<< 17 = f3; generalize f <<< 3 = f4
  generalize g <<< 26 = g1; generalize g <<< 23 = g2; generalize g <<< 17 = g3; generalize g <<< 3 = g4
  ac_rfl
theorem shift64_is (r : Hm.R) (c : BitVec 8) : shift64 (r.setWidth 64) (c.setWidth 64) = (Hm.byte r c).setWidth 64 := by
  have h1 : shift64 (r.setWidth 64) 0#64 = (Hm.Xn 8 r).setWidth 64 := by
    refine Hm.lin_ext (fun r => shift64 (r.setWidth 64) 0#64) (fun r => (Hm.Xn 8 r).setWidth 64) (fun a b => ?_) (fun a b => ?_) (fun i hi => ?_) r
    · have := shift64_xor (a.setWidth 64) (b.setWidth 64) 0#64 0#64
      rw [BitVec.xor_self] at this
      simp only [BitVec.setWidth_xor, this]
    · simp only [Hm.Xn_xor, BitVec.setWidth_xor]
    · have : (List.range 40).all (fun i => shift64 ((Hm.e i).setWidth 64) 0#64 == (Hm.Xn 8 (Hm.e i)).setWidth 64) = true := by decide +kernel
      exact eq_of_beq (Hm.of_range this i hi)
  have h2 : ∀ c : BitVec 8, shift64 0#64 (c.setWidth 64) = (Hm.Xn 8 (Hm.byteAt c)).setWidth 64 := by decide +kernel
  have h3 := shift64_xor (r.setWidth 64) 0#64 0#64 (c.setWidth 64)
  rw [BitVec.xor_zero, BitVec.zero_xor] at h3
  rw [h3, h1, h2]
  unfold Hm.byte
  rw [Hm.Xn_xor, BitVec.setWidth_xor]

/-- The reference's step, on words of 64 bits. -/
def step64 (A C : BitVec 64) : BitVec 64 :=
  if ((A >>> 39) &&& 1#64) ^^^ C = 1#64 then ((A <<< 1) &&& 1099511627775#64) ^^^ 75628553#64 else (A <<< 1) &&& 1099511627775#64
def bv1 (b : Bool) : BitVec 64 := if b then 1#64 else 0#64
theorem top64 (r : Hm.R) : ((r.setWidth 64) >>> 39) &&& 1#64 = bv1 (r.getLsbD 39) := by
  refine Hm.lin_ext (fun r => ((r.setWidth 64) >>> 39) &&& 1#64) (fun r => bv1 (r.getLsbD 39)) (fun a b => ?_) (fun a b => ?_) (fun i hi => ?_) r
  · show (BitVec.setWidth 64 (a ^^^ b) >>> 39) &&& 1#64 = _
    rw [BitVec.setWidth_xor, BitVec.ushiftRight_xor_distrib, and_xor]
  · show bv1 ((a ^^^ b).getLsbD 39) = _
    rw [BitVec.getLsbD_xor]; unfold bv1; rw [Hm.ite_xor]
  · have : (List.range 40).all (fun i => (((Hm.e i).setWidth 64) >>> 39) &&& 1#64 == bv1 ((Hm.e i).getLsbD 39)) = true := by decide +kernel
    exact eq_of_beq (Hm.of_range this i hi)
theorem low64 (r : Hm.R) : ((r.setWidth 64) <<< 1) &&& 1099511627775#64 = (r <<< 1).setWidth 64 := by
  refine Hm.lin_ext (fun r => ((r.setWidth 64) <<< 1) &&& 1099511627775#64) (fun r => (r <<< 1).setWidth 64) (fun a b => ?_) (fun a b => ?_) (fun i hi => ?_) r
  · show (BitVec.setWidth 64 (a ^^^ b) <<< 1) &&& 1099511627775#64 = _
    rw [BitVec.setWidth_xor, BitVec.shiftLeft_xor_distrib, and_xor]
  · show BitVec.setWidth 64 ((a ^^^ b) <<< 1) = _
    rw [BitVec.shiftLeft_xor_distrib, BitVec.setWidth_xor]
  · have : (List.range 40).all (fun i => (((Hm.e i).setWidth 64) <<< 1) &&& 1099511627775#64 == ((Hm.e i) <<< 1).setWidth 64) = true := by decide +kernel
    exact eq_of_beq (Hm.of_range this i hi)
theorem step64_is (r : Hm.R) (b : Bool) : step64 (r.setWidth 64) (bv1 b) = (Hm.bit r b).setWidth 64 := by
  unfold step64
  rw [top64, low64]
  have hb : Hm.bit r b = (r <<< 1) ^^^ (if (r.getLsbD 39 ^^ b) then 0x0004820009#40 else 0#40) := by
    unfold Hm.bit
    rw [Hm.X_xor, Hm.ite_xor]
    unfold Hm.X
    cases b <;> simp [BitVec.xor_assoc] <;> rfl
  rw [hb]
  cases r.getLsbD 39 <;> cases b <;> simp [bv1, BitVec.setWidth_xor]
end Go.Proofs.YtoigpokmlohhkaaDoor
