/-
  PLAIN MATHEMATICS: bytes of words, bits of words, signed values of fewer bits; of no program.
-/
import Derived.Test.YtonfdgbohmcpjaaAluMath
namespace Go.Proofs.Ytonfdgbohmcpjaa
open Go.RowKit
namespace Al

theorem and_low (n p : Nat) : n &&& (255 <<< p) = (n / 2 ^ p % 256) <<< p := by
  have e : n / 2 ^ p % 256 = (n >>> p) &&& 255 := by
    have := Nat.and_two_pow_sub_one_eq_mod (n >>> p) 8
    rw [show 2 ^ 8 - 1 = 255 from rfl, show 2 ^ 8 = 256 from rfl] at this
    rw [this, Nat.shiftRight_eq_div_pow]
  rw [e]
  apply Nat.eq_of_testBit_eq
  intro j
  rw [Nat.testBit_and, Nat.testBit_shiftLeft, Nat.testBit_shiftLeft, Nat.testBit_and, Nat.testBit_shiftRight]
  by_cases h : p ≤ j
  · simp [h, show p + (j - p) = j by omega]
  · simp [h]
theorem andnot_add (a m : BitVec 32) : (a &&& ~~~m).toNat + (a &&& m).toNat = a.toNat := by
  have h0 : (a &&& ~~~m) &&& (a &&& m) = 0#32 := by
    apply BitVec.eq_of_getLsbD_eq
    intro i hi
    simp only [BitVec.getLsbD_and, BitVec.getLsbD_not, BitVec.getLsbD_zero]
    cases a.getLsbD i <;> cases m.getLsbD i <;> simp
  have h1 : (a &&& ~~~m) + (a &&& m) = a := by
    rw [BitVec.add_eq_or_of_and_eq_zero _ _ h0]
    apply BitVec.eq_of_getLsbD_eq
    intro i hi
    simp only [BitVec.getLsbD_and, BitVec.getLsbD_not, BitVec.getLsbD_or, hi, decide_true, Bool.true_and]
    cases a.getLsbD i <;> cases m.getLsbD i <;> rfl
  have h2 := congrArg BitVec.toNat h1
  rw [BitVec.toNat_add] at h2
  have h3 : (a &&& ~~~m).toNat ≤ a.toNat := by rw [BitVec.toNat_and]; exact Nat.and_le_left
  have h4 : (a &&& m).toNat ≤ a.toNat := by rw [BitVec.toNat_and]; exact Nat.and_le_left
  have := a.isLt
  omega
theorem setb_bv (a : BitVec 32) (y p : Nat) (hy : y < 256) (hp : p = 0 ∨ p = 8 ∨ p = 16 ∨ p = 24) :
    ((a &&& ~~~(BitVec.ofNat 32 (255 * 2 ^ p))) ||| BitVec.ofNat 32 (y * 2 ^ p)).toNat = a.toNat - (a.toNat / 2 ^ p % 256) * 2 ^ p + y * 2 ^ p := by
  have hM : (BitVec.ofNat 32 (255 * 2 ^ p)).toNat = 255 <<< p := by
    rw [BitVec.toNat_ofNat, Nat.shiftLeft_eq]
    exact Nat.mod_eq_of_lt (by rcases hp with rfl | rfl | rfl | rfl <;> decide)
  have hYl : y * 2 ^ p < 2 ^ 32 := by rcases hp with rfl | rfl | rfl | rfl <;> omega
  have hY : (BitVec.ofNat 32 (y * 2 ^ p)).toNat = y * 2 ^ p := by rw [BitVec.toNat_ofNat]; exact Nat.mod_eq_of_lt hYl
  have h1 := andnot_add a (BitVec.ofNat 32 (255 * 2 ^ p))
  rw [BitVec.toNat_and a (BitVec.ofNat 32 (255 * 2 ^ p)), hM, and_low, Nat.shiftLeft_eq] at h1
  have h2 : BitVec.ofNat 32 (y * 2 ^ p) &&& BitVec.ofNat 32 (255 * 2 ^ p) = BitVec.ofNat 32 (y * 2 ^ p) := by
    apply BitVec.eq_of_toNat_eq
    rw [BitVec.toNat_and, hM, and_low, hY, Nat.mul_div_cancel _ (Nat.two_pow_pos p), Nat.mod_eq_of_lt hy, Nat.shiftLeft_eq]
  have h3 : (a &&& ~~~(BitVec.ofNat 32 (255 * 2 ^ p))) &&& BitVec.ofNat 32 (y * 2 ^ p) = 0#32 := by
    rw [← h2]
    generalize BitVec.ofNat 32 (y * 2 ^ p) = Y
    generalize BitVec.ofNat 32 (255 * 2 ^ p) = M
    apply BitVec.eq_of_getLsbD_eq
    intro i hi
    simp only [BitVec.getLsbD_and, BitVec.getLsbD_not, BitVec.getLsbD_zero]
    cases a.getLsbD i <;> cases M.getLsbD i <;> cases Y.getLsbD i <;> simp
  rw [← BitVec.add_eq_or_of_and_eq_zero _ _ h3, BitVec.toNat_add, hY]
  have := a.isLt
  rcases hp with rfl | rfl | rfl | rfl <;> omega
/-- A word with another byte at the bit p. -/
def SB (x p y : Int) : Int := x - (x / 2 ^ p.toNat % 256) * 2 ^ p.toNat + y * 2 ^ p.toNat
/-- .. its byte at the bit p. -/
def BY (x p : Int) : Int := x / 2 ^ p.toNat % 256
theorem place_and (k : Int) : bits .and .i64 k 3 = k % 4 := by
  show IntKind.i64.wrap ((BitVec.ofInt 64 k &&& BitVec.ofInt 64 ((3 : Nat) : Int)).toNat : Int) = _
  rw [BitVec.ofInt_natCast, BitVec.toNat_and, BitVec.toNat_ofInt, BitVec.toNat_ofNat]
  have h := Nat.and_two_pow_sub_one_eq_mod (k % (2 ^ 64 : Nat)).toNat 2
  rw [show 2 ^ 2 - 1 = 3 from rfl, show 2 ^ 2 = 4 from rfl] at h
  rw [show 3 % 2 ^ 64 = 3 from rfl, h, IntKind.wrap_i64]
  rw [show (((2 : Nat) ^ 64 : Nat) : Int) = 18446744073709551616 from rfl]
  omega
theorem setb {x y p : Int} (h0 : 0 ≤ x) (h1 : x < 4294967296) (hy0 : 0 ≤ y) (hy1 : y < 256) (hp : p = 0 ∨ p = 8 ∨ p = 16 ∨ p = 24) :
    bits .or .u32 (bits .andNot .u32 x (255 * 2 ^ p.toNat % 4294967296)) (y * 2 ^ p.toNat % 4294967296) = SB x p y := by
  obtain ⟨n, rfl, hn, e1, t1⟩ := n32 h0 h1
  obtain ⟨z, rfl⟩ := Int.eq_ofNat_of_zero_le hy0
  obtain ⟨q, rfl⟩ := Int.eq_ofNat_of_zero_le (show 0 ≤ p by omega)
  have hq : q = 0 ∨ q = 8 ∨ q = 16 ∨ q = 24 := by omega
  have h := setb_bv (BitVec.ofNat 32 n) z q (by omega) hq
  have hl := ((BitVec.ofNat 32 n &&& ~~~(BitVec.ofNat 32 (255 * 2 ^ q))) ||| BitVec.ofNat 32 (z * 2 ^ q)).isLt
  have e2 : (255 * 2 ^ (q : Int).toNat % 4294967296 : Int) = ((255 * 2 ^ q : Nat) : Int) := by rcases hq with rfl | rfl | rfl | rfl <;> rfl
  have e3 : ((z : Int) * 2 ^ (q : Int).toNat % 4294967296 : Int) = ((z * 2 ^ q : Nat) : Int) := by
    rcases hq with rfl | rfl | rfl | rfl
    · show (z : Int) * 1 % 4294967296 = _; omega
    · show (z : Int) * 256 % 4294967296 = ((z * 256 : Nat) : Int); omega
    · show (z : Int) * 65536 % 4294967296 = ((z * 65536 : Nat) : Int); omega
    · show (z : Int) * 16777216 % 4294967296 = ((z * 16777216 : Nat) : Int); omega
  rw [e2, e3]
  have a1 : bits .andNot .u32 (n : Int) ((255 * 2 ^ q : Nat) : Int) = ((BitVec.ofNat 32 n &&& ~~~(BitVec.ofNat 32 (255 * 2 ^ q))).toNat : Int) := by
    have hb := (BitVec.ofNat 32 n &&& ~~~(BitVec.ofNat 32 (255 * 2 ^ q))).isLt
    show IntKind.u32.wrap ((BitVec.ofInt 32 (n : Int) &&& ~~~BitVec.ofInt 32 ((255 * 2 ^ q : Nat) : Int)).toNat : Int) = _
    rw [BitVec.ofInt_natCast, BitVec.ofInt_natCast, IntKind.wrap_u32]
    omega
  rw [a1]
  show IntKind.u32.wrap ((BitVec.ofInt 32 (((BitVec.ofNat 32 n &&& ~~~(BitVec.ofNat 32 (255 * 2 ^ q))).toNat : Nat) : Int) ||| BitVec.ofInt 32 ((z * 2 ^ q : Nat) : Int)).toNat : Int) = _
  rw [BitVec.ofInt_natCast, BitVec.ofInt_natCast, BitVec.ofNat_toNat, BitVec.setWidth_eq, IntKind.wrap_u32, h]
  rw [h] at hl
  rw [BitVec.toNat_ofNat, Nat.mod_eq_of_lt (show n < 2 ^ 32 from hn)] at hl ⊢
  unfold SB
  rcases hq with rfl | rfl | rfl | rfl
  · show _ = (n : Int) - ((n : Int) / 1 % 256) * 1 + (z : Int) * 1; omega
  · show _ = (n : Int) - ((n : Int) / 256 % 256) * 256 + (z : Int) * 256; omega
  · show _ = (n : Int) - ((n : Int) / 65536 % 256) * 65536 + (z : Int) * 65536; omega
  · show _ = (n : Int) - ((n : Int) / 16777216 % 256) * 16777216 + (z : Int) * 16777216; omega

/-- The word whose signed value is that of the lowest bits. -/
def ext (n : Nat) (x : BitVec 32) : BitVec 32 := (x <<< (32 - n)).sshiftRight (32 - n)
def X (n x : Int) : Int := wI (ext n.toNat (BitVec.ofInt 32 x))
theorem toInt_sg (x : BitVec 32) : x.toInt = sg x := by
  unfold sg wI
  rw [BitVec.toInt_eq_toNat_cond]
  split <;> split <;> omega
theorem wI_mod (x : BitVec 32) : wI x = x.toInt % 4294967296 := by
  rw [toInt_sg]
  have := x.isLt
  unfold sg wI
  split <;> omega
theorem wrap_sg {n : Int} (h0 : 0 ≤ n) (h1 : n < 4294967296) : wrap32 n = S n := by
  rw [S_of h0 h1]
  unfold wrap32
  split <;> omega
theorem X_eq {x n : Int} (h0 : 0 ≤ x) (h1 : x < 4294967296) (hn0 : 1 ≤ n) (hn1 : n ≤ 32) : wrap32 (x * 2 ^ (32 - n).toNat % 4294967296) / 2 ^ (32 - n).toNat % 4294967296 = X n x := by
  obtain ⟨m, rfl, hm, e1, t1⟩ := n32 h0 h1
  obtain ⟨k, rfl⟩ := Int.eq_ofNat_of_zero_le (show 0 ≤ n by omega)
  rw [show ((32 - (k : Int)).toNat) = 32 - k by omega]
  unfold X
  rw [wI_mod]
  unfold ext
  rw [BitVec.toInt_sshiftRight, toInt_sg, Int.shiftRight_eq_div_pow, show ((k : Int).toNat) = k from rfl]
  rw [wrap_sg (by omega) (by omega)]
  unfold S
  have : BitVec.ofInt 32 ((m : Int) * 2 ^ (32 - k) % 4294967296) = BitVec.ofInt 32 (m : Int) <<< (32 - k) := by
    apply BitVec.eq_of_toNat_eq
    rw [BitVec.toNat_shiftLeft, t1, Nat.shiftLeft_eq, BitVec.toNat_ofInt]
    rw [show (((2 : Nat) ^ 32 : Nat) : Int) = 4294967296 from rfl, Int.emod_emod]
    rw [show ((m : Int) * 2 ^ (32 - k)) = ((m * 2 ^ (32 - k) : Nat) : Int) by rw [Int.natCast_mul, Int.natCast_pow]; rfl]
    omega
  rw [this, Int.natCast_pow]
  rfl

/-- The number whose bits below k are f's. -/
def bs (f : Nat → Bool) : Nat → Nat
  | 0 => 0
  | k + 1 => bs f k + if f k then 2 ^ k else 0
theorem bs_lt (f : Nat → Bool) (k : Nat) : bs f k < 2 ^ k := by
  induction k with
  | zero => show 0 < 1; omega
  | succ k ih =>
    show bs f k + _ < _
    rw [Nat.pow_succ]
    split <;> omega
theorem bs_bit (f : Nat → Bool) (k i : Nat) : (bs f k).testBit i = (decide (i < k) && f i) := by
  induction k with
  | zero => show Nat.testBit 0 i = _; simp
  | succ k ih =>
    show (bs f k + _).testBit i = _
    have hl := bs_lt f k
    by_cases hf : f k = true
    · rw [if_pos hf, Nat.add_comm]
      rcases Nat.lt_trichotomy i k with h | h | h
      · rw [Nat.testBit_two_pow_add_gt h, ih, decide_eq_true h, decide_eq_true (show i < k + 1 by omega)]
      · subst h
        rw [Nat.testBit_two_pow_add_eq, Nat.testBit_lt_two_pow hl, decide_eq_true (show i < i + 1 by omega), hf]; rfl
      · rw [Nat.testBit_lt_two_pow (Nat.lt_of_lt_of_le (show 2 ^ k + bs f k < 2 ^ (k + 1) by rw [Nat.pow_succ]; omega) (Nat.pow_le_pow_right (by omega) h)), decide_eq_false (show ¬ i < k + 1 by omega)]; rfl
    · rw [if_neg hf, Nat.add_zero, ih]
      rcases Nat.lt_trichotomy i k with h | h | h
      · rw [decide_eq_true h, decide_eq_true (show i < k + 1 by omega)]
      · subst h
        rw [Bool.not_eq_true] at hf
        rw [hf]; simp
      · rw [decide_eq_false (show ¬ i < k by omega), decide_eq_false (show ¬ i < k + 1 by omega)]
theorem bs_word (f : Nat → Bool) (x : BitVec 32) (h : ∀ i, i < 32 → f i = x.getLsbD i) : (bs f 32 : Int) = wI x := by
  unfold wI
  congr 1
  apply Nat.eq_of_testBit_eq
  intro i
  rw [bs_bit]
  show _ = x.getLsbD i
  by_cases hi : i < 32
  · rw [decide_eq_true hi, h i hi, Bool.true_and]
  · rw [decide_eq_false hi, BitVec.getLsbD_of_ge _ _ (by omega), Bool.false_and]
theorem ext_bit (n : Nat) (h0 : 1 ≤ n) (h1 : n ≤ 32) (x : BitVec 32) (i : Nat) (hi : i < 32) : (ext n x).getLsbD i = x.getLsbD (if n - 1 < i then n - 1 else i) := by
  unfold ext
  rw [BitVec.getLsbD_sshiftRight]
  by_cases h : n - 1 < i
  · rw [if_pos h]
    rw [if_neg (by omega)]
    rw [BitVec.msb_eq_getLsbD_last, BitVec.getLsbD_shiftLeft]
    simp only [decide_eq_false (show ¬ 32 ≤ i by omega), Bool.not_false, Bool.true_and]
    rw [decide_eq_true (show 32 - 1 < 32 by omega), decide_eq_false (show ¬ 32 - 1 < 32 - n by omega), show 32 - 1 - (32 - n) = n - 1 by omega]
    rfl
  · rw [if_neg h]
    rw [if_pos (by omega)]
    rw [BitVec.getLsbD_shiftLeft]
    simp only [decide_eq_false (show ¬ 32 ≤ i by omega), Bool.not_false, Bool.true_and]
    rw [decide_eq_true (show 32 - n + i < 32 by omega), decide_eq_false (show ¬ 32 - n + i < 32 - n by omega), show 32 - n + i - (32 - n) = i by omega]
    rfl
end Al
end Go.Proofs.Ytonfdgbohmcpjaa
