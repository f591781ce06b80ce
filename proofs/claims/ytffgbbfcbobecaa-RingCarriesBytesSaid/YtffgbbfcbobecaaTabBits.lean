/-
  PLAIN MATHEMATICS: the bits of an entry of a page table, as the program's operations on words make and ask them.
-/
import Derived.Test.YtffgbbfcbobecaaHashMem
import Derived.Test.YtffgbbfcbobecaaMemMath
namespace Go.Proofs.Ytffgbbfcbobecaa
open Go.RowKit

theorem and32 (x m : Nat) (hx : x < 4294967296) (hm : m < 4294967296) : bits .and .u32 (x : Int) (m : Int) = ((x &&& m : Nat) : Int) := by
  show IntKind.u32.wrap ((BitVec.ofInt 32 (x : Int) &&& BitVec.ofInt 32 (m : Int)).toNat : Int) = _
  rw [BitVec.ofInt_natCast, BitVec.ofInt_natCast, BitVec.toNat_and, BitVec.toNat_ofNat, BitVec.toNat_ofNat, Nat.mod_eq_of_lt hx, Nat.mod_eq_of_lt hm, IntKind.wrap_u32]
  have : x &&& m ≤ x := Nat.and_le_left
  omega
theorem or32 (x m : Nat) (hx : x < 4294967296) (hm : m < 4294967296) : bits .or .u32 (x : Int) (m : Int) = ((x ||| m : Nat) : Int) := by
  show IntKind.u32.wrap ((BitVec.ofInt 32 (x : Int) ||| BitVec.ofInt 32 (m : Int)).toNat : Int) = _
  rw [BitVec.ofInt_natCast, BitVec.ofInt_natCast, BitVec.toNat_or, BitVec.toNat_ofNat, BitVec.toNat_ofNat, Nat.mod_eq_of_lt hx, Nat.mod_eq_of_lt hm, IntKind.wrap_u32]
  have : x ||| m < 2 ^ 32 := Nat.or_lt_two_pow hx hm
  omega
theorem and_two_pow (x k : Nat) : x &&& 2 ^ k = if x / 2 ^ k % 2 = 1 then 2 ^ k else 0 := by
  refine Nat.eq_of_testBit_eq fun i => ?_
  rw [Nat.testBit_and, Nat.testBit_two_pow]
  by_cases hi : k = i
  · subst hi
    rw [Nat.testBit_eq_decide_div_mod_eq]
    by_cases h : x / 2 ^ k % 2 = 1
    · rw [if_pos h, Nat.testBit_two_pow]
      simp [h]
    · rw [if_neg h, Nat.zero_testBit]
      simp [h]
  · split
    · rw [Nat.testBit_two_pow]
      simp [hi]
    · rw [Nat.zero_testBit]
      simp [hi]
theorem and_pow (x k : Nat) (hx : x < 4294967296) (hk : k < 32) : bits .and .u32 (x : Int) ((2 ^ k : Nat) : Int) = if x / 2 ^ k % 2 = 1 then ((2 ^ k : Nat) : Int) else 0 := by
  have h2 : 2 ^ k < 4294967296 := Nat.lt_of_lt_of_le (Nat.pow_lt_pow_right (by omega) hk) (Nat.le_refl _)
  rw [and32 x _ hx h2, and_two_pow]
  split <;> rfl
theorem and_low (x m : Nat) (hm : m < 128) : x &&& m = x % 128 &&& m := by
  have h := Nat.and_mod_two_pow (a := x) (b := m) (n := 7)
  rw [show (2 : Nat) ^ 7 = 128 from rfl, Nat.mod_eq_of_lt hm] at h
  rw [← h]
  exact (Nat.mod_eq_of_lt (Nat.lt_of_le_of_lt Nat.and_le_right hm)).symm
theorem or_low (x m : Nat) (hm : m < 128) : x ||| m = x / 128 * 128 + (x % 128 ||| m) := by
  have h := Nat.or_mod_two_pow (a := x) (b := m) (n := 7)
  have h2 := Nat.or_div_two_pow (a := x) (b := m) (n := 7)
  rw [show (2 : Nat) ^ 7 = 128 from rfl] at h h2
  rw [Nat.mod_eq_of_lt hm] at h
  rw [Nat.div_eq_of_lt hm, Nat.or_zero] at h2
  omega
theorem low62 (r : Nat) (h : r < 128) : (r &&& 62 = 0) ↔ r / 2 % 32 = 0 := by
  have : ∀ r : Fin 128, (r.1 &&& 62 = 0) ↔ r.1 / 2 % 32 = 0 := by decide +kernel
  exact this ⟨r, h⟩
theorem or16 (r : Nat) (h : r < 128) : (r ||| 16) = if r / 16 % 2 = 1 then r else r + 16 := by
  have : ∀ r : Fin 128, (r.1 ||| 16) = if r.1 / 16 % 2 = 1 then r.1 else r.1 + 16 := by decide +kernel
  exact this ⟨r, h⟩
theorem or32_ (r : Nat) (h : r < 128) : (r ||| 32) = if r / 32 % 2 = 1 then r else r + 32 := by
  have : ∀ r : Fin 128, (r.1 ||| 32) = if r.1 / 32 % 2 = 1 then r.1 else r.1 + 32 := by decide +kernel
  exact this ⟨r, h⟩

namespace Tm
open Wm (Bs isBs)
/-- Whether an entry has a bit. -/
def has (e b : Int) : Bool := decide (e / b % 2 = 1)
/-- The address of an entry. -/
def adr (e : Int) : Int := e / 128 * 128
def isE (e : Int) : Prop := 0 ≤ e ∧ e < 4294967296
end Tm
theorem has_bits {e : Int} (h : Tm.isE e) (k : Nat) (M : Int) (hM : M = ((2 ^ k : Nat) : Int)) (hk : k < 32) : (!(bits .and .u32 e M == 0)) = Tm.has e M := by
  obtain ⟨x, rfl⟩ := Int.eq_ofNat_of_zero_le h.1
  have hx : x < 4294967296 := by have := h.2; omega
  subst hM
  rw [and_pow x k hx hk]
  have hp : 0 < 2 ^ k := Nat.two_pow_pos k
  have hq : ((x : Int) / ((2 ^ k : Nat) : Int) % 2 = 1) ↔ (x / 2 ^ k % 2 = 1) := by
    generalize 2 ^ k = D at hp
    constructor <;> intro h <;> (have := Int.natCast_ediv x D; omega)
  unfold Tm.has
  by_cases hb : x / 2 ^ k % 2 = 1
  · rw [if_pos hb, decide_eq_true (hq.2 hb)]
    generalize 2 ^ k = D at hp
    have : (((D : Nat) : Int) == 0) = false := by rw [beq_eq_false_iff_ne]; omega
    rw [this]
    rfl
  · rw [if_neg hb, decide_eq_false (fun h => hb (hq.1 h))]
    rfl
theorem has62 {e : Int} (h : Tm.isE e) : (!(bits .and .u32 e 62 == 0)) = !decide (e / 2 % 32 = 0) := by
  obtain ⟨x, rfl⟩ := Int.eq_ofNat_of_zero_le h.1
  have hx : x < 4294967296 := by have := h.2; omega
  rw [show (62 : Int) = ((62 : Nat) : Int) from rfl, and32 x 62 hx (by omega), and_low x 62 (by omega)]
  have hr := low62 (x % 128) (by omega)
  congr 1
  rw [Bool.eq_iff_iff]
  simp only [beq_iff_eq, decide_eq_true_eq]
  constructor
  · intro h
    have := hr.1 (by exact_mod_cast h)
    omega
  · intro h
    have := hr.2 (by omega)
    exact_mod_cast this
theorem and127 {e : Int} (h : Tm.isE e) : bits .and .u32 e 127 = e % 128 := by
  obtain ⟨x, rfl⟩ := Int.eq_ofNat_of_zero_le h.1
  have hx : x < 4294967296 := by have := h.2; omega
  have h2 := Nat.and_two_pow_sub_one_eq_mod x 7
  rw [show 2 ^ 7 - 1 = 127 from rfl, show 2 ^ 7 = 128 from rfl] at h2
  rw [show (127 : Int) = ((127 : Nat) : Int) from rfl, and32 x 127 hx (by omega), h2]
  omega
theorem andn127 {e : Int} (h : Tm.isE e) : bits .andNot .u32 e 127 = Tm.adr e := by
  obtain ⟨x, rfl⟩ := Int.eq_ofNat_of_zero_le h.1
  have hx : x < 4294967296 := by have := h.2; omega
  show IntKind.u32.wrap ((BitVec.ofInt 32 (x : Int) &&& ~~~ BitVec.ofInt 32 (127 : Int)).toNat : Int) = _
  have e1 : BitVec.ofInt 32 (x : Int) &&& ~~~ BitVec.ofInt 32 (127 : Int) = (BitVec.ofNat 32 x >>> 7) <<< 7 := by
    rw [BitVec.ofInt_natCast]
    refine BitVec.eq_of_getLsbD_eq fun i hi => ?_
    rw [BitVec.getLsbD_and, BitVec.getLsbD_shiftLeft, BitVec.getLsbD_ushiftRight]
    have hm : (~~~ BitVec.ofInt 32 (127 : Int)).getLsbD i = !decide (i < 7) := by
      have : ∀ j : Fin 32, (~~~ BitVec.ofInt 32 (127 : Int)).getLsbD j.1 = !decide (j.1 < 7) := by decide +kernel
      exact this ⟨i, hi⟩
    rw [hm]
    by_cases h7 : i < 7
    · simp [h7]
    · rw [show 7 + (i - 7) = i by omega]
      simp [h7, hi]
  rw [e1, BitVec.toNat_shiftLeft, BitVec.toNat_ushiftRight, BitVec.toNat_ofNat, Nat.mod_eq_of_lt hx, Nat.shiftRight_eq_div_pow, Nat.shiftLeft_eq, IntKind.wrap_u32]
  unfold Tm.adr
  rw [show (2 : Nat) ^ 7 = 128 from rfl, show (2 : Nat) ^ 32 = 4294967296 from rfl]
  omega
namespace Tm
/-- An entry with a bit. -/
def wi (e b : Int) : Int := if has e b then e else e + b
end Tm
theorem or_16 {e : Int} (h : Tm.isE e) : bits .or .u32 e 16 = Tm.wi e 16 := by
  obtain ⟨x, rfl⟩ := Int.eq_ofNat_of_zero_le h.1
  have hx : x < 4294967296 := by have := h.2; omega
  rw [show (16 : Int) = ((16 : Nat) : Int) from rfl, or32 x 16 hx (by omega), or_low x 16 (by omega), or16 _ (by omega)]
  unfold Tm.wi Tm.has
  by_cases hb : x % 128 / 16 % 2 = 1
  · rw [if_pos hb, if_pos (by simp; omega)]
    omega
  · rw [if_neg hb, if_neg (by simp; omega)]
    omega
theorem or_32 {e : Int} (h : Tm.isE e) : bits .or .u32 e 32 = Tm.wi e 32 := by
  obtain ⟨x, rfl⟩ := Int.eq_ofNat_of_zero_le h.1
  have hx : x < 4294967296 := by have := h.2; omega
  rw [show (32 : Int) = ((32 : Nat) : Int) from rfl, or32 x 32 hx (by omega), or_low x 32 (by omega), or32_ _ (by omega)]
  unfold Tm.wi Tm.has
  by_cases hb : x % 128 / 32 % 2 = 1
  · rw [if_pos hb, if_pos (by simp; omega)]
    omega
  · rw [if_neg hb, if_neg (by simp; omega)]
    omega
theorem wi_e {e b : Int} (h : Tm.isE e) (hb : b = 16 ∨ b = 32) : Tm.isE (Tm.wi e b) := by
  obtain ⟨h0, h1⟩ := h
  unfold Tm.wi Tm.has
  split
  · exact ⟨h0, h1⟩
  · rename_i hn
    have hn : ¬ (e / b % 2 = 1) := by simpa using hn
    rcases hb with rfl | rfl <;> exact ⟨by omega, by omega⟩
/-- A page's address with the lowest bits. -/
theorem or_page {p m : Int} (hp : Tm.isE p) (hp2 : p % 128 = 0) (hm : 0 ≤ m) (hm2 : m < 128) : bits .or .u32 p m = p + m := by
  obtain ⟨x, rfl⟩ := Int.eq_ofNat_of_zero_le hp.1
  obtain ⟨y, rfl⟩ := Int.eq_ofNat_of_zero_le hm
  have hx : x < 4294967296 := by have := hp.2; omega
  rw [or32 x y hx (by omega), or_low x y (by omega), show x % 128 = 0 by omega, Nat.zero_or]
  omega
set_option maxRecDepth 100000 in
/-- Which numbers are rights. -/
theorem rights_is (r : Int) (h0 : -9223372036854775808 ≤ r) (h1 : r ≤ 9223372036854775807) : (bits .andNot .i64 r 14 == 0) = decide (0 ≤ r ∧ r % 2 = 0 ∧ r ≤ 14) := by
  have hw : ∀ x : BitVec 64, IntKind.i64.wrap ((x &&& ~~~14#64).toNat : Int) = 0 ↔ x &&& ~~~14#64 = 0#64 := by
    intro x
    rw [IntKind.wrap_i64]
    have := (x &&& ~~~14#64).isLt
    constructor
    · intro h
      apply BitVec.eq_of_toNat_eq
      rw [BitVec.toNat_ofNat]
      omega
    · intro h
      have h0 := congrArg BitVec.toNat h
      rw [BitVec.toNat_ofNat, Nat.zero_mod] at h0
      omega
  have hz : ∀ x : BitVec 64, x &&& ~~~14#64 = 0#64 ↔ x = x &&& 14#64 := by
    intro x
    constructor
    · intro h
      refine BitVec.eq_of_getLsbD_eq fun i hi => ?_
      have := congrArg (fun y => y.getLsbD i) h
      simp only [BitVec.getLsbD_and, BitVec.getLsbD_not, hi, decide_true, Bool.true_and, BitVec.getLsbD_zero] at this
      rw [BitVec.getLsbD_and]
      revert this
      cases x.getLsbD i <;> cases (14#64).getLsbD i <;> simp
    · intro h
      refine BitVec.eq_of_getLsbD_eq fun i hi => ?_
      have := congrArg (fun y => y.getLsbD i) h
      simp only [BitVec.getLsbD_and] at this
      simp only [BitVec.getLsbD_and, BitVec.getLsbD_not, hi, decide_true, Bool.true_and, BitVec.getLsbD_zero]
      revert this
      cases x.getLsbD i <;> cases (14#64).getLsbD i <;> simp
  have hs : ∀ x : BitVec 64, x = x &&& 14#64 ↔ x.toNat % 2 = 0 ∧ x.toNat ≤ 14 := by
    intro x
    constructor
    · intro h
      have ht := congrArg BitVec.toNat h
      rw [BitVec.toNat_and, BitVec.toNat_ofNat, show 14 % 2 ^ 64 = 14 from rfl] at ht
      have hle : x.toNat ≤ 14 := by rw [ht]; exact Nat.and_le_right
      refine ⟨?_, hle⟩
      have : ∀ y : Fin 15, y.1 = y.1 &&& 14 → y.1 % 2 = 0 := by decide +kernel
      exact this ⟨x.toNat, by omega⟩ ht
    · intro ⟨h, hle⟩
      apply BitVec.eq_of_toNat_eq
      rw [BitVec.toNat_and, BitVec.toNat_ofNat, show 14 % 2 ^ 64 = 14 from rfl]
      have : ∀ y : Fin 15, y.1 % 2 = 0 → y.1 = y.1 &&& 14 := by decide +kernel
      exact this ⟨x.toNat, by omega⟩ h
  show (IntKind.i64.wrap ((BitVec.ofInt 64 r &&& ~~~ BitVec.ofInt 64 14).toNat : Int) == 0) = _
  rw [show BitVec.ofInt 64 14 = 14#64 from rfl, Bool.eq_iff_iff, beq_iff_eq, decide_eq_true_eq, hw, hz, hs, BitVec.toNat_ofInt]
  rw [show (((2 : Nat) ^ 64 : Nat) : Int) = 18446744073709551616 from rfl]
  omega
end Go.Proofs.Ytffgbbfcbobecaa
