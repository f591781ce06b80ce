/-
  THE WALKS OF hash.shift, shiftAll, times, Join, and of the reference's step, Crc40, Join: the check of 40 bits.
-/
import Derived.Test.YtjfphjgmphlbhaaDoorProg
import Derived.Test.YtjfphjgmphlbhaaDoorJc
import Derived.Test.YtjfphjgmphlbhaaDoorJd
import Derived.Test.YtjfphjgmphlbhaaDoorJe
import Derived.StillTailTactics
import Derived.BigQuiet
import Derived.Deep.QuietTactic
namespace Go.Proofs.YtjfphjgmphlbhaaDoor
open Go.RowKit

set_option maxRecDepth 100000 in
theorem k40 : (1099511627775 : Int) = q64 1099511627775#64 := by decide
set_option maxRecDepth 100000 in
theorem kfb : (75628553 : Int) = q64 75628553#64 := by decide
set_option maxRecDepth 100000 in
theorem sl1 (A : BitVec 64) : IntKind.u64.wrap (q64 A * 2) = q64 (A <<< 1) := shl64 A 1 2 rfl
set_option maxRecDepth 100000 in
theorem sl3 (A : BitVec 64) : IntKind.u64.wrap (q64 A * 8) = q64 (A <<< 3) := shl64 A 3 8 rfl
set_option maxRecDepth 100000 in
theorem sl8 (A : BitVec 64) : IntKind.u64.wrap (q64 A * 256) = q64 (A <<< 8) := shl64 A 8 256 rfl
set_option maxRecDepth 100000 in
theorem sl17 (A : BitVec 64) : IntKind.u64.wrap (q64 A * 131072) = q64 (A <<< 17) := shl64 A 17 131072 rfl
set_option maxRecDepth 100000 in
theorem sl23 (A : BitVec 64) : IntKind.u64.wrap (q64 A * 8388608) = q64 (A <<< 23) := shl64 A 23 8388608 rfl
set_option maxRecDepth 100000 in
theorem sl26 (A : BitVec 64) : IntKind.u64.wrap (q64 A * 67108864) = q64 (A <<< 26) := shl64 A 26 67108864 rfl
set_option maxRecDepth 100000 in
theorem sr32 (A : BitVec 64) : q64 A / (4294967296 : Int) = q64 (A >>> 32) := shr64 A 32 4294967296 rfl
set_option maxRecDepth 100000 in
theorem sr39 (A : BitVec 64) : q64 A / (549755813888 : Int) = q64 (A >>> 39) := shr64 A 39 549755813888 rfl

set_option maxRecDepth 100000 in
def ib (b : Bool) : Int := if b then 1 else 0
set_option maxRecDepth 100000 in
/-- Bytes, as bit vectors. -/
def bv (b : Wm.Bs) : List (BitVec 8) := b.map ob
set_option maxRecDepth 100000 in
theorem bv_len (b : Wm.Bs) : (bv b).length = b.length := List.length_map _
set_option maxRecDepth 100000 in
theorem bv_append (a b : Wm.Bs) : bv (a ++ b) = bv a ++ bv b := List.map_append
set_option maxRecDepth 100000 in
theorem bv_take (b : Wm.Bs) (k : Nat) (h : k < b.length) : bv (b.take (k + 1)) = bv (b.take k) ++ [ob (b.getD k 0)] := by
  rw [List.take_succ_eq_append_getElem h, bv_append]
  simp [bv, h]
set_option maxRecDepth 100000 in
theorem bytes_snoc (r : Hm.R) (l : List (BitVec 8)) (c : BitVec 8) : Hm.bytes r (l ++ [c]) = Hm.byte (Hm.bytes r l) c := Hm.bytes_append _ _ _
set_option maxRecDepth 100000 in
theorem Sl.next {w : World} {A : Option Addr} {n : Nat} {b : Wm.Bs} (h : Sl w 1 A n (U b)) (hb : Wm.isBs b) {k : Nat} (hk : k < n) :
    ∃ ad x, A = some ad ∧ ad.block < w.heap.size ∧ w.cell? (ad.add k) = some (.int .u8 x) ∧ 0 ≤ x ∧ x < 256 ∧ Hid (b.getD k 0 = x ∧ bv (b.take (k + 1)) = bv (b.take k) ++ [ob x]) := by
  obtain ⟨ad, e, hl, hc⟩ := h.byte hk
  have hx := bs_at hb k
  exact ⟨ad, _, e, hl, hc, hx.1, hx.2, Lib.hid ⟨rfl, bv_take b k (by have := h.blen; omega)⟩⟩

set_option maxRecDepth 100000 in
/-- The bytes of a string. -/
def sb (s : ByteArray) : Wm.Bs := s.data.toList.map fun u => (u.toNat : Int)
set_option maxRecDepth 100000 in
theorem sb_len (s : ByteArray) : (sb s).length = s.size := by simp [sb]
set_option maxRecDepth 100000 in
theorem sb_bs (s : ByteArray) : Wm.isBs (sb s) := fun x hx => by
  obtain ⟨u, _, rfl⟩ := List.mem_map.1 hx
  have := u.toNat_lt
  omega
set_option maxRecDepth 100000 in
theorem sb_at (s : ByteArray) (k : Nat) (h : k < s.size) : (sb s).getD k 0 = ((s[k]).toNat : Int) := by
  have hl : k < (sb s).length := by rw [sb_len]; exact h
  rw [List.getD_eq_getElem?_getD, List.getElem?_eq_getElem hl]
  simp [sb]
  rfl
set_option maxRecDepth 100000 in
theorem sb_next (s : ByteArray) (k : Nat) (h : k < s.size) : Hid ((sb s).getD k 0 = ((s[k]).toNat : Int) ∧ bv ((sb s).take (k + 1)) = bv ((sb s).take k) ++ [ob ((s[k]).toNat : Int)]) := by
  have hx := sb_at s k h
  have h2 := bv_take (sb s) k (by rw [sb_len]; exact h)
  rw [hx] at h2
  exact Lib.hid ⟨hx, h2⟩

set_option maxRecDepth 100000 in
/-- Registers of the reference's round: the bits of a byte so far. -/
theorem bits_snoc (r : Hm.R) (l : List Bool) (b : Bool) : Hm.bits r (l ++ [b]) = Hm.bit (Hm.bits r l) b := by simp [Hm.bits]
set_option maxRecDepth 100000 in
theorem bitsOf_len (c : BitVec 8) : (Hm.bitsOf c).length = 8 := rfl
set_option maxRecDepth 100000 in
theorem bitsOf_next (c : BitVec 8) (k : Nat) (h : k < 8) : (Hm.bitsOf c).take (k + 1) = (Hm.bitsOf c).take k ++ [c.getLsbD (7 - k)] := by
  obtain rfl | rfl | rfl | rfl | rfl | rfl | rfl | rfl : k = 0 ∨ k = 1 ∨ k = 2 ∨ k = 3 ∨ k = 4 ∨ k = 5 ∨ k = 6 ∨ k = 7 := by omega
  all_goals rfl
set_option maxRecDepth 100000 in
theorem bit_of (x : Int) (hx : 0 ≤ x ∧ x < 256) (j : Nat) (h : j < 8) : bits .and .u64 (x / 2 ^ j) 1 = ib ((ob x).getLsbD j) := by
  have e : x = q64 ((ob x).setWidth 64) := by rw [← q8_64, q8_ob hx]
  have k1 : (1 : Int) = q64 1#64 := by decide
  have hm : ((2 ^ j : Nat) : Int) = (2 : Int) ^ j := by rw [Int.natCast_pow]; rfl
  have e2 : x / 2 ^ j = q64 (((ob x).setWidth 64) >>> j) := by rw [← shr64 _ j _ hm.symm, ← e]
  rw [e2, k1, and64]
  have : ∀ c : BitVec 8, (List.range 8).all (fun j => decide (q64 ((c.setWidth 64 >>> j) &&& 1#64) = ib (c.getLsbD j))) = true := by decide +kernel
  have h1 := Hm.of_range (this (ob x)) j h
  exact of_decide_eq_true h1
end Go.Proofs.YtjfphjgmphlbhaaDoor

/-
  THE WALKS OF hash.Crc40, BeginCrc, Add, Value, and of the reference's Crc40.
-/
namespace Go.Proofs.YtjfphjgmphlbhaaDoor
open Go.RowKit

set_option maxRecDepth 100000 in
theorem k40' : (1099511627775 : Int) = q40 Hm.ones := by decide
set_option maxRecDepth 100000 in
theorem xor40 (r s : Hm.R) : bits .xor .u64 (q40 r) (q40 s) = q40 (r ^^^ s) := by
  rw [q40_64, q40_64, xor64, ← BitVec.setWidth_xor, ← q40_64]

set_option maxRecDepth 100000 in
/-- The value Crc. -/
def crcV (r : Hm.R) : Value := .agg #[.int .u64 (q40 r)]

set_option maxRecDepth 100000 in
theorem later1 (w : World) (o : Obj) : Later w (w.alloc o) := (Below.refl _ _).alloc (Nat.le_refl _) _

set_option maxRecDepth 100000 in
/-- The check, as an integer. -/
def crcI (b : Wm.Bs) : Int := q40 (Hm.crc (bv b))
set_option maxRecDepth 100000 in
theorem crcI_eq (b : Wm.Bs) : q40 (Hm.bytes Hm.ones (bv b) ^^^ Hm.ones) = crcI b := rfl

end Go.Proofs.YtjfphjgmphlbhaaDoor

/-
  THE WALKS OF hash.times, Join and of the reference's Join: products of polynomials.
-/
namespace Go.Proofs.YtjfphjgmphlbhaaDoor
open Go.RowKit

set_option maxRecDepth 100000 in
theorem top_bit (a : Hm.R) : a.getLsbD 39 = decide (549755813888 ≤ a.toNat) := by
  have := BitVec.msb_eq_decide a
  rw [← this, BitVec.msb_eq_getLsbD_last]
set_option maxRecDepth 100000 in
theorem X_small (a : Hm.R) (h : q40 a * 2 ≤ 1099511627775) : q40 a * 2 = q40 (Hm.X a) := by
  have ht : a.getLsbD 39 = false := by rw [top_bit, decide_eq_false]; unfold q40 at h; omega
  unfold Hm.X
  rw [ht]
  unfold q40 at *
  simp only [Bool.false_eq_true, if_false, BitVec.xor_zero]
  rw [BitVec.toNat_shiftLeft, Nat.shiftLeft_eq, Nat.mod_eq_of_lt (by omega)]
  omega
set_option maxRecDepth 100000 in
theorem X_big (a : Hm.R) (h : 1099511627775 < q40 a * 2) : bits .xor .u64 (bits .and .u64 (q40 a * 2) 1099511627775) 75628553 = q40 (Hm.X a) := by
  have ht : a.getLsbD 39 = true := by rw [top_bit, decide_eq_true]; unfold q40 at h; omega
  have hb := q40_bd a
  have e1 : q40 a * (2 : Int) = q64 ((a.setWidth 64) <<< 1) := by
    rw [← sl1, ← q40_64, IntKind.wrap_u64]; omega
  rw [e1, k40, kfb, and64, low64, xor64, q40_64]
  unfold Hm.X
  rw [ht, BitVec.setWidth_xor]
  rfl
set_option maxRecDepth 100000 in
theorem low_bit (b : Hm.R) : bits .and .u64 (q40 b) 1 = ib (b.getLsbD 0) := by
  have k1 : (1 : Int) = q64 1#64 := by decide
  have h : ∀ b : Hm.R, (b.setWidth 64) &&& 1#64 = bv1 (b.getLsbD 0) := by
    intro r
    refine Hm.lin_ext (fun r => (r.setWidth 64) &&& 1#64) (fun r => bv1 (r.getLsbD 0)) (fun a b => ?_) (fun a b => ?_) (fun i hi => ?_) r
    · show (BitVec.setWidth 64 (a ^^^ b)) &&& 1#64 = _
      rw [BitVec.setWidth_xor, and_xor]
    · show bv1 ((a ^^^ b).getLsbD 0) = _
      rw [BitVec.getLsbD_xor]; unfold bv1; rw [Hm.ite_xor]
    · have : (List.range 40).all (fun i => ((Hm.e i).setWidth 64) &&& 1#64 == bv1 ((Hm.e i).getLsbD 0)) = true := by decide +kernel
      exact eq_of_beq (Hm.of_range this i hi)
  rw [q40_64, k1, and64, h]
  cases b.getLsbD 0 <;> decide
set_option maxRecDepth 100000 in
theorem half (b : Hm.R) : q40 b / (2 : Int) = q40 (b >>> 1) := by
  unfold q40
  rw [BitVec.toNat_ushiftRight, Nat.shiftRight_eq_div_pow]
  rfl
set_option maxRecDepth 100000 in
theorem S_zero (n : Nat) (a : Hm.R) : Hm.S n a 0#40 = 0#40 := by
  induction n generalizing a with
  | zero => rfl
  | succ n ih => rw [Hm.S, show (0#40 >>> 1 : Hm.R) = 0#40 from rfl, ih, show (0#40 : Hm.R).getLsbD 0 = false from rfl]; simp
set_option maxRecDepth 100000 in
/-- What a round of times keeps. -/
def Prod (t : Hm.R) (f : Nat) (a b p : Hm.R) : Prop := b.toNat < 2 ^ f ∧ p ^^^ Hm.S f a b = t
set_option maxRecDepth 100000 in
theorem Prod.start (a b : Hm.R) : Prod (Hm.S 40 a b) 40 a b 0#40 := ⟨b.isLt, BitVec.zero_xor⟩
set_option maxRecDepth 100000 in
theorem Prod.done {t a b p : Hm.R} {f : Nat} (h : Prod t f a b p) (hb : q40 b = 0) : q40 p = q40 t := by
  have : b = 0#40 := BitVec.eq_of_toNat_eq (by unfold q40 at hb; simpa using hb)
  subst this
  have := h.2
  rw [S_zero, BitVec.xor_zero] at this
  rw [this]
set_option maxRecDepth 100000 in
theorem Prod.step {t a b p : Hm.R} {f : Nat} (h : Prod t f a b p) (hb : 0 < q40 b) : ∃ g, Prod t g (Hm.X a) (b >>> 1) (if b.getLsbD 0 then p ^^^ a else p) := by
  cases f with
  | zero => have := h.1; unfold q40 at hb; omega
  | succ f =>
    refine ⟨f, ?_, ?_⟩
    · have := h.1
      rw [BitVec.toNat_ushiftRight, Nat.shiftRight_eq_div_pow]
      have e : 2 ^ (f + 1) = 2 ^ f * 2 := Nat.pow_succ 2 f
      omega
    · have := h.2
      rw [Hm.S] at this
      rw [← this]
      cases b.getLsbD 0
      · simp
      · simp only [if_true, BitVec.xor_assoc]

set_option maxRecDepth 100000 in
/-- The lowest 40 bits of an integer. -/
def o40 (x : Int) : Hm.R := BitVec.ofInt 40 x
set_option maxRecDepth 100000 in
theorem o64_and (x : Int) : bits .and .u64 (IntKind.u64.wrap x) 1099511627775 = q40 (o40 x) := by
  have e : IntKind.u64.wrap x = q64 (BitVec.ofInt 64 x) := by
    rw [IntKind.wrap_u64]; unfold q64; rw [BitVec.toNat_ofInt]
    show _ = (((x % 18446744073709551616).toNat : Nat) : Int)
    omega
  rw [e, k40, and64]
  unfold q64 q40 o40
  rw [BitVec.toNat_and, BitVec.toNat_ofInt, BitVec.toNat_ofInt]
  show (((x % 18446744073709551616).toNat &&& (2 ^ 40 - 1) : Nat) : Int) = (((x % 1099511627776).toNat : Nat) : Int)
  rw [Nat.and_two_pow_sub_one_eq_mod]
  omega
set_option maxRecDepth 100000 in
theorem o40_q40 (r : Hm.R) : o40 (q40 r) = r := BitVec.eq_of_toNat_eq (by
  have := r.isLt
  unfold o40 q40; rw [BitVec.toNat_ofInt]
  show ((r.toNat : Int) % 1099511627776).toNat = _
  omega)
set_option maxRecDepth 100000 in
/-- What Join answers. -/
def joinR (a b : Int) (n : Nat) : Int := q40 (Hm.Xn (8 * n) (o40 a) ^^^ o40 b)

set_option maxRecDepth 100000 in
theorem k256 : (256 : Int) = q40 (Hm.Xn 8 1#40) := by decide
set_option maxRecDepth 100000 in
/-- What a round of Join keeps. -/
def Pow (t : Hm.R) (m k : Nat) (p : Hm.R) : Prop := Hm.Xn (m * k) p = t
set_option maxRecDepth 100000 in
theorem Pow.odd {t p : Hm.R} {m k : Nat} (h : Pow t m (2 * k + 1) p) : Pow t (m + m) k (Hm.S 40 p (Hm.Xn m 1#40)) := by
  unfold Pow at *
  rw [Hm.S_Xn, ← Hm.Xn_add, ← h]
  congr 1
  rw [Nat.add_mul, Nat.mul_add, Nat.mul_one, Nat.mul_left_comm, Nat.two_mul]; omega
set_option maxRecDepth 100000 in
theorem Pow.even {t p : Hm.R} {m k : Nat} (h : Pow t m (2 * k) p) : Pow t (m + m) k p := by
  unfold Pow at *
  rw [← h]
  congr 1
  rw [Nat.add_mul, Nat.mul_left_comm, Nat.two_mul]
set_option maxRecDepth 100000 in
theorem Pow.sq (m : Nat) : Hm.S 40 (Hm.Xn m 1#40) (Hm.Xn m 1#40) = Hm.Xn (m + m) 1#40 := by rw [Hm.S_Xn, Hm.Xn_add]

set_option maxRecDepth 100000 in
theorem wraps_i64 (n : Int) (h₀ : 0 ≤ n) (h₁ : n < 2 ^ 63) : IntKind.i64.wrap n = n := by rw [IntKind.wrap_i64]; omega
set_option maxRecDepth 100000 in
theorem i64_and1 (x : Int) (h0 : 0 ≤ x) (h1 : x < 9223372036854775808) : bits .and .i64 x 1 = x % 2 := bits_mask .i64 63 (by decide) wraps_i64 1 (by decide) x h0 h1

end Go.Proofs.YtjfphjgmphlbhaaDoor

/-
  THE WALKS OF hash.Words and of the reference's Five, Bytes, Words.
-/
namespace Go.Proofs.YtjfphjgmphlbhaaDoor
open Go.RowKit

set_option maxRecDepth 100000 in
/-- The lowest 40 bits as five bytes. -/
def five (x : Int) : Wm.Bs := [x / 4294967296 % 256, x / 16777216 % 256, x / 65536 % 256, x / 256 % 256, x % 256]
set_option maxRecDepth 100000 in
theorem five_bs (x : Int) : Wm.isBs (five x) := fun y hy => by
  simp only [five, List.mem_cons, List.not_mem_nil, or_false] at hy
  omega
set_option maxRecDepth 100000 in
theorem five_next (x : Int) (j : Nat) (h : j < 5) : (five x).take (j + 1) = (five x).take j ++ [x / 2 ^ (32 - 8 * j) % 256] := by
  obtain rfl | rfl | rfl | rfl | rfl : j = 0 ∨ j = 1 ∨ j = 2 ∨ j = 3 ∨ j = 4 := by omega
  · rfl
  · rfl
  · rfl
  · rfl
  · simp [five]
set_option maxRecDepth 100000 in
/-- The bytes of words. -/
def fives (l : List Int) : Wm.Bs := l.flatMap five
set_option maxRecDepth 100000 in
theorem fives_bs (l : List Int) : Wm.isBs (fives l) := fun y hy => by
  obtain ⟨x, _, h⟩ := List.mem_flatMap.1 hy
  exact five_bs x y h
set_option maxRecDepth 100000 in
theorem fives_len (l : List Int) : (fives l).length = 5 * l.length := by
  induction l with
  | nil => rfl
  | cons a l ih => show (five a ++ fives l).length = _; rw [List.length_append, ih, List.length_cons]; show 5 + _ = _; omega
set_option maxRecDepth 100000 in
theorem fives_snoc (l : List Int) (x : Int) : fives (l ++ [x]) = fives l ++ five x := by simp [fives]
set_option maxRecDepth 100000 in
theorem Sl.int {w : World} {A : Option Addr} {n : Nat} {l : List Int} (h : Sl w 1 A n (N64 l)) {k : Nat} (hk : k < n) : ∃ ad x, A = some ad ∧ ad.block < w.heap.size ∧ w.cell? (ad.add k) = some (.int .i64 x) ∧ Hid (l.take (k + 1) = l.take k ++ [x]) := by
  obtain ⟨ad, u, e, hb, hu, hc⟩ := h.at1 hk
  have hl : k < l.length := by have := h.1; simp only [N64, List.length_map] at this; omega
  simp only [N64, List.getElem?_map, List.getElem?_eq_getElem hl, Option.map_some] at hu
  cases hu
  exact ⟨ad, l[k], e, hb, hc, Lib.hid (List.take_succ_eq_append_getElem hl)⟩

set_option maxRecDepth 100000 in
theorem own_app_H {w : World} {B : Nat} {e : TypeId} {v : Value} {a b : Wm.Bs} {m : Nat} (hm : m = b.length) (h : w.ownsRow B e 1 v (a.length + m) (U a ++ U b)) : w.ownsRow B e 1 v (a ++ b).length (U (a ++ b)) := by
  subst hm
  rw [List.length_append, U_append]
  exact h
set_option maxRecDepth 100000 in
/-- What a maker of bytes answers: a new slice that holds them. -/
def Made_H (bs : Wm.Bs) (w : World) (e : Ending) (w' : World) : Prop := ∃ A c, e = .returned (.slice A bs.length c) ∧ bs.length ≤ c ∧ c ≤ maxLen ∧ w'.ownsRow w.heap.size 5 1 (.slice A bs.length c) bs.length (U bs) ∧ Sl w' 1 A bs.length (U bs) ∧ Later w w'
set_option maxRecDepth 100000 in
theorem made_of {bs : Wm.Bs} {w w' : World} {v : Value} (ho : w'.ownsRow w.heap.size 5 1 v bs.length (U bs)) (hb : Later w w') : Made_H bs w (.returned v) w' := by
  obtain ⟨A, c, hv, h1, h2, h3, _⟩ := own_form ho
  subst hv
  exact ⟨A, c, rfl, h1, h2, ho, h3, hb⟩

end Go.Proofs.YtjfphjgmphlbhaaDoor

/-
  THE WALKS OF hash.rotr, math/bits.RotateLeft32, and of the reference's rotr.
-/
namespace Go.Proofs.YtjfphjgmphlbhaaDoor
open Go.RowKit

set_option maxRecDepth 100000 in
theorem rotl_s (n m : Nat) (h : n + m = 32) (h0 : 1 ≤ n) (h1 : n ≤ 31) : bits .and .u64 (IntKind.u64.wrap (-(n : Int))) 31 = (m : Int) := by
  have e : IntKind.u64.wrap (-(n : Int)) = ((18446744073709551616 - n : Nat) : Int) := by rw [IntKind.wrap_u64]; omega
  rw [e]
  have e2 := bits_and_u64_nat (18446744073709551616 - n) 31 (by omega) (by decide)
  rw [show ((31 : Nat) : Int) = 31 from rfl] at e2
  rw [e2, Nat.and_two_pow_sub_one_eq_mod _ 5]
  omega
set_option maxRecDepth 100000 in
theorem rot_is (x : BitVec 32) (n m : Nat) (h : n + m = 32) : bits .or .u32 (q32 x / 2 ^ n) (q32 x * 2 ^ m % 4294967296) = q32 (Hs.rotr x n) := by
  have e1 : q32 x / 2 ^ n = q32 (x >>> n) := shr32 x n _ (by rw [Int.natCast_pow]; rfl)
  have e2 : q32 x * 2 ^ m % 4294967296 = q32 (x <<< m) := by rw [← IntKind.wrap_u32]; exact shl32 x m _ (by rw [Int.natCast_pow]; rfl)
  rw [e1, e2, or32]
  unfold Hs.rotr
  rw [show 32 - n = m by omega]
set_option maxRecDepth 100000 in
theorem or32_comm (a b : Int) : bits .or .u32 a b = bits .or .u32 b a := by
  show IntKind.u32.wrap ((BitVec.ofInt 32 a ||| BitVec.ofInt 32 b).toNat : Int) = IntKind.u32.wrap ((BitVec.ofInt 32 b ||| BitVec.ofInt 32 a).toNat : Int)
  rw [BitVec.or_comm]

set_option maxRecDepth 100000 in
set_option maxHeartbeats 400000 in
theorem rotl_any (x : BitVec 32) (n m : Nat) (w : World) (h0 : 1 ≤ n) (h1 : n ≤ 31) (h : n + m = 32) :
    Calls Tryd.prog 100 #[.int .u32 (q32 x), .int .i64 (-(n : Int))] w fun e w' => e = .returned (.int .u32 (q32 (Hs.rotr x n))) ∧ w = w' := by
  have hx := q32_bd x
  have hs := rotl_s n m h h0 h1
  have hr := rot_is x n m h
  rw [or32_comm] at hr
  have HR := Lib.hid hr
  have hm0 : 1 ≤ m := by omega
  have hm1 : m ≤ 31 := by omega
  have hcast : ((32 : Int) - (m : Int)).toNat = n := by omega
  clear hr h
  go_enter Tryd.func100, Tryd.ntmps100
  go_wp2
  go_ret
  exact ⟨ret_int HR.out, rfl⟩
set_option maxRecDepth 100000 in
set_option maxHeartbeats 400000 in
theorem rotr_any (x : BitVec 32) (n : Nat) (w : World) (h0 : 1 ≤ n) (h1 : n ≤ 31) :
    Calls Tryd.prog 96 #[.int .u32 (q32 x), .int .i64 n] w fun e w' => e = .returned (.int .u32 (q32 (Hs.rotr x n))) ∧ w = w' := by
  go_enter Tryd.func96, Tryd.ntmps96
  go_wp2_with (go_at_call 100; refine (rotl_any x n (32 - n) _ h0 h1 (by omega)).mono ?_; rintro e w' ⟨rfl, rfl⟩)
  go_ret
  exact ⟨rfl, rfl⟩
end Go.Proofs.YtjfphjgmphlbhaaDoor
