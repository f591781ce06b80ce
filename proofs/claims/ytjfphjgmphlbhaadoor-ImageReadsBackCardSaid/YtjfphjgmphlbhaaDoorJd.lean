/-
  PLAIN MATHEMATICS of a check of 40 bits: registers as bit vectors, the polynomial's step X, and what a product by a power of X is.
-/
import Derived.Test.YtjfphjgmphlbhaaDoorJb
import Derived.WalkKit
import Derived.Laws.Bits64
import Derived.Laws.Bits64b
import Derived.Laws.BitsLemmas
import Derived.Laws.Rows
import Derived.Laws.IdiomCopy
import Derived.Deep.MidRow
import Derived.Deep.WholeRow
import Derived.Laws.Tables
import Derived.Laws.CopyOwn
namespace Go.Proofs.YtjfphjgmphlbhaaDoor.Hm

abbrev R := BitVec 40

set_option maxRecDepth 100000 in
/-- The register times x, modulo the polynomial. -/
def X (r : R) : R := (r <<< 1) ^^^ (if r.getLsbD 39 then 0x0004820009#40 else 0#40)

set_option maxRecDepth 100000 in
/-- X, n times. -/
def Xn : Nat → R → R
  | 0, r => r
  | n + 1, r => Xn n (X r)

set_option maxRecDepth 100000 in
/-- One bit of a message. -/
def bit (r : R) (b : Bool) : R := X (r ^^^ (if b then 0x8000000000#40 else 0#40))
set_option maxRecDepth 100000 in
def bits (r : R) (l : List Bool) : R := l.foldl bit r

set_option maxRecDepth 100000 in
theorem ite_xor {n : Nat} (a b : Bool) (v : BitVec n) : (if (a ^^ b) then v else 0#n) = (if a then v else 0#n) ^^^ (if b then v else 0#n) := by
  cases a <;> cases b <;> simp

set_option maxRecDepth 100000 in
theorem X_xor (a b : R) : X (a ^^^ b) = X a ^^^ X b := by
  unfold X
  rw [BitVec.getLsbD_xor, ite_xor, BitVec.shiftLeft_xor_distrib]
  ac_rfl
set_option maxRecDepth 100000 in
theorem X_zero : X 0#40 = 0#40 := by decide
set_option maxRecDepth 100000 in
theorem Xn_xor (n : Nat) (a b : R) : Xn n (a ^^^ b) = Xn n a ^^^ Xn n b := by
  induction n generalizing a b with
  | zero => rfl
  | succ n ih => rw [Xn, X_xor, ih]; rfl
set_option maxRecDepth 100000 in
theorem Xn_zero (n : Nat) : Xn n 0#40 = 0#40 := by
  induction n with
  | zero => rfl
  | succ n ih => rw [Xn, X_zero, ih]
set_option maxRecDepth 100000 in
theorem Xn_add (m n : Nat) (r : R) : Xn (m + n) r = Xn n (Xn m r) := by
  induction m generalizing r with
  | zero => rw [Nat.zero_add]; rfl
  | succ m ih => rw [Nat.add_right_comm, Xn, ih]; rfl
set_option maxRecDepth 100000 in
theorem Xn_succ' (n : Nat) (r : R) : Xn (n + 1) r = X (Xn n r) := by rw [Xn_add]; rfl
set_option maxRecDepth 100000 in
theorem Xn_comm (m n : Nat) (r : R) : Xn m (Xn n r) = Xn n (Xn m r) := by rw [← Xn_add, ← Xn_add, Nat.add_comm]

set_option maxRecDepth 100000 in
/-- The i-th basis vector. -/
def e (i : Nat) : R := BitVec.twoPow 40 i

set_option maxRecDepth 100000 in
/-- Two additive functions that agree at the basis agree. -/
theorem lin_ext {w : Nat} (f g : R → BitVec w) (hf : ∀ a b, f (a ^^^ b) = f a ^^^ f b) (hg : ∀ a b, g (a ^^^ b) = g a ^^^ g b) (h : ∀ i, i < 40 → f (e i) = g (e i)) (r : R) : f r = g r := by
  have f0 : f 0#40 = 0#w := by have := hf 0#40 0#40; simpa using this
  have g0 : g 0#40 = 0#w := by have := hg 0#40 0#40; simpa using this
  have main : ∀ n, n ≤ 40 → ∀ r : R, r.toNat < 2 ^ n → f r = g r := by
    intro n
    induction n with
    | zero =>
      intro _ r hr
      have : r = 0#40 := BitVec.eq_of_toNat_eq (by simpa using hr)
      rw [this, f0, g0]
    | succ n ih =>
      intro hn r hr
      by_cases hb : r.getLsbD n = true
      · have hs : r = (r ^^^ e n) ^^^ e n := by rw [BitVec.xor_assoc, BitVec.xor_self, BitVec.xor_zero]
        have hlt : (r ^^^ e n).toNat < 2 ^ n := by
          apply Nat.lt_pow_two_of_testBit
          intro i hi
          rw [BitVec.testBit_toNat, BitVec.getLsbD_xor]
          unfold e
          rw [BitVec.getLsbD_twoPow]
          by_cases hin : i = n
          · subst hin; rw [hb]; simp; omega
          · have h1 : r.getLsbD i = false := by
              rw [← BitVec.testBit_toNat]
              exact Nat.testBit_lt_two_pow (Nat.lt_of_lt_of_le hr (Nat.pow_le_pow_right (by decide) (by omega)))
            rw [h1]
            simp; omega
        rw [hs, hf, hg, ih (by omega) _ hlt, h n (by omega)]
      · apply ih (by omega)
        apply Nat.lt_pow_two_of_testBit
        intro i hi
        rw [BitVec.testBit_toNat]
        by_cases hin : i = n
        · subst hin; simpa using hb
        · rw [← BitVec.testBit_toNat]
          exact Nat.testBit_lt_two_pow (Nat.lt_of_lt_of_le hr (Nat.pow_le_pow_right (by decide) (by omega)))
  exact main 40 (Nat.le_refl _) r r.isLt

set_option maxRecDepth 100000 in
theorem of_range {n : Nat} {p : Nat → Bool} (h : (List.range n).all p = true) (i : Nat) (hi : i < n) : p i = true :=
  List.all_eq_true.1 h i (List.mem_range.2 hi)

set_option maxRecDepth 100000 in
/-- Eight bits at once, as the program does. -/
def feed (f : R) : R := f <<< 26 ^^^ f <<< 23 ^^^ f <<< 17 ^^^ f <<< 3 ^^^ f
set_option maxRecDepth 100000 in
def byteAt (c : BitVec 8) : R := c.setWidth 40 <<< 32
set_option maxRecDepth 100000 in
theorem feed_xor (a b : R) : feed (a ^^^ b) = feed a ^^^ feed b := by
  unfold feed; simp only [BitVec.shiftLeft_xor_distrib]
  generalize a <<< 26 = a1; generalize a <<< 23 = a2; generalize a <<< 17 = a3; generalize a <<< 3 = a4
  generalize b <<< 26 = b1; generalize b <<< 23 = b2; generalize b <<< 17 = b3; generalize b <<< 3 = b4
  ac_rfl
set_option maxRecDepth 100000 in
theorem X8 (r : R) : Xn 8 r = (r <<< 8) ^^^ feed (r >>> 32) := by
  refine lin_ext (Xn 8) (fun r => (r <<< 8) ^^^ feed (r >>> 32)) (Xn_xor 8) (fun a b => ?_) (fun i hi => ?_) r
  · simp only [BitVec.shiftLeft_xor_distrib, BitVec.ushiftRight_xor_distrib, feed_xor]
    generalize feed (a >>> 32) = p
    generalize feed (b >>> 32) = q
    generalize a <<< 8 = s
    generalize b <<< 8 = t
    ac_rfl
  · have : (List.range 40).all (fun i => Xn 8 (e i) == (e i <<< 8) ^^^ feed (e i >>> 32)) = true := by decide +kernel
    exact eq_of_beq (of_range this i hi)

set_option maxRecDepth 100000 in
/-- The register after a byte. -/
def byte (r : R) (c : BitVec 8) : R := Xn 8 (r ^^^ byteAt c)
set_option maxRecDepth 100000 in
def bytes (r : R) (l : List (BitVec 8)) : R := l.foldl byte r

set_option maxRecDepth 100000 in
/-- The bits of a byte, the most significant one first. -/
def bitsOf (c : BitVec 8) : List Bool := [c.getLsbD 7, c.getLsbD 6, c.getLsbD 5, c.getLsbD 4, c.getLsbD 3, c.getLsbD 2, c.getLsbD 1, c.getLsbD 0]

set_option maxRecDepth 100000 in
/-- Bits behind a register. -/
theorem bits_xor (l : List Bool) (r s : R) (m : List Bool) (h : l.length = m.length) : bits (r ^^^ s) (List.zipWith (· ^^ ·) l m) = bits r l ^^^ bits s m := by
  induction l generalizing r s m with
  | nil => cases m <;> simp_all [bits]
  | cons a l ih =>
    cases m with
    | nil => simp at h
    | cons b m =>
      have hb : bit (r ^^^ s) (a ^^ b) = bit r a ^^^ bit s b := by
        unfold bit; rw [ite_xor, ← X_xor]; congr 1; ac_rfl
      simp only [bits, List.zipWith_cons_cons, List.foldl_cons, hb]
      exact ih _ _ _ (by simpa using h)

set_option maxRecDepth 100000 in
theorem bits_zero (l : List Bool) (r : R) : bits r l = Xn l.length r ^^^ bits 0#40 l := by
  induction l generalizing r with
  | nil => simp [bits, Xn]
  | cons a l ih =>
    have h1 : bits r (a :: l) = bits (bit r a) l := rfl
    have h2 : bits 0#40 (a :: l) = bits (bit 0#40 a) l := rfl
    rw [h1, h2, ih (bit r a), ih (bit 0#40 a)]
    have : bit r a = X r ^^^ bit 0#40 a := by unfold bit; rw [X_xor, X_xor, X_zero, BitVec.zero_xor]
    rw [this, Xn_xor, List.length_cons, Xn, BitVec.xor_assoc]

set_option maxRecDepth 100000 in
theorem byte_bits (r : R) (c : BitVec 8) : byte r c = bits r (bitsOf c) := by
  have hr : bits r (bitsOf c) = Xn 8 r ^^^ bits 0#40 (bitsOf c) := bits_zero (bitsOf c) r
  have : ∀ c : BitVec 8, Xn 8 (byteAt c) = bits 0#40 (bitsOf c) := by decide +kernel
  rw [hr, ← this, ← Xn_xor]; rfl

set_option maxRecDepth 100000 in
theorem bytes_append (r : R) (a b : List (BitVec 8)) : bytes r (a ++ b) = bytes (bytes r a) b := List.foldl_append
set_option maxRecDepth 100000 in
theorem bytes_zero (r : R) (l : List (BitVec 8)) : bytes r l = Xn (8 * l.length) r ^^^ bytes 0#40 l := by
  induction l generalizing r with
  | nil => simp [bytes, Xn]
  | cons a l ih =>
    have h1 : bytes r (a :: l) = bytes (byte r a) l := rfl
    have h2 : bytes 0#40 (a :: l) = bytes (byte 0#40 a) l := rfl
    rw [h1, h2, ih (byte r a), ih (byte 0#40 a)]
    have : byte r a = Xn 8 r ^^^ byte 0#40 a := by unfold byte; rw [Xn_xor, Xn_xor, Xn_zero, BitVec.zero_xor]
    rw [this, Xn_xor, List.length_cons, ← Xn_add, show 8 + 8 * l.length = 8 * (l.length + 1) by omega, BitVec.xor_assoc]

set_option maxRecDepth 100000 in
def ones : R := 0xffffffffff#40
set_option maxRecDepth 100000 in
/-- The check. -/
def crc (l : List (BitVec 8)) : R := bytes ones l ^^^ ones
set_option maxRecDepth 100000 in
theorem xor_cancel {n : Nat} (a b : BitVec n) : a ^^^ b ^^^ b = a := by rw [BitVec.xor_assoc, BitVec.xor_self, BitVec.xor_zero]
set_option maxRecDepth 100000 in
theorem crc_append (a b : List (BitVec 8)) : crc (a ++ b) = Xn (8 * b.length) (crc a) ^^^ crc b := by
  unfold crc
  rw [bytes_append, bytes_zero (bytes ones a) b, bytes_zero ones b, Xn_xor]
  generalize Xn (8 * b.length) (bytes ones a) = p
  generalize Xn (8 * b.length) ones = q
  generalize bytes 0#40 b = s
  have : p ^^^ q ^^^ (q ^^^ s ^^^ ones) = p ^^^ (q ^^^ q) ^^^ s ^^^ ones := by ac_rfl
  rw [this, BitVec.xor_self, BitVec.xor_zero]

set_option maxRecDepth 100000 in
/-- The product by a polynomial b of n bits. -/
def S : Nat → R → R → R
  | 0, _, _ => 0#40
  | n + 1, a, b => (if b.getLsbD 0 then a else 0#40) ^^^ S n (X a) (b >>> 1)
set_option maxRecDepth 100000 in
theorem S_left (n : Nat) (a a' b : R) : S n (a ^^^ a') b = S n a b ^^^ S n a' b := by
  induction n generalizing a a' b with
  | zero => simp [S]
  | succ n ih =>
    simp only [S, X_xor, ih]
    cases b.getLsbD 0 <;> simp <;> ac_rfl
set_option maxRecDepth 100000 in
theorem S_right (n : Nat) (a b b' : R) : S n a (b ^^^ b') = S n a b ^^^ S n a b' := by
  induction n generalizing a b b' with
  | zero => simp [S]
  | succ n ih =>
    simp only [S, BitVec.ushiftRight_xor_distrib, ih, BitVec.getLsbD_xor, ite_xor]
    ac_rfl
set_option maxRecDepth 100000 in
theorem S_X (a b : R) : S 40 a (X b) = X (S 40 a b) := by
  refine lin_ext (fun a => S 40 a (X b)) (fun a => X (S 40 a b)) (fun a a' => S_left _ _ _ _) (fun a a' => by simp only [S_left, X_xor]) (fun i hi => ?_) a
  refine lin_ext (fun b => S 40 (e i) (X b)) (fun b => X (S 40 (e i) b)) (fun b b' => by simp only [X_xor, S_right]) (fun b b' => by simp only [S_right, X_xor]) (fun j hj => ?_) b
  have : (List.range 40).all (fun i => (List.range 40).all (fun j => S 40 (e i) (X (e j)) == X (S 40 (e i) (e j)))) = true := by decide +kernel
  have h1 := of_range this i hi
  exact eq_of_beq (of_range h1 j hj)
set_option maxRecDepth 100000 in
theorem S_one (a : R) : S 40 a 1#40 = a := by
  refine lin_ext (fun a => S 40 a 1#40) id (fun a a' => S_left _ _ _ _) (fun _ _ => rfl) (fun i hi => ?_) a
  have : (List.range 40).all (fun i => S 40 (e i) 1#40 == id (e i)) = true := by decide +kernel
  exact eq_of_beq (of_range this i hi)
set_option maxRecDepth 100000 in
theorem S_Xn (m : Nat) (a : R) : S 40 a (Xn m 1#40) = Xn m a := by
  induction m with
  | zero => exact S_one a
  | succ m ih => rw [Xn_succ', Xn_succ', S_X, ih]

set_option maxRecDepth 100000 in
/-- X loses nothing. -/
def Y (r : R) : R := (r >>> 1) ^^^ (if r.getLsbD 0 then 0x8002410004#40 else 0#40)
set_option maxRecDepth 100000 in
theorem Y_xor (a b : R) : Y (a ^^^ b) = Y a ^^^ Y b := by
  unfold Y
  rw [BitVec.getLsbD_xor, ite_xor, BitVec.ushiftRight_xor_distrib]
  ac_rfl
set_option maxRecDepth 100000 in
theorem Y_X (r : R) : Y (X r) = r := by
  refine lin_ext (fun r => Y (X r)) id (fun a b => by simp only [X_xor, Y_xor]) (fun _ _ => rfl) (fun i hi => ?_) r
  have : (List.range 40).all (fun i => Y (X (e i)) == id (e i)) = true := by decide +kernel
  exact eq_of_beq (of_range this i hi)
set_option maxRecDepth 100000 in
theorem Xn_ne {n : Nat} {r : R} (h : r ≠ 0#40) : Xn n r ≠ 0#40 := by
  induction n generalizing r with
  | zero => exact h
  | succ n ih =>
    apply ih
    intro hx
    apply h
    have := Y_X r
    rw [hx] at this
    rw [← this]; decide

end Go.Proofs.YtjfphjgmphlbhaaDoor.Hm

/-
  PLAIN MATHEMATICS of SHA-256: words of 32 bits as bit vectors, a block's words, rounds, blocks of a message, its padding.
-/
namespace Go.Proofs.YtjfphjgmphlbhaaDoor.Hs

abbrev W := BitVec 32
abbrev By := BitVec 8

set_option maxRecDepth 100000 in
def rotr (x : W) (n : Nat) : W := (x >>> n) ||| (x <<< (32 - n))

set_option maxRecDepth 100000 in
/-- The round constants. -/
def K : List W := [
  0x428a2f98#32, 0x71374491#32, 0xb5c0fbcf#32, 0xe9b5dba5#32, 0x3956c25b#32, 0x59f111f1#32, 0x923f82a4#32, 0xab1c5ed5#32,
  0xd807aa98#32, 0x12835b01#32, 0x243185be#32, 0x550c7dc3#32, 0x72be5d74#32, 0x80deb1fe#32, 0x9bdc06a7#32, 0xc19bf174#32,
  0xe49b69c1#32, 0xefbe4786#32, 0x0fc19dc6#32, 0x240ca1cc#32, 0x2de92c6f#32, 0x4a7484aa#32, 0x5cb0a9dc#32, 0x76f988da#32,
  0x983e5152#32, 0xa831c66d#32, 0xb00327c8#32, 0xbf597fc7#32, 0xc6e00bf3#32, 0xd5a79147#32, 0x06ca6351#32, 0x14292967#32,
  0x27b70a85#32, 0x2e1b2138#32, 0x4d2c6dfc#32, 0x53380d13#32, 0x650a7354#32, 0x766a0abb#32, 0x81c2c92e#32, 0x92722c85#32,
  0xa2bfe8a1#32, 0xa81a664b#32, 0xc24b8b70#32, 0xc76c51a3#32, 0xd192e819#32, 0xd6990624#32, 0xf40e3585#32, 0x106aa070#32,
  0x19a4c116#32, 0x1e376c08#32, 0x2748774c#32, 0x34b0bcb5#32, 0x391c0cb3#32, 0x4ed8aa4a#32, 0x5b9cca4f#32, 0x682e6ff3#32,
  0x748f82ee#32, 0x78a5636f#32, 0x84c87814#32, 0x8cc70208#32, 0x90befffa#32, 0xa4506ceb#32, 0xbef9a3f7#32, 0xc67178f2#32]

set_option maxRecDepth 100000 in
def word (a b c d : By) : W := a.setWidth 32 <<< 24 ||| b.setWidth 32 <<< 16 ||| c.setWidth 32 <<< 8 ||| d.setWidth 32

set_option maxRecDepth 100000 in
/-- The t-th word of a block. -/
def wordAt (b : List By) (t : Nat) : W := word (b.getD (4 * t) 0) (b.getD (4 * t + 1) 0) (b.getD (4 * t + 2) 0) (b.getD (4 * t + 3) 0)
set_option maxRecDepth 100000 in
def firsts (b : List By) (n : Nat) : List W := (List.range n).map (wordAt b)
set_option maxRecDepth 100000 in
theorem firsts_succ (b : List By) (n : Nat) : firsts b (n + 1) = firsts b n ++ [wordAt b n] := by
  unfold firsts; rw [List.range_succ, List.map_append]; rfl
set_option maxRecDepth 100000 in
theorem firsts_len (b : List By) (n : Nat) : (firsts b n).length = n := by simp [firsts]

set_option maxRecDepth 100000 in
def s0 (x : W) : W := rotr x 7 ^^^ rotr x 18 ^^^ (x >>> 3)
set_option maxRecDepth 100000 in
def s1 (x : W) : W := rotr x 17 ^^^ rotr x 19 ^^^ (x >>> 10)
set_option maxRecDepth 100000 in
/-- The word behind t words. -/
def next (l : List W) (t : Nat) : W := l.getD (t - 16) 0 + s0 (l.getD (t - 15) 0) + l.getD (t - 7) 0 + s1 (l.getD (t - 2) 0)
set_option maxRecDepth 100000 in
def grow : Nat → List W → List W
  | 0, l => l
  | n + 1, l => grow n (l ++ [next l l.length])
set_option maxRecDepth 100000 in
def words (b : List By) : List W := grow 48 (firsts b 16)
set_option maxRecDepth 100000 in
theorem grow_len (n : Nat) (l : List W) : (grow n l).length = l.length + n := by
  induction n generalizing l with
  | zero => rfl
  | succ n ih => rw [grow, ih, List.length_append, List.length_singleton]; omega
set_option maxRecDepth 100000 in
theorem words_len (b : List By) : (words b).length = 64 := by unfold words; rw [grow_len, firsts_len]

set_option maxRecDepth 100000 in
/-- The variables a to h. -/
structure St where
  a : W
  b : W
  c : W
  d : W
  e : W
  f : W
  g : W
  h : W
set_option maxRecDepth 100000 in
def St.list (s : St) : List W := [s.a, s.b, s.c, s.d, s.e, s.f, s.g, s.h]
set_option maxRecDepth 100000 in
def St.add (s t : St) : St := ⟨s.a + t.a, s.b + t.b, s.c + t.c, s.d + t.d, s.e + t.e, s.f + t.f, s.g + t.g, s.h + t.h⟩
set_option maxRecDepth 100000 in
def tx (s : St) (k w : W) : W := s.h + (rotr s.e 6 ^^^ rotr s.e 11 ^^^ rotr s.e 25) + ((s.e &&& s.f) ^^^ (~~~s.e &&& s.g)) + k + w
set_option maxRecDepth 100000 in
def ty (s : St) : W := (rotr s.a 2 ^^^ rotr s.a 13 ^^^ rotr s.a 22) + ((s.a &&& s.b) ^^^ (s.a &&& s.c) ^^^ (s.b &&& s.c))
set_option maxRecDepth 100000 in
def round (s : St) (k w : W) : St := ⟨tx s k w + ty s, s.a, s.b, s.c, s.d + tx s k w, s.e, s.f, s.g⟩
set_option maxRecDepth 100000 in
/-- The rounds from t on, n of them. -/
def rounds (ws : List W) : Nat → Nat → St → St
  | 0, _, s => s
  | n + 1, t, s => rounds ws n (t + 1) (round s (K.getD t 0) (ws.getD t 0))
set_option maxRecDepth 100000 in
def compress (s : St) (b : List By) : St := s.add (rounds (words b) 64 0 s)

set_option maxRecDepth 100000 in
def iv : St := ⟨0x6a09e667#32, 0xbb67ae85#32, 0x3c6ef372#32, 0xa54ff53a#32, 0x510e527f#32, 0x9b05688c#32, 0x1f83d9ab#32, 0x5be0cd19#32⟩

set_option maxRecDepth 100000 in
/-- The value after n blocks of a message. -/
def blocks : Nat → St → List By → St
  | 0, s, _ => s
  | n + 1, s, m => blocks n (compress s (m.take 64)) (m.drop 64)
set_option maxRecDepth 100000 in
theorem blocks_append (k n : Nat) (s : St) (a b : List By) (h : a.length = 64 * k) : blocks (k + n) s (a ++ b) = blocks n (blocks k s a) b := by
  induction k generalizing s a with
  | zero => rw [List.eq_nil_of_length_eq_zero (by omega : a.length = 0)]; simp [blocks]
  | succ k ih =>
    rw [show k + 1 + n = (k + n) + 1 by omega, blocks, blocks, List.take_append_of_le_length (by omega), List.drop_append_of_le_length (by omega)]
    exact ih _ _ (by rw [List.length_drop]; omega)
set_option maxRecDepth 100000 in
theorem blocks_left (k : Nat) (s : St) (a b : List By) (h : 64 * k ≤ a.length) : blocks k s (a ++ b) = blocks k s a := by
  induction k generalizing s a with
  | zero => rfl
  | succ k ih =>
    rw [blocks, blocks, List.take_append_of_le_length (by omega), List.drop_append_of_le_length (by omega)]
    exact ih _ _ (by rw [List.length_drop]; omega)
set_option maxRecDepth 100000 in
theorem blocks_add (k n : Nat) (s : St) (m : List By) (h : 64 * k ≤ m.length) : blocks (k + n) s m = blocks n (blocks k s m) (m.drop (64 * k)) := by
  have e : m = m.take (64 * k) ++ m.drop (64 * k) := (List.take_append_drop _ _).symm
  have h1 := blocks_append k n s (m.take (64 * k)) (m.drop (64 * k)) (by rw [List.length_take]; omega)
  have h2 := blocks_left k s (m.take (64 * k)) (m.drop (64 * k)) (by rw [List.length_take]; omega)
  rw [← e] at h1 h2
  rw [h1, h2]

set_option maxRecDepth 100000 in
/-- The length in bits, as eight bytes. -/
def len8 (n : Nat) : List By := (List.range 8).map fun i => BitVec.ofNat 8 (8 * n / 2 ^ (56 - 8 * i))
set_option maxRecDepth 100000 in
theorem len8_len (n : Nat) : (len8 n).length = 8 := by simp [len8]
set_option maxRecDepth 100000 in
/-- The zero bytes of the padding. -/
def zs (n : Nat) : Nat := (119 - n % 64) % 64
set_option maxRecDepth 100000 in
def pad (m : List By) : List By := m ++ [128#8] ++ List.replicate (zs m.length) 0#8 ++ len8 m.length
set_option maxRecDepth 100000 in
theorem pad_len (m : List By) : (pad m).length = 64 * ((m.length + 72) / 64) := by
  unfold pad zs
  simp only [List.length_append, List.length_replicate, len8_len, List.length_singleton]
  omega
set_option maxRecDepth 100000 in
def bytesOf (s : St) : List By := (List.range 32).map fun i => ((s.list.getD (i / 4) 0) >>> (24 - 8 * (i % 4))).setWidth 8
set_option maxRecDepth 100000 in
def final (m : List By) : St := blocks ((m.length + 72) / 64) iv (pad m)
set_option maxRecDepth 100000 in
def sha (m : List By) : List By := bytesOf (final m)

set_option maxRecDepth 100000 in
/-- A stream: the value after the whole blocks of m, and at the beginning of its block the rest. -/
def whole (m : List By) : St := blocks (m.length / 64) iv m
set_option maxRecDepth 100000 in
def rest (m : List By) : List By := m.drop (64 * (m.length / 64))
set_option maxRecDepth 100000 in
theorem rest_len (m : List By) : (rest m).length = m.length % 64 := by unfold rest; rw [List.length_drop]; omega

set_option maxRecDepth 100000 in
/-- More bytes, within the block. -/
theorem rest_within (m t : List By) (h : m.length % 64 + t.length < 64) : whole (m ++ t) = whole m ∧ rest (m ++ t) = rest m ++ t := by
  have e : (m ++ t).length / 64 = m.length / 64 := by rw [List.length_append]; omega
  unfold whole rest
  rw [e, blocks_left _ _ _ _ (by omega), List.drop_append_of_le_length (by omega)]
  exact ⟨rfl, rfl⟩
set_option maxRecDepth 100000 in
/-- More bytes, that make the block full. -/
theorem rest_full (m t : List By) (h : m.length % 64 + t.length = 64) : whole (m ++ t) = compress (whole m) (rest m ++ t) ∧ rest (m ++ t) = [] := by
  have e : (m ++ t).length / 64 = m.length / 64 + 1 := by rw [List.length_append]; omega
  constructor
  · unfold whole
    rw [e, blocks_add _ _ _ _ (by rw [List.length_append]; omega), blocks_left _ _ _ _ (by omega), List.drop_append_of_le_length (by omega)]
    show compress _ (List.take 64 (rest m ++ t)) = _
    rw [List.take_of_length_le (by rw [List.length_append, rest_len]; omega)]
  · unfold rest
    rw [e]
    apply List.drop_eq_nil_of_le
    rw [List.length_append]; omega
set_option maxRecDepth 100000 in
/-- The end: one block. -/
theorem final_one (m : List By) (h : m.length % 64 ≤ 55) : final m = compress (whole m) (rest m ++ [128#8] ++ List.replicate (55 - m.length % 64) 0#8 ++ len8 m.length) := by
  have e : (m.length + 72) / 64 = m.length / 64 + 1 := by omega
  have hz : zs m.length = 55 - m.length % 64 := by unfold zs; omega
  unfold final
  rw [e, blocks_add _ _ _ _ (by rw [pad_len]; omega)]
  unfold pad
  rw [List.append_assoc, List.append_assoc, blocks_left _ _ _ _ (by omega), List.drop_append_of_le_length (by omega), hz]
  show compress _ (List.take 64 _) = _
  rw [List.take_of_length_le]
  · show compress (whole m) (rest m ++ _) = _
    simp only [List.append_assoc]
  · simp only [List.length_append, List.length_drop, List.length_replicate, len8_len, List.length_singleton]
    omega
set_option maxRecDepth 100000 in
/-- The end: two blocks. -/
theorem final_two (m : List By) (h : 55 < m.length % 64) : final m = compress (compress (whole m) (rest m ++ [128#8] ++ List.replicate (63 - m.length % 64) 0#8)) (List.replicate 56 0#8 ++ len8 m.length) := by
  have e : (m.length + 72) / 64 = m.length / 64 + 2 := by omega
  have hz : zs m.length = (63 - m.length % 64) + 56 := by unfold zs; omega
  unfold final
  rw [e, blocks_add _ _ _ _ (by rw [pad_len]; omega)]
  unfold pad
  rw [List.append_assoc, List.append_assoc, blocks_left _ _ _ _ (by omega), List.drop_append_of_le_length (by omega), hz]
  have hr : List.replicate (63 - m.length % 64 + 56) 0#8 = List.replicate (63 - m.length % 64) 0#8 ++ List.replicate 56 0#8 := by rw [List.replicate_append_replicate]
  rw [hr]
  have hb : List.drop (64 * (m.length / 64)) m ++ ([128#8] ++ (List.replicate (63 - m.length % 64) 0#8 ++ List.replicate 56 0#8 ++ len8 m.length)) = (rest m ++ [128#8] ++ List.replicate (63 - m.length % 64) 0#8) ++ (List.replicate 56 0#8 ++ len8 m.length) := by
    simp only [rest, List.append_assoc]
  rw [hb]
  have hl : (rest m ++ [128#8] ++ List.replicate (63 - m.length % 64) 0#8).length = 64 := by
    simp only [List.length_append, rest_len, List.length_replicate, List.length_singleton]; omega
  have hb1 := blocks_append 1 1 (whole m) _ (List.replicate 56 0#8 ++ len8 m.length) (by rw [hl])
  show blocks (1 + 1) (whole m) _ = _
  rw [hb1]
  simp only [blocks]
  rw [List.take_of_length_le (by omega), List.take_of_length_le (by simp [len8_len])]

example : (sha [97#8, 98#8, 99#8]).take 4 = [0xba#8, 0x78#8, 0x16#8, 0xbf#8] := by decide +kernel
end Go.Proofs.YtjfphjgmphlbhaaDoor.Hs

/-
  PLAIN FACTS, OF NO PROGRAM: Go's words of 64 and 32 bits as bit vectors.
-/
namespace Go.Proofs.YtjfphjgmphlbhaaDoor
open Go.RowKit

set_option maxRecDepth 100000 in
def q64 (A : BitVec 64) : Int := (A.toNat : Int)
set_option maxRecDepth 100000 in
def q40 (A : BitVec 40) : Int := (A.toNat : Int)
set_option maxRecDepth 100000 in
def q32 (A : BitVec 32) : Int := (A.toNat : Int)
set_option maxRecDepth 100000 in
def q8 (A : BitVec 8) : Int := (A.toNat : Int)

set_option maxRecDepth 100000 in
theorem q64_bd (A : BitVec 64) : 0 ≤ q64 A ∧ q64 A < 18446744073709551616 := by
  have := A.isLt; unfold q64; omega
set_option maxRecDepth 100000 in
theorem q40_bd (A : BitVec 40) : 0 ≤ q40 A ∧ q40 A < 1099511627776 := by
  have := A.isLt; unfold q40; omega
set_option maxRecDepth 100000 in
theorem q32_bd (A : BitVec 32) : 0 ≤ q32 A ∧ q32 A < 4294967296 := by
  have := A.isLt; unfold q32; omega
set_option maxRecDepth 100000 in
theorem q8_bd (A : BitVec 8) : 0 ≤ q8 A ∧ q8 A < 256 := by
  have := A.isLt; unfold q8; omega
set_option maxRecDepth 100000 in
theorem q40_64 (A : BitVec 40) : q40 A = q64 (A.setWidth 64) := by
  unfold q40 q64; rw [BitVec.toNat_setWidth, Nat.mod_eq_of_lt (Nat.lt_trans A.isLt (by decide))]
set_option maxRecDepth 100000 in
theorem q40_inj {A B : BitVec 40} (h : q40 A = q40 B) : A = B := BitVec.eq_of_toNat_eq (by unfold q40 at h; omega)
set_option maxRecDepth 100000 in
theorem q32_inj {A B : BitVec 32} (h : q32 A = q32 B) : A = B := BitVec.eq_of_toNat_eq (by unfold q32 at h; omega)
set_option maxRecDepth 100000 in
theorem q8_64 (A : BitVec 8) : q8 A = q64 (A.setWidth 64) := by
  unfold q8 q64; rw [BitVec.toNat_setWidth, Nat.mod_eq_of_lt (Nat.lt_trans A.isLt (by decide))]
set_option maxRecDepth 100000 in
theorem q8_32 (A : BitVec 8) : q8 A = q32 (A.setWidth 32) := by
  unfold q8 q32; rw [BitVec.toNat_setWidth, Nat.mod_eq_of_lt (Nat.lt_trans A.isLt (by decide))]

set_option maxRecDepth 100000 in
theorem and_xor {n : Nat} (a b m : BitVec n) : (a ^^^ b) &&& m = (a &&& m) ^^^ (b &&& m) := by
  apply BitVec.eq_of_getLsbD_eq
  intro i hi
  simp only [BitVec.getLsbD_and, BitVec.getLsbD_xor]
  cases a.getLsbD i <;> cases b.getLsbD i <;> cases m.getLsbD i <;> rfl

set_option maxRecDepth 100000 in
/-- The byte of an integer. -/
def ob (x : Int) : BitVec 8 := BitVec.ofInt 8 x
set_option maxRecDepth 100000 in
theorem q8_ob {x : Int} (h : 0 ≤ x ∧ x < 256) : q8 (ob x) = x := by
  unfold q8 ob; rw [BitVec.toNat_ofInt]
  show (((x % 256).toNat : Nat) : Int) = x
  omega
set_option maxRecDepth 100000 in
theorem ob_q8 (A : BitVec 8) : ob (q8 A) = A := BitVec.eq_of_toNat_eq (by
  have := A.isLt
  unfold q8 ob; rw [BitVec.toNat_ofInt]
  show ((A.toNat : Int) % 256).toNat = _
  omega)

set_option maxRecDepth 100000 in
theorem xor64 (A B : BitVec 64) : bits .xor .u64 (q64 A) (q64 B) = q64 (A ^^^ B) := by
  unfold q64; rw [BitVec.toNat_xor]; exact bits_xor_u64_nat _ _ A.isLt B.isLt
set_option maxRecDepth 100000 in
theorem and64 (A B : BitVec 64) : bits .and .u64 (q64 A) (q64 B) = q64 (A &&& B) := by
  unfold q64; rw [BitVec.toNat_and]; exact bits_and_u64_nat _ _ A.isLt B.isLt
set_option maxRecDepth 100000 in
theorem shl64 (A : BitVec 64) (k : Nat) (m : Int) (h : m = ((2 ^ k : Nat) : Int)) : IntKind.u64.wrap (q64 A * m) = q64 (A <<< k) := by
  rw [IntKind.wrap_u64, h]
  unfold q64
  rw [BitVec.toNat_shiftLeft, Nat.shiftLeft_eq, ← Int.natCast_mul]
  omega
set_option maxRecDepth 100000 in
theorem shr64 (A : BitVec 64) (k : Nat) (m : Int) (h : m = ((2 ^ k : Nat) : Int)) : q64 A / m = q64 (A >>> k) := by
  rw [h]
  unfold q64
  rw [BitVec.toNat_ushiftRight, Nat.shiftRight_eq_div_pow]
  rfl
set_option maxRecDepth 100000 in
theorem add64 (A B : BitVec 64) : IntKind.u64.wrap (q64 A + q64 B) = q64 (A + B) := by
  rw [IntKind.wrap_u64]; unfold q64; rw [BitVec.toNat_add]; omega

set_option maxRecDepth 100000 in
theorem of32 (A : BitVec 32) : BitVec.ofInt 32 (q32 A) = A := by
  unfold q32; rw [BitVec.ofInt_natCast]; exact BitVec.eq_of_toNat_eq (by simp)
set_option maxRecDepth 100000 in
theorem wrap32 (A : BitVec 32) : IntKind.u32.wrap (A.toNat : Int) = q32 A := by
  have := A.isLt
  rw [IntKind.wrap_u32]; unfold q32; omega
set_option maxRecDepth 100000 in
theorem xor32 (A B : BitVec 32) : bits .xor .u32 (q32 A) (q32 B) = q32 (A ^^^ B) := by
  show IntKind.u32.wrap ((BitVec.ofInt 32 (q32 A) ^^^ BitVec.ofInt 32 (q32 B)).toNat : Int) = _
  rw [of32, of32, wrap32]
set_option maxRecDepth 100000 in
theorem and32 (A B : BitVec 32) : bits .and .u32 (q32 A) (q32 B) = q32 (A &&& B) := by
  show IntKind.u32.wrap ((BitVec.ofInt 32 (q32 A) &&& BitVec.ofInt 32 (q32 B)).toNat : Int) = _
  rw [of32, of32, wrap32]
set_option maxRecDepth 100000 in
theorem or32 (A B : BitVec 32) : bits .or .u32 (q32 A) (q32 B) = q32 (A ||| B) := by
  show IntKind.u32.wrap ((BitVec.ofInt 32 (q32 A) ||| BitVec.ofInt 32 (q32 B)).toNat : Int) = _
  rw [of32, of32, wrap32]
set_option maxRecDepth 100000 in
theorem add32 (A B : BitVec 32) : IntKind.u32.wrap (q32 A + q32 B) = q32 (A + B) := by
  rw [IntKind.wrap_u32]; unfold q32; rw [BitVec.toNat_add]; omega
set_option maxRecDepth 100000 in
theorem shl32 (A : BitVec 32) (k : Nat) (m : Int) (h : m = ((2 ^ k : Nat) : Int)) : IntKind.u32.wrap (q32 A * m) = q32 (A <<< k) := by
  rw [IntKind.wrap_u32, h]
  unfold q32
  rw [BitVec.toNat_shiftLeft, Nat.shiftLeft_eq, ← Int.natCast_mul]
  omega
set_option maxRecDepth 100000 in
theorem shr32 (A : BitVec 32) (k : Nat) (m : Int) (h : m = ((2 ^ k : Nat) : Int)) : q32 A / m = q32 (A >>> k) := by
  rw [h]
  unfold q32
  rw [BitVec.toNat_ushiftRight, Nat.shiftRight_eq_div_pow]
  rfl
set_option maxRecDepth 100000 in
theorem not32 (A : BitVec 32) : bits .xor .u32 (q32 A) 4294967295 = q32 (~~~A) := by
  have e : (4294967295 : Int) = q32 (BitVec.allOnes 32) := by decide
  rw [e, xor32, BitVec.xor_allOnes]
set_option maxRecDepth 100000 in
theorem not32' (A : BitVec 32) : bits .xor .u32 4294967295 (q32 A) = q32 (~~~A) := by
  have e : (4294967295 : Int) = q32 (BitVec.allOnes 32) := by decide
  rw [e, xor32, BitVec.allOnes_xor]

set_option maxRecDepth 100000 in
theorem of8 (A : BitVec 8) : BitVec.ofInt 8 (q8 A) = A := by
  unfold q8; rw [BitVec.ofInt_natCast]; exact BitVec.eq_of_toNat_eq (by simp)
set_option maxRecDepth 100000 in
theorem wrap8 (A : BitVec 8) : IntKind.u8.wrap (A.toNat : Int) = q8 A := by
  have := A.isLt
  rw [IntKind.wrap_u8]; unfold q8; omega
set_option maxRecDepth 100000 in
theorem xor8 (A B : BitVec 8) : bits .xor .u8 (q8 A) (q8 B) = q8 (A ^^^ B) := by
  show IntKind.u8.wrap ((BitVec.ofInt 8 (q8 A) ^^^ BitVec.ofInt 8 (q8 B)).toNat : Int) = _
  rw [of8, of8, wrap8]

set_option maxRecDepth 100000 in
/-- hash.shift, on words of 64 bits. -/
def shift64 (A C : BitVec 64) : BitVec 64 :=
  ((A <<< 8) &&& 1099511627775#64) ^^^ (((A >>> 32) ^^^ C) <<< 26) ^^^ (((A >>> 32) ^^^ C) <<< 23) ^^^ (((A >>> 32) ^^^ C) <<< 17) ^^^ (((A >>> 32) ^^^ C) <<< 3) ^^^ ((A >>> 32) ^^^ C)
set_option maxRecDepth 100000 in
theorem shift64_xor (A B C D : BitVec 64) : shift64 (A ^^^ B) (C ^^^ D) = shift64 A C ^^^ shift64 B D := by
  have hand : ((A ^^^ B) <<< 8) &&& 1099511627775#64 = ((A <<< 8) &&& 1099511627775#64) ^^^ ((B <<< 8) &&& 1099511627775#64) := by
    rw [BitVec.shiftLeft_xor_distrib, and_xor]
  have hf : ((A ^^^ B) >>> 32) ^^^ (C ^^^ D) = ((A >>> 32) ^^^ C) ^^^ ((B >>> 32) ^^^ D) := by
    rw [BitVec.ushiftRight_xor_distrib]
    generalize A >>> 32 = a; generalize B >>> 32 = b
    ac_rfl
  unfold shift64
  rw [hand, hf]
  generalize (A >>> 32) ^^^ C = f
  generalize (B >>> 32) ^^^ D = g
  simp only [BitVec.shiftLeft_xor_distrib]
  generalize (A <<< 8) &&& 1099511627775#64 = a0; generalize (B <<< 8) &&& 1099511627775#64 = b0
  generalize f <<< 26 = f1; generalize f <<< 23 = f2; generalize f <<< 17 = f3; generalize f <<< 3 = f4
  generalize g <<< 26 = g1; generalize g <<< 23 = g2; generalize g <<< 17 = g3; generalize g <<< 3 = g4
  ac_rfl
set_option maxRecDepth 100000 in
theorem shift64_is (r : Hm.R) (c : BitVec 8) : shift64 (r.setWidth 64) (c.setWidth 64) = (Hm.byte r c).setWidth 64 := by
  have h1 : shift64 (r.setWidth 64) 0#64 = (Hm.Xn 8 r).setWidth 64 := by
    refine Hm.lin_ext (fun r => shift64 (r.setWidth 64) 0#64) (fun r => (Hm.Xn 8 r).setWidth 64) (fun a b => ?_) (fun a b => ?_) (fun i hi => ?_) r
    · have := shift64_xor (a.setWidth 64) (b.setWidth 64) 0#64 0#64
      rw [BitVec.xor_self] at this
      simp only [BitVec.setWidth_xor, this]
    · simp only [Hm.Xn_xor, BitVec.setWidth_xor]
    · have : (List.range 40).all (fun i => shift64 ((Hm.e i).setWidth 64) 0#64 == (Hm.Xn 8 (Hm.e i)).setWidth 64) = true := by decide +kernel
      exact eq_of_beq (Hm.of_range this i hi)
  have h2 : ∀ c : BitVec 8, shift64 0#64 (c.setWidth 64) = (Hm.Xn 8 (Hm.byteAt c)).setWidth 64 := by decide +kernel
  have h3 := shift64_xor (r.setWidth 64) 0#64 0#64 (c.setWidth 64)
  rw [BitVec.xor_zero, BitVec.zero_xor] at h3
  rw [h3, h1, h2]
  unfold Hm.byte
  rw [Hm.Xn_xor, BitVec.setWidth_xor]

set_option maxRecDepth 100000 in
/-- The reference's step, on words of 64 bits. -/
def step64 (A C : BitVec 64) : BitVec 64 :=
  if ((A >>> 39) &&& 1#64) ^^^ C = 1#64 then ((A <<< 1) &&& 1099511627775#64) ^^^ 75628553#64 else (A <<< 1) &&& 1099511627775#64
set_option maxRecDepth 100000 in
def bv1 (b : Bool) : BitVec 64 := if b then 1#64 else 0#64
set_option maxRecDepth 100000 in
theorem top64 (r : Hm.R) : ((r.setWidth 64) >>> 39) &&& 1#64 = bv1 (r.getLsbD 39) := by
  refine Hm.lin_ext (fun r => ((r.setWidth 64) >>> 39) &&& 1#64) (fun r => bv1 (r.getLsbD 39)) (fun a b => ?_) (fun a b => ?_) (fun i hi => ?_) r
  · show (BitVec.setWidth 64 (a ^^^ b) >>> 39) &&& 1#64 = _
    rw [BitVec.setWidth_xor, BitVec.ushiftRight_xor_distrib, and_xor]
  · show bv1 ((a ^^^ b).getLsbD 39) = _
    rw [BitVec.getLsbD_xor]; unfold bv1; rw [Hm.ite_xor]
  · have : (List.range 40).all (fun i => (((Hm.e i).setWidth 64) >>> 39) &&& 1#64 == bv1 ((Hm.e i).getLsbD 39)) = true := by decide +kernel
    exact eq_of_beq (Hm.of_range this i hi)
set_option maxRecDepth 100000 in
theorem low64 (r : Hm.R) : ((r.setWidth 64) <<< 1) &&& 1099511627775#64 = (r <<< 1).setWidth 64 := by
  refine Hm.lin_ext (fun r => ((r.setWidth 64) <<< 1) &&& 1099511627775#64) (fun r => (r <<< 1).setWidth 64) (fun a b => ?_) (fun a b => ?_) (fun i hi => ?_) r
  · show (BitVec.setWidth 64 (a ^^^ b) <<< 1) &&& 1099511627775#64 = _
    rw [BitVec.setWidth_xor, BitVec.shiftLeft_xor_distrib, and_xor]
  · show BitVec.setWidth 64 ((a ^^^ b) <<< 1) = _
    rw [BitVec.shiftLeft_xor_distrib, BitVec.setWidth_xor]
  · have : (List.range 40).all (fun i => (((Hm.e i).setWidth 64) <<< 1) &&& 1099511627775#64 == ((Hm.e i) <<< 1).setWidth 64) = true := by decide +kernel
    exact eq_of_beq (Hm.of_range this i hi)
set_option maxRecDepth 100000 in
theorem step64_is (r : Hm.R) (b : Bool) : step64 (r.setWidth 64) (bv1 b) = (Hm.bit r b).setWidth 64 := by
  unfold step64
  rw [top64, low64]
  have hb : Hm.bit r b = (r <<< 1) ^^^ (if (r.getLsbD 39 ^^ b) then 0x0004820009#40 else 0#40) := by
    unfold Hm.bit
    rw [Hm.X_xor, Hm.ite_xor]
    unfold Hm.X
    cases b <;> simp [BitVec.xor_assoc] <;> rfl
  rw [hb]
  cases r.getLsbD 39 <;> cases b <;> simp [bv1, BitVec.setWidth_xor]
end Go.Proofs.YtjfphjgmphlbhaaDoor

/-
  WORDS FOR MEMORY, OF NO PROGRAM: a block that is known whole, and what a store makes of it.
-/
namespace Go.Proofs.YtjfphjgmphlbhaaDoor
open Go.RowKit

set_option maxRecDepth 100000 in
/-- THE BLOCK B HOLDS THE CELLS cs, and may be written. -/
def Blk (w : World) (B : Nat) (t : TypeId) (cs : List Value) : Prop := w.heap[B]? = some (.cells cs.toArray t (0, 0))

section
variable {w w' : World} {B : Nat} {t : TypeId} {cs : List Value}
set_option maxRecDepth 100000 in
theorem Blk.new (w : World) (t : TypeId) (c : Array Value) (cs : List Value) (h : c = cs.toArray) : Blk (w.alloc (.cells c t)) w.heap.size t cs := by
  subst h; exact heap_alloc_new w _
set_option maxRecDepth 100000 in
theorem Blk.lt (h : Blk w B t cs) : B < w.heap.size := by
  rcases Nat.lt_or_ge B w.heap.size with h1 | h1
  · exact h1
  · unfold Blk at h; rw [Array.getElem?_eq_none h1] at h; cases h
set_option maxRecDepth 100000 in
theorem Blk.cell (h : Blk w B t cs) {j : Nat} {v : Value} (hj : cs[j]? = some v) : w.cell? ⟨B, j, none⟩ = some v := by
  unfold World.cell?
  rw [show w.heap[B]? = _ from h]
  simpa using hj
set_option maxRecDepth 100000 in
theorem Blk.there1 (h : Blk w B t cs) {j : Nat} (hj : j < cs.length) : (w.cell? ⟨B, j, none⟩).isSome = true := by
  rw [h.cell (List.getElem?_eq_getElem hj)]; rfl
set_option maxRecDepth 100000 in
theorem Blk.frz (h : Blk w B t cs) (j : Nat) : w.frozen? ⟨B, j, none⟩ = false := frozen_of_row w B j _ t h
set_option maxRecDepth 100000 in
theorem Blk.set (h : Blk w B t cs) (j : Nat) (v : Value) : Blk (w.setCell ⟨B, j, none⟩ v) B t (cs.set j v) := by
  have := heap_setCell_same w B j cs.toArray t v h
  unfold Blk
  rw [this]
  congr 2
  simp
set_option maxRecDepth 100000 in
theorem Blk.set_other (h : Blk w B t cs) (a : Addr) (v : Value) (hne : B ≠ a.block) : Blk (w.setCell a v) B t cs := by
  unfold Blk
  rw [heap_setCell_other w a B v hne]; exact h
set_option maxRecDepth 100000 in
theorem Blk.alloc (h : Blk w B t cs) (o : Obj) : Blk (w.alloc o) B t cs := by
  unfold Blk
  rw [Below.heap_alloc w o B h.lt]; exact h
set_option maxRecDepth 100000 in
theorem Blk.drew (h : Blk w B t cs) : Blk w.drew B t cs := h
set_option maxRecDepth 100000 in
theorem Blk.later {B' : Nat} (h : Blk w B t cs) (hb : Below B' w w') (hB : B < B') : Blk w' B t cs := by
  unfold Blk
  rw [hb.block B hB]; exact h
set_option maxRecDepth 100000 in
theorem Blk.keep (h : Blk w B t cs) (hb : Later w w') : Blk w' B t cs := h.later hb h.lt
set_option maxRecDepth 100000 in
theorem Blk.sets (h : Blk w B t cs) (o : Nat) (vs : List Value) (hl : o + vs.length ≤ cs.length) : Blk (w.setCells B o vs) B t (cs.take o ++ vs ++ cs.drop (o + vs.length)) := by
  induction vs generalizing w cs o with
  | nil => simpa [World.setCells] using h
  | cons v r ih =>
    have h1 := h.set o v
    have h2 := ih h1 (o + 1) (by simp at hl ⊢; omega)
    simp only [World.setCells]
    have e : (cs.set o v).take (o + 1) ++ r ++ (cs.set o v).drop (o + 1 + r.length) = cs.take o ++ (v :: r) ++ cs.drop (o + (v :: r).length) := by
      simp only [List.length_cons] at hl ⊢
      rw [List.take_set, List.drop_set_of_lt (by omega), show o + (r.length + 1) = o + 1 + r.length by omega]
      have e2 : (cs.take (o + 1)).set o v = cs.take o ++ [v] := by
        rw [List.take_succ_eq_append_getElem (by omega), List.set_append_right _ _ (by rw [List.length_take]; omega)]
        rw [List.length_take, Nat.min_eq_left (by omega), Nat.sub_self]
        rfl
      rw [e2]
      simp
    rw [e] at h2
    exact h2
set_option maxRecDepth 100000 in
theorem Below.setCells {B' : Nat} {a : World} (h : Below B' a w) {b : Nat} (hb : B' ≤ b) (o : Nat) (vs : List Value) : Below B' a (w.setCells b o vs) := by
  induction vs generalizing w o with
  | nil => exact h
  | cons v r ih => exact ih (h.setCell hb v) (o + 1)
set_option maxRecDepth 100000 in
theorem Blk.range (h : Blk w B t cs) (o n : Nat) : w.rangeAt B o ((cs.drop o).take n) := fun j v hv => by
  apply h.cell
  rw [List.getElem?_take] at hv
  split at hv
  · rwa [List.getElem?_drop] at hv
  · cases hv
set_option maxRecDepth 100000 in
theorem Blk.there (h : Blk w B t cs) (o n : Nat) (hl : o + n ≤ cs.length) : w.there B o n := fun j hj => ⟨h.there1 (by omega), h.frz _⟩
set_option maxRecDepth 100000 in
/-- A block as a slice. -/
theorem Blk.sl (h : Blk w B t cs) (o n : Nat) (hl : o + n ≤ cs.length) : Sl w 1 (Option.some ⟨B, o, none⟩) n ((cs.drop o).take n) := by
  refine ⟨by rw [List.length_take, List.length_drop]; omega, fun _ => ⟨_, rfl, h.lt, fun j u hu => ?_⟩⟩
  rw [Addr.add_mid]
  exact h.range o n j u hu
end


set_option maxRecDepth 100000 in
theorem Blk.new' (w : World) (B : Nat) (t : TypeId) (c : Array Value) (cs : List Value) (hB : w.heap.size = B) (h : c = cs.toArray) : Blk (w.alloc (.cells c t)) B t cs := by
  subst hB; exact Blk.new w t c cs h
set_option maxRecDepth 100000 in
theorem Blk.row {w : World} {B : Nat} {t : TypeId} {cs : List Value} (h : Blk w B t cs) (vs : List Value) : Blk (w.setRow B vs.toArray) B t vs := setRow_heap w B _ _ _ _ h
set_option maxRecDepth 100000 in
theorem Blk.row_other {w : World} {B : Nat} {t : TypeId} {cs : List Value} (h : Blk w B t cs) (g : Nat) (vs : Array Value) (hne : B ≠ g) : Blk (w.setRow g vs) B t cs := by
  unfold Blk; rw [setRow_other w g B vs hne]; exact h

set_option maxRecDepth 100000 in
theorem wpList_load_blk {P : Program} {ops : Array Oper} {rest : List Oper} {o : Oper} {a : Act} {w : World} {Q : Exit → Act → World → Prop} (hgd : o.guard = none) (ty : TypeId) (x : Operand) (ho : o.op = .load ty x)
    (g : Nat) (t : TypeId) (cs : List Value) (d : TypeDesc) (hx : a.eval x = .pointer (some ⟨g, 0, none⟩)) (hg : Blk w g t cs)
    (hu : P.underlying ty = some d) (hd : (match d with | .struct _ | .array _ _ => true | _ => false) = true) (hi : (P.info? ty).map (·.size) = some cs.length)
    (h : wpList P ops Q rest (a.put o.dst (.agg cs.toArray)) w) : wpList P ops Q (o :: rest) a w :=
  wpList_load_row hgd ty x ho g hx t cs.toArray (0, 0) d hg hu hd (by rw [List.size_toArray]; exact hi) h

set_option maxRecDepth 100000 in
theorem wpList_store_blk {P : Program} {ops : Array Oper} {rest : List Oper} {o : Oper} {a : Act} {w : World} {Q : Exit → Act → World → Prop} (hgd : o.guard = none) (ty : TypeId) (x y : Operand) (ho : o.op = .store ty x y)
    (g : Nat) (t : TypeId) (old cs : List Value) (hx : a.eval x = .pointer (some ⟨g, 0, none⟩)) (hy : a.eval y = .agg cs.toArray) (hg : Blk w g t old)
    (hi : (P.info? ty).map (·.size) = some cs.length) (hold : old.length = cs.length) (h1 : ∀ v ∈ cs, v.oneCell' = true)
    (h : wpList P ops Q rest (a.put o.dst undef) (w.setRow g cs.toArray)) : wpList P ops Q (o :: rest) a w :=
  wpList_store_row hgd ty x y ho g cs.toArray hx hy t old.toArray hg (by rw [List.size_toArray]; exact hi) (by simpa using hold) (all_oneCell_toArray h1) h

set_option maxRecDepth 100000 in
/-- w' is w, but for the block g. -/
def Only (g : Nat) (w w' : World) : Prop := w'.os = w.os ∧ w'.tape = w.tape ∧ w'.output = w.output ∧ w'.heap.size = w.heap.size ∧ ∀ k, k ≠ g → w'.heap[k]? = w.heap[k]?
set_option maxRecDepth 100000 in
theorem Only.row (w : World) (g : Nat) (cs : Array Value) : Only g w (w.setRow g cs) := ⟨rfl, rfl, rfl, by simp [World.setRow], fun k hk => setRow_other w g k cs hk⟩
set_option maxRecDepth 100000 in
theorem Blk.only {w w' : World} {B g : Nat} {t : TypeId} {cs : List Value} (h : Blk w B t cs) (ho : Only g w w') (hne : B ≠ g) : Blk w' B t cs := by
  unfold Blk; rw [ho.2.2.2.2 B hne]; exact h
set_option maxRecDepth 100000 in
theorem Below.only {a w w' : World} {B g : Nat} (h : Below B a w) (ho : Only g w w') (hg : B ≤ g) : Below B a w' :=
  h.trans ⟨ho.1, ho.2.1, ho.2.2.1, Nat.le_of_eq ho.2.2.2.1.symm, fun k hk => ho.2.2.2.2 k (by omega)⟩
set_option maxRecDepth 100000 in
theorem Only.size {w w' : World} {g : Nat} (ho : Only g w w') : w'.heap.size = w.heap.size := ho.2.2.2.1
set_option maxRecDepth 100000 in
theorem Only.set (w : World) (g j : Nat) (v : Value) : Only g w (w.setCell ⟨g, j, none⟩ v) := ⟨rfl, rfl, rfl, by simp, fun k hk => heap_setCell_other w ⟨g, j, none⟩ k v hk⟩
set_option maxRecDepth 100000 in
theorem Only.sets (w : World) (g o : Nat) (vs : List Value) : Only g w (w.setCells g o vs) := by
  induction vs generalizing w o with
  | nil => exact ⟨rfl, rfl, rfl, rfl, fun _ _ => rfl⟩
  | cons v r ih =>
    have h1 := Only.set w g o v
    have h2 := ih (w.setCell ⟨g, o, none⟩ v) (o + 1)
    exact ⟨h2.1.trans h1.1, h2.2.1.trans h1.2.1, h2.2.2.1.trans h1.2.2.1, h2.2.2.2.1.trans h1.2.2.2.1, fun k hk => (h2.2.2.2.2 k hk).trans (h1.2.2.2.2 k hk)⟩

set_option maxRecDepth 100000 in
theorem wpList_store_abs {P : Program} {ops : Array Oper} {rest : List Oper} {o : Oper} {a : Act} {w : World} {Q : Exit → Act → World → Prop} (hgd : o.guard = none) (ty : TypeId) (x y : Operand) (ho : o.op = .store ty x y)
    (g : Nat) (t : TypeId) (old cs : List Value) (hx : a.eval x = .pointer (some ⟨g, 0, none⟩)) (hy : a.eval y = .agg cs.toArray) (hg : Blk w g t old)
    (hi : (P.info? ty).map (·.size) = some cs.length) (hold : old.length = cs.length) (h1 : ∀ v ∈ cs, v.oneCell' = true)
    (h : ∀ w', Blk w' g t cs → Only g w w' → wpList P ops Q rest (a.put o.dst undef) w') : wpList P ops Q (o :: rest) a w :=
  wpList_store_blk hgd ty x y ho g t old cs hx hy hg hi hold h1 (h _ (hg.row cs) (Only.row _ _ _))

set_option maxRecDepth 100000 in
/-- A store of an array into the midst of a block. -/
theorem wpList_store_at {P : Program} {ops : Array Oper} {rest : List Oper} {o : Oper} {a : Act} {w : World} {Q : Exit → Act → World → Prop} (hgd : o.guard = none) (ty : TypeId) (x y : Operand) (ho : o.op = .store ty x y) (hdn : o.dst = none)
    (g off : Nat) (t : TypeId) (old cs : List Value) (hx : a.eval x = .pointer (some ⟨g, off, none⟩)) (hy : a.eval y = .agg cs.toArray) (hg : Blk w g t old)
    (hi : (P.info? ty).map (·.size) = some cs.length) (hold : off + cs.length ≤ old.length) (h1 : ∀ v ∈ cs, v.oneCell' = true)
    (h : ∀ w', Blk w' g t (old.take off ++ cs ++ old.drop (off + cs.length)) → Only g w w' → wpList P ops Q rest a w') : wpList P ops Q (o :: rest) a w := by
  refine wpList_store_mid hgd ty x y ho g off cs.toArray hx hy (hg.there off _ (by simpa using hold)) (by rw [List.size_toArray]; exact hi) (all_oneCell_toArray h1) ?_
  rw [hdn]
  exact h _ (hg.sets off cs hold) (Only.sets _ _ _ _)
set_option maxRecDepth 100000 in
/-- A load of an array out of the midst of a block. -/
theorem wpList_load_at {P : Program} {ops : Array Oper} {rest : List Oper} {o : Oper} {a : Act} {w : World} {Q : Exit → Act → World → Prop} (hgd : o.guard = none) (ty : TypeId) (x : Operand) (ho : o.op = .load ty x)
    (g off n : Nat) (t : TypeId) (all cs : List Value) (d : TypeDesc) (hx : a.eval x = .pointer (some ⟨g, off, none⟩)) (hg : Blk w g t all) (hcs : (all.drop off).take n = cs)
    (hu : P.underlying ty = some d) (hd : d.isRow = true) (hi : (P.info? ty).map (·.size) = some cs.length)
    (h : wpList P ops Q rest (a.put o.dst (.agg cs.toArray)) w) : wpList P ops Q (o :: rest) a w :=
  wpList_load_mid hgd ty x ho g off hx cs d (by rw [← hcs]; exact hg.range off n) hu hd hi h

set_option maxRecDepth 100000 in
theorem results_blk {P : Program} {fn : Func} {p : Tmp} {ty : TypeId} (h : fn.results = #[.cell p ty]) (tmps : Array Value) (w : World) (g : Nat) (t : TypeId) (cs : List Value) (d : TypeDesc)
    (hp : tmps.getD p undef = .pointer (some ⟨g, 0, none⟩)) (hg : Blk w g t cs)
    (hu : P.underlying ty = some d) (hd : (match d with | .struct _ | .array _ _ => true | _ => false) = true) (hi : (P.info? ty).map (·.size) = some cs.length) :
    (results fn tmps).run P w = .ok (.agg cs.toArray) w :=
  results_cell_row h tmps w g t cs.toArray (0, 0) d hp hg hu hd (by rw [List.size_toArray]; exact hi)

end Go.Proofs.YtjfphjgmphlbhaaDoor
