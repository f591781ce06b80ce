/-
  PLAIN MATHEMATICS of a check of 40 bits: registers as bit vectors, the polynomial's step X, and what a product by a power of X is.
-/
namespace Go.Proofs.YtoigpokmlohhkaaDoor.Hm

abbrev R := BitVec 40

/-- The register times x, modulo the polynomial. -/
def X (r : R) : R := (r <<< 1) ^^^ (if r.getLsbD 39 then 0x0004820009#40 else 0#40)

/-- X, n times. -/
def Xn : Nat → R → R
  | 0, r => r
  | n + 1, r => Xn n (X r)

/-- One bit of a message. -/
def bit (r : R) (b : Bool) : R := X (r ^^^ (if b then 0x8000000000#40 else 0#40))
def bits (r : R) (l : List Bool) : R := l.foldl bit r

theorem ite_xor {n : Nat} (a b : Bool) (v : BitVec n) : (if (a ^^ b) then v else 0#n) = (if a then v else 0#n) ^^^ (if b then v else 0#n) := by
  cases a <;> cases b <;> simp

theorem X_xor (a b : R) : X (a ^^^ b) = X a ^^^ X b := by
  unfold X
  rw [BitVec.getLsbD_xor, ite_xor, BitVec.shiftLeft_xor_distrib]
  ac_rfl
theorem X_zero : X 0#40 = 0#40 := by decide
theorem Xn_xor (n : Nat) (a b : R) : Xn n (a ^^^ b) = Xn n a ^^^ Xn n b := by
  induction n generalizing a b with
  | zero => rfl
  | succ n ih => rw [Xn, X_xor, ih]; rfl
theorem Xn_zero (n : Nat) : Xn n 0#40 = 0#40 := by
  induction n with
  | zero => rfl
  | succ n ih => rw [Xn, X_zero, ih]
theorem Xn_add (m n : Nat) (r : R) : Xn (m + n) r = Xn n (Xn m r) := by
  induction m generalizing r with
  | zero => rw [Nat.zero_add]; rfl
  | succ m ih => rw [Nat.add_right_comm, Xn, ih]; rfl
theorem Xn_succ' (n : Nat) (r : R) : Xn (n + 1) r = X (Xn n r) := by rw [Xn_add]; rfl
theorem Xn_comm (m n : Nat) (r : R) : Xn m (Xn n r) = Xn n (Xn m r) := by rw [← Xn_add, ← Xn_add, Nat.add_comm]

/-- The i-th basis vector. -/
def e (i : Nat) : R := BitVec.twoPow 40 i

/-- Two additive functions that agree at the basis agree. -/
theorem lin_ext {w : Nat} (f g : R → BitVec w) (hf : ∀ a b, f (a ^^^ b) = f a ^^^ f b) (hg : ∀ a b, g (a ^^^ b) = g a ^^^ g b) (h : ∀ i, i < 40 → f (e i) = g (e i)) (r : R) : f r = g r := by
  have f0 : f 0#40 = 0#w := by have := hf 0#40 0#40; simpa using this
  have g0 : g 0#40 = 0#w := by have := hg 0#40 0#40; simpa using this
  have main : ∀ n, n ≤ 40 → ∀ r : R, r.toNat < 2 ^ n → f r = g r := by
    intro n
    induction n with
    | zero =>
      intro _ r hr
      have : r = 0#40 := BitVec.eq_of_toNat_eq (by simpa using hr)
      rw [this, f0, g0]
    | succ n ih =>
      intro hn r hr
      by_cases hb : r.getLsbD n = true
      · have hs : r = (r ^^^ e n) ^^^ e n := by rw [BitVec.xor_assoc, BitVec.xor_self, BitVec.xor_zero]
        have hlt : (r ^^^ e n).toNat < 2 ^ n := by
          apply Nat.lt_pow_two_of_testBit
          intro i hi
          rw [BitVec.testBit_toNat, BitVec.getLsbD_xor]
          unfold e
          rw [BitVec.getLsbD_twoPow]
          by_cases hin : i = n
          · subst hin; rw [hb]; simp; omega
          · have h1 : r.getLsbD i = false := by
              rw [← BitVec.testBit_toNat]
              exact Nat.testBit_lt_two_pow (Nat.lt_of_lt_of_le hr (Nat.pow_le_pow_right (by decide) (by omega)))
            rw [h1]
            simp; omega
        rw [hs, hf, hg, ih (by omega) _ hlt, h n (by omega)]
      · apply ih (by omega)
        apply Nat.lt_pow_two_of_testBit
        intro i hi
        rw [BitVec.testBit_toNat]
        by_cases hin : i = n
        · subst hin; simpa using hb
        · rw [← BitVec.testBit_toNat]
          exact Nat.testBit_lt_two_pow (Nat.lt_of_lt_of_le hr (Nat.pow_le_pow_right (by decide) (by omega)))
  exact main 40 (Nat.le_refl _) r r.isLt

theorem of_range {n : Nat} {p : Nat → Bool} (h : (List.range n).all p = true) (i : Nat) (hi : i < n) : p i = true :=
  List.all_eq_true.1 h i (List.mem_range.2 hi)

/-- Eight bits at once, as the program does. -/
def feed (f : R) : R := f <<< 26 ^^^ f <<< 23 ^^^ f <<< 17 ^^^ f <<< 3 ^^^ f
def byteAt (c : BitVec 8) : R := c.setWidth 40 <<< 32
theorem feed_xor (a b : R) : feed (a ^^^ b) = feed a ^^^ feed b := by
  unfold feed; simp only [BitVec.shiftLeft_xor_distrib]
  generalize a <<< 26 = a1; generalize a <<< 23 = a2; generalize a <<< 17 = a3; generalize a <<< 3 = a4
  generalize b <<< 26 = b1; generalize b <<< 23 = b2; generalize b <<< 17 = b3; generalize b <<< 3 = b4
  ac_rfl
theorem X8 (r : R) : Xn 8 r = (r <<< 8) ^^^ feed (r >>> 32) := by
  refine lin_ext (Xn 8) (fun r => (r <<< 8) ^^^ feed (r >>> 32)) (Xn_xor 8) (fun a b => ?_) (fun i hi => ?_) r
  · simp only [BitVec.shiftLeft_xor_distrib, BitVec.ushiftRight_xor_distrib, feed_xor]
    generalize feed (a >>> 32) = p
    generalize feed (b >>> 32) = q
    generalize a <<< 8 = s
    generalize b <<< 8 = t
    ac_rfl
  · have : (List.range 40).all (fun i => Xn 8 (e i) == (e i <<< 8) ^^^ feed (e i >>> 32)) = true := by decide +kernel
    exact eq_of_beq (of_range this i hi)

/-- The register after a byte. -/
def byte (r : R) (c : BitVec 8) : R := Xn 8 (r ^^^ byteAt c)
def bytes (r : R) (l : List (BitVec 8)) : R := l.foldl byte r

/-- The bits of a byte, the most significant one first. -/
def bitsOf (c : BitVec 8) : List Bool := [c.getLsbD 7, c.getLsbD 6, c.getLsbD 5, c.getLsbD 4, c.getLsbD 3, c.getLsbD 2, c.getLsbD 1, c.getLsbD 0]

/-- Bits behind a register. -/
theorem bits_xor (l : List Bool) (r s : R) (m : List Bool) (h : l.length = m.length) : bits (r ^^^ s) (List.zipWith (· ^^ ·) l m) = bits r l ^^^ bits s m := by
  induction l generalizing r s m with
  | nil => cases m <;> simp_all [bits]
  | cons a l ih =>
    cases m with
    | nil => simp at h
    | cons b m =>
      have hb : bit (r ^^^ s) (a ^^ b) = bit r a ^^^ bit s b := by
        unfold bit; rw [ite_xor, ← X_xor]; congr 1; ac_rfl
      simp only [bits, List.zipWith_cons_cons, List.foldl_cons, hb]
      exact ih _ _ _ (by simpa using h)

theorem bits_zero (l : List Bool) (r : R) : bits r l = Xn l.length r ^^^ bits 0#40 l := by
  induction l generalizing r with
  | nil => simp [bits, Xn]
  | cons a l ih =>
    have h1 : bits r (a :: l) = bits (bit r a) l := rfl
    have h2 : bits 0#40 (a :: l) = bits (bit 0#40 a) l := rfl
    rw [h1, h2, ih (bit r a), ih (bit 0#40 a)]
    have : bit r a = X r ^^^ bit 0#40 a := by unfold bit; rw [X_xor, X_xor, X_zero, BitVec.zero_xor]
    rw [this, Xn_xor, List.length_cons, Xn, BitVec.xor_assoc]

theorem byte_bits (r : R) (c : BitVec 8) : byte r c = bits r (bitsOf c) := by
  have hr : bits r (bitsOf c) = Xn 8 r ^^^ bits 0#40 (bitsOf c) := bits_zero (bitsOf c) r
  have : ∀ c : BitVec 8, Xn 8 (byteAt c) = bits 0#40 (bitsOf c) := by decide +kernel
  rw [hr, ← this, ← Xn_xor]; rfl

theorem bytes_append (r : R) (a b : List (BitVec 8)) : bytes r (a ++ b) = bytes (bytes r a) b := List.foldl_append
theorem bytes_zero (r : R) (l : List (BitVec 8)) : bytes r l = Xn (8 * l.length) r ^^^ bytes 0#40 l := by
  induction l generalizing r with
  | nil => simp [bytes, Xn]
  | cons a l ih =>
    have h1 : bytes r (a :: l) = bytes (byte r a) l := rfl
    have h2 : bytes 0#40 (a :: l) = bytes (byte 0#40 a) l := rfl
    rw [h1, h2, ih (byte r a), ih (byte 0#40 a)]
    have : byte r a = Xn 8 r ^^^ byte 0#40 a := by unfold byte; rw [Xn_xor, Xn_xor, Xn_zero, BitVec.zero_xor]
    rw [this, Xn_xor, List.length_cons, ← Xn_add, show 8 + 8 * l.length = 8 * (l.length + 1) by omega, BitVec.xor_assoc]

def ones : R := 0xffffffffff#40
/-- The check. -/
def crc (l : List (BitVec 8)) : R := bytes ones l ^^^ ones
theorem xor_cancel {n : Nat} (a b : BitVec n) : a ^^^ b ^^^ b = a := by rw [BitVec.xor_assoc, BitVec.xor_self, BitVec.xor_zero]
theorem crc_append (a b : List (BitVec 8)) : crc (a ++ b) = Xn (8 * b.length) (crc a) ^^^ crc b := by
  unfold crc
  rw [bytes_append, bytes_zero (bytes ones a) b, bytes_zero ones b, Xn_xor]
  generalize Xn (8 * b.length) (bytes ones a) = p
  generalize Xn (8 * b.length) ones = q
  generalize bytes 0#40 b = s
  have : p ^^^ q ^^^ (q ^^^ s ^^^ ones) = p ^^^ (q ^^^ q) ^^^ s ^^^ ones := by ac_rfl
  rw [this, BitVec.xor_self, BitVec.xor_zero]

/-- The product by a polynomial b of n bits. -/
def S : Nat → R → R → R
  | 0, _, _ => 0#40
  | n + 1, a, b => (if b.getLsbD 0 then a else 0#40) ^^^ S n (X a) (b >>> 1)
theorem S_left (n : Nat) (a a' b : R) : S n (a ^^^ a') b = S n a b ^^^ S n a' b := by
  induction n generalizing a a' b with
  | zero => simp [S]
  | succ n ih =>
    simp only [S, X_xor, ih]
    cases b.getLsbD 0 <;> simp <;> ac_rfl
theorem S_right (n : Nat) (a b b' : R) : S n a (b ^^^ b') = S n a b ^^^ S n a b' := by
  induction n generalizing a b b' with
  | zero => simp [S]
  | succ n ih =>
    simp only [S, BitVec.ushiftRight_xor_distrib, ih, BitVec.getLsbD_xor, ite_xor]
    ac_rfl
theorem S_X (a b : R) : S 40 a (X b) = X (S 40 a b) := by
  refine lin_ext (fun a => S 40 a (X b)) (fun a => X (S 40 a b)) (fun a a' => S_left _ _ _ _) (fun a a' => by simp only [S_left, X_xor]) (fun i hi => ?_) a
  refine lin_ext (fun b => S 40 (e i) (X b)) (fun b => X (S 40 (e i) b)) (fun b b' => by simp only [X_xor, S_right]) (fun b b' => by simp only [S_right, X_xor]) (fun j hj => ?_) b
  have : (List.range 40).all (fun i => (List.range 40).all (fun j => S 40 (e i) (X (e j)) == X (S 40 (e i) (e j)))) = true := by decide +kernel
  have h1 := of_range this i hi
  exact eq_of_beq (of_range h1 j hj)
theorem S_one (a : R) : S 40 a 1#40 = a := by
  refine lin_ext (fun a => S 40 a 1#40) id (fun a a' => S_left _ _ _ _) (fun _ _ => rfl) (fun i hi => ?_) a
  have : (List.range 40).all (fun i => S 40 (e i) 1#40 == id (e i)) = true := by decide +kernel
  exact eq_of_beq (of_range this i hi)
theorem S_Xn (m : Nat) (a : R) : S 40 a (Xn m 1#40) = Xn m a := by
  induction m with
  | zero => exact S_one a
  | succ m ih => rw [Xn_succ', Xn_succ', S_X, ih]

/-- X loses nothing. -/
def Y (r : R) : R := (r >>> 1) ^^^ (if r.getLsbD 0 then 0x8002410004#40 else 0#40)
theorem Y_xor (a b : R) : Y (a ^^^ b) = Y a ^^^ Y b := by
  unfold Y
  rw [BitVec.getLsbD_xor, ite_xor, BitVec.ushiftRight_xor_distrib]
  ac_rfl
theorem Y_X (r : R) : Y (X r) = r := by
  refine lin_ext (fun r => Y (X r)) id (fun a b => by simp only [X_xor, Y_xor]) (fun _ _ => rfl) (fun i hi => ?_) r
  have : (List.range 40).all (fun i => Y (X (e i)) == id (e i)) = true := by decide +kernel
  exact eq_of_beq (of_range this i hi)
theorem Xn_ne {n : Nat} {r : R} (h : r ≠ 0#40) : Xn n r ≠ 0#40 := by
  induction n generalizing r with
  | zero => exact h
  | succ n ih =>
    apply ih
    intro hx
    apply h
    have := Y_X r
    rw [hx] at this
    rw [← this]; decide

end Go.Proofs.YtoigpokmlohhkaaDoor.Hm
