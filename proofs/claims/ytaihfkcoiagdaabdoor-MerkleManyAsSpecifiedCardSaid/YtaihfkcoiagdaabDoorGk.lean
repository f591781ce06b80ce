/-
  PLAIN FACTS, OF NO PROGRAM: the number of binary digits 1, reckoned in parallel.
-/
import Derived.Test.YtaihfkcoiagdaabDoorGj
import Derived.Lib.QuietBelow
namespace Go.Proofs.YtaihfkcoiagdaabDoor
namespace Pop

def ones : Nat → Nat → Nat
  | 0, _ => 0
  | f + 1, n => n % 2 + ones f (n / 2)
theorem ones_add (a b : Nat) : ∀ n, ones (a + b) n = ones a n + ones b (n / 2 ^ a) := by
  induction a with
  | zero => intro n; simp [ones]
  | succ a ih =>
    intro n
    rw [show a + 1 + b = (a + b) + 1 by omega]
    simp only [ones]
    rw [ih (n / 2), Nat.div_div_eq_div_mul, show 2 * 2 ^ a = 2 ^ (a + 1) by rw [Nat.pow_succ]; omega]
    omega
theorem ones_zero (f : Nat) : ones f 0 = 0 := by
  induction f with
  | zero => rfl
  | succ f ih => simp [ones, ih]
theorem ones_le (f : Nat) : ∀ n, ones f n ≤ f := by
  induction f with
  | zero => intro n; exact Nat.le_refl _
  | succ f ih => intro n; have := ih (n / 2); simp only [ones]; omega
/-- The same byte in k bytes. -/
def M (c : Nat) : Nat → Nat
  | 0 => 0
  | k + 1 => 256 * M c k + c
theorem and_split (a b c d : Nat) (hb : b < 256) (hd : d < 256) : (256 * a + b) &&& (256 * c + d) = 256 * (a &&& c) + (b &&& d) := by
  have hbd : b &&& d < 2 ^ 8 := Nat.lt_of_le_of_lt Nat.and_le_left hb
  apply Nat.eq_of_testBit_eq
  intro i
  rw [Nat.testBit_and, show 256 = 2 ^ 8 from rfl, Nat.testBit_two_pow_mul_add _ (by omega), Nat.testBit_two_pow_mul_add _ (by omega), Nat.testBit_two_pow_mul_add _ hbd]
  split
  · rw [Nat.testBit_and]
  · rw [Nat.testBit_and]
def s1 (k x : Nat) : Nat := (x / 2 &&& M 0x55 k) + (x &&& M 0x55 k)
def s2 (k x : Nat) : Nat := (s1 k x / 4 &&& M 0x33 k) + (s1 k x &&& M 0x33 k)
def s3 (k x : Nat) : Nat := (s2 k x / 16 + s2 k x) &&& M 0x0f k
def b1 (l : Nat) : Nat := (l / 2 &&& 0x55) + (l &&& 0x55)
def b2 (l : Nat) : Nat := (b1 l / 4 &&& 0x33) + (b1 l &&& 0x33)
theorem f1 : ∀ l : Fin 256, ∀ r : Fin 2, (128 * r.1 + l.1 / 2) &&& 0x55 = l.1 / 2 &&& 0x55 := by decide +kernel
theorem f2 : ∀ l : Fin 256, ∀ r : Fin 4, (64 * r.1 + l.1 / 4) &&& 0x33 = l.1 / 4 &&& 0x33 := by decide +kernel
theorem f3 : ∀ l : Fin 256, ∀ r : Fin 5, b1 l.1 < 256 ∧ b2 l.1 < 256 ∧ b2 l.1 % 16 ≤ 4 ∧ 16 * r.1 + b2 l.1 / 16 + b2 l.1 < 256 ∧ (16 * r.1 + b2 l.1 / 16 + b2 l.1) &&& 0x0f = ones 8 l.1 := by decide +kernel
theorem step1 (k h l : Nat) (hl : l < 256) : s1 (k + 1) (256 * h + l) = 256 * s1 k h + b1 l := by
  unfold s1 b1
  rw [show M 0x55 (k + 1) = 256 * M 0x55 k + 0x55 from rfl]
  rw [show (256 * h + l) / 2 = 256 * (h / 2) + (128 * (h % 2) + l / 2) by omega, and_split _ _ _ _ (by omega) (by omega), and_split _ _ _ _ hl (by omega)]
  have := f1 ⟨l, hl⟩ ⟨h % 2, by omega⟩
  dsimp only at this
  rw [this]
  omega
theorem step2 (k h l : Nat) (hl : l < 256) : s2 (k + 1) (256 * h + l) = 256 * s2 k h + b2 l := by
  obtain ⟨g1, g2, _⟩ := f3 ⟨l, hl⟩ ⟨0, by omega⟩
  dsimp only at g1 g2
  unfold s2 b2
  rw [step1 k h l hl]
  rw [show M 0x33 (k + 1) = 256 * M 0x33 k + 0x33 from rfl]
  rw [show (256 * s1 k h + b1 l) / 4 = 256 * (s1 k h / 4) + (64 * (s1 k h % 4) + b1 l / 4) by omega, and_split _ _ _ _ (by omega) (by omega), and_split _ _ _ _ g1 (by omega)]
  have := f2 ⟨b1 l, g1⟩ ⟨s1 k h % 4, by omega⟩
  dsimp only at this
  rw [this]
  omega
theorem low2 (k x : Nat) (hx : x < 256 ^ k) : s2 k x % 16 ≤ 4 := by
  cases k with
  | zero => obtain rfl : x = 0 := by omega
            simp [s2, s1, M]
  | succ k =>
    have h := step2 k (x / 256) (x % 256) (by omega)
    rw [show 256 * (x / 256) + x % 256 = x by omega] at h
    rw [h]
    obtain ⟨_, _, g3, _⟩ := f3 ⟨x % 256, by omega⟩ ⟨0, by omega⟩
    dsimp only at g3
    omega
theorem step3 (k h l : Nat) (hl : l < 256) (hh : h < 256 ^ k) : s3 (k + 1) (256 * h + l) = 256 * s3 k h + ones 8 l := by
  unfold s3
  rw [step2 k h l hl]
  rw [show M 0x0f (k + 1) = 256 * M 0x0f k + 0x0f from rfl]
  have h2 := low2 k h hh
  obtain ⟨_, _, _, g4, g5⟩ := f3 ⟨l, hl⟩ ⟨s2 k h % 16, by omega⟩
  dsimp only at g4 g5
  rw [show (256 * s2 k h + b2 l) / 16 + (256 * s2 k h + b2 l) = 256 * (s2 k h / 16 + s2 k h) + (16 * (s2 k h % 16) + b2 l / 16 + b2 l) by omega, and_split _ _ _ _ g4 (by omega), g5]
theorem s3_zero : s3 0 0 = 0 := by simp [s3, s2, s1, M]
theorem pow_div {x k : Nat} (h : x < 256 ^ (k + 1)) : x / 256 < 256 ^ k := by rw [Nat.div_lt_iff_lt_mul (by decide)]; rwa [Nat.pow_succ] at h
theorem s3_next (k x : Nat) (h : x < 256 ^ (k + 1)) : s3 (k + 1) x = 256 * s3 k (x / 256) + ones 8 (x % 256) := by
  have := step3 k (x / 256) (x % 256) (by omega) (pow_div h)
  rwa [show 256 * (x / 256) + x % 256 = x by omega] at this
theorem m8 (n : Nat) : ones 8 n = ones 8 (n % 256) := by
  have h : ∀ f n m : Nat, n % 2 ^ f = m % 2 ^ f → ones f n = ones f m := by
    intro f
    induction f with
    | zero => intro n m _; rfl
    | succ f ih =>
      intro n m h
      simp only [ones]
      rw [Nat.pow_succ] at h
      have h2 : n % 2 = m % 2 := by
        have a := Nat.mod_mul_left_mod n (2 ^ f) 2
        have b := Nat.mod_mul_left_mod m (2 ^ f) 2
        rw [← a, ← b, h]
      have h3 : n / 2 % 2 ^ f = m / 2 % 2 ^ f := by
        rw [Nat.mul_comm] at h
        rw [← Nat.mod_mul_right_div_self, ← Nat.mod_mul_right_div_self, h]
      rw [h2, ih _ _ h3]
  exact h 8 n (n % 256) (by rw [show 2 ^ 8 = 256 from rfl, Nat.mod_mod])
theorem sp (f n : Nat) : ones (8 + f) n = ones 8 (n % 256) + ones f (n / 256) := by rw [ones_add, ← m8]
attribute [local irreducible] ones in
theorem ones64 (x : Nat) : ones 64 x = ones 8 (x % 256) + ones 8 (x / 256 % 256) + ones 8 (x / 256 / 256 % 256) + ones 8 (x / 256 / 256 / 256 % 256) + ones 8 (x / 256 / 256 / 256 / 256 % 256) + ones 8 (x / 256 / 256 / 256 / 256 / 256 % 256) + ones 8 (x / 256 / 256 / 256 / 256 / 256 / 256 % 256) + ones 8 (x / 256 / 256 / 256 / 256 / 256 / 256 / 256 % 256) := by
  have g0 : ones 64 x = ones 8 (x % 256) + ones 56 (x / 256) := sp 56 x
  have g1 : ones 56 (x / 256) = ones 8 (x / 256 % 256) + ones 48 (x / 256 / 256) := sp 48 (x / 256)
  have g2 : ones 48 (x / 256 / 256) = ones 8 (x / 256 / 256 % 256) + ones 40 (x / 256 / 256 / 256) := sp 40 (x / 256 / 256)
  have g3 : ones 40 (x / 256 / 256 / 256) = ones 8 (x / 256 / 256 / 256 % 256) + ones 32 (x / 256 / 256 / 256 / 256) := sp 32 (x / 256 / 256 / 256)
  have g4 : ones 32 (x / 256 / 256 / 256 / 256) = ones 8 (x / 256 / 256 / 256 / 256 % 256) + ones 24 (x / 256 / 256 / 256 / 256 / 256) := sp 24 (x / 256 / 256 / 256 / 256)
  have g5 : ones 24 (x / 256 / 256 / 256 / 256 / 256) = ones 8 (x / 256 / 256 / 256 / 256 / 256 % 256) + ones 16 (x / 256 / 256 / 256 / 256 / 256 / 256) := sp 16 (x / 256 / 256 / 256 / 256 / 256)
  have g6 : ones 16 (x / 256 / 256 / 256 / 256 / 256 / 256) = ones 8 (x / 256 / 256 / 256 / 256 / 256 / 256 % 256) + ones 8 (x / 256 / 256 / 256 / 256 / 256 / 256 / 256) := sp 8 (x / 256 / 256 / 256 / 256 / 256 / 256)
  have g7 := m8 (x / 256 / 256 / 256 / 256 / 256 / 256 / 256)
  omega
set_option maxHeartbeats 1000000 in
/-- The sums of all bytes. -/
theorem final (x : Nat) (h : x < 18446744073709551616) (y4 y5 y6 : Nat) (h4 : y4 = s3 8 x + s3 8 x / 256) (h5 : y5 = y4 + y4 / 65536) (h6 : y6 = y5 + y5 / 4294967296) : y4 < 18446744073709551616 ∧ y5 < 18446744073709551616 ∧ y6 < 18446744073709551616 ∧ y6 % 128 = ones 64 x := by
  have e0 := s3_next 7 x (by omega)
  have e1 := s3_next 6 (x / 256) (by omega)
  have e2 := s3_next 5 (x / 256 / 256) (by omega)
  have e3 := s3_next 4 (x / 256 / 256 / 256) (by omega)
  have e4 := s3_next 3 (x / 256 / 256 / 256 / 256) (by omega)
  have e5 := s3_next 2 (x / 256 / 256 / 256 / 256 / 256) (by omega)
  have e6 := s3_next 1 (x / 256 / 256 / 256 / 256 / 256 / 256) (by omega)
  have e7 := s3_next 0 (x / 256 / 256 / 256 / 256 / 256 / 256 / 256) (by omega)
  rw [show x / 256 / 256 / 256 / 256 / 256 / 256 / 256 / 256 = 0 by omega, s3_zero] at e7
  have hp : ∀ n, ones 8 n ≤ 8 := ones_le 8
  have hs := ones64 x
  rw [hs]
  have p0 := hp (x % 256)
  have p1 := hp (x / 256 % 256)
  have p2 := hp (x / 256 / 256 % 256)
  have p3 := hp (x / 256 / 256 / 256 % 256)
  have p4 := hp (x / 256 / 256 / 256 / 256 % 256)
  have p5 := hp (x / 256 / 256 / 256 / 256 / 256 % 256)
  have p6 := hp (x / 256 / 256 / 256 / 256 / 256 / 256 % 256)
  have p7 := hp (x / 256 / 256 / 256 / 256 / 256 / 256 / 256 % 256)
  generalize ones 8 (x % 256) = a0 at *
  generalize ones 8 (x / 256 % 256) = a1 at *
  generalize ones 8 (x / 256 / 256 % 256) = a2 at *
  generalize ones 8 (x / 256 / 256 / 256 % 256) = a3 at *
  generalize ones 8 (x / 256 / 256 / 256 / 256 % 256) = a4 at *
  generalize ones 8 (x / 256 / 256 / 256 / 256 / 256 % 256) = a5 at *
  generalize ones 8 (x / 256 / 256 / 256 / 256 / 256 / 256 % 256) = a6 at *
  generalize ones 8 (x / 256 / 256 / 256 / 256 / 256 / 256 / 256 % 256) = a7 at *
  have hx : s3 8 x = a0 + 256 * (a1 + 256 * (a2 + 256 * (a3 + 256 * (a4 + 256 * (a5 + 256 * (a6 + 256 * a7)))))) := by rw [e0, e1, e2, e3, e4, e5, e6, e7]; omega
  clear e0 e1 e2 e3 e4 e5 e6 e7 hs hp
  rw [hx] at h4
  have d4 : y4 = (a0 + a1) + 256 * ((a1 + a2) + 256 * ((a2 + a3) + 256 * ((a3 + a4) + 256 * ((a4 + a5) + 256 * ((a5 + a6) + 256 * ((a6 + a7) + 256 * a7)))))) := by omega
  clear h4 hx
  have d5 : y5 = (a0 + a1 + a2 + a3) + 256 * ((a1 + a2 + a3 + a4) + 256 * ((a2 + a3 + a4 + a5) + 256 * ((a3 + a4 + a5 + a6) + 256 * ((a4 + a5 + a6 + a7) + 256 * ((a5 + a6 + a7) + 256 * ((a6 + a7) + 256 * a7)))))) := by
    have : y4 / 65536 = (a2 + a3) + 256 * ((a3 + a4) + 256 * ((a4 + a5) + 256 * ((a5 + a6) + 256 * ((a6 + a7) + 256 * a7)))) := by omega
    omega
  clear h5
  have d6 : y5 / 4294967296 = (a4 + a5 + a6 + a7) + 256 * ((a5 + a6 + a7) + 256 * ((a6 + a7) + 256 * a7)) := by omega
  refine ⟨by omega, by omega, by omega, by omega⟩
end Pop
end Go.Proofs.YtaihfkcoiagdaabDoor

/-
  THE WALKS OF math/bits.OnesCount, merkle.wellFormed.
-/
namespace Go.Proofs.YtaihfkcoiagdaabDoor
open Go.RowKit Go.ChangeShapes Go.WideShapes Go.ChangeAt

theorem and_nat (a c : Nat) (ha : a < 18446744073709551616) (hc : c < 18446744073709551616) : bits .and .u64 (a : Int) (c : Int) = ((a &&& c : Nat) : Int) := bits_and_u64_nat a c ha hc
theorem wrap_nat (a : Nat) (h : a < 18446744073709551616) : IntKind.u64.wrap (a : Int) = (a : Int) := by rw [IntKind.wrap_u64]; omega
theorem and127 (x : Nat) (h : x < 18446744073709551616) : bits .and .i64 (wrap64 (x : Int)) 127 = ((x % 128 : Nat) : Int) := by
  have e : BitVec.ofInt 64 (wrap64 (x : Int)) = BitVec.ofNat 64 x := by
    apply BitVec.eq_of_toNat_eq
    rw [BitVec.toNat_ofInt, BitVec.toNat_ofNat]
    unfold wrap64
    show ((((x : Int) + 9223372036854775808) % 18446744073709551616 - 9223372036854775808) % 18446744073709551616).toNat = x % 18446744073709551616
    omega
  show IntKind.i64.wrap ((BitVec.ofInt 64 (wrap64 (x : Int)) &&& BitVec.ofInt 64 ((127 : Nat) : Int)).toNat : Int) = _
  rw [e, BitVec.ofInt_natCast, BitVec.toNat_and, BitVec.toNat_ofNat, BitVec.toNat_ofNat, Nat.mod_eq_of_lt (by omega), Nat.mod_eq_of_lt (by omega)]
  have h2 := Nat.and_two_pow_sub_one_eq_mod x 7
  rw [show 2 ^ 7 - 1 = 127 from rfl, show 2 ^ 7 = 128 from rfl] at h2
  rw [h2]
  exact IntWalk.i64_in _ (by omega)
set_option maxRecDepth 100000 in
set_option maxHeartbeats 1000000 in
theorem ones64_any (x : Nat) (hx : x < 18446744073709551616) (w : World) : Calls Tryd.prog 76 #[.int .u64 (x : Int)] w fun e w' => e = .returned (.int .i64 (Pop.ones 64 x : Nat)) ∧ w = w' := by
  obtain ⟨x1, h1⟩ : ∃ x1, x1 = Pop.s1 8 x := ⟨_, rfl⟩
  obtain ⟨x2, h2⟩ : ∃ x2, x2 = Pop.s2 8 x := ⟨_, rfl⟩
  obtain ⟨x3, h3⟩ : ∃ x3, x3 = Pop.s3 8 x := ⟨_, rfl⟩
  obtain ⟨x4, h4⟩ : ∃ x4, x4 = x3 + x3 / 256 := ⟨_, rfl⟩
  obtain ⟨x5, h5⟩ : ∃ x5, x5 = x4 + x4 / 65536 := ⟨_, rfl⟩
  obtain ⟨x6, h6⟩ : ∃ x6, x6 = x5 + x5 / 4294967296 := ⟨_, rfl⟩
  obtain ⟨b4, b5, b6, hf⟩ := Pop.final x hx x4 x5 x6 (by rw [h4, h3]) h5 h6
  have c1 : x / 2 &&& 6148914691236517205 ≤ 6148914691236517205 := Nat.and_le_right
  have c2 : x &&& 6148914691236517205 ≤ 6148914691236517205 := Nat.and_le_right
  have e1 : x1 = (x / 2 &&& 6148914691236517205) + (x &&& 6148914691236517205) := h1
  have c3 : x1 / 4 &&& 3689348814741910323 ≤ 3689348814741910323 := Nat.and_le_right
  have c4 : x1 &&& 3689348814741910323 ≤ 3689348814741910323 := Nat.and_le_right
  have e2 : x2 = (x1 / 4 &&& 3689348814741910323) + (x1 &&& 3689348814741910323) := by rw [h2, h1]; rfl
  have e3 : x3 = (x2 / 16 + x2) &&& 1085102592571150095 := by rw [h3, h2]; rfl
  have c5 : (x2 / 16 + x2) &&& 1085102592571150095 ≤ 1085102592571150095 := Nat.and_le_right
  have E1 : IntKind.u64.wrap (bits .and .u64 ((x : Int) / 2) 6148914691236517205 + bits .and .u64 (x : Int) 6148914691236517205) = (x1 : Int) := by
    have := and_nat (x / 2) 6148914691236517205 (by omega) (by decide)
    have := and_nat x 6148914691236517205 (by omega) (by decide)
    rw [show ((x : Int) / 2) = ((x / 2 : Nat) : Int) by omega, show (6148914691236517205 : Int) = ((6148914691236517205 : Nat) : Int) from rfl, and_nat _ _ (by omega) (by decide), and_nat _ _ (by omega) (by decide), IntKind.wrap_u64]
    omega
  have E2 : IntKind.u64.wrap (bits .and .u64 ((x1 : Int) / 4) 3689348814741910323 + bits .and .u64 (x1 : Int) 3689348814741910323) = (x2 : Int) := by
    rw [show ((x1 : Int) / 4) = ((x1 / 4 : Nat) : Int) by omega, show (3689348814741910323 : Int) = ((3689348814741910323 : Nat) : Int) from rfl, and_nat _ _ (by omega) (by decide), and_nat _ _ (by omega) (by decide), IntKind.wrap_u64]
    omega
  have E3 : bits .and .u64 (IntKind.u64.wrap ((x2 : Int) / 16 + (x2 : Int))) 1085102592571150095 = (x3 : Int) := by
    rw [show ((x2 : Int) / 16 + (x2 : Int)) = ((x2 / 16 + x2 : Nat) : Int) by omega, wrap_nat _ (by omega), show (1085102592571150095 : Int) = ((1085102592571150095 : Nat) : Int) from rfl, and_nat _ _ (by omega) (by decide), e3]
  have E4 : IntKind.u64.wrap ((x3 : Int) + (x3 : Int) / 256) = (x4 : Int) := by rw [IntKind.wrap_u64]; omega
  have E5 : IntKind.u64.wrap ((x4 : Int) + (x4 : Int) / 65536) = (x5 : Int) := by rw [IntKind.wrap_u64]; omega
  have E6 : IntKind.u64.wrap ((x5 : Int) + (x5 : Int) / 4294967296) = (x6 : Int) := by rw [IntKind.wrap_u64]; omega
  have HF := Lib.hid hf
  have B6 := Lib.hid b6
  clear h1 h2 h3 h4 h5 h6 b4 b5 b6 hf c1 c2 c3 c4 c5 e1 e2 e3
  go_enter Tryd.func76, Tryd.ntmps76
  go_wp2
  rw [and127 x6 B6.out, HF.out]
  go_ret
  exact ⟨rfl, rfl⟩
set_option maxRecDepth 100000 in
theorem onesCount_any (x : Nat) (hx : x < 18446744073709551616) (w : World) : Calls Tryd.prog 66 #[.int .u64 (x : Int)] w fun e w' => e = .returned (.int .i64 (Pop.ones 64 x : Nat)) ∧ w = w' := by
  have H := Lib.hid (ones64_any x hx w)
  clear hx
  go_enter Tryd.func66, Tryd.ntmps66
  go_wp2_with (go_at_call 76; refine H.out.mono ?_; rintro e w' ⟨rfl, rfl⟩)
  go_ret
  exact ⟨rfl, rfl⟩

/-- Well-formed peaks. -/
def WF (s : Int) (n : Nat) : Prop := 0 ≤ s ∧ s ≤ 1099511627776 ∧ n = Pop.ones 64 s.toNat
instance (s : Int) (n : Nat) : Decidable (WF s n) := inferInstanceAs (Decidable (_ ∧ _))
theorem laterA (w : World) (o : Obj) : Later w (w.alloc o) := (Below.refl _ _).alloc (Nat.le_refl _) o
theorem reM {f : FuncId} {args : Array Value} {w : World} {v : Value} (h : ∀ w', Later w w' → Calls Tryd.prog f args w' fun e w'' => e = .returned v ∧ Later w' w'') (d : Nat) (os : Array Obj) :
    Calls Tryd.prog f args (Sort.grow (redrawn w d) os) fun e w'' => e = .returned v ∧ ∃ p : Regrown, w'' = Sort.grow (redrawn w p.d) p.os := Calls.regrown_of (h _ (below_regrown w d os))
set_option maxRecDepth 100000 in
set_option maxHeartbeats 1000000 in
theorem wellFormed_any (s : Int) (A : Option Addr) (n c : Nat) (w : World) :
    Calls Tryd.prog 50 #[.agg #[.int .i64 s, .slice A n c]] w fun e w' => e = .returned (.bool (decide (WF s n))) ∧ Later w w' := by
  obtain ⟨w0, hw0⟩ : ∃ w0, w0 = w.alloc (.cells #[.int .i64 s, .slice A n c] 43) := ⟨_, rfl⟩
  have hl0 : Later w w0 := by rw [hw0]; exact laterA _ _
  have hb : Blk w0 w.heap.size 43 [.int .i64 s, .slice A n c] := by rw [hw0]; exact Blk.new _ _ _ _ rfl
  have k0 := cell_regrown (hb.cell (j := 0) rfl); have k1 := cell_regrown (hb.cell (j := 1) rfl)
  have hw1 := Lib.hid hw0; have HL := Lib.hid hl0
  clear hw0 hl0 hb
  by_cases h0 : 0 ≤ s
  · by_cases h1 : s ≤ 1099511627776
    · obtain ⟨x, rfl⟩ := Int.eq_ofNat_of_zero_le h0
      have K := reM (w := w0) (fun w' _ => (onesCount_any x (by omega) w').mono fun e w'' ⟨h1, h2⟩ => (⟨h1, h2 ▸ Below.refl _ _⟩ : e = _ ∧ Later w' w''))
      obtain ⟨m, hm⟩ : ∃ m, m = Pop.ones 64 x := ⟨_, rfl⟩
      rw [← hm] at K
      by_cases he : n = m
      · rw [decide_eq_true (show WF (x : Int) n from ⟨h0, h1, by rw [he, hm]; rfl⟩)]
        have e1 : ((n : Int) == (m : Int)) = true := by rw [he]; simp
        clear hm he
        go_enter Tryd.func50, Tryd.ntmps50
        go_wp2
        rw [← hw1.out]
        refine wp_region_quiet_below (by kernel_rfl) (by kernel_rfl) ?_
        repeat (go_big_quiet_step (first | exact K _ _))
        refine wpQuiet_nil ?_
        rintro _ ⟨⟨dq, osq⟩, rfl⟩
        go_wp2
        go_ret
        exact ⟨rfl, Later.trans_ HL.out (below_regrown w0 dq osq)⟩
      · rw [decide_eq_false (fun h : WF (x : Int) n => he (by rw [hm]; exact h.2.2))]
        have e1 : ((n : Int) == (m : Int)) = false := beq_eq_false_iff_ne.2 (by omega)
        clear hm he
        go_enter Tryd.func50, Tryd.ntmps50
        go_wp2
        rw [← hw1.out]
        refine wp_region_quiet_below (by kernel_rfl) (by kernel_rfl) ?_
        repeat (go_big_quiet_step (first | exact K _ _))
        refine wpQuiet_nil ?_
        rintro _ ⟨⟨dq, osq⟩, rfl⟩
        go_wp2
        go_ret
        exact ⟨rfl, Later.trans_ HL.out (below_regrown w0 dq osq)⟩
    · rw [decide_eq_false (fun h : WF s n => h1 h.2.1)]
      have d1 : decide (s ≤ 1099511627776) = false := decide_eq_false h1
      go_enter Tryd.func50, Tryd.ntmps50
      go_wp2
      rw [← hw1.out]
      refine wp_region_quiet_below (by kernel_rfl) (by kernel_rfl) ?_
      repeat (go_big_quiet_step (fail))
      refine wpQuiet_nil ?_
      rintro _ ⟨⟨dq, osq⟩, rfl⟩
      go_wp2
      go_ret
      exact ⟨rfl, Later.trans_ HL.out (below_regrown w0 dq osq)⟩
  · rw [decide_eq_false (fun h : WF s n => h0 h.1)]
    have d1 : decide (0 ≤ s) = false := decide_eq_false h0
    go_enter Tryd.func50, Tryd.ntmps50
    go_wp2
    rw [← hw1.out]
    refine wp_region_quiet_below (by kernel_rfl) (by kernel_rfl) ?_
    repeat (go_big_quiet_step (fail))
    refine wpQuiet_nil ?_
    rintro _ ⟨⟨dq, osq⟩, rfl⟩
    go_wp2
    go_ret
    exact ⟨rfl, Later.trans_ HL.out (below_regrown w0 dq osq)⟩
end Go.Proofs.YtaihfkcoiagdaabDoor

/-
  THE WALK OF merkle.Top.
-/
namespace Go.Proofs.YtaihfkcoiagdaabDoor
open Go.RowKit Go.ChangeShapes Go.WideShapes Go.ChangeAt

theorem pop_ones (f : Nat) : ∀ n, n < 2 ^ f → Pop.ones f n = Mk.ones n := by
  induction f with
  | zero => intro n h; obtain rfl : n = 0 := by omega
            rw [Mk.ones_zero]; rfl
  | succ f ih =>
    intro n h
    rw [Nat.pow_succ] at h
    by_cases h0 : n = 0
    · subst h0; rw [Pop.ones_zero, Mk.ones_zero]
    · rw [Mk.ones_step n h0]
      simp only [Pop.ones]
      rw [ih (n / 2) (by omega)]
theorem ones_pos (N : Nat) : ∀ n, n ≤ N → n ≠ 0 → 1 ≤ Mk.ones n := by
  induction N with
  | zero => intro n h h0; omega
  | succ N ih =>
    intro n h h0
    rw [Mk.ones_step n h0]
    by_cases h2 : n / 2 = 0
    · omega
    · have := ih (n / 2) (by omega) h2; omega
theorem results_cell_tmp {P : Program} {fn : Func} {p q : Tmp} {ty : TypeId} (h : fn.results = #[.cell p ty, .tmp q]) (tmps : Array Value) (w : World) (g : Nat) (t : TypeId) (cs : List Value) (v : Value) (d : TypeDesc)
    (hp : tmps.getD p undef = .pointer (some ⟨g, 0, none⟩)) (hq : tmps.getD q undef = v) (hg : Blk w g t cs)
    (hu : P.underlying ty = some d) (hd : (match d with | .struct _ | .array _ _ => true | _ => false) = true) (hi : (P.info? ty).map (·.size) = some cs.length) :
    (results fn tmps).run P w = .ok (.tuple #[.agg cs.toArray, v]) w := by
  have hp' : tmps[p]?.getD undef = .pointer (some ⟨g, 0, none⟩) := by simpa using hp
  have hq' : tmps[q]?.getD undef = v := by simpa using hq
  simp [results, h, hp', hq', asAddr, run_loadVar_row w g t ty cs.toArray (0, 0) d hg hu hd (by rw [List.size_toArray]; exact hi)]
theorem wpStill_load_addr {P : Program} {ops : Array Oper} {rest : List Oper} {o : Oper} {a : Act} {w : World} {Q : Act → Prop} (ty : TypeId) (x : Operand) (ho : o.op = .load ty x)
    (ad : Addr) (cs : List Value) (d : TypeDesc) (hw : Region.wanted o (yielded ops a.tmps) = true) (hx : a.eval x = .pointer (some ad)) (hc : ∀ j v, cs[j]? = some v → w.cell? (ad.add j) = some v)
    (hu : P.underlying ty = some d) (hd : d.isRow = true) (hi : (P.info? ty).map (·.size) = some cs.length)
    (h : wpStill P ops w Q rest (a.put o.dst (.agg cs.toArray))) : wpStill P ops w Q (o :: rest) a := by
  have hrun := run_loadAt_addr (P := P) w ad ty cs d hc hu hd hi
  refine wpStill_step (fun K hK => ?_)
  rw [hw, if_pos rfl]
  unfold Oper.still execOp
  simp only [ho, hx, Sem.run_bind, Sem.run_pure, hrun, Result.andThen_ok, Oper.stillUpon]
  exact ⟨trivial, hK _ h⟩
theorem Blk.addr {w : World} {B : Nat} {t : TypeId} {cs : List Value} (h : Blk w B t cs) (j : Nat) (v : Value) (hv : cs[j]? = some v) : w.cell? ((⟨B, 0, none⟩ : Addr).add j) = some v := by
  have h1 := h.cell hv
  have e : (⟨B, 0, none⟩ : Addr).add j = ⟨B, j, none⟩ := by
    by_cases hj : j = 0
    · subst hj; rfl
    · simp [Addr.add, hj]
  rw [e]; exact h1

set_option maxRecDepth 100000 in
set_option maxHeartbeats 1000000 in
theorem top_bad (s : Int) (A : Option Addr) (n c : Nat) (w : World) (h : ¬ WF s n) :
    Calls Tryd.prog 26 #[.agg #[.int .i64 s, .slice A n c]] w fun e w' => e = .returned (.tuple #[.agg (U zD).toArray, .int .i64 3]) ∧ Later w w' := by
  have HF := Lib.hid fun w' => by have h2 := wellFormed_any s A n c w'; rw [decide_eq_false h] at h2; exact h2
  clear h
  go_enter Tryd.func26, Tryd.ntmps26
  go_wp2_with (first
    | (go_at_call 50; refine (HF.out _).mono ?_; rintro e w1 ⟨rfl, l1⟩)
    | ((with_reducible refine wpList_store_abs (o := ⟨none, .store 31 (.tmp 2) (.tmp 10), _, _, _, none⟩) rfl _ _ _ rfl (w.heap.size + 1) 31 (PartB [] 16) (U zD) ?_ ?_ ((Blk.new' _ _ _ _ _ (by simp) rfl).keep l1) (dig_sz zD_len) (dig_z zD_len) (U_one _) ?_); rfl; rfl; intro w5 z1 z2))
  exact bodyPost_ret (v := .tuple #[.agg (U zD).toArray, .int .i64 3]) (results_cell_tmp Tryd.results26 _ _ (w.heap.size + 1) 31 _ _ _ rfl rfl z1 Tryd.underlying31 rfl (dig_sz zD_len)) rfl ⟨rfl, Below.only (Later.trans_ (((Below.refl _ _).alloc (Nat.le_refl _) _).alloc (by simp) _) l1) z2 (by omega)⟩

set_option maxRecDepth 100000 in
set_option maxHeartbeats 1000000 in
theorem top_zero (A : Option Addr) (n c : Nat) (w : World) (h : WF 0 n) (tab : Tab w) :
    Calls Tryd.prog 26 #[.agg #[.int .i64 0, .slice A n c]] w fun e w' => e = .returned (.tuple #[.agg (U emptyD).toArray, .int .i64 0]) ∧ Later w w' := by
  have HF := Lib.hid fun w' => by have h2 := wellFormed_any 0 A n c w'; rw [decide_eq_true h] at h2; exact h2
  have HE := Lib.hid fun (w' : World) (hw : Later w w') => empty_any w' (tab.keep hw)
  have hl : emptyD.length = 16 := digOf_len _
  obtain ⟨F, hFe⟩ : ∃ F, F = emptyD := ⟨_, rfl⟩
  rw [← hFe] at HE hl ⊢
  have HL := Lib.hid hl
  clear h tab hl hFe
  go_enter Tryd.func26, Tryd.ntmps26
  go_wp2_with (first
    | (go_at_call 50; refine (HF.out _).mono ?_; rintro e w1 ⟨rfl, l1⟩; have b0 := (((Blk.new w 43 #[.int .i64 0, .slice A n c] _ rfl).alloc (.cells (PartB [] 16).toArray 31)).keep l1); have c0 := b0.cell (j := 0) (v := .int .i64 0) rfl)
    | (go_at_call 38; refine (HE.out _ (Later.trans_ (((Below.refl _ _).alloc (Nat.le_refl _) _).alloc (by simp) _) l1)).mono ?_; rintro e w2 ⟨rfl, l2⟩)
    | ((with_reducible refine wpList_store_abs (o := ⟨none, .store 31 (.tmp 2) (.tmp 14), _, _, _, none⟩) rfl _ _ _ rfl (w.heap.size + 1) 31 (PartB [] 16) (U F) ?_ ?_ (((Blk.new' _ _ _ _ _ (by simp) rfl).keep l1).keep l2) (dig_sz HL.out) (dig_z HL.out) (U_one _) ?_); rfl; rfl; intro w5 z1 z2))
  exact bodyPost_ret (v := .tuple #[.agg (U F).toArray, .int .i64 0]) (results_cell_tmp Tryd.results26 _ _ (w.heap.size + 1) 31 _ _ _ rfl rfl z1 Tryd.underlying31 rfl (dig_sz HL.out)) rfl ⟨rfl, Below.only (Later.trans_ (Later.trans_ (((Below.refl _ _).alloc (Nat.le_refl _) _).alloc (by simp) _) l1) l2) z2 (by omega)⟩

set_option maxRecDepth 100000 in
set_option maxHeartbeats 1000000 in
theorem top_any (s : Int) (A : Option Addr) (n c : Nat) (T : List Wm.Bs) (w : World) (h : WF s n) (h0 : s ≠ 0) (hs : Sl w 16 A n (Ds T)) (hT : isD T) (tab : Tab w) :
    Calls Tryd.prog 26 #[.agg #[.int .i64 s, .slice A n c]] w fun e w' => e = .returned (.tuple #[.agg (U (Mk.topOf nodeD emptyD T)).toArray, .int .i64 0]) ∧ Later w w' := by
  have HF := Lib.hid fun w' => by have h2 := wellFormed_any s A n c w'; rw [decide_eq_true h] at h2; exact h2
  have hn : n ≤ 64 := by rw [h.2.2]; exact Pop.ones_le 64 _
  have hn1 : 1 ≤ n := by
    rw [h.2.2, pop_ones 64 _ (by have := h.1; have := h.2.1; omega)]
    exact ones_pos _ _ (Nat.le_refl _) (by have := h.1; omega)
  have hTl := hs.dlen hT
  have e0 : (s == 0) = false := beq_eq_false_iff_ne.2 h0
  obtain ⟨ad, rfl, hbl, hkl, hcl⟩ := hs.digest hT (k := n - 1) (by omega)
  have hr0 : Mk.topOf nodeD emptyD (T.drop (n - 1)) = T[n - 1] := by
    rw [List.drop_eq_getElem_cons (by omega), List.drop_eq_nil_of_le (by omega)]; rfl
  have HD := Lib.hid (hT _ (List.getElem_mem hkl))
  have HC := Lib.hid fun (w' : World) (hw : Later w w') (j : Nat) (v : Value) (hv : (U T[n - 1])[j]? = some v) => (by
    obtain ⟨a2, e, _, _, hc2⟩ := (hs.keep hw).digest hT (k := n - 1) (by omega)
    cases e
    exact hc2 j v hv : w'.cell? ((ad.add ((n - 1) * 16)).add j) = some v)
  obtain ⟨R0, hR0⟩ : ∃ R, R = T[n - 1] := ⟨_, rfl⟩
  rw [← hR0] at HC hr0 HD
  have TB := Lib.hid tab
  have HS := Lib.hid hs; have HT := Lib.hid hT; have HR := Lib.hid hr0; have HTl := Lib.hid hTl
  have x1 : IntKind.i64.wrap ((n : Int) - 1) = ((n - 1 : Nat) : Int) := by rw [IntWalk.i64_in _ (by omega)]; omega
  have x2 : ((n - 1 : Nat) : Int) < (n : Int) := by omega
  clear h hs hT tab hTl hr0 hR0 h0 hcl hkl hbl
  go_enter Tryd.func26, Tryd.ntmps26
  go_wp2_with (first
    | (go_at_call 50; refine (HF.out _).mono ?_; rintro e w1 ⟨rfl, l1⟩; have l2 := Later.trans_ (((Below.refl w.heap.size w).alloc (Nat.le_refl _) _).alloc (by simp) _) l1; have b0 := (((Blk.new w 43 #[.int .i64 s, .slice (some ad) n c] _ rfl).alloc (.cells (PartB [] 16).toArray 31)).keep l1); have c0 := b0.cell (j := 0) (v := .int .i64 s) rfl; have c1 := b0.cell (j := 1) (v := .slice (some ad) n c) rfl)
    | ((with_reducible refine wpList_load_addr (o := ⟨some 23, .load 31 (.tmp 22), _, _, _, none⟩) rfl _ _ rfl (ad.add ((n - 1) * 16)) (U R0) _ ?_ (fun j v hv => ?_) Tryd.underlying31 rfl (dig_sz HD.out.1) ?_); rfl; exact HC.out _ l2 j v hv)
    | ((with_reducible refine wpList_store_abs (o := ⟨none, .store 31 (.tmp 5) (.tmp 23), _, _, _, none⟩) rfl _ _ _ rfl w1.heap.size 31 (PartB [] 16) (U R0) ?_ ?_ (Blk.new w1 _ _ _ rfl) (dig_sz HD.out.1) (dig_z HD.out.1) (U_one _) ?_); rfl; rfl; intro w5 z1 z2))
  have l5 : Later w w5 := Below.only (l2.alloc l2.size _) z2 l2.size
  have bP := (b0.alloc (.cells (PartB [] 16).toArray 31)).only z2 (Nat.ne_of_lt b0.lt)
  have bR := (((Blk.new' (w.alloc (.cells #[.int .i64 s, .slice (some ad) n c] 43)) (w.heap.size + 1) 31 _ (PartB [] 16) (by simp) rfl).keep l1).alloc (.cells (PartB [] 16).toArray 31)).only z2 (Nat.ne_of_lt (by have := l1.size; simp at this; omega))
  have hB : w.heap.size + 2 ≤ w1.heap.size := by have := l1.size; simp at this; omega
  obtain ⟨B5, hB5⟩ : ∃ b, b = w1.heap.size := ⟨_, rfl⟩
  rw [← hB5] at z1 hB ⊢
  clear hB5 z2 l2 l1 b0 c0 c1
  go_loopw [6] (fun v wr => ∃ (j : Nat) (z : Int) (R : Wm.Bs), v = .int .i64 z ∧ j ≤ n - 1 ∧ z < (j : Int) ∧ (j : Int) ≤ z + 1 ∧ R.length = 16 ∧ Mk.topOf nodeD emptyD (T.drop j) = R ∧ Blk wr B5 31 (U R) ∧ Blk wr w.heap.size 43 [.int .i64 s, .slice (some ad) n c] ∧ Blk wr (w.heap.size + 1) 31 (PartB [] 16) ∧ Later w wr) (fun v _ => (intOf v + 1).toNat)
  case atStart => exact ⟨n - 1, ((n - 1 : Nat) : Int) - 1, R0, by go_num, Nat.le_refl _, by omega, by omega, HD.out.1, HR.out, z1, bP, bR, l5⟩
  case round =>
    clear z1 bP bR l5 x1 x2 HR HC HF
    obtain ⟨j, z, R, rfl, hj, hz1, hz2, hRl, hRt, bT, bP, bR, lr⟩ := hrel
    have HRl := Lib.hid hRl
    by_cases hlt : 0 ≤ z
    · obtain ⟨k, rfl⟩ := Int.eq_ofNat_of_zero_le hlt
      obtain rfl : j = k + 1 := by omega
      have hkn : (k : Int) < (n : Int) := by omega
      have HCk := Lib.hid ((HS.out.keep lr).digest HT.out (k := k) (by omega))
      obtain ⟨ad2, e2, _, hkl, hck⟩ := HCk.out
      cases e2
      have HDk := Lib.hid (HT.out _ (List.getElem_mem hkl))
      have hst : Mk.topOf nodeD emptyD (T.drop k) = nodeD T[k] R := by
        rw [List.drop_eq_getElem_cons hkl, Mk.topOf_cons _ _ _ _ (by intro h; have h2 := congrArg List.length h; rw [List.length_drop, HTl.out] at h2; simp at h2; omega), hRt]
      have HN := Lib.hid fun (w' : World) (hw : Later w w') => node_any T[k] R w' HDk.out.1 HRl.out (TB.out.keep hw)
      obtain ⟨Y, hY⟩ : ∃ Y, Y = T[k] := ⟨_, rfl⟩
      obtain ⟨N, hN⟩ : ∃ N, N = nodeD T[k] R := ⟨_, rfl⟩
      have HNl := Lib.hid (show N.length = 16 by rw [hN]; exact nodeD_len _ _)
      rw [← hN] at HN hst
      rw [← hY] at HN HDk hck
      have HST := Lib.hid hst
      have HCK := Lib.hid hck
      clear hst hck hY hN HCk hRt hRl
      have c1 := bP.cell (j := 1) (v := .slice (some ad) n c) rfl
      go_wp2_with fail
      refine wp_region_still_tail 6 (by kernel_rfl) (by kernel_rfl) ?_
      simp only [List.take_succ_cons, List.take_zero, List.drop_succ_cons, List.drop_zero]
      have c1d : wr.drew.cell? ⟨w.heap.size, 1, none⟩ = some (.slice (some ad) n c) := c1
      still_step
      still_step
      still_step
      still_step
      refine wpStill_load_addr (o := ⟨some 34, .load 31 (.tmp 33), _, _, _, none⟩) _ _ rfl (ad.add (k * 16)) (U Y) _ (by rfl) (by rfl) (fun j v hv => HCK.out j v hv) Tryd.underlying31 rfl (dig_sz HDk.out.1) ?_
      simp only [Act.put, List.setIfInBounds_toArray, List.set_cons_zero, List.set_cons_succ]
      refine wpStill_load_addr (o := ⟨some 35, .load 31 (.tmp 5), _, _, _, none⟩) _ _ rfl ⟨B5, 0, none⟩ (U R) _ (by rfl) (by rfl) bT.drew.addr Tryd.underlying31 rfl (dig_sz HRl.out) ?_
      simp only [Act.put, List.setIfInBounds_toArray, List.set_cons_zero, List.set_cons_succ]
      refine wpStill_nil ?_
      change wpList _ _ _ _ _ wr.drew
      go_wp2_with (first
        | (go_at_call 19; refine (HN.out _ lr.drew).mono ?_; rintro e w6 ⟨rfl, l6⟩)
        | ((with_reducible refine wpList_store_abs (o := ⟨none, .store 31 (.tmp 5) (.tmp 36), _, _, _, none⟩) rfl _ _ _ rfl B5 31 (U R) (U N) ?_ ?_ (bT.drew.keep l6) (dig_sz HNl.out) (by rw [U_length, U_length, HRl.out, HNl.out]) (U_one _) ?_); rfl; rfl; intro w7 z1 z2))
      have l7 : Later w w7 := Below.only (Later.trans_ lr.drew l6) z2 (by omega)
      have p7 := (bP.drew.keep l6).only z2 (by omega)
      have r7 := (bR.drew.keep l6).only z2 (by omega)
      go_roundw
      case rel => exact ⟨k, (k : Int) - 1, N, by go_num, by omega, by omega, by omega, HNl.out, HST.out, z1, p7, r7, l7⟩
      case measure => simp [intOf]
    · obtain rfl : j = 0 := by omega
      rw [List.drop_zero] at hRt
      have HRt := Lib.hid hRt
      have HLr := Lib.hid lr
      clear hRt hRl lr
      go_wp2_with (first
        | ((with_reducible refine wpList_load_blk (o := ⟨some 37, .load 31 (.tmp 5), _, _, _, none⟩) rfl _ _ rfl B5 31 (U R) _ ?_ bT Tryd.underlying31 rfl (dig_sz HRl.out) ?_); rfl)
        | ((with_reducible refine wpList_store_abs (o := ⟨none, .store 31 (.tmp 2) (.tmp 37), _, _, _, none⟩) rfl _ _ _ rfl (w.heap.size + 1) 31 (PartB [] 16) (U R) ?_ ?_ bR (dig_sz HRl.out) (dig_z HRl.out) (U_one _) ?_); rfl; rfl; intro w8 z1 z2))
      exact bodyPost_ret (v := .tuple #[.agg (U R).toArray, .int .i64 0]) (results_cell_tmp Tryd.results26 _ _ (w.heap.size + 1) 31 _ _ _ rfl rfl z1 Tryd.underlying31 rfl (dig_sz HRl.out)) rfl ⟨by rw [HRt.out], Below.only HLr.out z2 (by omega)⟩
end Go.Proofs.YtaihfkcoiagdaabDoor

/-
  THE WALK OF merkle.Append.
-/
namespace Go.Proofs.YtaihfkcoiagdaabDoor
open Go.RowKit Go.ChangeShapes Go.WideShapes Go.ChangeAt

/-- append, onto a slice without spare places, whatever it stands on. -/
theorem run_app_new {P : Program} (w : World) (t ty e : TypeId) (i : TypeInfo) (z : Value) (size bytes : Nat) (ht : P.underlying t = some (.slice e)) (hi : P.info? e = some i) (hz : i.zero = some z)
    (hsize : i.size = size) (hby : i.bytes = bytes) (hzs : z.cells.size = size) (hsz : 0 < size)
    (A : Option Addr) (n : Nat) (olds : List Value) (hs : Sl w size A n olds)
    (A2 : Option Addr) (m c2 : Nat) (news : List Value) (hm : 0 < m) (hs2 : Sl w size A2 m news) (h1 : ∀ u ∈ news, u.oneCell' = true)
    (h63 : n + m ≤ maxLen) (hbytes : (n + m) * bytes ≤ 140737488355328) :
    ∃ A' c' w', (Builtin.append_ #[t, t] ty #[.slice A n n, .slice A2 m c2]).run P w = .ok (.slice A' (n + m) c') w' ∧ n + m ≤ c' ∧ c' ≤ maxLen ∧ Sl w' size A' (n + m) (olds ++ news) ∧ (∀ ad, A' = some ad → w.heap.size ≤ ad.block) ∧ w.grownBy w' none := by
  cases A with
  | none =>
    obtain rfl : n = 0 := by
      rcases Nat.eq_zero_or_pos n with h | h
      · exact h
      · obtain ⟨ad, e, _⟩ := hs.2 h; cases e
    obtain rfl : olds = [] := List.eq_nil_of_length_eq_zero (by have := hs.1; simpa using this)
    obtain ⟨v', w', hr, r1, r2⟩ := run_app (P := P) w w.heap.size t ty e i z size bytes ht hi hz hsize hby hzs hsz (.slice none 0 0) 0 [] ⟨by simp, .inl ⟨rfl, rfl⟩⟩ A2 m c2 news hs2 h1 h63 hbytes (Nat.le_refl _)
    obtain ⟨A', c', rfl, g1, g2, g3, g4⟩ := own_form r1
    exact ⟨A', c', w', hr, g1, g2, g3, fun ad e => (g4 ad e).1, r2⟩
  | some b =>
    obtain ⟨ad, rfl, _, hc⟩ := hs2.2 hm
    have hcb : ∀ j u, olds[j]? = some u → w.cell? (b.add j) = some u := by
      intro j u hu
      rcases Nat.eq_zero_or_pos n with h | h
      · subst h
        obtain rfl : olds = [] := List.eq_nil_of_length_eq_zero (by have := hs.1; simpa using this)
        cases hu
      · obtain ⟨_, e, _, hcb⟩ := hs.2 h
        cases e; exact hcb j u hu
    obtain ⟨v', w', hrun, r1, r2⟩ := run_append_arg_grows (P := P) w t ty e i z size bytes ht hi hz hsize hby hzs hsz b n n olds hs.1 hcb ad m c2 news hs2.1 hc (by omega) h63 hbytes
    obtain ⟨A', c', rfl, g1, g2, g3, g4⟩ := own_form r1
    exact ⟨A', c', w', hrun, g1, g2, g3, fun ad e => (g4 ad e).1, r2⟩
/-- At the operation. -/
theorem wp_app_new {P : Program} (w : World) {o : Oper} {a : Act} {K : Act → World → Prop} {Q : Exit → Act → World → Prop} (s x : Operand) (t : TypeId)
    (ho : o.op = .call { callee := .builtin .append, args := #[s, x], argTypes := #[t, t] })
    (e : TypeId) (i : TypeInfo) (z : Value) (size bytes : Nat) (ht : P.underlying t = some (.slice e)) (hi : P.info? e = some i) (hz : i.zero = some z)
    (hsize : i.size = size) (hby : i.bytes = bytes) (hzs : z.cells.size = size) (hsz : 0 < size)
    (A : Option Addr) (n : Nat) (olds : List Value) (hsv : a.eval s = .slice A n n) (hs : Sl w size A n olds)
    (A2 : Option Addr) (m c2 : Nat) (news : List Value) (hx : a.eval x = .slice A2 m c2) (hm : 0 < m) (hs2 : Sl w size A2 m news) (h1 : ∀ u ∈ news, u.oneCell' = true)
    (h63 : n + m ≤ maxLen) (hbytes : (n + m) * bytes ≤ 140737488355328)
    (h : ∀ A' c' w', n + m ≤ c' → c' ≤ maxLen → Sl w' size A' (n + m) (olds ++ news) → (∀ ad, A' = some ad → w.heap.size ≤ ad.block) → w.grownBy w' none → K (a.put o.dst (.slice A' (n + m) c')) w') : o.wp P a w K Q := by
  obtain ⟨A', c', w', hr, g1, g2, g3, g4, g5⟩ := run_app_new (P := P) w t o.type e i z size bytes ht hi hz hsize hby hzs hsz A n olds hs A2 m c2 news hm hs2 h1 h63 hbytes
  unfold Oper.wp execOp
  simp only [ho, resolve, invoke, builtin, Sem.run_bind, Sem.run_pure, Result.andThen_ok, List.map_toArray, List.map_cons, List.map_nil, hsv, hx, hr]
  exact h A' c' w' g1 g2 g3 g4 g5

theorem peaks_sz : (Tryd.prog.info? 43).map (·.size) = some 2 := by kernel_rfl

set_option maxRecDepth 100000 in
set_option maxHeartbeats 1000000 in
theorem append_bad (s : Int) (A : Option Addr) (n c : Nat) (X : Wm.Bs) (w : World) (h : ¬ WF s n) :
    Calls Tryd.prog 25 #[.agg #[.int .i64 s, .slice A n c], .agg (U X).toArray] w fun e w' => e = .returned (.tuple #[.agg #[.int .i64 0, .slice none 0 0], .int .i64 3]) ∧ Later w w' := by
  have HF := Lib.hid fun w' => by have h2 := wellFormed_any s A n c w'; rw [decide_eq_false h] at h2; exact h2
  obtain ⟨X0, hX0⟩ : ∃ X0, X0 = (U X).toArray := ⟨_, rfl⟩
  rw [← hX0]
  clear h hX0
  go_enter Tryd.func25, Tryd.ntmps25
  go_wp2_with (first
    | (go_at_call 50; refine (HF.out _).mono ?_; rintro e w1 ⟨rfl, l1⟩; have l2 := Later.trans_ ((((Below.refl w.heap.size w).alloc (Nat.le_refl _) _).alloc (by simp) _).alloc (by simp; omega) _) l1; have bR := (Blk.new' ((w.alloc (.cells #[.int .i64 s, .slice A n c] 43)).alloc (.cells X0 31)) (w.heap.size + 1 + 1) 43 #[.int .i64 0, .slice none 0 0] [.int .i64 0, .slice none 0 0] (by simp) rfl).keep l1; have bP := (((Blk.new w 43 #[.int .i64 s, .slice A n c] _ rfl).alloc (.cells X0 31)).alloc (.cells #[.int .i64 0, .slice none 0 0] 43)).keep l1; have p0 := bP.cell (j := 0) (v := .int .i64 s) rfl; have c0 := bR.cell (j := 0) (v := .int .i64 0) rfl; have c1 := bR.cell (j := 1) (v := .slice none 0 0) rfl; have f0 := bR.frz 0; have f1 := bR.frz 1))
  exact bodyPost_ret (v := .tuple #[.agg #[.int .i64 0, .slice none 0 0], .int .i64 3]) (results_cell_tmp Tryd.results25 _ _ (w.heap.size + 1 + 1) 43 _ _ _ rfl rfl ((bR.set 0 (.int .i64 0)).set 1 (.slice none 0 0)) Tryd.underlying43 rfl peaks_sz) rfl ⟨rfl, (l2.setCell (by show w.heap.size ≤ w.heap.size + 1 + 1; omega) _).setCell (by show w.heap.size ≤ w.heap.size + 1 + 1; omega) _⟩

set_option maxRecDepth 100000 in
set_option maxHeartbeats 1000000 in
theorem append_full (A : Option Addr) (n c : Nat) (X : Wm.Bs) (w : World) (h : WF 1099511627776 n) :
    Calls Tryd.prog 25 #[.agg #[.int .i64 1099511627776, .slice A n c], .agg (U X).toArray] w fun e w' => e = .returned (.tuple #[.agg #[.int .i64 0, .slice none 0 0], .int .i64 2]) ∧ Later w w' := by
  have HF := Lib.hid fun w' => by have h2 := wellFormed_any 1099511627776 A n c w'; rw [decide_eq_true h] at h2; exact h2
  obtain ⟨X0, hX0⟩ : ∃ X0, X0 = (U X).toArray := ⟨_, rfl⟩
  rw [← hX0]
  clear h hX0
  go_enter Tryd.func25, Tryd.ntmps25
  go_wp2_with (first
    | (go_at_call 50; refine (HF.out _).mono ?_; rintro e w1 ⟨rfl, l1⟩; have l2 := Later.trans_ ((((Below.refl w.heap.size w).alloc (Nat.le_refl _) _).alloc (by simp) _).alloc (by simp; omega) _) l1; have bR := (Blk.new' ((w.alloc (.cells #[.int .i64 1099511627776, .slice A n c] 43)).alloc (.cells X0 31)) (w.heap.size + 1 + 1) 43 #[.int .i64 0, .slice none 0 0] [.int .i64 0, .slice none 0 0] (by simp) rfl).keep l1; have bP := (((Blk.new w 43 #[.int .i64 1099511627776, .slice A n c] _ rfl).alloc (.cells X0 31)).alloc (.cells #[.int .i64 0, .slice none 0 0] 43)).keep l1; have p0 := bP.cell (j := 0) (v := .int .i64 1099511627776) rfl; have c0 := bR.cell (j := 0) (v := .int .i64 0) rfl; have c1 := bR.cell (j := 1) (v := .slice none 0 0) rfl; have f0 := bR.frz 0; have f1 := bR.frz 1))
  exact bodyPost_ret (v := .tuple #[.agg #[.int .i64 0, .slice none 0 0], .int .i64 2]) (results_cell_tmp Tryd.results25 _ _ (w.heap.size + 1 + 1) 43 _ _ _ rfl rfl ((bR.set 0 (.int .i64 0)).set 1 (.slice none 0 0)) Tryd.underlying43 rfl peaks_sz) rfl ⟨rfl, (l2.setCell (by show w.heap.size ≤ w.heap.size + 1 + 1; omega) _).setCell (by show w.heap.size ≤ w.heap.size + 1 + 1; omega) _⟩

theorem sl_set2 {w : World} {size n B : Nat} {A : Option Addr} {xs : List Value} (h : Sl w size A n xs) (hne : ∀ ad, A = some ad → ad.block ≠ B) (u v : Value) : Sl ((w.setCell ⟨B, 0, none⟩ u).setCell ⟨B, 1, none⟩ v) size A n xs := by
  cases A with
  | none => exact ⟨h.1, fun hn => by obtain ⟨_, e, _⟩ := h.2 hn; cases e⟩
  | some ad => exact (h.only (Only.set w B 0 u) (hne ad rfl)).only (Only.set _ B 1 v) (hne ad rfl)
theorem take_last {T : List Wm.Bs} {k : Nat} (hk : k < T.length) : (T.take (k + 1)).dropLast = T.take k ∧ ∀ z, (T.take (k + 1)).getLastD z = T[k] := by
  have e : T.take (k + 1) = T.take k ++ [T[k]] := by rw [List.take_add_one, List.getElem?_eq_getElem hk]; rfl
  rw [e]
  exact ⟨List.dropLast_concat, fun z => by rw [List.getLastD_eq_getLast?, List.getLast?_concat]; rfl⟩
/-- Peaks handed back. -/
def GotPk (s : Int) (l : List Wm.Bs) (w : World) (e : Ending) (w' : World) : Prop :=
  ∃ A c, e = .returned (.tuple #[.agg #[.int .i64 s, .slice A l.length c], .int .i64 0]) ∧ l.length ≤ c ∧ c ≤ 9223372036854775807 ∧ Sl w' 16 A l.length (Ds l) ∧ isD l ∧ (∀ ad, A = some ad → w.heap.size ≤ ad.block) ∧ Later w w'

set_option maxRecDepth 100000 in
set_option maxHeartbeats 1000000 in
theorem append_any (s : Nat) (A : Option Addr) (n c : Nat) (T : List Wm.Bs) (X : Wm.Bs) (w : World) (h : WF (s : Int) n) (h0 : (s : Int) ≠ 1099511627776) (hs : Sl w 16 A n (Ds T)) (hT : isD T) (hX : X.length = 16 ∧ Wm.isBs X) (hnc : n ≤ c) (tab : Tab w) :
    Calls Tryd.prog 25 #[.agg #[.int .i64 s, .slice A n c], .agg (U X).toArray] w fun e w' => GotPk ((s : Int) + 1) (Mk.app nodeD emptyD s T X) w e w' := by
  have HF := Lib.hid fun w' => by have h2 := wellFormed_any s A n c w'; rw [decide_eq_true h] at h2; exact h2
  have hn : n ≤ 64 := by rw [h.2.2]; exact Pop.ones_le 64 _
  have hs1 : s < 1099511627776 := by have := h.2.1; omega
  have hno : n = Mk.ones s := by rw [h.2.2, pop_ones 64 _ (by rw [Int.toNat_natCast]; omega), Int.toNat_natCast]
  have hTl := hs.dlen hT
  have e0 : ((s : Int) == 1099511627776) = false := beq_eq_false_iff_ne.2 h0
  have TB := Lib.hid tab
  have HS := Lib.hid hs; have HT := Lib.hid hT; have HTl := Lib.hid hTl; have HNO := Lib.hid hno; have HX := Lib.hid hX
  obtain ⟨G, hG⟩ : ∃ G, G = Mk.app nodeD emptyD s T X := ⟨_, rfl⟩
  have HG := Lib.hid hG
  rw [← hG]
  obtain ⟨X0, hX0⟩ : ∃ X0, X0 = (U X).toArray := ⟨_, rfl⟩
  have HX0 := Lib.hid hX0
  rw [← hX0]
  clear h hs hT tab hTl h0 hno hG hX0 hX
  go_enter Tryd.func25, Tryd.ntmps25
  go_wp2_with (first
    | (go_at_call 50; refine (HF.out _).mono ?_; rintro e w1 ⟨rfl, l1⟩; have l2 := Later.trans_ ((((Below.refl w.heap.size w).alloc (Nat.le_refl _) _).alloc (by simp) _).alloc (by simp; omega) _) l1; have bR := (Blk.new' ((w.alloc (.cells #[.int .i64 s, .slice A n c] 43)).alloc (.cells X0 31)) (w.heap.size + 1 + 1) 43 #[.int .i64 0, .slice none 0 0] [.int .i64 0, .slice none 0 0] (by simp) rfl).keep l1; have bP := (((Blk.new w 43 #[.int .i64 s, .slice A n c] _ rfl).alloc (.cells X0 31)).alloc (.cells #[.int .i64 0, .slice none 0 0] 43)).keep l1; have bX := ((Blk.new' (w.alloc (.cells #[.int .i64 s, .slice A n c] 43)) (w.heap.size + 1) 31 X0 (U X) (by simp) HX0.out).alloc (.cells #[.int .i64 0, .slice none 0 0] 43)).keep l1; have p0 := bP.cell (j := 0) (v := .int .i64 s) rfl; have p1 := bP.cell (j := 1) (v := .slice A n c) rfl))
  clear p0 p1 l1
  go_loopw [6, 7] (fun v6 v7 wr => ∃ (q y : Nat) (Z : Wm.Bs), v6 = .int .i64 q ∧ v7 = .int .i64 y ∧ q ≤ n ∧ y ≤ s ∧ Hid (q = Mk.ones y) ∧ Hid (Z.length = 16 ∧ Wm.isBs Z) ∧ Hid (Mk.app nodeD emptyD y (T.take q) Z = G) ∧ Blk wr w.heap.size 43 [.int .i64 s, .slice A n c] ∧ Blk wr (w.heap.size + 1) 31 (U Z) ∧ Blk wr (w.heap.size + 1 + 1) 43 [.int .i64 0, .slice none 0 0] ∧ Later w wr) (fun _ v7 _ => (intOf v7).toNat)
  case atStart => exact ⟨n, s, X, rfl, rfl, Nat.le_refl _, Nat.le_refl _, HNO, HX, Lib.hid (by rw [List.take_of_length_le (by rw [HTl.out]; exact Nat.le_refl _), HG.out]), bP, bX, bR, l2⟩
  case round =>
    clear bP bX bR l2 HF HX HG HNO
    obtain ⟨q, y, Z, rfl, rfl, hq, hy, HQ, HZ, HA, bP, bX, bR, lr⟩ := hrel
    by_cases hodd : y % 2 = 1
    · have hq1 : 1 ≤ q := by rw [HQ.out]; exact ones_pos _ _ (Nat.le_refl _) (by omega)
      obtain ⟨k, rfl⟩ : ∃ k, q = k + 1 := ⟨q - 1, by omega⟩
      have HCk := Lib.hid ((HS.out.keep lr).digest HT.out (k := k) (by omega))
      obtain ⟨ad, eA, _, hkl, hck⟩ := HCk.out
      subst eA
      have HDk := Lib.hid (HT.out _ (List.getElem_mem hkl))
      have hst : Mk.app nodeD emptyD (y / 2) (T.take k) (nodeD T[k] Z) = G := by
        have h1 := HA.out
        rw [Mk.app_odd _ _ _ _ _ hodd, (take_last hkl).1, (take_last hkl).2] at h1
        exact h1
      have hko : k = Mk.ones (y / 2) := by
        have h1 := HQ.out
        rw [Mk.ones_step y (by omega)] at h1
        omega
      have HN := Lib.hid fun (w' : World) (hw : Later w w') => node_any T[k] Z w' HDk.out.1 HZ.out.1 (TB.out.keep hw)
      obtain ⟨Y, hY⟩ : ∃ Y, Y = T[k] := ⟨_, rfl⟩
      obtain ⟨N, hN⟩ : ∃ N, N = nodeD T[k] Z := ⟨_, rfl⟩
      have HNl := Lib.hid (show N.length = 16 ∧ Wm.isBs N by rw [hN]; exact ⟨nodeD_len _ _, nodeD_bs _ _⟩)
      rw [← hN] at HN hst
      rw [← hY] at HN HDk hck
      have HST := Lib.hid hst; have HCK := Lib.hid hck; have HKO := Lib.hid hko
      clear hst hck hY hN HCk hko
      have c1 := bP.cell (j := 1) (v := .slice (some ad) n c) rfl
      have o1 : ((y : Int) % 2 == 1) = true := by rw [beq_iff_eq]; omega
      have kn : (k : Int) < (n : Int) := by omega
      go_wp2_with fail
      refine wp_region_still_tail 6 (by kernel_rfl) (by kernel_rfl) ?_
      simp only [List.take_succ_cons, List.take_zero, List.drop_succ_cons, List.drop_zero]
      have c1d : wr.drew.cell? ⟨w.heap.size, 1, none⟩ = some (.slice (some ad) n c) := c1
      still_step
      still_step
      still_step
      still_step
      refine wpStill_load_addr (o := ⟨some 32, .load 31 (.tmp 31), _, _, _, none⟩) _ _ rfl (ad.add (k * 16)) (U Y) _ (by rfl) (by rfl) (fun j v hv => HCK.out j v hv) Tryd.underlying31 rfl (dig_sz HDk.out.1) ?_
      simp only [Act.put, List.setIfInBounds_toArray, List.set_cons_zero, List.set_cons_succ]
      refine wpStill_load_addr (o := ⟨some 33, .load 31 (.tmp 3), _, _, _, none⟩) _ _ rfl ⟨w.heap.size + 1, 0, none⟩ (U Z) _ (by rfl) (by rfl) bX.drew.addr Tryd.underlying31 rfl (dig_sz HZ.out.1) ?_
      simp only [Act.put, List.setIfInBounds_toArray, List.set_cons_zero, List.set_cons_succ]
      refine wpStill_nil ?_
      change wpList _ _ _ _ _ wr.drew
      go_wp2_with (first
        | (go_at_call 19; refine (HN.out _ lr.drew).mono ?_; rintro e w6 ⟨rfl, l6⟩)
        | ((with_reducible refine wpList_store_abs (o := ⟨none, .store 31 (.tmp 3) (.tmp 34), _, _, _, none⟩) rfl _ _ _ rfl (w.heap.size + 1) 31 (U Z) (U N) ?_ ?_ (bX.drew.keep l6) (dig_sz HNl.out.1) (by rw [U_length, U_length, HZ.out.1, HNl.out.1]) (U_one _) ?_); rfl; rfl; intro w7 z1 z2))
      have l7 : Later w w7 := Below.only (Later.trans_ lr.drew l6) z2 (by omega)
      have p7 := (bP.drew.keep l6).only z2 (by omega)
      have r7 := (bR.drew.keep l6).only z2 (by omega)
      go_roundw
      case rel => exact ⟨k, y / 2, N, by go_num, by go_num, by omega, by omega, HKO, HNl, HST, p7, z1, r7, l7⟩
      case measure => simp [intOf]; omega
    · have o1 : ((y : Int) % 2 == 1) = false := beq_eq_false_iff_ne.2 (by omega)
      have hGe : G = T.take q ++ [Z] := by
        have h1 := HA.out
        rw [Mk.app_even _ _ _ _ _ hodd] at h1
        exact h1.symm
      have hsq := (HS.out.keep lr).dfront HT.out hq
      have hGD : isD G := by
        rw [hGe]
        intro d hd
        rcases List.mem_append.1 hd with h | h
        · exact isD_take HT.out q d h
        · obtain rfl := List.mem_singleton.1 h
          exact HZ.out
      have hGl : G.length = q + 1 := by rw [hGe, List.length_append, List.length_singleton, List.length_take, HTl.out]; omega
      have hDs : Ds (T.take q) ++ U Z = Ds G := by rw [hGe, Ds_snoc]
      have HGD := Lib.hid hGD; have HGl := Lib.hid hGl; have HDs := Lib.hid hDs; have HSQ := Lib.hid hsq
      obtain ⟨i0, hI⟩ := dgI
      have HI := Lib.hid hI
      have z0 : (0 : Int) ≤ (q : Int) := by omega
      have z1 : (q : Int) ≤ (n : Int) := by omega
      have z2 : (q : Int) ≤ (c : Int) := by omega
      have z3 : (n : Int) ≤ (c : Int) := by omega
      have z4 : IntKind.i64.wrap ((s : Int) + 1) = (s : Int) + 1 := IntWalk.i64_in _ (by omega)
      clear hGe hGD hGl hDs hI HTl HT hsq HA HQ TB HS e0
      go_wp2_with fail
      have hsz := lr.size
      refine wp_region_held_drew (S := fun w' => (w'.cell? ⟨w.heap.size, 0, none⟩ = some (.int .i64 s) ∧ w'.cell? ⟨w.heap.size, 1, none⟩ = some (.slice A n c)) ∧ w'.rangeAt (w.heap.size + 1) 0 (U Z)) (by kernel_rfl) ⟨⟨bP.drew.cell (j := 0) rfl, bP.drew.cell (j := 1) rfl⟩, blk_at bX.drew⟩ (fun hHeld => ?_)
      refine wpAnyH_take (i := 0) (oi := ⟨some 35, .fieldAddr 43 (.tmp 2) 0, _, _, _, none⟩) (v := .pointer (some ⟨w.heap.size, 0, none⟩)) rfl (by kernel_rfl) (by kernel_rfl) (by kernel_rfl) (fun _ _ _ h => h) (Or.inl ⟨by rfl, fun w _ => by go_simp⟩) hHeld ?_
      simp only [Act.put, List.setIfInBounds_toArray, List.set_cons_zero, List.set_cons_succ]
      refine wpAnyH_take (i := 1) (oi := ⟨some 36, .load 3 (.tmp 35), _, _, _, none⟩) (v := .int .i64 s) rfl (by kernel_rfl) (by kernel_rfl) (by kernel_rfl) (fun _ _ _ h => h) (Or.inl ⟨by rfl, fun w hS => by have hS' := hS.1.1; go_simp⟩) hHeld ?_
      simp only [Act.put, List.setIfInBounds_toArray, List.set_cons_zero, List.set_cons_succ]
      refine wpAnyH_take (i := 2) (oi := ⟨some 37, .binOp .add 3 (.tmp 36) (.const (.int .i64 1)) 3, _, _, _, none⟩) (v := .int .i64 ((s : Int) + 1)) rfl (by kernel_rfl) (by kernel_rfl) (by kernel_rfl) (fun _ _ _ h => h) (Or.inl ⟨by rfl, fun w _ => by go_simp⟩) hHeld ?_
      simp only [Act.put, List.setIfInBounds_toArray, List.set_cons_zero, List.set_cons_succ]
      refine wpAnyH_take (i := 3) (oi := ⟨some 38, .fieldAddr 43 (.tmp 2) 1, _, _, _, none⟩) (v := .pointer (some ⟨w.heap.size, 1, none⟩)) rfl (by kernel_rfl) (by kernel_rfl) (by kernel_rfl) (fun _ _ _ h => h) (Or.inl ⟨by rfl, fun w _ => by go_simp⟩) hHeld ?_
      simp only [Act.put, List.setIfInBounds_toArray, List.set_cons_zero, List.set_cons_succ]
      refine wpAnyH_take (i := 4) (oi := ⟨some 39, .load 22 (.tmp 38), _, _, _, none⟩) (v := .slice A n c) rfl (by kernel_rfl) (by kernel_rfl) (by kernel_rfl) (fun _ _ _ h => h) (Or.inl ⟨by rfl, fun w hS => by have hS' := hS.1.2; go_simp⟩) hHeld ?_
      simp only [Act.put, List.setIfInBounds_toArray, List.set_cons_zero, List.set_cons_succ]
      refine wpAnyH_take (i := 5) (oi := ⟨some 40, .move (.tmp 6), _, _, _, none⟩) (v := .int .i64 q) rfl (by kernel_rfl) (by kernel_rfl) (by kernel_rfl) (fun _ _ _ h => h) (Or.inl ⟨by rfl, fun _ _ => rfl⟩) hHeld ?_
      simp only [Act.put, List.setIfInBounds_toArray, List.set_cons_zero, List.set_cons_succ]
      refine wpAnyH_take (i := 6) (oi := ⟨some 41, .move (.tmp 6), _, _, _, none⟩) (v := .int .i64 q) rfl (by kernel_rfl) (by kernel_rfl) (by kernel_rfl) (fun _ _ _ h => h) (Or.inl ⟨by rfl, fun _ _ => rfl⟩) hHeld ?_
      simp only [Act.put, List.setIfInBounds_toArray, List.set_cons_zero, List.set_cons_succ]
      refine wpAnyH_take (i := 7) (oi := ⟨some 42, .slice 22 (.tmp 39) none (some (.tmp 40)) (some (.tmp 41)), _, _, _, none⟩) (v := .slice A q q) rfl (by kernel_rfl) (by kernel_rfl) (by kernel_rfl) (fun _ _ _ h => h) (Or.inl ⟨by rfl, fun w _ => by cases A <;> go_simp⟩) hHeld ?_
      simp only [Act.put, List.setIfInBounds_toArray, List.set_cons_zero, List.set_cons_succ]
      refine wpAnyH_take (i := 8) (oi := ⟨some 43, .load 31 (.tmp 3), _, _, _, none⟩) (v := .agg (U Z).toArray) rfl (by kernel_rfl) (by kernel_rfl) (by kernel_rfl) (fun _ _ _ h => h) (yieldsIf_load_mid (by rfl) _ _ rfl _ _ rfl _ _ (fun w h => h.2) Tryd.underlying31 rfl (dig_sz HZ.out.1)) hHeld ?_
      simp only [Act.put, List.setIfInBounds_toArray, List.set_cons_zero, List.set_cons_succ]
      refine wpAnyH_ready (rs := [9]) (by kernel_rfl) (by simp) (AllReadyH.cons (o := ⟨some 44, .buildSlice 22 1 #[(0, .tmp 43)], _, _, _, none⟩) rfl (fun K' hK => ?_) (AllReadyH.nil))
      refine wp_build1 _ 31 _ rfl (U Z).toArray i0 _ Tryd.underlying22 HI.out.hi HI.out.hz (by rw [HI.out.hs, List.size_toArray, U_length, HZ.out.1]) (by rw [List.size_toArray, U_length, HZ.out.1]; decide) (by rw [List.size_toArray, U_length, HZ.out.1]; decide) rfl ?_
      have bP1 := bP.drew.alloc (.cells (U Z).toArray 31)
      have bX1 := bX.drew.alloc (.cells (U Z).toArray 31)
      have bR1 := bR.drew.alloc (.cells (U Z).toArray 31)
      have gN : Blk (wr.drew.alloc (.cells (U Z).toArray 31)) wr.drew.heap.size 31 (U Z) := Blk.new _ _ _ _ rfl
      have l1 : Later w (wr.drew.alloc (.cells (U Z).toArray 31)) := lr.drew.alloc hsz _
      have hsq1 := HSQ.out.drew.alloc (.cells (U Z).toArray 31)
      refine hK.out _ _ ⟨⟨bP1.cell (j := 0) rfl, bP1.cell (j := 1) rfl⟩, blk_at bX1⟩ (fun hHeld => ?_)
      clear hK K'
      try simp only [Act.put, List.setIfInBounds_toArray, List.set_cons_zero, List.set_cons_succ]
      obtain ⟨g, hg⟩ : ∃ g, g = wr.drew.heap.size := ⟨_, rfl⟩
      rw [← hg] at gN ⊢
      clear hg
      generalize wr.drew.alloc (.cells (U Z).toArray 31) = u1 at bP1 bX1 bR1 gN l1 hsq1 hHeld ⊢
      have HU1 : Hid (w.heap.size + 1 + 1 < u1.heap.size) := Lib.hid bR1.lt
      clear bP bX bR lr
      refine wpAnyH_ready (rs := [10]) (by kernel_rfl) (by simp) (AllReadyH.cons (o := ⟨some 45, .call { callee := .builtin .append, args := #[.tmp 42, .tmp 44], argTypes := #[22, 22] }, _, _, _, none⟩) rfl (fun K' hK => ?_) (AllReadyH.nil))
      refine wp_app_new _ (.tmp 42) (.tmp 44) 22 rfl 31 i0 _ 16 16 Tryd.underlying22 HI.out.hi HI.out.hz HI.out.hs HI.out.hb rfl (by decide) A q (Ds (T.take q)) rfl hsq1 (some ⟨g, 0, none⟩) 1 1 (U Z) rfl (by decide) (blk_digs gN HZ.out.1) (U_one _) (by unfold maxLen; omega) (by omega) ?_
      intro A' c' u2 q1 q2 q3 q4 grow
      have bP2 := bP1.grown grow (by simp)
      have bX2 := bX1.grown grow (by simp)
      have bR2 := bR1.grown grow (by simp)
      have l2 : Later w u2 := l1.grown grow l1.size (fun k hk => by cases hk)
      rw [HDs.out] at q3
      refine hK.out _ _ ⟨⟨bP2.cell (j := 0) rfl, bP2.cell (j := 1) rfl⟩, blk_at bX2⟩ (fun hHeld => ?_)
      clear hK K' bP1 bX1 bR1 l1 gN hsq1 grow
      try simp only [Act.put, List.setIfInBounds_toArray, List.set_cons_zero, List.set_cons_succ]
      refine wpAnyH_take (i := 11) (oi := ⟨some 46, .build 43 #[(0, .tmp 37), (1, .tmp 45)], _, _, _, none⟩) (v := .agg #[.int .i64 ((s : Int) + 1), .slice A' (q + 1) c']) rfl (by kernel_rfl) (by kernel_rfl) (by kernel_rfl) (fun _ _ _ h => h) (Or.inl ⟨by rfl, fun w _ => by go_simp⟩) hHeld ?_
      simp only [Act.put, List.setIfInBounds_toArray, List.set_cons_zero, List.set_cons_succ]
      refine wpAnyH_ready (rs := [12]) (by kernel_rfl) (by simp) (AllReadyH.cons (o := ⟨none, .store 43 (.tmp 4) (.tmp 46), _, _, _, none⟩) rfl (fun K' hK => ?_) (AllReadyH.nil))
      have d0 := bR2.cell (j := 0) (v := .int .i64 0) rfl
      have d1 := bR2.cell (j := 1) (v := .slice none 0 0) rfl
      have f0 := bR2.frz 0
      have f1 := bR2.frz 1
      go_simp
      clear d0 d1 f0 f1
      have bR3 := (bR2.set 0 (.int .i64 ((s : Int) + 1))).set 1 (.slice A' (q + 1) c')
      have bP3 := (bP2.set_other ⟨w.heap.size + 1 + 1, 0, none⟩ (.int .i64 ((s : Int) + 1)) (by show w.heap.size ≠ w.heap.size + 1 + 1; omega)).set_other ⟨w.heap.size + 1 + 1, 1, none⟩ (.slice A' (q + 1) c') (by show w.heap.size ≠ w.heap.size + 1 + 1; omega)
      have bX3 := (bX2.set_other ⟨w.heap.size + 1 + 1, 0, none⟩ (.int .i64 ((s : Int) + 1)) (by show w.heap.size + 1 ≠ w.heap.size + 1 + 1; omega)).set_other ⟨w.heap.size + 1 + 1, 1, none⟩ (.slice A' (q + 1) c') (by show w.heap.size + 1 ≠ w.heap.size + 1 + 1; omega)
      have l3 : Later w ((u2.setCell ⟨w.heap.size + 1 + 1, 0, none⟩ (.int .i64 ((s : Int) + 1))).setCell ⟨w.heap.size + 1 + 1, 1, none⟩ (.slice A' (q + 1) c')) := (l2.setCell (by show w.heap.size ≤ w.heap.size + 1 + 1; omega) _).setCell (by show w.heap.size ≤ w.heap.size + 1 + 1; omega) _
      have o3 : ∀ ad, A' = some ad → ad.block ≠ w.heap.size + 1 + 1 := fun ad e => by have h1 := q4 ad e; have h2 := HU1.out; omega
      have q5 : Sl ((u2.setCell ⟨w.heap.size + 1 + 1, 0, none⟩ (.int .i64 ((s : Int) + 1))).setCell ⟨w.heap.size + 1 + 1, 1, none⟩ (.slice A' (q + 1) c')) 16 A' (q + 1) (Ds G) := sl_set2 q3 o3 _ _
      refine hK.out _ _ ⟨⟨bP3.cell (j := 0) rfl, bP3.cell (j := 1) rfl⟩, blk_at bX3⟩ (fun hHeld => ?_)
      have q6 : ∀ ad, A' = some ad → w.heap.size ≤ ad.block := fun ad e => by have h1 := q4 ad e; have h2 := HU1.out; omega
      clear hK K' bP2 bX2 bR2 l2 q3 q4 o3
      try simp only [Act.put, List.setIfInBounds_toArray, List.set_cons_zero, List.set_cons_succ]
      refine wpAnyH_take (i := 13) (oi := ⟨some 5, .assign (.const (.int .i64 0)), _, _, _, none⟩) (v := .int .i64 0) rfl (by kernel_rfl) (by kernel_rfl) (by kernel_rfl) (fun _ _ _ h => h) (Or.inl ⟨by rfl, fun _ _ => rfl⟩) hHeld ?_
      simp only [Act.put, List.setIfInBounds_toArray, List.set_cons_zero, List.set_cons_succ]
      refine wpAnyH_done (by kernel_rfl) ?_ _
      generalize ((u2.setCell ⟨w.heap.size + 1 + 1, 0, none⟩ (.int .i64 ((s : Int) + 1))).setCell ⟨w.heap.size + 1 + 1, 1, none⟩ (.slice A' (q + 1) c')) = u3 at bR3 bP3 bX3 l3 q5 hHeld ⊢
      go_wp2
      exact bodyPost_ret (v := .tuple #[.agg #[.int .i64 ((s : Int) + 1), .slice A' (q + 1) c'], .int .i64 0]) (results_cell_tmp Tryd.results25 _ _ (w.heap.size + 1 + 1) 43 _ _ _ rfl rfl bR3 Tryd.underlying43 rfl peaks_sz) rfl ⟨A', c', by rw [HGl.out], by rw [HGl.out]; exact q1, q2, by rw [HGl.out]; exact q5, HGD.out, q6, l3⟩
end Go.Proofs.YtaihfkcoiagdaabDoor

/-
  THE WALK OF the reference's Same.
-/
namespace Go.Proofs.YtaihfkcoiagdaabDoor
open Go.RowKit Go.ChangeShapes Go.WideShapes Go.ChangeAt

set_option maxRecDepth 100000 in
set_option maxHeartbeats 1000000 in
theorem same_any (A B : Option Addr) (n c m d : Nat) (l l2 : List Wm.Bs) (w : World) (hs : Sl w 16 A n (Ds l)) (hl : isD l) (hs2 : Sl w 16 B m (Ds l2)) (hl2 : isD l2) (hn : n ≤ maxLen) :
    Calls Tryd.prog 17 #[.slice A n c, .slice B m d] w fun e w' => e = .returned (.bool (decide (l = l2))) ∧ Later w w' := by
  unfold maxLen at hn
  have hll := hs.dlen hl
  have hll2 := hs2.dlen hl2
  by_cases hnm : n = m
  · subst hnm
    have e0 : ((n : Int) != (n : Int)) = false := by simp
    have HS := Lib.hid hs; have HS2 := Lib.hid hs2; have HL := Lib.hid hl; have HL2 := Lib.hid hl2; have HLL := Lib.hid hll; have HLL2 := Lib.hid hll2
    have hgd : Tryd.prog.eqGuardType Tryd.prog.depth 31 = false := by kernel_rfl
    clear hs hs2 hl hl2 hll hll2
    go_enter Tryd.func17, Tryd.ntmps17
    go_wp2
    go_loopw [5] (fun v wr => ∃ k : Nat, v = .int .i64 k ∧ k ≤ n ∧ Hid (l.take k = l2.take k) ∧ Later w wr) (fun v _ => n - (intOf v).toNat)
    case atStart => exact ⟨0, rfl, Nat.zero_le _, Lib.hid rfl, Below.refl _ _⟩
    case round =>
      obtain ⟨k, rfl, hk, HT, lr⟩ := hrel
      by_cases hlt : k < n
      · have HC := Lib.hid ((HS.out.keep lr).digest HL.out (k := k) hlt)
        have HC2 := Lib.hid ((HS2.out.keep lr).digest HL2.out (k := k) hlt)
        obtain ⟨ad, rfl, _, hkl, hck⟩ := HC.out
        obtain ⟨ad2, rfl, _, hkl2, hck2⟩ := HC2.out
        have HD := Lib.hid (HL.out _ (List.getElem_mem hkl))
        have HD2 := Lib.hid (HL2.out _ (List.getElem_mem hkl2))
        have hkn : (k : Int) < (n : Int) := by omega
        have heq : ∀ w' : World, (Op.equalIn 10000 31 (.agg (U l[k]).toArray) (.agg (U l2[k]).toArray)).run Tryd.prog w' = .ok (decide (l[k] = l2[k])) w' := fun w' => dig_eq HD.out.1 HD2.out.1 w'
        have hdec : (l[k] = l2[k] → l.take (k + 1) = l2.take (k + 1)) ∧ (l[k] ≠ l2[k] → l ≠ l2) := by
          refine ⟨fun h => ?_, fun h e => ?_⟩
          · rw [List.take_add_one, List.take_add_one, HT.out, List.getElem?_eq_getElem hkl, List.getElem?_eq_getElem hkl2, h]
          · subst e; exact h rfl
        obtain ⟨X, hX⟩ : ∃ X, X = l[k] := ⟨_, rfl⟩
        obtain ⟨Y, hY⟩ : ∃ Y, Y = l2[k] := ⟨_, rfl⟩
        rw [← hX] at hck HD heq hdec
        rw [← hY] at hck2 HD2 heq hdec
        have HCK := Lib.hid hck; have HCK2 := Lib.hid hck2; have HDEC := Lib.hid hdec
        clear hck hck2 hX hY HC HC2 hdec hkl hkl2
        go_wp2_with fail
        refine wp_region_still_tail 8 (by kernel_rfl) (by kernel_rfl) ?_
        simp only [List.take_succ_cons, List.take_zero, List.drop_succ_cons, List.drop_zero]
        still_step
        still_step
        still_step
        refine wpStill_load_addr (o := ⟨some 20, .load 31 (.tmp 19), _, _, _, none⟩) _ _ rfl (ad.add (k * 16)) (U X) _ (by rfl) (by rfl) (fun j v hv => HCK.out j v hv) Tryd.underlying31 rfl (dig_sz HD.out.1) ?_
        simp only [Act.put, List.setIfInBounds_toArray, List.set_cons_zero, List.set_cons_succ]
        still_step
        still_step
        still_step
        refine wpStill_load_addr (o := ⟨some 24, .load 31 (.tmp 23), _, _, _, none⟩) _ _ rfl (ad2.add (k * 16)) (U Y) _ (by rfl) (by rfl) (fun j v hv => HCK2.out j v hv) Tryd.underlying31 rfl (dig_sz HD2.out.1) ?_
        simp only [Act.put, List.setIfInBounds_toArray, List.set_cons_zero, List.set_cons_succ]
        refine wpStill_nil ?_
        change wpList _ _ _ _ _ wr.drew
        by_cases hxy : X = Y
        · have hb : decide (X = Y) = true := decide_eq_true hxy
          rw [hb] at heq
          have HXY := Lib.hid hxy
          clear hb hxy
          go_wp2
          go_roundw
          case rel => exact ⟨k + 1, by go_num, hlt, Lib.hid (HDEC.out.1 HXY.out), lr.drew⟩
          case measure => simp [intOf]; omega
        · have hb : decide (X = Y) = false := decide_eq_false hxy
          rw [hb] at heq
          have HXY := Lib.hid hxy
          clear hb hxy
          go_wp2
          go_ret
          exact ⟨by rw [decide_eq_false (HDEC.out.2 HXY.out)]; rfl, lr.drew⟩
      · obtain rfl : k = n := by omega
        have hfin : l = l2 := by
          have h1 := HT.out
          rwa [List.take_of_length_le (by rw [HLL.out]; exact Nat.le_refl _), List.take_of_length_le (by rw [HLL2.out]; exact Nat.le_refl _)] at h1
        have HFIN := Lib.hid hfin
        have HLR := Lib.hid lr
        clear hfin lr
        go_wp2
        go_ret
        exact ⟨by rw [decide_eq_true HFIN.out]; rfl, HLR.out⟩
  · rw [decide_eq_false (fun e => hnm (by rw [← hll, ← hll2, e]))]
    have e0 : ((n : Int) != (m : Int)) = true := by simp; omega
    clear hs hs2 hl hl2 hll hll2
    go_enter Tryd.func17, Tryd.ntmps17
    go_wp2
    go_ret
    exact ⟨rfl, Below.refl _ _⟩
end Go.Proofs.YtaihfkcoiagdaabDoor

/-
  FOR THE STATEMENTS' SANITY CHECK: slice literals of two and of three digests; the examples reckoned out.
-/
namespace Go.Proofs.YtaihfkcoiagdaabDoor
open Go.RowKit Go.ChangeShapes Go.WideShapes Go.ChangeAt

theorem foldl_setO (o : Nat) (xs : List Value) : ∀ (k : Nat) (Z : Array Value), o + k + xs.length ≤ Z.size →
    ((xs.zipIdx k).foldl (fun cs x => cs.setIfInBounds (o + x.2) x.1) Z).toList = Z.toList.take (o + k) ++ xs ++ Z.toList.drop (o + k + xs.length) := by
  induction xs with
  | nil => intro k Z _; simp
  | cons x r ih =>
    intro k Z h
    rw [List.length_cons] at h
    rw [List.zipIdx_cons, List.foldl_cons, ih (k + 1) _ (by rw [Array.size_setIfInBounds]; omega)]
    have hk : o + k < Z.toList.length := by rw [Array.length_toList]; omega
    rw [Array.toList_setIfInBounds, ← Nat.add_assoc o k 1, List.take_succ_eq_append_getElem (by rw [List.length_set]; exact hk), List.take_set_of_le (Nat.le_refl (o + k)), List.getElem_set_self, List.drop_set_of_lt (by omega)]
    rw [show o + k + 1 + r.length = o + k + (x :: r).length by rw [List.length_cons]; omega]
    simp only [List.append_assoc, List.cons_append, List.nil_append]
theorem set_fold (o : Nat) (X Z : Array Value) (h : o + X.size ≤ Z.size) : (X.zipIdx.foldl (fun cs x => cs.setIfInBounds (o + x.2) x.1) Z).toList = Z.toList.take o ++ X.toList ++ Z.toList.drop (o + X.size) := by
  rw [← Array.foldl_toList, Array.toList_zipIdx]
  have h1 := foldl_setO o X.toList 0 Z (by rw [Array.length_toList]; omega)
  rw [Nat.add_zero, Array.length_toList] at h1
  exact h1
theorem set_fold_size (o : Nat) (X Z : Array Value) (h : o + X.size ≤ Z.size) : (X.zipIdx.foldl (fun cs x => cs.setIfInBounds (o + x.2) x.1) Z).size = Z.size := by
  rw [← Array.length_toList, set_fold o X Z h, List.length_append, List.length_append, List.length_take, List.length_drop, Array.length_toList, Array.length_toList]; omega
theorem fill_cons (sel : Nat → Option (Nat × Nat)) (Z X : Array Value) (i o n : Nat) (r : List (Nat × Value)) (hs : sel i = some (o, n)) (hx : X.size = n) (hz : o + n ≤ Z.size) :
    Instr.fill sel Z ((i, .agg X) :: r) = Instr.fill sel (X.zipIdx.foldl (fun cs x => cs.setIfInBounds (o + x.2) x.1) Z) r := by
  have h1 : ¬ (Value.agg X).cells.size ≠ n := fun h => h hx
  have h2 : ¬ o + (Value.agg X).cells.size > Z.size := by show ¬ o + X.size > Z.size; omega
  rw [Instr.fill]
  simp only [hs]
  rw [if_neg (by rw [decide_eq_false h1, decide_eq_false h2]; decide)]
  rfl
theorem wp_build2 {P : Program} {o : Oper} {a : Act} {w : World} {K : Act → World → Prop} {Q : Exit → Act → World → Prop} (t e : TypeId) (x y : Operand) (ho : o.op = .buildSlice t 2 #[(0, x), (1, y)])
    (X Y : Array Value) (ie : TypeInfo) (z : Value) (hu : P.underlying t = some (.slice e)) (hie : P.info? e = some ie) (hz : ie.zero = some z) (hs : ie.size = 16) (h1 : X.size = 16) (h2 : Y.size = 16)
    (hx : a.eval x = .agg X) (hy : a.eval y = .agg Y) (h : K (a.put o.dst (.slice (some ⟨w.heap.size, 0, none⟩) 2 2)) (w.alloc (.cells (X ++ Y) e))) : o.wp P a w K Q := by
  refine wp_buildSlice t e 2 _ ho (X ++ Y) ie z hu hie hz (by rw [hs]; omega) (by rw [hs]; omega) ?_ h
  have e1 : (#[(0, x), (1, y)].map fun (i, x) => (i, a.eval x)).toList = [(0, Value.agg X), (1, Value.agg Y)] := by simp [hx, hy]
  rw [e1, hs]
  obtain ⟨Z, hZ⟩ : ∃ Z, Z = (Array.range (2 * 16)).map (z.cells[· % z.cells.size]!) := ⟨_, rfl⟩
  have hzs : Z.size = 32 := by rw [hZ]; simp
  rw [← hZ]
  rw [fill_cons _ Z X 0 0 16 _ rfl h1 (by omega), fill_cons _ _ Y 1 16 16 _ rfl h2 (by rw [set_fold_size _ _ _ (by omega)]; omega)]
  show some _ = some _
  congr 1
  apply Array.ext'
  rw [set_fold _ _ _ (by rw [set_fold_size _ _ _ (by omega)]; omega), set_fold _ _ _ (by omega), h1, h2]
  simp [h1, hzs]
theorem wp_build3 {P : Program} {o : Oper} {a : Act} {w : World} {K : Act → World → Prop} {Q : Exit → Act → World → Prop} (t e : TypeId) (x y u : Operand) (ho : o.op = .buildSlice t 3 #[(0, x), (1, y), (2, u)])
    (X Y V : Array Value) (ie : TypeInfo) (z : Value) (hu : P.underlying t = some (.slice e)) (hie : P.info? e = some ie) (hz : ie.zero = some z) (hs : ie.size = 16) (h1 : X.size = 16) (h2 : Y.size = 16) (h3 : V.size = 16)
    (hx : a.eval x = .agg X) (hy : a.eval y = .agg Y) (hv : a.eval u = .agg V) (h : K (a.put o.dst (.slice (some ⟨w.heap.size, 0, none⟩) 3 3)) (w.alloc (.cells (X ++ Y ++ V) e))) : o.wp P a w K Q := by
  refine wp_buildSlice t e 3 _ ho (X ++ Y ++ V) ie z hu hie hz (by rw [hs]; omega) (by rw [hs]; omega) ?_ h
  have e1 : (#[(0, x), (1, y), (2, u)].map fun (i, x) => (i, a.eval x)).toList = [(0, Value.agg X), (1, Value.agg Y), (2, Value.agg V)] := by simp [hx, hy, hv]
  rw [e1, hs]
  obtain ⟨Z, hZ⟩ : ∃ Z, Z = (Array.range (3 * 16)).map (z.cells[· % z.cells.size]!) := ⟨_, rfl⟩
  have hzs : Z.size = 48 := by rw [hZ]; simp
  rw [← hZ]
  have s1 := set_fold_size 0 X Z (by omega)
  have f1 := set_fold 0 X Z (by omega)
  rw [fill_cons _ Z X 0 0 16 _ rfl h1 (by omega)]
  obtain ⟨Z1, hZ1⟩ : ∃ Z1, Z1 = X.zipIdx.foldl (fun cs x => cs.setIfInBounds (0 + x.2) x.1) Z := ⟨_, rfl⟩
  rw [← hZ1] at s1 f1 ⊢
  have s2 := set_fold_size 16 Y Z1 (by omega)
  have f2 := set_fold 16 Y Z1 (by omega)
  rw [fill_cons _ Z1 Y 1 16 16 _ rfl h2 (by omega)]
  obtain ⟨Z2, hZ2⟩ : ∃ Z2, Z2 = Y.zipIdx.foldl (fun cs x => cs.setIfInBounds (16 + x.2) x.1) Z1 := ⟨_, rfl⟩
  rw [← hZ2] at s2 f2 ⊢
  rw [fill_cons _ Z2 V 2 32 16 _ rfl h3 (by omega)]
  show some _ = some _
  congr 1
  apply Array.ext'
  rw [set_fold 32 V Z2 (by omega), f2, f1, h1, h2, h3]
  have x1 : X.toList.take 32 = X.toList := List.take_of_length_le (by rw [Array.length_toList]; omega)
  have x2 : X.toList.drop 48 = [] := List.drop_eq_nil_of_le (by rw [Array.length_toList]; omega)
  have x3 : Y.toList.drop 32 = [] := List.drop_eq_nil_of_le (by rw [Array.length_toList]; omega)
  have x4 : Z.toList.drop 48 = [] := List.drop_eq_nil_of_le (by rw [Array.length_toList]; omega)
  simp [List.take_append, List.drop_append, h1, h2, x1, x2, x3, x4]
section
open Mk
variable {D : Type} (node : D → D → D) (z : D) (a b c : D)
theorem sp3 : sp 3 = 2 := sp_is (j := 1) (by omega) (by omega)
theorem sp2 : sp 2 = 1 := sp_is (j := 0) (by omega) (by omega)
theorem s_root2 : root node z [a, b] = node a b := by
  have h := root_two node z [a, b] (by simp)
  rw [show ([a, b] : List D).length = 2 from rfl, sp2] at h
  rw [h]; show node (root node z [a]) (root node z [b]) = _
  rw [root_one, root_one]
theorem s_root3 : root node z [a, b, c] = node (node a b) c := by
  have h := root_two node z [a, b, c] (by simp)
  rw [show ([a, b, c] : List D).length = 3 from rfl, sp3] at h
  rw [h]; show node (root node z [a, b]) (root node z [c]) = _
  rw [s_root2, root_one]
theorem s_incl0 : incl node z [a, b, c] 0 = [b, c] := by
  have h := incl_left node z [a, b, c] 0 (by simp) (sp_pos _)
  rw [show ([a, b, c] : List D).length = 3 from rfl, sp3] at h
  have h2 := incl_left node z [a, b] 0 (by simp) (sp_pos _)
  rw [show ([a, b] : List D).length = 2 from rfl, sp2] at h2
  rw [h]; show incl node z [a, b] 0 ++ [root node z [c]] = _
  rw [h2]; show incl node z [a] 0 ++ [root node z [b]] ++ [root node z [c]] = _
  rw [incl_small _ _ _ _ (by simp), root_one, root_one]; rfl
theorem s_incl2 : incl node z [a, b, c] 2 = [node a b] := by
  have h := incl_right node z [a, b, c] 2 (by simp) (by rw [show ([a, b, c] : List D).length = 3 from rfl, sp3]; decide)
  rw [show ([a, b, c] : List D).length = 3 from rfl, sp3] at h
  rw [h]; show incl node z [c] 0 ++ [root node z [a, b]] = _
  rw [incl_small _ _ _ _ (by simp), s_root2]; rfl
theorem s_cons1 : cons node z [a, b, c] 1 true = [b, c] := by
  have h := cons_left node z [a, b, c] 1 true (by simp) (by simp) (by rw [show ([a, b, c] : List D).length = 3 from rfl, sp3]; decide)
  rw [show ([a, b, c] : List D).length = 3 from rfl, sp3] at h
  have h2 := cons_left node z [a, b] 1 true (by simp) (by simp) (sp_pos _)
  rw [show ([a, b] : List D).length = 2 from rfl, sp2] at h2
  rw [h]; show cons node z [a, b] 1 true ++ [root node z [c]] = _
  rw [h2]; show cons node z [a] 1 true ++ [root node z [b]] ++ [root node z [c]] = _
  have h3 := cons_all node z [a] true
  rw [show ([a] : List D).length = 1 from rfl] at h3
  rw [h3, if_pos rfl, root_one, root_one]; rfl
theorem s_cons2 : cons node z [a, b, c] 2 true = [c] := by
  have h := cons_left node z [a, b, c] 2 true (by simp) (by simp) (by rw [show ([a, b, c] : List D).length = 3 from rfl, sp3]; decide)
  rw [show ([a, b, c] : List D).length = 3 from rfl, sp3] at h
  rw [h]; show cons node z [a, b] 2 true ++ [root node z [c]] = _
  have h3 := cons_all node z [a, b] true
  rw [show ([a, b] : List D).length = 2 from rfl] at h3
  rw [h3, if_pos rfl, root_one]; rfl
theorem s_many : many node z [a, b, c] 0 [0, 2] = [b] := by
  have h := many_two node z [a, b, c] 0 [0, 2] (by simp) (by simp)
  rw [show ([a, b, c] : List D).length = 3 from rfl, sp3, show cnt [0, 2] (0 + (2 : Nat)) = 1 by decide] at h
  have h2 := many_two node z [a, b] 0 [0] (by simp) (by simp)
  rw [show ([a, b] : List D).length = 2 from rfl, sp2, show cnt [0] (0 + (1 : Nat)) = 1 by decide] at h2
  rw [h]; show many node z [a, b] 0 [0] ++ many node z [c] (0 + (2 : Nat)) [2] = _
  rw [h2]; show (many node z [a] 0 [0] ++ many node z [b] (0 + (1 : Nat)) []) ++ many node z [c] (0 + (2 : Nat)) [2] = _
  rw [many_none, many_small _ _ _ _ _ (by simp) (by simp), many_small _ _ _ _ _ (by simp) (by simp), root_one]; rfl
theorem s_climb : climb node z a 0 3 ⟨[b, c], false⟩ = (node (node a b) c, ⟨[], false⟩) := by
  have h := climb_left node z a 0 3 ⟨[b, c], false⟩ (by decide) (sp_pos _)
  have h2 := climb_left node z a 0 2 ⟨[b, c], false⟩ (by decide) (sp_pos _)
  rw [sp3] at h; rw [sp2, climb_small node z a 0 1 _ (by decide)] at h2
  rw [h, h2]; rfl
theorem s_climb2 : (climb node z a 0 3 ⟨[b], false⟩).2.short = true := by
  have h := climb_left node z a 0 3 ⟨[b], false⟩ (by decide) (sp_pos _)
  have h2 := climb_left node z a 0 2 ⟨[b], false⟩ (by decide) (sp_pos _)
  rw [sp3] at h; rw [sp2, climb_small node z a 0 1 _ (by decide)] at h2
  rw [h, h2]; rfl
theorem s_grow : grow node z a 1 3 true ⟨[b, c], false⟩ = ((a, node (node a b) c), ⟨[], false⟩) := by
  have h := grow_left node z a 1 3 true ⟨[b, c], false⟩ (by decide) (by decide) (by rw [sp3]; decide)
  have h2 := grow_left node z a 1 2 true ⟨[b, c], false⟩ (by decide) (by decide) (sp_pos _)
  rw [sp3] at h; rw [sp2, grow_all] at h2
  rw [h, h2]; rfl
theorem s_gather : gather node z 0 3 [0, 2] [a, c] ⟨[b], false⟩ = (node (node a b) c, ⟨[], false⟩) := by
  have h := gather_two node z 0 3 [0, 2] [a, c] ⟨[b], false⟩ (by decide) (by decide)
  rw [sp3, show cnt [0, 2] (0 + (2 : Nat)) = 1 by decide] at h
  have h2 := gather_two node z 0 2 [0] [a] ⟨[b], false⟩ (by decide) (by decide)
  rw [sp2, show cnt [0] (0 + (1 : Nat)) = 1 by decide] at h2
  rw [h]
  have e1 : gather node z 0 2 (([0, 2] : List Int).take 1) ([a, c].take 1) ⟨[b], false⟩ = (node a b, ⟨[], false⟩) := by
    show gather node z 0 2 [0] [a] ⟨[b], false⟩ = _
    rw [h2]
    have e2 : gather node z 0 1 (([0] : List Int).take 1) ([a].take 1) ⟨[b], false⟩ = (a, ⟨[b], false⟩) := Mk.gather_one node z 0 1 [0] [a] _ (by simp) (by simp)
    rw [e2]
    have e3 : gather node z (0 + (1 : Nat)) (2 - 1) (([0] : List Int).drop 1) ([a].drop 1) ⟨[b], false⟩ = (b, ⟨[], false⟩) := Mk.gather_none node z _ _ _ _
    rw [e3]
  rw [e1]
  have e4 : gather node z (0 + (2 : Nat)) (3 - 2) (([0, 2] : List Int).drop 1) ([a, c].drop 1) ⟨[], false⟩ = (c, ⟨[], false⟩) := Mk.gather_one node z _ 1 [2] [c] _ (by simp) (by simp)
  rw [e4]
theorem s_app0 : app node z 0 [] a = [a] := by rw [app_even _ _ _ _ _ (by decide)]; rfl
theorem s_app1 : app node z 1 [a] b = [node a b] := by rw [app_odd _ _ _ _ _ (by decide), app_even _ _ _ _ _ (by decide)]; rfl
theorem s_app2 : app node z 2 [node a b] c = [node a b, c] := by rw [app_even _ _ _ _ _ (by decide)]; rfl
end
end Go.Proofs.YtaihfkcoiagdaabDoor
