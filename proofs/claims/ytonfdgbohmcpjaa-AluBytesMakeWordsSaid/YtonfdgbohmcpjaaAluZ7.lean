/-
  THE STATEMENT AluBytesMakeWords: a word is made of its bytes, SetByte changes one byte alone, and Extend changes nothing twice; it holds for every word, place, byte and number of bits.
-/
import Derived.Test.YtonfdgbohmcpjaaAluJ
namespace Go.Proofs.Ytonfdgbohmcpjaa
open Go.RowKit Go.ChangeShapes Go.WideShapes Go.ChangeAt

def pw4 : Nat → Int
  | 0 => 1 | 1 => 256 | 2 => 65536 | 3 => 16777216 | _ => 4294967296
/-- The word's byte k, by plain division. -/
def xb (x : Int) (k : Nat) : Int := x / pw4 k % 256
/-- .. its lowest k bytes. -/
def xm (x : Int) (k : Nat) : Int := x % pw4 k
/-- .. its byte k, when byte j has become b. -/
def yb (x b : Int) (j k : Nat) : Int := if k = j then b else xb x k
/-- How many of the lowest k bytes have changed. -/
def chg (x b : Int) (j : Nat) : Nat → Int
  | 0 => 0
  | k + 1 => chg x b j k + if yb x b j k = xb x k then 0 else 1
theorem four {k : Nat} (h : k < 4) : k = 0 ∨ k = 1 ∨ k = 2 ∨ k = 3 := by omega
theorem by_xb (x : Int) {k : Nat} (h : k < 4) : Al.BY x (8 * ((k : Int) % 4)) = xb x k := by
  rcases four h with rfl | rfl | rfl | rfl <;> rfl
theorem sb_xm {x : Int} {k : Nat} (h : k < 4) : Al.SB (xm x k) (8 * ((k : Int) % 4)) (xb x k) = xm x (k + 1) := by
  rcases four h with rfl | rfl | rfl | rfl
  · show x % 1 - (x % 1 / 1 % 256) * 1 + (x / 1 % 256) * 1 = x % 256; omega
  · show x % 256 - (x % 256 / 256 % 256) * 256 + (x / 256 % 256) * 256 = x % 65536; omega
  · show x % 65536 - (x % 65536 / 65536 % 256) * 65536 + (x / 65536 % 256) * 65536 = x % 16777216; omega
  · show x % 16777216 - (x % 16777216 / 16777216 % 256) * 16777216 + (x / 16777216 % 256) * 16777216 = x % 4294967296; omega
theorem by_sb {x b : Int} (hb0 : 0 ≤ b) (hb1 : b < 256) {j k : Nat} (hj : j < 4) (hk : k < 4) : Al.BY (Al.SB x (8 * (j : Int)) b) (8 * ((k : Int) % 4)) = yb x b j k := by
  rcases four hj with rfl | rfl | rfl | rfl
  · show Al.BY (x - (x / 1 % 256) * 1 + b * 1) _ = _
    rcases four hk with rfl | rfl | rfl | rfl
    · show (x - (x / 1 % 256) * 1 + b * 1) / 1 % 256 = b; omega
    · show (x - (x / 1 % 256) * 1 + b * 1) / 256 % 256 = x / 256 % 256; omega
    · show (x - (x / 1 % 256) * 1 + b * 1) / 65536 % 256 = x / 65536 % 256; omega
    · show (x - (x / 1 % 256) * 1 + b * 1) / 16777216 % 256 = x / 16777216 % 256; omega
  · show Al.BY (x - (x / 256 % 256) * 256 + b * 256) _ = _
    rcases four hk with rfl | rfl | rfl | rfl
    · show (x - (x / 256 % 256) * 256 + b * 256) / 1 % 256 = x / 1 % 256; omega
    · show (x - (x / 256 % 256) * 256 + b * 256) / 256 % 256 = b; omega
    · show (x - (x / 256 % 256) * 256 + b * 256) / 65536 % 256 = x / 65536 % 256; omega
    · show (x - (x / 256 % 256) * 256 + b * 256) / 16777216 % 256 = x / 16777216 % 256; omega
  · show Al.BY (x - (x / 65536 % 256) * 65536 + b * 65536) _ = _
    rcases four hk with rfl | rfl | rfl | rfl
    · show (x - (x / 65536 % 256) * 65536 + b * 65536) / 1 % 256 = x / 1 % 256; omega
    · show (x - (x / 65536 % 256) * 65536 + b * 65536) / 256 % 256 = x / 256 % 256; omega
    · show (x - (x / 65536 % 256) * 65536 + b * 65536) / 65536 % 256 = b; omega
    · show (x - (x / 65536 % 256) * 65536 + b * 65536) / 16777216 % 256 = x / 16777216 % 256; omega
  · show Al.BY (x - (x / 16777216 % 256) * 16777216 + b * 16777216) _ = _
    rcases four hk with rfl | rfl | rfl | rfl
    · show (x - (x / 16777216 % 256) * 16777216 + b * 16777216) / 1 % 256 = x / 1 % 256; omega
    · show (x - (x / 16777216 % 256) * 16777216 + b * 16777216) / 256 % 256 = x / 256 % 256; omega
    · show (x - (x / 16777216 % 256) * 16777216 + b * 16777216) / 65536 % 256 = x / 65536 % 256; omega
    · show (x - (x / 16777216 % 256) * 16777216 + b * 16777216) / 16777216 % 256 = b; omega
theorem sb_bd {x b : Int} (h0 : 0 ≤ x) (h1 : x < 4294967296) (hb0 : 0 ≤ b) (hb1 : b < 256) {j : Nat} (hj : j < 4) : 0 ≤ Al.SB x (8 * (j : Int)) b ∧ Al.SB x (8 * (j : Int)) b < 4294967296 := by
  rcases four hj with rfl | rfl | rfl | rfl
  · show 0 ≤ x - (x / 1 % 256) * 1 + b * 1 ∧ x - (x / 1 % 256) * 1 + b * 1 < _; omega
  · show 0 ≤ x - (x / 256 % 256) * 256 + b * 256 ∧ x - (x / 256 % 256) * 256 + b * 256 < _; omega
  · show 0 ≤ x - (x / 65536 % 256) * 65536 + b * 65536 ∧ x - (x / 65536 % 256) * 65536 + b * 65536 < _; omega
  · show 0 ≤ x - (x / 16777216 % 256) * 16777216 + b * 16777216 ∧ x - (x / 16777216 % 256) * 16777216 + b * 16777216 < _; omega
theorem xb_bd (x : Int) (k : Nat) : 0 ≤ xb x k ∧ xb x k < 256 := by unfold xb; omega
theorem xm_bd (x : Int) {k : Nat} (hk : k ≤ 4) : 0 ≤ xm x k ∧ xm x k < 4294967296 := by
  rcases (show k = 0 ∨ k = 1 ∨ k = 2 ∨ k = 3 ∨ k = 4 by omega) with rfl | rfl | rfl | rfl | rfl
  · show 0 ≤ x % 1 ∧ x % 1 < _; omega
  · show 0 ≤ x % 256 ∧ x % 256 < _; omega
  · show 0 ≤ x % 65536 ∧ x % 65536 < _; omega
  · show 0 ≤ x % 16777216 ∧ x % 16777216 < _; omega
  · show 0 ≤ x % 4294967296 ∧ x % 4294967296 < _; omega
theorem chg_other {x b : Int} {j : Nat} {k : Nat} (h : k ≠ j) : (if yb x b j k = xb x k then (0 : Int) else 1) = 0 := by
  unfold yb; rw [if_neg h, if_pos rfl]
theorem chg_self {x b : Int} {j : Nat} : (if yb x b j j = xb x j then (0 : Int) else 1) = if b = xb x j then 0 else 1 := by
  unfold yb; rw [if_pos rfl]
theorem chg_four (x b : Int) {j : Nat} (hj : j < 4) : chg x b j 4 = if b = xb x j then 0 else 1 := by
  show (((0 + if yb x b j 0 = xb x 0 then 0 else 1) + if yb x b j 1 = xb x 1 then 0 else 1) + if yb x b j 2 = xb x 2 then 0 else 1) + (if yb x b j 3 = xb x 3 then 0 else 1) = _
  rcases four hj with rfl | rfl | rfl | rfl
  · rw [chg_self, chg_other (by decide), chg_other (by decide), chg_other (by decide)]; omega
  · rw [chg_self, chg_other (by decide), chg_other (by decide), chg_other (by decide)]; omega
  · rw [chg_self, chg_other (by decide), chg_other (by decide), chg_other (by decide)]; omega
  · rw [chg_self, chg_other (by decide), chg_other (by decide), chg_other (by decide)]; omega
theorem chg_bd (x b : Int) (j k : Nat) : 0 ≤ chg x b j k ∧ chg x b j k ≤ k := by
  induction k with
  | zero => exact ⟨Int.le_refl _, Int.le_refl _⟩
  | succ k ih =>
    show 0 ≤ chg x b j k + _ ∧ chg x b j k + _ ≤ _
    split <;> omega

section
variable (n : Nat) (h0 : 1 ≤ n) (h1 : n ≤ 32) (x : BitVec 32)
include h0 h1
theorem ext_ext : Al.ext n (Al.ext n x) = Al.ext n x := by
  apply BitVec.eq_of_getLsbD_eq
  intro i hi
  rw [Al.ext_bit n h0 h1 _ i hi]
  by_cases h : n - 1 < i
  · rw [if_pos h, Al.ext_bit n h0 h1 _ _ (by omega), if_neg (by omega), Al.ext_bit n h0 h1 _ i hi, if_pos h]
  · rw [if_neg h]
theorem ext_low : Al.ext n x &&& (4294967295#32 >>> (32 - n)) = x &&& (4294967295#32 >>> (32 - n)) := by
  apply BitVec.eq_of_getLsbD_eq
  intro i hi
  rw [BitVec.getLsbD_and, BitVec.getLsbD_and, BitVec.getLsbD_ushiftRight, show 4294967295#32 = BitVec.allOnes 32 from rfl, BitVec.getLsbD_allOnes]
  by_cases h : i < n
  · rw [Al.ext_bit n h0 h1 _ i hi, if_neg (by omega)]
  · rw [decide_eq_false (show ¬ 32 - n + i < 32 by omega), Bool.and_false, Bool.and_false]
theorem ext_sg : -(2 : Int) ^ (n - 1) ≤ Al.sg (Al.ext n x) ∧ Al.sg (Al.ext n x) < (2 : Int) ^ (n - 1) := by
  rw [← Al.toInt_sg]
  unfold Al.ext
  rw [BitVec.toInt_sshiftRight, Int.shiftRight_eq_div_pow]
  have hs := BitVec.toInt_lt (x := x <<< (32 - n))
  have hl := BitVec.le_toInt (x := x <<< (32 - n))
  obtain ⟨t, ht⟩ : ∃ t, t = (x <<< (32 - n)).toInt := ⟨_, rfl⟩
  rw [← ht] at hs hl ⊢
  have hp : (0 : Int) < ((2 ^ (32 - n) : Nat) : Int) := by have := Nat.two_pow_pos (32 - n); omega
  have e : (2 : Int) ^ (n - 1) * ((2 ^ (32 - n) : Nat) : Int) = 2 ^ 31 := by
    rw [Int.natCast_pow]
    show (2 : Int) ^ (n - 1) * (2 : Int) ^ (32 - n) = 2 ^ 31
    rw [← Int.pow_add, show n - 1 + (32 - n) = 31 by omega]
  constructor
  · rw [Int.le_ediv_iff_mul_le hp, Int.neg_mul, e]
    exact hl
  · rw [Int.ediv_lt_iff_lt_mul hp, e]
    exact hs
end
set_option maxRecDepth 100000 in
set_option maxHeartbeats 4000000 in
theorem lawBytes_any (v : BitVec 32) (k b t : Int) (hb0 : 0 ≤ b) (hb1 : b < 256) (ht0 : 0 ≤ t) (w : World) :
    Calls Try.prog 9 #[.int .u32 (Al.wI v), .int .i64 k, .int .u8 b, .int .u8 t] w fun e w' => e = .returned (.bool true) ∧ Later w w' := by
  obtain ⟨x, hv⟩ : ∃ x, x = Al.wI v := ⟨_, rfl⟩
  have hx0 : 0 ≤ x := by rw [hv]; exact Al.wI_nn _
  have hx1 : x < 4294967296 := by rw [hv]; exact Al.wI_lt _
  rw [← hv]
  obtain ⟨j, hj⟩ := Int.eq_ofNat_of_zero_le (show 0 ≤ k % 4 by omega)
  have hj4 : j < 4 := by omega
  obtain ⟨y, hy⟩ : ∃ y, y = Al.SB x (8 * (j : Int)) b := ⟨_, rfl⟩
  have hyb := sb_bd hx0 hx1 hb0 hb1 hj4
  rw [← hy] at hyb
  have S0 : Hid (∀ w, Calls Try.prog 21 #[.int .u32 x, .int .i64 k, .int .u8 b] w fun e w' => e = .returned (.int .u32 y) ∧ Later w w') := Lib.hid fun w => by
    have h := set_any hx0 hx1 w k b hb0 hb1
    rw [hj, ← hy] at h
    exact h
  have S1 : Hid (∀ (i : Nat) w, i < 4 → Calls Try.prog 21 #[.int .u32 (xm x i), .int .i64 i, .int .u8 (xb x i)] w fun e w' => e = .returned (.int .u32 (xm x (i + 1))) ∧ Later w w') := Lib.hid fun i w hi => by
    have h := set_any (xm_bd x (k := i) (by omega)).1 (xm_bd x (k := i) (by omega)).2 w i (xb x i) (xb_bd x i).1 (xb_bd x i).2
    rw [sb_xm hi] at h
    exact h
  have B0 : Hid (∀ (i : Nat) w, i < 4 → Calls Try.prog 19 #[.int .u32 x, .int .i64 i] w fun e w' => e = .returned (.int .u8 (xb x i)) ∧ w = w') := Lib.hid fun i w hi => by
    have h := byte_any x i w
    rw [by_xb x hi] at h
    exact h
  have B1 : Hid (∀ (i : Nat) w, i < 4 → Calls Try.prog 19 #[.int .u32 y, .int .i64 i] w fun e w' => e = .returned (.int .u8 (yb x b j i)) ∧ w = w') := Lib.hid fun i w hi => by
    have h := byte_any y i w
    rw [hy, by_sb hb0 hb1 hj4 hi] at h
    rw [hy]
    exact h
  have B2 : Hid (∀ w, Calls Try.prog 19 #[.int .u32 x, .int .i64 k] w fun e w' => e = .returned (.int .u8 (xb x j)) ∧ w = w') := Lib.hid fun w => by
    have h := byte_any x k w
    rw [← by_xb x hj4, show (j : Int) % 4 = j by omega]
    rw [hj] at h
    exact h
  have B3 : Hid (∀ w, Calls Try.prog 19 #[.int .u32 y, .int .i64 k] w fun e w' => e = .returned (.int .u8 b) ∧ w = w') := Lib.hid fun w => by
    have h := byte_any y k w
    have e := by_sb (x := x) hb0 hb1 hj4 hj4
    rw [show (j : Int) % 4 = j by omega, ← hy] at e
    rw [hj, e] at h
    rw [show yb x b j j = b from if_pos rfl] at h
    exact h
  have M4 : xm x 4 = x := by show x % 4294967296 = x; omega
  have C4 := chg_four x b hj4
  have CB := Lib.hid fun i => chg_bd x b j i
  have YB := Lib.hid fun (i : Nat) => xb_bd x i
  have M0 : xm x 0 = 0 := by show x % 1 = 0; omega
  have C0 : chg x b j 0 = 0 := rfl
  obtain ⟨m, hm⟩ : ∃ m, m = xm x := ⟨_, rfl⟩
  obtain ⟨f, hf⟩ : ∃ f, f = xb x := ⟨_, rfl⟩
  obtain ⟨g, hg⟩ : ∃ g, g = yb x b j := ⟨_, rfl⟩
  obtain ⟨c, hc⟩ : ∃ c, c = chg x b j := ⟨_, rfl⟩
  simp only [← hm, ← hf, ← hg, ← hc] at S1 B0 B1 B2 M4 C4 CB YB M0 C0
  have CS := Lib.hid fun i => (by rw [hc, hf, hg]; rfl : c (i + 1) = c i + if g i = f i then 0 else 1)
  have HM4 := Lib.hid M4
  have HC4 := Lib.hid C4
  have HM0 := Lib.hid M0
  have HC0 := Lib.hid C0
  have HV := Lib.hid hv
  have HJ4 := Lib.hid hj4
  clear hm hf hg hc hy hj hj4 M4 C4 M0 C0 hv hyb
  have HSN := Lib.hid sanity_any
  go_enter Try.func9, Try.ntmps9
  go_wp2_with (go_at_call 21; refine (S0.out _).mono ?_; rintro e w0 ⟨rfl, l0⟩)
  have HL0 := Lib.hid l0
  clear l0
  go_loopw [9, 11, 12] (fun u r i wr => ∃ q : Nat, q ≤ 4 ∧ i = .int .i64 q ∧ u = .int .u32 (m q) ∧ r = .int .i64 (c q) ∧ Later w0 wr) (fun _ _ i _ => 4 - (intOf i).toNat)
  case atStart => exact ⟨0, by omega, rfl, by rw [HM0.out], by rw [HC0.out], Below.refl _ _⟩
  case round =>
    obtain ⟨q, hq, rfl, rfl, rfl, hl⟩ := hrel
    have HL1 := Lib.hid hl
    clear hl
    by_cases hlt : q < 4
    · have D1 := Lib.hid fun w => S1.out q w hlt
      have D2 := Lib.hid fun w => B0.out q w hlt
      have D3 := Lib.hid fun w => B1.out q w hlt
      have hcb := CB.out q
      by_cases hgf : g q = f q
      · have hcs : c (q + 1) = c q := by rw [CS.out q, if_pos hgf, Int.add_zero]
        have HCS := Lib.hid hcs
        rw [hgf] at D3
        clear hgf hcs
        go_wp2_with (first
          | (go_at_call 19; (first | (with_reducible refine (D2.out _).mono ?_) | (with_reducible refine (D3.out _).mono ?_)); rintro e w1 ⟨rfl, rfl⟩)
          | (go_at_call 21; refine (D1.out _).mono ?_; rintro e w1 ⟨rfl, l1⟩))
        go_round
        case rel => exact ⟨q + 1, by omega, by go_num, rfl, by rw [HCS.out], by have hL := HL1.out; clear HL1 HL0; repeat (first | assumption | refine Later.trans_ ?_ (by assumption))⟩
        case measure => simp [intOf]; omega
      · have hcs : c (q + 1) = c q + 1 := by rw [CS.out q, if_neg hgf]
        have HCS := Lib.hid hcs
        have hgf' : ¬ f q = g q := fun e => hgf e.symm
        clear hcs
        go_wp2_with (first
          | (go_at_call 19; (first | (with_reducible refine (D2.out _).mono ?_) | (with_reducible refine (D3.out _).mono ?_)); rintro e w1 ⟨rfl, rfl⟩)
          | (go_at_call 21; refine (D1.out _).mono ?_; rintro e w1 ⟨rfl, l1⟩))
        go_round
        case rel => exact ⟨q + 1, by omega, by go_num, rfl, by rw [HCS.out], by have hL := HL1.out; clear HL1 HL0; repeat (first | assumption | refine Later.trans_ ?_ (by assumption))⟩
        case measure => simp [intOf]; omega
    · obtain rfl : q = 4 := by omega
      rw [HM4.out]
      obtain ⟨n, hn⟩ := Int.eq_ofNat_of_zero_le (show 0 ≤ 1 + t % 32 by omega)
      have hn1 : 1 ≤ n ∧ n ≤ 32 := by omega
      have htm : t.tmod 32 = n - 1 := by rw [Int.tmod_eq_emod_of_nonneg ht0]; omega
      obtain ⟨z, hz⟩ : ∃ z, z = Al.wI (Al.ext n v) := ⟨_, rfl⟩
      obtain ⟨o, ho⟩ : ∃ o, o = Al.wI (4294967295#32 >>> (32 - n)) := ⟨_, rfl⟩
      obtain ⟨a, ha⟩ : ∃ a, a = Al.wI (v &&& (4294967295#32 >>> (32 - n))) := ⟨_, rfl⟩
      have X1 : Hid (∀ w, Calls Try.prog 15 #[.int .u32 x, .int .i64 n] w fun e w' => e = .returned (.int .u32 z) ∧ w = w') := Lib.hid fun w => by
        have h := extend_any w hx0 hx1 n (by omega) (by omega)
        rw [show Al.X n x = z by rw [hz, HV.out]; unfold Al.X; rw [Al.of_wI]; rfl] at h
        exact h
      have X2 : Hid (∀ w, Calls Try.prog 15 #[.int .u32 z, .int .i64 n] w fun e w' => e = .returned (.int .u32 z) ∧ w = w') := Lib.hid fun w => by
        have h := extend_any (x := z) w (by rw [hz]; exact Al.wI_nn _) (by rw [hz]; exact Al.wI_lt _) n (by omega) (by omega)
        rw [show Al.X n z = z by rw [hz]; unfold Al.X; rw [Al.of_wI]; exact congrArg Al.wI (ext_ext n hn1.1 hn1.2 v)] at h
        exact h
      have X3 : Hid (∀ w, Calls Try.prog 17 #[.int .u32 z] w fun e w' => e = .returned (.int .i64 (Al.sg (Al.ext n v))) ∧ w = w') := Lib.hid fun w => by rw [hz, ← Al.S_w]; exact signed_any (Al.wI_nn _) (Al.wI_lt _) w
      have hsg := ext_sg n hn1.1 hn1.2 v
      have K1 := dk (bI := 4294967295) (cI := 32 - (n : Int)) (s := 4294967295#32) (t := BitVec.ofNat 32 (32 - n)) 7 rfl (by unfold Al.wI; rw [BitVec.toNat_ofNat]; omega) ho (by show 4294967295#32 >>> ((BitVec.ofNat 32 (32 - n)).toNat % 32) = _; rw [BitVec.toNat_ofNat, show (32 - n) % 2 ^ 32 % 32 = 32 - n by omega])
      have K2 := dk (op := 3) (hb := hz) (hc := ho) (hr := ha) (h := ext_low n hn1.1 hn1.2 v)
      have K3 := dk (op := 3) (hb := HV.out) (hc := ho) (hr := ha) (h := rfl)
      obtain ⟨s, hs⟩ : ∃ s, s = Al.sg (Al.ext n v) := ⟨_, rfl⟩
      rw [← hs] at X3 hsg
      have htn : ((n : Int) - 1).toNat = n - 1 := by omega
      have hnn : (1 : Int) + ((n : Int) - 1) = n := by omega
      have hpw1 : (2 : Int) ^ (n - 1) ≤ 2147483648 := by
        have h := Nat.pow_le_pow_right (show 0 < 2 by omega) (show n - 1 ≤ 31 by omega)
        have h2 : ((2 ^ (n - 1) : Nat) : Int) = (2 : Int) ^ (n - 1) := by rw [Int.natCast_pow]; rfl
        omega
      have hpw0 : (1 : Int) ≤ (2 : Int) ^ (n - 1) := by
        have h := Nat.two_pow_pos (n - 1)
        have h2 : ((2 ^ (n - 1) : Nat) : Int) = (2 : Int) ^ (n - 1) := by rw [Int.natCast_pow]; rfl
        omega
      obtain ⟨hf2, hhf⟩ : ∃ p, (2 : Int) ^ (n - 1) = p := ⟨_, rfl⟩
      rw [hhf] at hpw0 hpw1 hsg
      have HC := HC4.out
      have hcb := CB.out 4
      clear hz ho ha hs hlt hq
      by_cases hbe : b = f j
      · rw [if_pos hbe] at HC
        rw [HC]
        have hbe' : f j = b := hbe.symm
        rw [hbe'] at B2
        clear HC hcb hbe hbe'
        go_wp2_with (first
          | (go_at_call 19; (first | (with_reducible refine (B2.out _).mono ?_) | (with_reducible refine (B3.out _).mono ?_)); rintro e w1 ⟨rfl, rfl⟩)
          | (go_at_call 15; (first | (with_reducible refine (X1.out _).mono ?_) | (with_reducible refine (X2.out _).mono ?_)); rintro e w1 ⟨rfl, rfl⟩)
          | (go_at_call 17; refine (X3.out _).mono ?_; rintro e w1 ⟨rfl, rfl⟩)
          | (go_at_call 23; (first | (with_reducible refine (K1.out _).mono ?_) | (with_reducible refine (K2.out _).mono ?_) | (with_reducible refine (K3.out _).mono ?_)); rintro e w1 ⟨rfl, l1⟩)
          | (go_at_call 12; refine (HSN.out _).mono ?_; rintro e ws ⟨rfl, ls⟩))
        go_ret
        exact ⟨rfl, by have hL := HL1.out; have hK := HL0.out; clear HL1 HL0; repeat (first | assumption | refine Later.trans_ ?_ (by assumption))⟩
      · rw [if_neg hbe] at HC
        rw [HC]
        have hbe' : ¬ f j = b := fun e => hbe e.symm
        clear HC hcb
        go_wp2_with (first
          | (go_at_call 19; (first | (with_reducible refine (B2.out _).mono ?_) | (with_reducible refine (B3.out _).mono ?_)); rintro e w1 ⟨rfl, rfl⟩)
          | (go_at_call 15; (first | (with_reducible refine (X1.out _).mono ?_) | (with_reducible refine (X2.out _).mono ?_)); rintro e w1 ⟨rfl, rfl⟩)
          | (go_at_call 17; refine (X3.out _).mono ?_; rintro e w1 ⟨rfl, rfl⟩)
          | (go_at_call 23; (first | (with_reducible refine (K1.out _).mono ?_) | (with_reducible refine (K2.out _).mono ?_) | (with_reducible refine (K3.out _).mono ?_)); rintro e w1 ⟨rfl, l1⟩)
          | (go_at_call 12; refine (HSN.out _).mono ?_; rintro e ws ⟨rfl, ls⟩))
        go_ret
        exact ⟨rfl, by have hL := HL1.out; have hK := HL0.out; clear HL1 HL0; repeat (first | assumption | refine Later.trans_ ?_ (by assumption))⟩

set_option maxRecDepth 100000 in
theorem aluBytesMakeWords_lifted (os : Os) (started : os.Started) (H : Type) (enc : TypeId × Value → H) :
    ReturnsInHanded {} Try.checked os 9 .any (Rows.aluBytesMakeWordsSpec.pre6 enc Try.prog Try.f9 Rows.aluBytesMakeWordsRow.domain false) (Rows.aluBytesMakeWordsSpec.post enc Try.prog Try.f9 false true false false) := by
  refine returnsInHanded_of_change (C := Try.checked) ownK started (by kernel_rfl) Try.func9
    (ChangeSpec.witness6 (enc := enc) (C := Try.checked) false ⟨#[], #[.int .u32 0, .int .i64 0, .int .u8 0, .int .u8 0], []⟩ 8 (by kernel_rfl) (by kernel_rfl) (by kernel_rfl) (by kernel_rfl)) ?_
  intro W base args ds gs before hval0 hW hcnd _
  have hval : ∀ (j : Nat) t v, Try.f9.params[j]? = some t → args[j]? = some v → Value.okWide Try.prog W .any base t v := hval0
  have hW' := hW
  obtain ⟨p, q, hA0, hV, rfl, hfz, hnd⟩ := hW
  have hA : DataW.TrodAll enc Try.prog W 0 (fun _ => true) true Try.f9.params.toList args.toList ds p := hA0
  rw [Try.params9] at hA hval
  obtain ⟨v0, vs0, d0, ds0, p0, q0, hargs, rfl, rfl, h0, r0⟩ := trodAll_cons hA
  obtain ⟨v1, vs1, d1, ds1, p1, q1, rfl, rfl, rfl, h1, r1⟩ := trodAll_cons r0
  obtain ⟨v2, vs2, d2, ds2, p2, q2, rfl, rfl, rfl, h2, r2⟩ := trodAll_cons r1
  obtain ⟨v3, vs3, d3, ds3, p3, q3, rfl, rfl, rfl, h3, r3⟩ := trodAll_cons r2
  obtain ⟨rfl, rfl, rfl⟩ := trodAll_nil r3
  obtain rfl : args = #[v0, v1, v2, v3] := by cases args; simp_all
  obtain ⟨rfl, rfl⟩ := trodVars_none hV
  obtain ⟨a0, rfl, rfl, rfl, w0⟩ := open_int Try.underlying22 (hval 0 22 v0 rfl rfl) h0
  obtain ⟨a1, rfl, rfl, rfl, w1⟩ := open_int Try.underlying3 (hval 1 3 v1 rfl rfl) h1
  obtain ⟨a2, rfl, rfl, rfl, w2⟩ := open_int Try.underlying5 (hval 2 5 v2 rfl rfl) h2
  obtain ⟨a3, rfl, rfl, rfl, w3⟩ := open_int Try.underlying5 (hval 3 5 v3 rfl rfl) h3
  clear hA0 hval0
  simp only [List.append_nil] at hW'
  have b0 : 0 ≤ a0 ∧ a0 ≤ 4294967295 := by
    have e1 : IntKind.u32.min = 0 := rfl
    have e2 : IntKind.u32.max = 4294967295 := rfl
    simp only [Lit.wf, Bool.and_eq_true, decide_eq_true_eq] at w0
    omega
  have b1 : -9223372036854775808 ≤ a1 ∧ a1 ≤ 9223372036854775807 := by
    have e1 : IntKind.i64.min = -9223372036854775808 := rfl
    have e2 : IntKind.i64.max = 9223372036854775807 := rfl
    simp only [Lit.wf, Bool.and_eq_true, decide_eq_true_eq] at w1
    omega
  have b2 : 0 ≤ a2 ∧ a2 ≤ 255 := by
    have e1 : IntKind.u8.min = 0 := rfl
    have e2 : IntKind.u8.max = 255 := rfl
    simp only [Lit.wf, Bool.and_eq_true, decide_eq_true_eq] at w2
    omega
  have b3 : 0 ≤ a3 ∧ a3 ≤ 255 := by
    have e1 : IntKind.u8.min = 0 := rfl
    have e2 : IntKind.u8.max = 255 := rfl
    simp only [Lit.wf, Bool.and_eq_true, decide_eq_true_eq] at w3
    omega
  obtain ⟨v, rfl⟩ := Al.is_wI b0.1 (by omega)
  refine (lawBytes_any v a1 a2 a3 b2.1 (by omega) b3.1 W).mono fun e W' ⟨he, hw⟩ => ?_
  subst he
  exact ⟨_, rfl, law_post laidK rfl (by kernel_rfl) (by kernel_rfl) Try.underlying4 (by kernel_rfl) hW' rfl hw⟩
set_option maxRecDepth 100000 in
/-- The statement. -/
theorem aluBytesMakeWords_said : Rows.AluBytesMakeWordsSaid :=
  OpenClaim.holds_of_wide 9 Try.f9 rfl rfl rfl rfl rfl rfl rfl ⟨rfl, rfl, rfl, rfl, rfl⟩ rfl rfl rfl rfl rfl (by kernel_rfl) Try.func9 (by kernel_rfl)
    (of_decide_eq_true (by kernel_rfl)) (by unfold Func.isWrapper; first | (rw [if_pos (by decide +kernel)]; kernel_rfl) | (rw [if_neg (by decide +kernel)]; exact ⟨rfl, rfl⟩))
    (fun os started H enc _ => aluBytesMakeWords_lifted os started H enc)
#print axioms aluBytesMakeWords_said
end Go.Proofs.Ytonfdgbohmcpjaa
