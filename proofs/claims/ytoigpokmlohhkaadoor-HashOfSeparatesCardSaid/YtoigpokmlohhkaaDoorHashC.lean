/-
  THE WALKS OF hash.times, Join and of the reference's Join: products of polynomials.
-/
import Derived.Test.YtoigpokmlohhkaaDoorHashB
namespace Go.Proofs.YtoigpokmlohhkaaDoor
open Go.RowKit

theorem top_bit (a : Hm.R) : a.getLsbD 39 = decide (549755813888 ≤ a.toNat) := by
  have := BitVec.msb_eq_decide a
  rw [← this, BitVec.msb_eq_getLsbD_last]
theorem X_small (a : Hm.R) (h : q40 a * 2 ≤ 1099511627775) : q40 a * 2 = q40 (Hm.X a) := by
  have ht : a.getLsbD 39 = false := by rw [top_bit, decide_eq_false]; unfold q40 at h; omega
  unfold Hm.X
  rw [ht]
  unfold q40 at *
  simp only [Bool.false_eq_true, if_false, BitVec.xor_zero]
  rw [BitVec.toNat_shiftLeft, Nat.shiftLeft_eq, Nat.mod_eq_of_lt (by omega)]
  omega
theorem X_big (a : Hm.R) (h : 1099511627775 < q40 a * 2) : bits .xor .u64 (bits .and .u64 (q40 a * 2) 1099511627775) 75628553 = q40 (Hm.X a) := by
  have ht : a.getLsbD 39 = true := by rw [top_bit, decide_eq_true]; unfold q40 at h; omega
  have hb := q40_bd a
  have e1 : q40 a * (2 : Int) = q64 ((a.setWidth 64) <<< 1) := by
    rw [← sl1, ← q40_64, IntKind.wrap_u64]; omega
  rw [e1, k40, kfb, and64, low64, xor64, q40_64]
  unfold Hm.X
  rw [ht, BitVec.setWidth_xor]
  rfl
theorem low_bit (b : Hm.R) : bits .and .u64 (q40 b) 1 = ib (b.getLsbD 0) := by
  have k1 : (1 : Int) = q64 1#64 := by decide
  have h : ∀ b : Hm.R, (b.setWidth 64) &&& 1#64 = bv1 (b.getLsbD 0) := by
    intro r
    refine Hm.lin_ext (fun r => (r.setWidth 64) &&& 1#64) (fun r => bv1 (r.getLsbD 0)) (fun a b => ?_) (fun a b => ?_) (fun i hi => ?_) r
    · show (BitVec.setWidth 64 (a ^^^ b)) &&& 1#64 = _
      rw [BitVec.setWidth_xor, and_xor]
    · show bv1 ((a ^^^ b).getLsbD 0) = _
      rw [BitVec.getLsbD_xor]; unfold bv1; rw [Hm.ite_xor]
    · have : (List.range 40).all (fun i => ((Hm.e i).setWidth 64) &&& 1#64 == bv1 ((Hm.e i).getLsbD 0)) = true := by decide +kernel
      exact eq_of_beq (Hm.of_range this i hi)
  rw [q40_64, k1, and64, h]
  cases b.getLsbD 0 <;> decide
theorem half (b : Hm.R) : q40 b / (2 : Int) = q40 (b >>> 1) := by
  unfold q40
  rw [BitVec.toNat_ushiftRight, Nat.shiftRight_eq_div_pow]
  rfl
theorem S_zero (n : Nat) (a : Hm.R) : Hm.S n a 0#40 = 0#40 := by
  induction n generalizing a with
  | zero => rfl
  | succ n ih => rw [Hm.S, show (0#40 >>> 1 : Hm.R) = 0#40 from rfl, ih, show (0#40 : Hm.R).getLsbD 0 = false from rfl]; simp
/-- What a round of times keeps. -/
def Prod (t : Hm.R) (f : Nat) (a b p : Hm.R) : Prop := b.toNat < 2 ^ f ∧ p ^^^ Hm.S f a b = t
theorem Prod.start (a b : Hm.R) : Prod (Hm.S 40 a b) 40 a b 0#40 := ⟨b.isLt, BitVec.zero_xor⟩
theorem Prod.done {t a b p : Hm.R} {f : Nat} (h : Prod t f a b p) (hb : q40 b = 0) : q40 p = q40 t := by
  have : b = 0#40 := BitVec.eq_of_toNat_eq (by unfold q40 at hb; simpa using hb)
  subst this
  have := h.2
  rw [S_zero, BitVec.xor_zero] at this
  rw [this]
theorem Prod.step {t a b p : Hm.R} {f : Nat} (h : Prod t f a b p) (hb : 0 < q40 b) : ∃ g, Prod t g (Hm.X a) (b >>> 1) (if b.getLsbD 0 then p ^^^ a else p) := by
  cases f with
  | zero => have := h.1; unfold q40 at hb; omega
  | succ f =>
    refine ⟨f, ?_, ?_⟩
    · have := h.1
      rw [BitVec.toNat_ushiftRight, Nat.shiftRight_eq_div_pow]
      have e : 2 ^ (f + 1) = 2 ^ f * 2 := Nat.pow_succ 2 f
      omega
    · have := h.2
      rw [Hm.S] at this
      rw [← this]
      cases b.getLsbD 0
      · simp
      · simp only [if_true, BitVec.xor_assoc]

set_option maxHeartbeats 400000 in
theorem times_any (a b : Hm.R) (w : World) :
    Calls Tryd.prog 90 #[.int .u64 (q40 a), .int .u64 (q40 b)] w fun e w' => e = .returned (.int .u64 (q40 (Hm.S 40 a b))) ∧ w = w' := by
  go_enter Tryd.func90, Tryd.ntmps90
  go_wp2
  go_loop [0, 1, 5] (fun x y z => ∃ (f : Nat) (a' b' p : Hm.R), x = .int .u64 (q40 a') ∧ y = .int .u64 (q40 b') ∧ z = .int .u64 (q40 p) ∧ Prod (Hm.S 40 a b) f a' b' p) (fun _ y _ => (intOf y).toNat)
  case atStart => exact ⟨40, a, b, 0#40, rfl, rfl, rfl, Prod.start a b⟩
  case round =>
    obtain ⟨f, a', b', p, rfl, rfl, rfl, hp⟩ := hrel
    have hba := q40_bd a'
    have hbb := q40_bd b'
    by_cases hz : 0 < q40 b'
    · obtain ⟨g, hg⟩ := hp.step hz
      clear hp
      have hlow := low_bit b'
      have hhalf := half b'
      have hpx : bits .xor .u64 (q40 p) (q40 a') = q40 (p ^^^ a') := xor40 p a'
      have HH := Lib.hid hhalf; clear hhalf
      cases hl : b'.getLsbD 0 <;> rw [hl] at hlow hg <;> clear hl <;> unfold ib at hlow <;>
        simp only [Bool.false_eq_true, if_false, if_true] at hlow hg <;>
        by_cases hx : 1099511627775 < q40 a' * 2
      all_goals
        first
          | have hX := X_big a' hx
          | have hX := X_small a' (by omega)
        have HX := Lib.hid hX
        clear hX
        go_wp2
        go_round
        case rel => exact ⟨g, Hm.X a', b' >>> 1, _, by rw [HX.out], by rw [HH.out], rfl, hg⟩
        case measure => simp [intOf]; omega
    · have hz0 : q40 b' = 0 := by omega
      have hd := hp.done hz0
      have HD := Lib.hid hd
      clear hd hz0 hp
      go_wp2
      go_ret
      exact ⟨ret_int HD.out, rfl⟩

/-- The lowest 40 bits of an integer. -/
def o40 (x : Int) : Hm.R := BitVec.ofInt 40 x
theorem o64_and (x : Int) : bits .and .u64 (IntKind.u64.wrap x) 1099511627775 = q40 (o40 x) := by
  have e : IntKind.u64.wrap x = q64 (BitVec.ofInt 64 x) := by
    rw [IntKind.wrap_u64]; unfold q64; rw [BitVec.toNat_ofInt]
    show _ = (((x % 18446744073709551616).toNat : Nat) : Int)
    omega
  rw [e, k40, and64]
  unfold q64 q40 o40
  rw [BitVec.toNat_and, BitVec.toNat_ofInt, BitVec.toNat_ofInt]
  show (((x % 18446744073709551616).toNat &&& (2 ^ 40 - 1) : Nat) : Int) = (((x % 1099511627776).toNat : Nat) : Int)
  rw [Nat.and_two_pow_sub_one_eq_mod]
  omega
theorem o40_q40 (r : Hm.R) : o40 (q40 r) = r := BitVec.eq_of_toNat_eq (by
  have := r.isLt
  unfold o40 q40; rw [BitVec.toNat_ofInt]
  show ((r.toNat : Int) % 1099511627776).toNat = _
  omega)
/-- What Join answers. -/
def joinR (a b : Int) (n : Nat) : Int := q40 (Hm.Xn (8 * n) (o40 a) ^^^ o40 b)

theorem k256 : (256 : Int) = q40 (Hm.Xn 8 1#40) := by decide
/-- What a round of Join keeps. -/
def Pow (t : Hm.R) (m k : Nat) (p : Hm.R) : Prop := Hm.Xn (m * k) p = t
theorem Pow.odd {t p : Hm.R} {m k : Nat} (h : Pow t m (2 * k + 1) p) : Pow t (m + m) k (Hm.S 40 p (Hm.Xn m 1#40)) := by
  unfold Pow at *
  rw [Hm.S_Xn, ← Hm.Xn_add, ← h]
  congr 1
  rw [Nat.add_mul, Nat.mul_add, Nat.mul_one, Nat.mul_left_comm, Nat.two_mul]; omega
theorem Pow.even {t p : Hm.R} {m k : Nat} (h : Pow t m (2 * k) p) : Pow t (m + m) k p := by
  unfold Pow at *
  rw [← h]
  congr 1
  rw [Nat.add_mul, Nat.mul_left_comm, Nat.two_mul]
theorem Pow.sq (m : Nat) : Hm.S 40 (Hm.Xn m 1#40) (Hm.Xn m 1#40) = Hm.Xn (m + m) 1#40 := by rw [Hm.S_Xn, Hm.Xn_add]

theorem wraps_i64 (n : Int) (h₀ : 0 ≤ n) (h₁ : n < 2 ^ 63) : IntKind.i64.wrap n = n := by rw [IntKind.wrap_i64]; omega
theorem i64_and1 (x : Int) (h0 : 0 ≤ x) (h1 : x < 9223372036854775808) : bits .and .i64 x 1 = x % 2 := bits_mask .i64 63 (by decide) wraps_i64 1 (by decide) x h0 h1

set_option maxHeartbeats 400000 in
theorem join_any (a b : Int) (n : Nat) (w : World) (hn : n ≤ 9223372036854775807) :
    Calls Tryd.prog 53 #[.int .i64 a, .int .i64 b, .int .i64 n] w fun e w' => e = .returned (.int .i64 (joinR a b n)) ∧ w = w' := by
  have hA := o64_and a
  have hB := o64_and b
  have k256' := k256
  have HK := Lib.hid k256'; clear k256'
  go_enter Tryd.func53, Tryd.ntmps53
  go_wp2
  go_loop [2, 7, 8] (fun x y z => ∃ (m k : Nat) (p : Hm.R), x = .int .i64 k ∧ k ≤ 9223372036854775807 ∧ y = .int .u64 (q40 p) ∧ z = .int .u64 (q40 (Hm.Xn m 1#40)) ∧ Pow (Hm.Xn (8 * n) (o40 a)) m k p) (fun x _ _ => (intOf x).toNat)
  case atStart => exact ⟨8, n, o40 a, rfl, hn, rfl, by rw [HK.out], rfl⟩
  case round =>
    obtain ⟨m, k, p, rfl, hk, rfl, rfl, hp⟩ := hrel
    by_cases hz : 0 < k
    · have HQ := Lib.hid (Pow.sq m)
      by_cases h2 : k % 2 = 1
      · have hk2 : bits .and .i64 (k : Int) 1 = 1 := by rw [i64_and1 _ (by omega) (by omega)]; omega
        have hp' : Pow (Hm.Xn (8 * n) (o40 a)) m (2 * (k / 2) + 1) p := by rwa [show 2 * (k / 2) + 1 = k by omega]
        have HP := Lib.hid hp'.odd
        clear hp hp' h2
        go_wp2_with (go_at_call 90; refine (times_any _ _ _).mono ?_; rintro e w' ⟨rfl, rfl⟩)
        go_round
        case rel => exact ⟨m + m, k / 2, _, by go_num, by omega, rfl, by rw [HQ.out], HP.out⟩
        case measure => simp [intOf]; omega
      · have hk2 : bits .and .i64 (k : Int) 1 = 0 := by rw [i64_and1 _ (by omega) (by omega)]; omega
        have hp' : Pow (Hm.Xn (8 * n) (o40 a)) m (2 * (k / 2)) p := by rwa [show 2 * (k / 2) = k by omega]
        have HP := Lib.hid hp'.even
        clear hp hp' h2
        go_wp2_with (go_at_call 90; refine (times_any _ _ _).mono ?_; rintro e w' ⟨rfl, rfl⟩)
        go_round
        case rel => exact ⟨m + m, k / 2, _, by go_num, by omega, rfl, by rw [HQ.out], HP.out⟩
        case measure => simp [intOf]; omega
    · obtain rfl : k = 0 := by omega
      have hq : q40 (p ^^^ o40 b) = joinR a b n := by
        have : Pow _ m 0 p := hp
        unfold Pow at this
        unfold joinR
        rw [← this]; rfl
      have hx : bits .xor .u64 (q40 p) (q40 (o40 b)) = q40 (p ^^^ o40 b) := xor40 _ _
      have hbd := q40_bd (p ^^^ o40 b)
      rw [hq] at hx hbd
      have HQ := Lib.hid hq
      clear hq hp
      go_wp2
      go_ret
      exact ⟨rfl, rfl⟩

set_option maxHeartbeats 400000 in
theorem join_neg (a b n : Int) (w : World) (hn : n < 0) :
    Calls Tryd.prog 53 #[.int .i64 a, .int .i64 b, .int .i64 n] w fun e w' => e = .returned (.int .i64 0) ∧ w = w' := by
  go_enter Tryd.func53, Tryd.ntmps53
  go_wp2
  go_ret
  exact ⟨rfl, rfl⟩

end Go.Proofs.YtoigpokmlohhkaaDoor
