/-
  THE WALKS OF hash.rotr, math/bits.RotateLeft32, and of the reference's rotr.
-/
import Derived.Test.YtoigpokmlohhkaaDoorHashD
import Derived.BigQuiet
import Derived.Deep.QuietTactic
namespace Go.Proofs.YtoigpokmlohhkaaDoor
open Go.RowKit

theorem rotl_s (n m : Nat) (h : n + m = 32) (h0 : 1 ≤ n) (h1 : n ≤ 31) : bits .and .u64 (IntKind.u64.wrap (-(n : Int))) 31 = (m : Int) := by
  have e : IntKind.u64.wrap (-(n : Int)) = ((18446744073709551616 - n : Nat) : Int) := by rw [IntKind.wrap_u64]; omega
  rw [e]
  have e2 := bits_and_u64_nat (18446744073709551616 - n) 31 (by omega) (by decide)
  rw [show ((31 : Nat) : Int) = 31 from rfl] at e2
  rw [e2, Nat.and_two_pow_sub_one_eq_mod _ 5]
  omega
theorem rot_is (x : BitVec 32) (n m : Nat) (h : n + m = 32) : bits .or .u32 (q32 x / 2 ^ n) (q32 x * 2 ^ m % 4294967296) = q32 (Hs.rotr x n) := by
  have e1 : q32 x / 2 ^ n = q32 (x >>> n) := shr32 x n _ (by rw [Int.natCast_pow]; rfl)
  have e2 : q32 x * 2 ^ m % 4294967296 = q32 (x <<< m) := by rw [← IntKind.wrap_u32]; exact shl32 x m _ (by rw [Int.natCast_pow]; rfl)
  rw [e1, e2, or32]
  unfold Hs.rotr
  rw [show 32 - n = m by omega]
theorem or32_comm (a b : Int) : bits .or .u32 a b = bits .or .u32 b a := by
  show IntKind.u32.wrap ((BitVec.ofInt 32 a ||| BitVec.ofInt 32 b).toNat : Int) = IntKind.u32.wrap ((BitVec.ofInt 32 b ||| BitVec.ofInt 32 a).toNat : Int)
  rw [BitVec.or_comm]

set_option maxHeartbeats 400000 in
theorem rotl_any (x : BitVec 32) (n m : Nat) (w : World) (h0 : 1 ≤ n) (h1 : n ≤ 31) (h : n + m = 32) :
    Calls Tryd.prog 103 #[.int .u32 (q32 x), .int .i64 (-(n : Int))] w fun e w' => e = .returned (.int .u32 (q32 (Hs.rotr x n))) ∧ w = w' := by
  have hx := q32_bd x
  have hs := rotl_s n m h h0 h1
  have hr := rot_is x n m h
  rw [or32_comm] at hr
  have HR := Lib.hid hr
  have hm0 : 1 ≤ m := by omega
  have hm1 : m ≤ 31 := by omega
  have hcast : ((32 : Int) - (m : Int)).toNat = n := by omega
  clear hr h
  go_enter Tryd.func103, Tryd.ntmps103
  go_wp2
  go_ret
  exact ⟨ret_int HR.out, rfl⟩
set_option maxHeartbeats 400000 in
theorem rotr_any (x : BitVec 32) (n : Nat) (w : World) (h0 : 1 ≤ n) (h1 : n ≤ 31) :
    Calls Tryd.prog 92 #[.int .u32 (q32 x), .int .i64 n] w fun e w' => e = .returned (.int .u32 (q32 (Hs.rotr x n))) ∧ w = w' := by
  go_enter Tryd.func92, Tryd.ntmps92
  go_wp2_with (go_at_call 103; refine (rotl_any x n (32 - n) _ h0 h1 (by omega)).mono ?_; rintro e w' ⟨rfl, rfl⟩)
  go_ret
  exact ⟨rfl, rfl⟩
set_option maxHeartbeats 400000 in
theorem refRotr_any (x : BitVec 32) (n : Nat) (w : World) (h0 : 1 ≤ n) (h1 : n ≤ 31) :
    Calls Tryd.prog 62 #[.int .u32 (q32 x), .int .i64 n] w fun e w' => e = .returned (.int .u32 (q32 (Hs.rotr x n))) ∧ ∃ k, w' = w.drewN k := by
  have hx := q32_bd x
  have HR := Lib.hid (rot_is x n (32 - n) (by omega))
  go_enter Tryd.func62, Tryd.ntmps62
  go_wp2
  go_quiet (fail)
  go_wp2
  go_ret
  exact ⟨ret_int HR.out, _, rfl⟩
end Go.Proofs.YtoigpokmlohhkaaDoor
