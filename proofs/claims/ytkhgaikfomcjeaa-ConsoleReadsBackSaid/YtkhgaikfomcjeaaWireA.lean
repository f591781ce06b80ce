/-
  THE WALKS OF wire.fold, wire.unfold: an integer's number, and back.
-/
import Derived.Test.YtkhgaikfomcjeaaProg
import Derived.Test.YtkhgaikfomcjeaaWireMem
import Derived.Lib.Zigzag
namespace Go.Proofs.Ytkhgaikfomcjeaa
open Go.RowKit

theorem not64 (b : Nat) (hb : b < 18446744073709551616) : bits .xor .u64 IntKind.u64.max (b : Int) = ((18446744073709551615 - b : Nat) : Int) := by
  have e2 : IntKind.u64.max = ((2 ^ 64 - 1 : Nat) : Int) := by decide
  rw [e2, bits_xor_u64_nat _ _ (by decide) (by omega), Lib.xor_ones64 _ (by omega)]



theorem fold_any (n : Int) (w : World) (h1 : -9223372036854775808 ≤ n) (h2 : n ≤ 9223372036854775807) :
    Calls Try.prog 35 #[.int .i64 n] w fun e w' => e = .returned (.int .u64 (Wm.zig n)) ∧ w = w' := by
  rcases Int.lt_or_le n 0 with hn | hn
  · have hw : IntKind.u64.wrap n = n + 18446744073709551616 := by rw [IntKind.wrap_u64]; omega
    have hz : bits .xor .u64 IntKind.u64.max (IntKind.u64.wrap (IntKind.u64.wrap n * 2)) = ((Wm.zig n : Nat) : Int) := by
      have := Lib.zigzag_neg h1 hn
      rw [this]; unfold Lib.zigzag Wm.zig; rfl
    have HZ := Lib.hid hz; clear hz hw
    go_enter Try.func35, Try.ntmps35
    go_wp2
    go_ret
    exact ⟨ret_int HZ.out, rfl⟩
  · have hz : ((Wm.zig n : Nat) : Int) = n * 2 := by unfold Wm.zig; rw [if_pos hn]; omega
    have HZ := Lib.hid hz; clear hz
    go_enter Try.func35, Try.ntmps35
    go_wp2
    go_ret
    exact ⟨ret_int HZ.out.symm, rfl⟩

theorem unfold_any (z : Nat) (w : World) (h : z < 18446744073709551616) :
    Calls Try.prog 34 #[.int .u64 z] w fun e w' => e = .returned (.int .i64 (Wm.zag z)) ∧ w = w' := by
  rcases Nat.mod_two_eq_zero_or_one z with hm | hm
  · have hz : Wm.zag z = (z : Int) / 2 := by unfold Wm.zag; rw [if_neg (by omega)]; omega
    have hb : ((z : Int) % 2 == 1) = false := by rw [beq_eq_false_iff_ne]; omega
    have HZ := Lib.hid hz; clear hz
    go_enter Try.func34, Try.ntmps34
    go_wp2
    go_ret
    exact ⟨ret_int HZ.out.symm, rfl⟩
  · have hz : wrap64 (bits .xor .u64 IntKind.u64.max ((z : Int) / 2)) = Wm.zag z := by
      have e : ((z : Int) / 2) = ((z / 2 : Nat) : Int) := by omega
      unfold Wm.zag
      rw [if_pos (by omega), e, not64 _ (by omega)]
      unfold wrap64
      omega
    have hb : ((z : Int) % 2 == 1) = true := by rw [beq_iff_eq]; omega
    have HZ := Lib.hid hz; clear hz
    go_enter Try.func34, Try.ntmps34
    go_wp2
    go_ret
    exact ⟨ret_int HZ.out, rfl⟩

end Go.Proofs.Ytkhgaikfomcjeaa
