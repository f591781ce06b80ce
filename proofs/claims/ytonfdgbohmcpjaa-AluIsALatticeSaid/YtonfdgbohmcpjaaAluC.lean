/-
  THE WALKS OF alu: signed values, comparisons, Do, Taken.
-/
import Derived.Test.YtonfdgbohmcpjaaAluB
namespace Go.Proofs.Ytonfdgbohmcpjaa
open Go.RowKit Go.ChangeShapes Go.WideShapes Go.ChangeAt

theorem tb_eq {x y : Bool} (h : x = y) : Ending.returned (.bool x) = .returned (.bool y) := by rw [h]

section
variable {b c : Int} (hb0 : 0 ≤ b) (hb1 : b < 4294967296) (hc0 : 0 ≤ c) (hc1 : c < 4294967296) (w : World)
include hb0 hb1 in
set_option maxRecDepth 100000 in
theorem signed_any : Calls Try.prog 17 #[.int .u32 b] w fun e w' => e = .returned (.int .i64 (Al.S b)) ∧ w = w' := by
  have e1 := Al.S_of hb0 hb1
  have e2 : (if 2147483648 ≤ b then b - 4294967296 else b) = Al.S b := by rw [e1]; split <;> split <;> omega
  have e3 : (b + 2147483648) % 4294967296 - 2147483648 = Al.S b := by rw [e1]; split <;> omega
  obtain ⟨s, hs⟩ : ∃ s, s = Al.S b := ⟨_, rfl⟩
  have hs1 : -2147483648 ≤ s ∧ s < 2147483648 := by rw [hs, e1]; split <;> omega
  rw [← hs] at e2 e3 ⊢
  clear e1 hs
  have e4 : IntKind.i32.wrap b = s := by rw [IntKind.wrap_i32]; omega
  go_enter Try.func17, Try.ntmps17
  go_wp2
  go_ret
  exact ⟨rfl, rfl⟩
set_option maxRecDepth 100000 in
theorem truth_any (q : Bool) : Calls Try.prog 46 #[.bool q] w fun e w' => e = .returned (.int .u32 (if q then 1 else 0)) ∧ w = w' := by
  cases q
  · go_enter Try.func46, Try.ntmps46
    go_wp2
    go_ret
    exact ⟨rfl, rfl⟩
  · go_enter Try.func46, Try.ntmps46
    go_wp2
    go_ret
    exact ⟨rfl, rfl⟩
set_option maxRecDepth 100000 in
theorem lessi_any (x y : Int) : Calls Try.prog 47 #[.int .i64 x, .int .i64 y] w fun e w' => e = .returned (.bool (decide (x < y))) ∧ w = w' := by
  go_enter Try.func47, Try.ntmps47
  go_wp2
  go_ret
  exact ⟨rfl, rfl⟩
set_option maxRecDepth 100000 in
theorem lessu_any (x y : Int) : Calls Try.prog 49 #[.int .u32 x, .int .u32 y] w fun e w' => e = .returned (.bool (decide (x < y))) ∧ w = w' := by
  go_enter Try.func49, Try.ntmps49
  go_wp2
  go_ret
  exact ⟨rfl, rfl⟩
include hb0 hb1 hc0 hc1 in
set_option maxRecDepth 100000 in
theorem c11_any : Calls Try.prog 45 #[.int .u32 b, .int .u32 c] w fun e w' => e = .returned (.int .u32 (Al.I 11 b c)) ∧ w = w' := by
  have HS1 := Lib.hid (fun w => signed_any hb0 hb1 w)
  have HS2 := Lib.hid (fun w => signed_any hc0 hc1 w)
  obtain ⟨s, hs⟩ : ∃ s, s = Al.S b := ⟨_, rfl⟩
  obtain ⟨t, ht⟩ : ∃ t, t = Al.S c := ⟨_, rfl⟩
  have HL := Lib.hid (fun w x y => lessi_any w x y)
  have HT := Lib.hid (fun w q => truth_any w q)
  rw [Al.I11, ← hs, ← ht]
  rw [← hs] at HS1
  rw [← ht] at HS2
  clear hs ht
  go_enter Try.func45, Try.ntmps45
  go_wp2_with (first | (go_at_call 17; (first | (with_reducible refine (HS1.out _).mono ?_) | (with_reducible refine (HS2.out _).mono ?_)); rintro e w1 ⟨rfl, rfl⟩) | (go_at_call 47; refine (HL.out _ _ _).mono ?_; rintro e w1 ⟨rfl, rfl⟩) | (go_at_call 46; refine (HT.out _ _).mono ?_; rintro e w1 ⟨rfl, rfl⟩))
  all_goals (go_ret; exact ⟨rfl, rfl⟩)
include hb0 hb1 hc0 hc1 in
set_option maxRecDepth 100000 in
theorem c12_any : Calls Try.prog 48 #[.int .u32 b, .int .u32 c] w fun e w' => e = .returned (.int .u32 (Al.I 12 b c)) ∧ w = w' := by
  have HL := Lib.hid (fun w x y => lessu_any w x y)
  have HT := Lib.hid (fun w q => truth_any w q)
  rw [Al.I12 hb0 hb1 hc0 hc1]
  go_enter Try.func48, Try.ntmps48
  go_wp2_with (first | (go_at_call 49; refine (HL.out _ _ _).mono ?_; rintro e w1 ⟨rfl, rfl⟩) | (go_at_call 46; refine (HT.out _ _).mono ?_; rintro e w1 ⟨rfl, rfl⟩))
  all_goals (go_ret; exact ⟨rfl, rfl⟩)
include hb0 hb1 hc0 hc1 in
set_option maxRecDepth 100000 in
theorem c28_any : Calls Try.prog 50 #[.int .u32 b, .int .u32 c] w fun e w' => e = .returned (.bool (Al.T 28 b c)) ∧ w = w' := by
  have e : Al.T 28 b c = decide (b = c) := Al.T28 hb0 hb1 hc0 hc1
  rw [e]
  go_enter Try.func50, Try.ntmps50
  go_wp2
  go_ret
  exact ⟨rfl, rfl⟩
include hb0 hb1 hc0 hc1 in
set_option maxRecDepth 100000 in
theorem c29_any : Calls Try.prog 51 #[.int .u32 b, .int .u32 c] w fun e w' => e = .returned (.bool (Al.T 29 b c)) ∧ w = w' := by
  have e : Al.T 29 b c = !decide (b = c) := Al.T29 hb0 hb1 hc0 hc1
  rw [e]
  go_enter Try.func51, Try.ntmps51
  go_wp2
  go_ret
  exact ⟨rfl, rfl⟩
include hb0 hb1 hc0 hc1 in
set_option maxRecDepth 100000 in
theorem c30_any : Calls Try.prog 52 #[.int .u32 b, .int .u32 c] w fun e w' => e = .returned (.bool (Al.T 30 b c)) ∧ w = w' := by
  have HS1 := Lib.hid (fun w => signed_any hb0 hb1 w)
  have HS2 := Lib.hid (fun w => signed_any hc0 hc1 w)
  obtain ⟨s, hs⟩ : ∃ s, s = Al.S b := ⟨_, rfl⟩
  obtain ⟨t, ht⟩ : ∃ t, t = Al.S c := ⟨_, rfl⟩
  have HL := Lib.hid (fun w x y => lessi_any w x y)
  rw [Al.T30, ← hs, ← ht]
  rw [← hs] at HS1
  rw [← ht] at HS2
  clear hs ht
  go_enter Try.func52, Try.ntmps52
  go_wp2_with (first | (go_at_call 17; (first | (with_reducible refine (HS1.out _).mono ?_) | (with_reducible refine (HS2.out _).mono ?_)); rintro e w1 ⟨rfl, rfl⟩) | (go_at_call 47; refine (HL.out _ _ _).mono ?_; rintro e w1 ⟨rfl, rfl⟩))
  go_ret
  exact ⟨rfl, rfl⟩
include hb0 hb1 hc0 hc1 in
set_option maxRecDepth 100000 in
theorem c31_any : Calls Try.prog 53 #[.int .u32 b, .int .u32 c] w fun e w' => e = .returned (.bool (Al.T 31 b c)) ∧ w = w' := by
  have HL := Lib.hid (fun w x y => lessu_any w x y)
  rw [Al.T31 hb0 hb1 hc0 hc1]
  go_enter Try.func53, Try.ntmps53
  go_wp2_with ((go_at_call 49; refine (HL.out _ _ _).mono ?_; rintro e w1 ⟨rfl, rfl⟩))
  go_ret
  exact ⟨rfl, rfl⟩
end
end Go.Proofs.Ytonfdgbohmcpjaa
