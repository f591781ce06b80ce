/-
  THE WALKS OF alu: the operations themselves.
-/
import Derived.Test.YtonfdgbohmcpjaaAluA
import Derived.Laws.Bits64
import Derived.Laws.BitsLemmas
namespace Go.Proofs.Ytonfdgbohmcpjaa
open Go.RowKit Go.ChangeShapes Go.WideShapes Go.ChangeAt

section
variable {b c : Int} (hb0 : 0 ≤ b) (hb1 : b < 4294967296) (hc0 : 0 ≤ c) (hc1 : c < 4294967296) (w : World)
include hb0 hb1 hc0 hc1 in
set_option maxRecDepth 100000 in
theorem c1_any : Calls Try.prog 35 #[.int .u32 b, .int .u32 c] w fun e w' => e = .returned (.int .u32 (Al.I 1 b c)) ∧ w = w' := by
  rw [Al.I1 hb0 hb1 hc0 hc1]
  go_enter Try.func35, Try.ntmps35
  go_wp2
  go_ret
  exact ⟨rfl, rfl⟩
include hb0 hb1 hc0 hc1 in
set_option maxRecDepth 100000 in
theorem c2_any : Calls Try.prog 36 #[.int .u32 b, .int .u32 c] w fun e w' => e = .returned (.int .u32 (Al.I 2 b c)) ∧ w = w' := by
  rw [Al.I2 hb0 hb1 hc0 hc1]
  go_enter Try.func36, Try.ntmps36
  go_wp2
  go_ret
  exact ⟨rfl, rfl⟩
include hb0 hb1 hc0 hc1 in
set_option maxRecDepth 100000 in
theorem c8_any : Calls Try.prog 37 #[.int .u32 b, .int .u32 c] w fun e w' => e = .returned (.int .u32 (Al.I 8 b c)) ∧ w = w' := by
  rw [Al.I8 hb0 hb1 hc0 hc1]
  go_enter Try.func37, Try.ntmps37
  go_wp2
  go_ret
  exact ⟨rfl, rfl⟩
include hb0 hb1 hc0 hc1 in
set_option maxRecDepth 100000 in
theorem c9_any : Calls Try.prog 38 #[.int .u32 b, .int .u32 c] w fun e w' => e = .returned (.int .u32 (Al.I 9 b c)) ∧ w = w' := by
  rw [Al.I9 hb0 hb1 hc0 hc1]
  by_cases h : c = 0
  · subst h
    rw [if_pos rfl]
    go_enter Try.func38, Try.ntmps38
    go_wp2
    go_ret
    exact ⟨rfl, rfl⟩
  · rw [if_neg h]
    go_enter Try.func38, Try.ntmps38
    go_wp2
    go_ret
    exact ⟨rfl, rfl⟩
include hb0 hb1 hc0 hc1 in
set_option maxRecDepth 100000 in
theorem c10_any : Calls Try.prog 39 #[.int .u32 b, .int .u32 c] w fun e w' => e = .returned (.int .u32 (Al.I 10 b c)) ∧ w = w' := by
  rw [Al.I10 hb0 hb1 hc0 hc1]
  by_cases h : c = 0
  · subst h
    rw [if_pos rfl]
    go_enter Try.func39, Try.ntmps39
    go_wp2
    go_ret
    exact ⟨rfl, rfl⟩
  · rw [if_neg h]
    go_enter Try.func39, Try.ntmps39
    go_wp2
    go_ret
    exact ⟨rfl, rfl⟩
include hb0 hb1 hc0 hc1 in
set_option maxRecDepth 100000 in
theorem c3_any : Calls Try.prog 40 #[.int .u32 b, .int .u32 c] w fun e w' => e = .returned (.int .u32 (Al.I 3 b c)) ∧ w = w' := by
  rw [Al.I3 hb0 hb1 hc0 hc1]
  go_enter Try.func40, Try.ntmps40
  go_wp2
  go_ret
  exact ⟨rfl, rfl⟩
include hb0 hb1 hc0 hc1 in
set_option maxRecDepth 100000 in
theorem c4_any : Calls Try.prog 41 #[.int .u32 b, .int .u32 c] w fun e w' => e = .returned (.int .u32 (Al.I 4 b c)) ∧ w = w' := by
  rw [Al.I4 hb0 hb1 hc0 hc1]
  go_enter Try.func41, Try.ntmps41
  go_wp2
  go_ret
  exact ⟨rfl, rfl⟩
include hb0 hb1 hc0 hc1 in
set_option maxRecDepth 100000 in
theorem c5_any : Calls Try.prog 42 #[.int .u32 b, .int .u32 c] w fun e w' => e = .returned (.int .u32 (Al.I 5 b c)) ∧ w = w' := by
  rw [Al.I5 hb0 hb1 hc0 hc1]
  go_enter Try.func42, Try.ntmps42
  go_wp2
  go_ret
  exact ⟨rfl, rfl⟩
include hb0 hb1 hc0 hc1 in
set_option maxRecDepth 100000 in
theorem c6_any : Calls Try.prog 43 #[.int .u32 b, .int .u32 c] w fun e w' => e = .returned (.int .u32 (Al.I 6 b c)) ∧ w = w' := by
  rw [Al.I6 hb0 hb1 hc0 hc1]
  go_enter Try.func43, Try.ntmps43
  go_wp2
  go_ret
  exact ⟨rfl, rfl⟩
include hb0 hb1 hc0 hc1 in
set_option maxRecDepth 100000 in
theorem c7_any : Calls Try.prog 44 #[.int .u32 b, .int .u32 c] w fun e w' => e = .returned (.int .u32 (Al.I 7 b c)) ∧ w = w' := by
  rw [Al.I7 hb0 hb1 hc0 hc1]
  go_enter Try.func44, Try.ntmps44
  go_wp2
  go_ret
  exact ⟨rfl, rfl⟩
end
end Go.Proofs.Ytonfdgbohmcpjaa
