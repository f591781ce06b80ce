/-
  THE WALKS OF alu: Do, Taken, and what the statements call them with.
-/
import Derived.Test.YtidhodalnikhlaaGreatDoorVl
namespace Go.Proofs.YtidhodalnikhlaaGreatDoor
open Go.RowKit Go.ChangeShapes Go.WideShapes Go.ChangeAt

section
variable {b c : Int} (hb0 : 0 ≤ b) (hb1 : b < 4294967296) (hc0 : 0 ≤ c) (hc1 : c < 4294967296) (w : World)
include hb0 hb1 hc0 hc1 in
set_option maxRecDepth 100000 in
theorem do1_any : Calls Tryz.prog 28 #[.int .i64 1, .int .u32 b, .int .u32 c] w fun e w' => e = .returned (.tuple #[.int .u32 (Al.I 1 b c), .int .i64 0]) ∧ Later w w' := by
  have HA : Hid (∀ w, Calls Tryz.prog 72 #[.int .i64 1] w fun e w' => e = .returned (.tuple #[.func (.func 99) #[] #[], .bool true]) ∧ Later w w') := Lib.hid fun w => ar_any 1 w
  have HC := Lib.hid fun w => c1_any hb0 hb1 hc0 hc1 w
  obtain ⟨x, hx⟩ : ∃ x, x = Al.I 1 b c := ⟨_, rfl⟩
  rw [← hx] at HC ⊢
  clear hx
  go_enter Tryz.func28, Tryz.ntmps28
  go_wp2_with (first | (go_at_call 72; refine (HA.out _).mono ?_; rintro e w1 ⟨rfl, l1⟩) | (go_at_call 99; refine (HC.out _).mono ?_; rintro e w3 ⟨rfl, rfl⟩))
  go_ret2
  exact ⟨rfl, l1⟩
include hb0 hb1 hc0 hc1 in
set_option maxRecDepth 100000 in
theorem do2_any : Calls Tryz.prog 28 #[.int .i64 2, .int .u32 b, .int .u32 c] w fun e w' => e = .returned (.tuple #[.int .u32 (Al.I 2 b c), .int .i64 0]) ∧ Later w w' := by
  have HA : Hid (∀ w, Calls Tryz.prog 72 #[.int .i64 2] w fun e w' => e = .returned (.tuple #[.func (.func 100) #[] #[], .bool true]) ∧ Later w w') := Lib.hid fun w => ar_any 2 w
  have HC := Lib.hid fun w => c2_any hb0 hb1 hc0 hc1 w
  obtain ⟨x, hx⟩ : ∃ x, x = Al.I 2 b c := ⟨_, rfl⟩
  rw [← hx] at HC ⊢
  clear hx
  go_enter Tryz.func28, Tryz.ntmps28
  go_wp2_with (first | (go_at_call 72; refine (HA.out _).mono ?_; rintro e w1 ⟨rfl, l1⟩) | (go_at_call 100; refine (HC.out _).mono ?_; rintro e w3 ⟨rfl, rfl⟩))
  go_ret2
  exact ⟨rfl, l1⟩
include hb0 hb1 hc0 hc1 in
set_option maxRecDepth 100000 in
theorem do8_any : Calls Tryz.prog 28 #[.int .i64 8, .int .u32 b, .int .u32 c] w fun e w' => e = .returned (.tuple #[.int .u32 (Al.I 8 b c), .int .i64 0]) ∧ Later w w' := by
  have HA : Hid (∀ w, Calls Tryz.prog 72 #[.int .i64 8] w fun e w' => e = .returned (.tuple #[.func (.func 101) #[] #[], .bool true]) ∧ Later w w') := Lib.hid fun w => ar_any 8 w
  have HC := Lib.hid fun w => c8_any hb0 hb1 hc0 hc1 w
  obtain ⟨x, hx⟩ : ∃ x, x = Al.I 8 b c := ⟨_, rfl⟩
  rw [← hx] at HC ⊢
  clear hx
  go_enter Tryz.func28, Tryz.ntmps28
  go_wp2_with (first | (go_at_call 72; refine (HA.out _).mono ?_; rintro e w1 ⟨rfl, l1⟩) | (go_at_call 101; refine (HC.out _).mono ?_; rintro e w3 ⟨rfl, rfl⟩))
  go_ret2
  exact ⟨rfl, l1⟩
include hb0 hb1 hc0 hc1 in
set_option maxRecDepth 100000 in
theorem do9_any : Calls Tryz.prog 28 #[.int .i64 9, .int .u32 b, .int .u32 c] w fun e w' => e = .returned (.tuple #[.int .u32 (Al.I 9 b c), .int .i64 0]) ∧ Later w w' := by
  have HA : Hid (∀ w, Calls Tryz.prog 72 #[.int .i64 9] w fun e w' => e = .returned (.tuple #[.func (.func 102) #[] #[], .bool true]) ∧ Later w w') := Lib.hid fun w => ar_any 9 w
  have HC := Lib.hid fun w => c9_any hb0 hb1 hc0 hc1 w
  obtain ⟨x, hx⟩ : ∃ x, x = Al.I 9 b c := ⟨_, rfl⟩
  rw [← hx] at HC ⊢
  clear hx
  go_enter Tryz.func28, Tryz.ntmps28
  go_wp2_with (first | (go_at_call 72; refine (HA.out _).mono ?_; rintro e w1 ⟨rfl, l1⟩) | (go_at_call 102; refine (HC.out _).mono ?_; rintro e w3 ⟨rfl, rfl⟩))
  go_ret2
  exact ⟨rfl, l1⟩
include hb0 hb1 hc0 hc1 in
set_option maxRecDepth 100000 in
theorem do10_any : Calls Tryz.prog 28 #[.int .i64 10, .int .u32 b, .int .u32 c] w fun e w' => e = .returned (.tuple #[.int .u32 (Al.I 10 b c), .int .i64 0]) ∧ Later w w' := by
  have HA : Hid (∀ w, Calls Tryz.prog 72 #[.int .i64 10] w fun e w' => e = .returned (.tuple #[.func (.func 103) #[] #[], .bool true]) ∧ Later w w') := Lib.hid fun w => ar_any 10 w
  have HC := Lib.hid fun w => c10_any hb0 hb1 hc0 hc1 w
  obtain ⟨x, hx⟩ : ∃ x, x = Al.I 10 b c := ⟨_, rfl⟩
  rw [← hx] at HC ⊢
  clear hx
  go_enter Tryz.func28, Tryz.ntmps28
  go_wp2_with (first | (go_at_call 72; refine (HA.out _).mono ?_; rintro e w1 ⟨rfl, l1⟩) | (go_at_call 103; refine (HC.out _).mono ?_; rintro e w3 ⟨rfl, rfl⟩))
  go_ret2
  exact ⟨rfl, l1⟩
include hb0 hb1 hc0 hc1 in
set_option maxRecDepth 100000 in
theorem do3_any : Calls Tryz.prog 28 #[.int .i64 3, .int .u32 b, .int .u32 c] w fun e w' => e = .returned (.tuple #[.int .u32 (Al.I 3 b c), .int .i64 0]) ∧ Later w w' := by
  have HA : Hid (∀ w, Calls Tryz.prog 72 #[.int .i64 3] w fun e w' => e = .returned (.tuple #[.nilFunc, .bool false]) ∧ Later w w') := Lib.hid fun w => ar_any 3 w
  have HL : Hid (∀ w, Calls Tryz.prog 73 #[.int .i64 3] w fun e w' => e = .returned (.tuple #[.func (.func 104) #[] #[], .bool true]) ∧ Later w w') := Lib.hid fun w => lo_any 3 w
  have HC := Lib.hid fun w => c3_any hb0 hb1 hc0 hc1 w
  obtain ⟨x, hx⟩ : ∃ x, x = Al.I 3 b c := ⟨_, rfl⟩
  rw [← hx] at HC ⊢
  clear hx
  go_enter Tryz.func28, Tryz.ntmps28
  go_wp2_with (first | (go_at_call 72; refine (HA.out _).mono ?_; rintro e w1 ⟨rfl, l1⟩) | (go_at_call 73; refine (HL.out _).mono ?_; rintro e w2 ⟨rfl, l2⟩) | (go_at_call 104; refine (HC.out _).mono ?_; rintro e w3 ⟨rfl, rfl⟩))
  go_ret2
  exact ⟨rfl, Later.trans_ l1 l2⟩
include hb0 hb1 hc0 hc1 in
set_option maxRecDepth 100000 in
theorem do4_any : Calls Tryz.prog 28 #[.int .i64 4, .int .u32 b, .int .u32 c] w fun e w' => e = .returned (.tuple #[.int .u32 (Al.I 4 b c), .int .i64 0]) ∧ Later w w' := by
  have HA : Hid (∀ w, Calls Tryz.prog 72 #[.int .i64 4] w fun e w' => e = .returned (.tuple #[.nilFunc, .bool false]) ∧ Later w w') := Lib.hid fun w => ar_any 4 w
  have HL : Hid (∀ w, Calls Tryz.prog 73 #[.int .i64 4] w fun e w' => e = .returned (.tuple #[.func (.func 105) #[] #[], .bool true]) ∧ Later w w') := Lib.hid fun w => lo_any 4 w
  have HC := Lib.hid fun w => c4_any hb0 hb1 hc0 hc1 w
  obtain ⟨x, hx⟩ : ∃ x, x = Al.I 4 b c := ⟨_, rfl⟩
  rw [← hx] at HC ⊢
  clear hx
  go_enter Tryz.func28, Tryz.ntmps28
  go_wp2_with (first | (go_at_call 72; refine (HA.out _).mono ?_; rintro e w1 ⟨rfl, l1⟩) | (go_at_call 73; refine (HL.out _).mono ?_; rintro e w2 ⟨rfl, l2⟩) | (go_at_call 105; refine (HC.out _).mono ?_; rintro e w3 ⟨rfl, rfl⟩))
  go_ret2
  exact ⟨rfl, Later.trans_ l1 l2⟩
include hb0 hb1 hc0 hc1 in
set_option maxRecDepth 100000 in
theorem do5_any : Calls Tryz.prog 28 #[.int .i64 5, .int .u32 b, .int .u32 c] w fun e w' => e = .returned (.tuple #[.int .u32 (Al.I 5 b c), .int .i64 0]) ∧ Later w w' := by
  have HA : Hid (∀ w, Calls Tryz.prog 72 #[.int .i64 5] w fun e w' => e = .returned (.tuple #[.nilFunc, .bool false]) ∧ Later w w') := Lib.hid fun w => ar_any 5 w
  have HL : Hid (∀ w, Calls Tryz.prog 73 #[.int .i64 5] w fun e w' => e = .returned (.tuple #[.func (.func 106) #[] #[], .bool true]) ∧ Later w w') := Lib.hid fun w => lo_any 5 w
  have HC := Lib.hid fun w => c5_any hb0 hb1 hc0 hc1 w
  obtain ⟨x, hx⟩ : ∃ x, x = Al.I 5 b c := ⟨_, rfl⟩
  rw [← hx] at HC ⊢
  clear hx
  go_enter Tryz.func28, Tryz.ntmps28
  go_wp2_with (first | (go_at_call 72; refine (HA.out _).mono ?_; rintro e w1 ⟨rfl, l1⟩) | (go_at_call 73; refine (HL.out _).mono ?_; rintro e w2 ⟨rfl, l2⟩) | (go_at_call 106; refine (HC.out _).mono ?_; rintro e w3 ⟨rfl, rfl⟩))
  go_ret2
  exact ⟨rfl, Later.trans_ l1 l2⟩
include hb0 hb1 hc0 hc1 in
set_option maxRecDepth 100000 in
theorem do6_any : Calls Tryz.prog 28 #[.int .i64 6, .int .u32 b, .int .u32 c] w fun e w' => e = .returned (.tuple #[.int .u32 (Al.I 6 b c), .int .i64 0]) ∧ Later w w' := by
  have HA : Hid (∀ w, Calls Tryz.prog 72 #[.int .i64 6] w fun e w' => e = .returned (.tuple #[.nilFunc, .bool false]) ∧ Later w w') := Lib.hid fun w => ar_any 6 w
  have HL : Hid (∀ w, Calls Tryz.prog 73 #[.int .i64 6] w fun e w' => e = .returned (.tuple #[.func (.func 107) #[] #[], .bool true]) ∧ Later w w') := Lib.hid fun w => lo_any 6 w
  have HC := Lib.hid fun w => c6_any hb0 hb1 hc0 hc1 w
  obtain ⟨x, hx⟩ : ∃ x, x = Al.I 6 b c := ⟨_, rfl⟩
  rw [← hx] at HC ⊢
  clear hx
  go_enter Tryz.func28, Tryz.ntmps28
  go_wp2_with (first | (go_at_call 72; refine (HA.out _).mono ?_; rintro e w1 ⟨rfl, l1⟩) | (go_at_call 73; refine (HL.out _).mono ?_; rintro e w2 ⟨rfl, l2⟩) | (go_at_call 107; refine (HC.out _).mono ?_; rintro e w3 ⟨rfl, rfl⟩))
  go_ret2
  exact ⟨rfl, Later.trans_ l1 l2⟩
include hb0 hb1 hc0 hc1 in
set_option maxRecDepth 100000 in
theorem do7_any : Calls Tryz.prog 28 #[.int .i64 7, .int .u32 b, .int .u32 c] w fun e w' => e = .returned (.tuple #[.int .u32 (Al.I 7 b c), .int .i64 0]) ∧ Later w w' := by
  have HA : Hid (∀ w, Calls Tryz.prog 72 #[.int .i64 7] w fun e w' => e = .returned (.tuple #[.nilFunc, .bool false]) ∧ Later w w') := Lib.hid fun w => ar_any 7 w
  have HL : Hid (∀ w, Calls Tryz.prog 73 #[.int .i64 7] w fun e w' => e = .returned (.tuple #[.func (.func 108) #[] #[], .bool true]) ∧ Later w w') := Lib.hid fun w => lo_any 7 w
  have HC := Lib.hid fun w => c7_any hb0 hb1 hc0 hc1 w
  obtain ⟨x, hx⟩ : ∃ x, x = Al.I 7 b c := ⟨_, rfl⟩
  rw [← hx] at HC ⊢
  clear hx
  go_enter Tryz.func28, Tryz.ntmps28
  go_wp2_with (first | (go_at_call 72; refine (HA.out _).mono ?_; rintro e w1 ⟨rfl, l1⟩) | (go_at_call 73; refine (HL.out _).mono ?_; rintro e w2 ⟨rfl, l2⟩) | (go_at_call 108; refine (HC.out _).mono ?_; rintro e w3 ⟨rfl, rfl⟩))
  go_ret2
  exact ⟨rfl, Later.trans_ l1 l2⟩
include hb0 hb1 hc0 hc1 in
set_option maxRecDepth 100000 in
theorem do11_any : Calls Tryz.prog 28 #[.int .i64 11, .int .u32 b, .int .u32 c] w fun e w' => e = .returned (.tuple #[.int .u32 (Al.I 11 b c), .int .i64 0]) ∧ Later w w' := by
  have HA : Hid (∀ w, Calls Tryz.prog 72 #[.int .i64 11] w fun e w' => e = .returned (.tuple #[.nilFunc, .bool false]) ∧ Later w w') := Lib.hid fun w => ar_any 11 w
  have HL : Hid (∀ w, Calls Tryz.prog 73 #[.int .i64 11] w fun e w' => e = .returned (.tuple #[.func (.func 109) #[] #[], .bool true]) ∧ Later w w') := Lib.hid fun w => lo_any 11 w
  have HC := Lib.hid fun w => c11_any hb0 hb1 hc0 hc1 w
  obtain ⟨x, hx⟩ : ∃ x, x = Al.I 11 b c := ⟨_, rfl⟩
  rw [← hx] at HC ⊢
  clear hx
  go_enter Tryz.func28, Tryz.ntmps28
  go_wp2_with (first | (go_at_call 72; refine (HA.out _).mono ?_; rintro e w1 ⟨rfl, l1⟩) | (go_at_call 73; refine (HL.out _).mono ?_; rintro e w2 ⟨rfl, l2⟩) | (go_at_call 109; refine (HC.out _).mono ?_; rintro e w3 ⟨rfl, rfl⟩))
  go_ret2
  exact ⟨rfl, Later.trans_ l1 l2⟩
include hb0 hb1 hc0 hc1 in
set_option maxRecDepth 100000 in
theorem do12_any : Calls Tryz.prog 28 #[.int .i64 12, .int .u32 b, .int .u32 c] w fun e w' => e = .returned (.tuple #[.int .u32 (Al.I 12 b c), .int .i64 0]) ∧ Later w w' := by
  have HA : Hid (∀ w, Calls Tryz.prog 72 #[.int .i64 12] w fun e w' => e = .returned (.tuple #[.nilFunc, .bool false]) ∧ Later w w') := Lib.hid fun w => ar_any 12 w
  have HL : Hid (∀ w, Calls Tryz.prog 73 #[.int .i64 12] w fun e w' => e = .returned (.tuple #[.func (.func 113) #[] #[], .bool true]) ∧ Later w w') := Lib.hid fun w => lo_any 12 w
  have HC := Lib.hid fun w => c12_any hb0 hb1 hc0 hc1 w
  obtain ⟨x, hx⟩ : ∃ x, x = Al.I 12 b c := ⟨_, rfl⟩
  rw [← hx] at HC ⊢
  clear hx
  go_enter Tryz.func28, Tryz.ntmps28
  go_wp2_with (first | (go_at_call 72; refine (HA.out _).mono ?_; rintro e w1 ⟨rfl, l1⟩) | (go_at_call 73; refine (HL.out _).mono ?_; rintro e w2 ⟨rfl, l2⟩) | (go_at_call 113; refine (HC.out _).mono ?_; rintro e w3 ⟨rfl, rfl⟩))
  go_ret2
  exact ⟨rfl, Later.trans_ l1 l2⟩
set_option maxRecDepth 100000 in
theorem don_any (op : Int) (h : ¬ (1 ≤ op ∧ op ≤ 12)) : Calls Tryz.prog 28 #[.int .i64 op, .int .u32 b, .int .u32 c] w fun e w' => e = .returned (.tuple #[.int .u32 0, .int .i64 1]) ∧ Later w w' := by
  have HA := Lib.hid fun w => ar_any op w
  have HL := Lib.hid fun w => lo_any op w
  have e1 : arV op = .nilFunc := by unfold arV; rw [if_neg (by omega), if_neg (by omega), if_neg (by omega), if_neg (by omega), if_neg (by omega)]
  have e2 : arB op = false := by unfold arB; rw [beq_false_of_ne (by omega), beq_false_of_ne (by omega), beq_false_of_ne (by omega), beq_false_of_ne (by omega), beq_false_of_ne (by omega)]; rfl
  have e3 : loV op = .nilFunc := by unfold loV; rw [if_neg (by omega), if_neg (by omega), if_neg (by omega), if_neg (by omega), if_neg (by omega), if_neg (by omega), if_neg (by omega)]
  have e4 : loB op = false := by unfold loB; rw [beq_false_of_ne (by omega), beq_false_of_ne (by omega), beq_false_of_ne (by omega), beq_false_of_ne (by omega), beq_false_of_ne (by omega), beq_false_of_ne (by omega), beq_false_of_ne (by omega)]; rfl
  rw [e1, e2] at HA
  rw [e3, e4] at HL
  clear e1 e2 e3 e4 h
  go_enter Tryz.func28, Tryz.ntmps28
  go_wp2_with (first | (go_at_call 72; refine (HA.out _).mono ?_; rintro e w1 ⟨rfl, l1⟩) | (go_at_call 73; refine (HL.out _).mono ?_; rintro e w2 ⟨rfl, l2⟩))
  go_ret2
  exact ⟨rfl, Later.trans_ l1 l2⟩
include hb0 hb1 hc0 hc1 in
set_option maxRecDepth 100000 in
theorem do_any (op : Int) : Calls Tryz.prog 28 #[.int .i64 op, .int .u32 b, .int .u32 c] w fun e w' => e = .returned (.tuple #[.int .u32 (Al.I op b c), .int .i64 (Al.Er op)]) ∧ Later w w' := by
  by_cases h : 1 ≤ op ∧ op ≤ 12
  · rcases (show op = 1 ∨ op = 2 ∨ op = 3 ∨ op = 4 ∨ op = 5 ∨ op = 6 ∨ op = 7 ∨ op = 8 ∨ op = 9 ∨ op = 10 ∨ op = 11 ∨ op = 12 by omega) with rfl | rfl | rfl | rfl | rfl | rfl | rfl | rfl | rfl | rfl | rfl | rfl
    · exact do1_any hb0 hb1 hc0 hc1 w
    · exact do2_any hb0 hb1 hc0 hc1 w
    · exact do3_any hb0 hb1 hc0 hc1 w
    · exact do4_any hb0 hb1 hc0 hc1 w
    · exact do5_any hb0 hb1 hc0 hc1 w
    · exact do6_any hb0 hb1 hc0 hc1 w
    · exact do7_any hb0 hb1 hc0 hc1 w
    · exact do8_any hb0 hb1 hc0 hc1 w
    · exact do9_any hb0 hb1 hc0 hc1 w
    · exact do10_any hb0 hb1 hc0 hc1 w
    · exact do11_any hb0 hb1 hc0 hc1 w
    · exact do12_any hb0 hb1 hc0 hc1 w
  · rw [Al.I_none h, Al.Er_none h]
    exact don_any w op h
include hb0 hb1 hc0 hc1 in
set_option maxRecDepth 100000 in
theorem tk28_any : Calls Tryz.prog 173 #[.int .i64 28, .int .u32 b, .int .u32 c] w fun e w' => e = .returned (.bool (Al.T 28 b c)) ∧ Later w w' := by
  have HB : Hid (∀ w, Calls Tryz.prog 185 #[.int .i64 28] w fun e w' => e = .returned (.tuple #[.func (.func 196) #[] #[], .bool true]) ∧ Later w w') := Lib.hid fun w => br_any 28 w
  have HC := Lib.hid fun w => c28_any hb0 hb1 hc0 hc1 w
  obtain ⟨x, hx⟩ : ∃ x, x = Al.T 28 b c := ⟨_, rfl⟩
  rw [← hx] at HC ⊢
  clear hx
  go_enter Tryz.func173, Tryz.ntmps173
  go_wp2_with (first | (go_at_call 185; refine (HB.out _).mono ?_; rintro e w1 ⟨rfl, l1⟩) | (go_at_call 196; refine (HC.out _).mono ?_; rintro e w3 ⟨rfl, rfl⟩))
  go_ret
  exact ⟨rfl, l1⟩
include hb0 hb1 hc0 hc1 in
set_option maxRecDepth 100000 in
theorem tk29_any : Calls Tryz.prog 173 #[.int .i64 29, .int .u32 b, .int .u32 c] w fun e w' => e = .returned (.bool (Al.T 29 b c)) ∧ Later w w' := by
  have HB : Hid (∀ w, Calls Tryz.prog 185 #[.int .i64 29] w fun e w' => e = .returned (.tuple #[.func (.func 197) #[] #[], .bool true]) ∧ Later w w') := Lib.hid fun w => br_any 29 w
  have HC := Lib.hid fun w => c29_any hb0 hb1 hc0 hc1 w
  obtain ⟨x, hx⟩ : ∃ x, x = Al.T 29 b c := ⟨_, rfl⟩
  rw [← hx] at HC ⊢
  clear hx
  go_enter Tryz.func173, Tryz.ntmps173
  go_wp2_with (first | (go_at_call 185; refine (HB.out _).mono ?_; rintro e w1 ⟨rfl, l1⟩) | (go_at_call 197; refine (HC.out _).mono ?_; rintro e w3 ⟨rfl, rfl⟩))
  go_ret
  exact ⟨rfl, l1⟩
include hb0 hb1 hc0 hc1 in
set_option maxRecDepth 100000 in
theorem tk30_any : Calls Tryz.prog 173 #[.int .i64 30, .int .u32 b, .int .u32 c] w fun e w' => e = .returned (.bool (Al.T 30 b c)) ∧ Later w w' := by
  have HB : Hid (∀ w, Calls Tryz.prog 185 #[.int .i64 30] w fun e w' => e = .returned (.tuple #[.func (.func 198) #[] #[], .bool true]) ∧ Later w w') := Lib.hid fun w => br_any 30 w
  have HC := Lib.hid fun w => c30_any hb0 hb1 hc0 hc1 w
  obtain ⟨x, hx⟩ : ∃ x, x = Al.T 30 b c := ⟨_, rfl⟩
  rw [← hx] at HC ⊢
  clear hx
  go_enter Tryz.func173, Tryz.ntmps173
  go_wp2_with (first | (go_at_call 185; refine (HB.out _).mono ?_; rintro e w1 ⟨rfl, l1⟩) | (go_at_call 198; refine (HC.out _).mono ?_; rintro e w3 ⟨rfl, rfl⟩))
  go_ret
  exact ⟨rfl, l1⟩
include hb0 hb1 hc0 hc1 in
set_option maxRecDepth 100000 in
theorem tk31_any : Calls Tryz.prog 173 #[.int .i64 31, .int .u32 b, .int .u32 c] w fun e w' => e = .returned (.bool (Al.T 31 b c)) ∧ Later w w' := by
  have HB : Hid (∀ w, Calls Tryz.prog 185 #[.int .i64 31] w fun e w' => e = .returned (.tuple #[.func (.func 199) #[] #[], .bool true]) ∧ Later w w') := Lib.hid fun w => br_any 31 w
  have HC := Lib.hid fun w => c31_any hb0 hb1 hc0 hc1 w
  obtain ⟨x, hx⟩ : ∃ x, x = Al.T 31 b c := ⟨_, rfl⟩
  rw [← hx] at HC ⊢
  clear hx
  go_enter Tryz.func173, Tryz.ntmps173
  go_wp2_with (first | (go_at_call 185; refine (HB.out _).mono ?_; rintro e w1 ⟨rfl, l1⟩) | (go_at_call 199; refine (HC.out _).mono ?_; rintro e w3 ⟨rfl, rfl⟩))
  go_ret
  exact ⟨rfl, l1⟩
set_option maxRecDepth 100000 in
theorem tkn_any (op : Int) (h : ¬ (28 ≤ op ∧ op ≤ 31)) : Calls Tryz.prog 173 #[.int .i64 op, .int .u32 b, .int .u32 c] w fun e w' => e = .returned (.bool false) ∧ Later w w' := by
  have HB := Lib.hid fun w => br_any op w
  have e1 : brV op = .nilFunc := by unfold brV; rw [if_neg (by omega), if_neg (by omega), if_neg (by omega), if_neg (by omega)]
  have e2 : brB op = false := by unfold brB; rw [beq_false_of_ne (by omega), beq_false_of_ne (by omega), beq_false_of_ne (by omega), beq_false_of_ne (by omega)]; rfl
  rw [e1, e2] at HB
  clear e1 e2 h
  go_enter Tryz.func173, Tryz.ntmps173
  go_wp2_with (go_at_call 185; refine (HB.out _).mono ?_; rintro e w1 ⟨rfl, l1⟩)
  go_ret
  exact ⟨rfl, l1⟩
include hb0 hb1 hc0 hc1 in
set_option maxRecDepth 100000 in
theorem tk_any (op : Int) : Calls Tryz.prog 173 #[.int .i64 op, .int .u32 b, .int .u32 c] w fun e w' => e = .returned (.bool (Al.T op b c)) ∧ Later w w' := by
  by_cases h : 28 ≤ op ∧ op ≤ 31
  · rcases (show op = 28 ∨ op = 29 ∨ op = 30 ∨ op = 31 by omega) with rfl | rfl | rfl | rfl
    · exact tk28_any hb0 hb1 hc0 hc1 w
    · exact tk29_any hb0 hb1 hc0 hc1 w
    · exact tk30_any hb0 hb1 hc0 hc1 w
    · exact tk31_any hb0 hb1 hc0 hc1 w
  · rw [Al.T_none h]
    exact tkn_any w op h
include hb0 hb1 hc0 hc1 in
include hb0 hb1 hc0 hc1 in
end
end Go.Proofs.YtidhodalnikhlaaGreatDoor
